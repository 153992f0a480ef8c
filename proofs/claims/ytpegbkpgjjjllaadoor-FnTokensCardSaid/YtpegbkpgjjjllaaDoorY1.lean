/- The walks over the program's reader of packets: several numbers. -/
import Derived.Test.YtpegbkpgjjjllaaDoorPt
import Derived.Test.YtpegbkpgjjjllaaDoorR1
import Derived.Test.YtpegbkpgjjjllaaDoorT3
namespace Go.Proofs.YtpegbkpgjjjllaaDoor
open Go.RowKit Pl
set_option linter.unusedVariables false

/-- several numbers, their number ahead. -/
def numbersP (s : ByteArray) (A : Nat) : Option (List Nat × Nat) := (rv s A).bind fun x => numsP s x.2 x.1
theorem numbersP_none {s : ByteArray} {A : Nat} (h : rv s A = none) : numbersP s A = none := by unfold numbersP; rw [h]; rfl
theorem numbersP_some {s : ByteArray} {A k i : Nat} (h : rv s A = some (k, i)) : numbersP s A = numsP s i k := by unfold numbersP; rw [h]; rfl

/-- the state behind j numbers. -/
def NSt (s : ByteArray) (A k j Aj : Nat) (xs : List Nat) : Prop := numsP s A k = (numsP s Aj (k - j)).map fun y => (xs ++ y.1, y.2)
theorem nst_start (s : ByteArray) (A k : Nat) : NSt s A k 0 A [] := by
  unfold NSt
  rcases h : numsP s A k with _ | y
  · simp
  · simp
theorem nst_next {s : ByteArray} {A k j Aj n i : Nat} {xs : List Nat} (h : NSt s A k j Aj xs) (hj : j < k) (hr : rv s Aj = some (n, i)) : NSt s A k (j + 1) i (xs ++ [n]) := by
  unfold NSt at h ⊢
  obtain ⟨m, hm⟩ : ∃ m, k - j = m + 1 := ⟨k - j - 1, by omega⟩
  have hm' : k - (j + 1) = m := by omega
  rw [h, hm, hm', numsP_some hr, Option.map_map]
  congr 1
  funext y
  simp
theorem nst_bad {s : ByteArray} {A k j Aj : Nat} {xs : List Nat} (h : NSt s A k j Aj xs) (hj : j < k) (hr : rv s Aj = none) : numsP s A k = none := by
  unfold NSt at h
  obtain ⟨m, hm⟩ : ∃ m, k - j = m + 1 := ⟨k - j - 1, by omega⟩
  rw [h, hm, numsP_none hr]; rfl
theorem nst_end {s : ByteArray} {A k Aj : Nat} {xs : List Nat} (h : NSt s A k k Aj xs) : numsP s A k = some (xs, Aj) := by
  unfold NSt at h
  rw [h, Nat.sub_self]
  simp [numsP]

theorem OwnI_turn {w w' : World} {B g : Nat} {v : Value} {ss : List Int} (h : OwnI w B v ss) (hk : TurnAt g w w') (hg : g < B) : OwnI w' B v ss := by
  refine ⟨h.1, ?_⟩
  rcases h.2 with hn | ⟨k, cap, cur, rfl, hbg, hk2, rest⟩
  · exact .inl hn
  · exact .inr ⟨k, cap, cur, rfl, hbg, (hk.block k (by omega)).trans hk2, rest⟩
theorem keep_below {g : Nat} {a b c : World} (h : KeepBut g a b) (hb : Below a.heap.size b c) : KeepBut g a c :=
  ⟨hb.os.trans h.os, hb.tape.trans h.tape, hb.output.trans h.output, Nat.le_trans h.size hb.size, fun k hk hg => (hb.block k hk).trans (h.block k hk hg)⟩

set_option maxRecDepth 100000 in
set_option maxHeartbeats 2000000 in
theorem numbers_any (s : ByteArray) (g A : Nat) (w : World) (hp : Hid (PrAt w g s A)) (hs : s.size ≤ 1048576) (hA : A ≤ s.size) :
    Calls Tryd.prog 31 #[.pointer (some ⟨g, 0, none⟩)] w fun e w' => (e = .panicked noPk ∧ numbersP s A = none ∧ KeepBut g w w') ∨
      ∃ (ns : List Nat) (i : Nat) (v : Value), e = .returned v ∧ numbersP s A = some (ns, i) ∧ ns.length ≤ 1048576 ∧ OwnI w' w.heap.size v (ns.map fun n : Nat => (n : Int)) ∧ PrAt w' g s i ∧ KeepBut g w w' := by
  have hg := hp.out.lt
  have P0 : Hid (PrAt (w.alloc (.cells #[] 3)) g s A) := hp.out.stays ((Below.refl _ _).alloc (Nat.le_refl _) _) hg
  have V0 : Hid (OwnI (w.alloc (.cells #[] 3)) w.heap.size (.slice (some ⟨w.heap.size, 0, none⟩) 0 0) []) := OwnI.made w w.heap.size (Nat.le_refl _)
  have K0 : Hid (KeepBut g w (w.alloc (.cells #[] 3))) := keep_of_below ((Below.refl _ _).alloc (Nat.le_refl _) _)
  go_enter Tryd.func31, Tryd.ntmps31
  go_wp2_with fail
  generalize w.alloc (.cells #[] 3) = W0 at *
  rcases h0 : rv s A with _ | ⟨k, i⟩
  · refine (number_none s g A _ P0 hs hA h0).mono ?_
    rintro e w1 ⟨rfl, ht1⟩
    exact ⟨rfl, .inl ⟨rfl, numbersP_none h0, K0.out.trans ht1.keep⟩⟩
  have H0 : Hid (rv s A = some (k, i)) := h0
  obtain ⟨hk, hi⟩ := rv_le hA h0
  clear h0
  refine (number_some s g A k i _ P0 hs hA H0).mono ?_
  rintro e w1 ⟨rfl, hp1, ht1⟩
  have P1 : Hid (PrAt w1 g s i) := hp1
  have V1 : Hid (OwnI w1 w.heap.size (.slice (some ⟨w.heap.size, 0, none⟩) 0 0) []) := OwnI_turn V0.out ht1 hg
  have K1 : Hid (KeepBut g w w1) := K0.out.trans ht1.keep
  clear hp1 ht1 P0 V0 K0
  go_wp2_with fail
  go_loopw [3, 7] (fun v ix wr => ∃ (j Aj : Nat) (xs : List Nat), j ≤ k ∧ ix = .int .i64 j ∧ xs.length = j ∧ j ≤ Aj ∧ Aj ≤ s.size ∧ Hid (NSt s i k j Aj xs) ∧ Hid (OwnI wr w.heap.size v (xs.map fun n : Nat => (n : Int))) ∧ Hid (PrAt wr g s Aj) ∧ Hid (KeepBut g w wr)) (fun _ ix _ => k - (intOf ix).toNat)
  case atStart => exact ⟨0, i, [], Nat.zero_le _, rfl, rfl, Nat.zero_le _, hi, nst_start s i k, V1.out, P1.out, K1.out⟩
  case round =>
    clear P1 V1 K1
    obtain ⟨j, Aj, xs, hj, rfl, hxl, hjA, hAj, hst, hV, hP, hK⟩ := hrel
    by_cases hlt : j < k
    · go_wp2_with fail
      rcases h1 : rv s Aj with _ | ⟨n, i2⟩
      · refine (number_none s g Aj _ hP hs hAj h1).mono ?_
        rintro e w2 ⟨rfl, ht2⟩
        exact ⟨rfl, .inl ⟨rfl, by rw [numbersP_some H0.out]; exact nst_bad hst.out hlt h1, hK.out.trans ht2.keep⟩⟩
      have H1 : Hid (rv s Aj = some (n, i2)) := h1
      obtain ⟨_, hi2⟩ := rv_le hAj h1
      have hlt2 := rv_lt hAj h1
      clear h1
      refine (number_some s g Aj n i2 _ hP hs hAj H1).mono ?_
      rintro e w2 ⟨rfl, hp2, ht2⟩
      have P2 : Hid (PrAt w2 g s i2) := hp2
      have V2 := OwnI_turn hV.out ht2 hg
      have K2 : Hid (KeepBut g w w2) := hK.out.trans ht2.keep
      have hs2 := K2.out.size
      clear hp2 ht2 hP hV hK
      go_wp2_with (first | (at_builtin; refine wpList_pushI rfl _ _ 24 rfl Tryd.underlying24 Tryd.info3' w.heap.size _ (xs.map fun n : Nat => (n : Int)) rfl V2 _ rfl (by simp; omega) hs2 ?_; intro v3 w3 hown3 hb3))
      go_roundw
      case rel =>
        refine ⟨j + 1, i2, xs ++ [n], by omega, by go_num, by simp [hxl], by omega, hi2, nst_next hst.out hlt H1.out, ?_, P2.out.stays hb3 hg, keep_below K2.out hb3⟩
        show OwnI _ _ _ _
        rw [List.map_append]
        exact hown3
      case measure => simp [intOf]; omega
    · obtain rfl : j = k := by omega
      go_wp2_with fail
      go_ret
      exact .inr ⟨xs, Aj, _, rfl, by rw [numbersP_some H0.out]; exact nst_end hst.out, by omega, hV.out, hP.out, hK.out⟩
end Go.Proofs.YtpegbkpgjjjllaaDoor
