/- Both BundleText. -/
import Derived.Test.YtlflcjdpdbdbkaaDoorBn
import Derived.Test.YtlflcjdpdbdbkaaDoorI2
import Derived.Test.YtlflcjdpdbdbkaaDoorS2
import Derived.Test.YtlflcjdpdbdbkaaDoorRh13
import Derived.Test.YtlflcjdpdbdbkaaDoorOb
import Derived.BigQuiet
namespace Go.Proofs.YtlflcjdpdbdbkaaDoor
open Go.RowKit Pl
set_option linter.unusedVariables false

theorem itText_yes (x : It) (w : World) (h : itB x.1 x.2.1 x.2.2.1 x.2.2.2 = true) :
    Calls Tryd.prog 60 #[.agg #[.int .i64 x.1, .int .i64 x.2.1, .int .i64 x.2.2.1, .string x.2.2.2]] w fun e w' => e = .returned (.tuple #[.string (itS x), .bool true]) ∧ Below w.heap.size w w' := by
  obtain ⟨e1, e2, e3, ho⟩ := itB_nats h
  have := itemText_yes x.1.toNat x.2.1.toNat x.2.2.1.toNat x.2.2.2 w ho
  rw [← e1, ← e2, ← e3] at this
  exact this
theorem spItText_yes (x : It) (w : World) (h : itB x.1 x.2.1 x.2.2.1 x.2.2.2 = true) :
    Calls Tryd.prog 33 #[.agg #[.int .i64 x.1, .int .i64 x.2.1, .int .i64 x.2.2.1, .string x.2.2.2]] w fun e w' => e = .returned (.tuple #[.string (itS x), .bool true]) ∧ Below w.heap.size w w' := by
  obtain ⟨e1, e2, e3, ho⟩ := itB_nats h
  have := spItemText_yes x.1.toNat x.2.1.toNat x.2.2.1.toNat x.2.2.2 w ho
  rw [← e1, ← e2, ← e3] at this
  exact this

set_option maxRecDepth 100000 in
set_option maxHeartbeats 2000000 in
theorem textItems_any (ao : Option Addr) (cap : Nat) (ts : List It) (w : World) (hx : Hid (ItemsAt w ao ts)) (hl : ts.length ≤ 60) (hok : Hid (∀ x ∈ ts, itB x.1 x.2.1 x.2.2.1 x.2.2.2 = true)) :
    Calls Tryd.prog 25 #[.slice ao ts.length cap] w fun e w' => e = .returned (.string (itsS (varS ts.length) ts)) ∧ Below w.heap.size w w' := by
  have z0 : (varS ts.length).size ≤ 5 := by rw [rt_size, varS_list]; exact varL_len (by omega)
  go_enter Tryd.func25, Tryd.ntmps25
  go_wp2_with fail
  refine (varOf_any ts.length _ (by omega)).mono ?_
  rintro e w1 ⟨rfl, hb1⟩
  have B1 : Hid (Below w.heap.size w w1) := hb1
  clear hb1
  go_wp2_with fail
  go_loopw [3, 15] (fun tx i wr => ∃ (k : Nat) (S : ByteArray), k ≤ ts.length ∧ tx = .string S ∧ i = .int .i64 k ∧ S.size ≤ 5 + 77 * k ∧ Hid (S = itsS (varS ts.length) (ts.take k)) ∧ Hid (Below w.heap.size w wr)) (fun _ i _ => ts.length - (intOf i).toNat)
  case atStart => exact ⟨0, varS ts.length, Nat.zero_le _, rfl, rfl, by omega, rfl, B1.out⟩
  case round =>
    clear B1
    obtain ⟨k, S, hk, rfl, rfl, hS, hSS, hB⟩ := hrel
    by_cases hlt : k < ts.length
    · obtain ⟨b, off, rfl, hbb, c0, c1, c2, c3⟩ := hx.out.stays hB.out k hlt
      have hit := hok.out _ (List.getElem_mem hlt)
      have HP : Hid (∃ x : It, x = ts[k]) := ⟨_, rfl⟩
      obtain ⟨⟨q, f, lv, tx⟩, hp⟩ := HP.out
      rw [← hp] at c0 c1 c2 c3 hit
      have HQ : Hid ((q, f, lv, tx) = ts[k]) := hp
      clear hp HP
      dsimp only at c0 c1 c2 c3 hit
      have HI : Hid (itB q f lv tx = true) := hit
      have hz := itS_size (x := (q, f, lv, tx)) hit
      have hz2 := shS_size (t := itS (q, f, lv, tx)) (by omega)
      clear hit
      go_wp2_with fail
      refine (itText_yes (q, f, lv, tx) _ HI.out).mono ?_
      rintro e w2 ⟨rfl, hb2⟩
      have B2 : Hid (Below w.heap.size w w2) := (hB.out.alloc hB.out.size _).trans (hb2.mono (Nat.le_trans hB.out.size (by simp)))
      clear hb2 c0 c1 c2 c3 hB
      generalize hI : itS (q, f, lv, tx) = I at *
      have HII : Hid (itS (q, f, lv, tx) = I) := hI
      clear hI
      go_wp2_with fail
      refine (implShort_in I _ (by omega)).mono ?_
      rintro e w3 ⟨rfl, hb3⟩
      have B3 : Hid (Below w.heap.size w w3) := bl_nxt B2.out hb3
      have hsh : varS I.size ++ I = shS I := rfl
      rw [hsh]
      clear hb3 B2 hsh
      generalize hJ : shS I = J at *
      have HJJ : Hid (shS I = J) := hJ
      clear hJ
      have mx : ¬9223372036854775807 < S.size + J.size := by omega
      go_wp2_with fail
      go_roundw
      case rel =>
        refine ⟨k + 1, _, by omega, rfl, by go_num, by rw [ByteArray.size_append]; omega, ?_, B3.out⟩
        show _ = _
        rw [itsS_next ts _ k hlt, ← hSS.out, ← HQ.out, HII.out, HJJ.out]
      case measure => simp [intOf]; omega
    · have HS : Hid (S = itsS (varS ts.length) ts) := by
        have := hSS.out
        rw [List.take_of_length_le (by omega)] at this
        exact this
      go_wp2_with fail
      go_ret
      exact ⟨by rw [HS.out]; rfl, hB.out⟩

theorem bb_step {W w w' : World} {g : Nat} {f n o : Int} {v : Value} (h : (w.cell? ⟨g, 0, none⟩ = some (.int .i64 f) ∧ w.cell? ⟨g, 1, none⟩ = some (.int .i64 n) ∧ w.cell? ⟨g, 2, none⟩ = some (.int .i64 o) ∧ w.cell? ⟨g, 3, none⟩ = some v) ∧ Hid (Below W.heap.size W w ∧ Bx w g 26 [.int .i64 f, .int .i64 n, .int .i64 o, v])) (hb : Below w.heap.size w w') :
    (w'.cell? ⟨g, 0, none⟩ = some (.int .i64 f) ∧ w'.cell? ⟨g, 1, none⟩ = some (.int .i64 n) ∧ w'.cell? ⟨g, 2, none⟩ = some (.int .i64 o) ∧ w'.cell? ⟨g, 3, none⟩ = some v) ∧ Hid (Below W.heap.size W w' ∧ Bx w' g 26 [.int .i64 f, .int .i64 n, .int .i64 o, v]) := by
  obtain ⟨h1, h2⟩ := h
  obtain ⟨h3, h4⟩ := h2.out
  have h5 := h4.later hb
  exact ⟨⟨h5.cell 0, h5.cell 1, h5.cell 2, h5.cell 3⟩, ⟨h3.trans (hb.mono h3.size), h5⟩⟩

set_option maxRecDepth 100000 in
set_option maxHeartbeats 1000000 in
theorem bundleText_no (f n o : Int) (ao : Option Addr) (cap : Nat) (ts : List It) (w : World) (hx : Hid (ItemsAt w ao ts)) (hl : ts.length ≤ 1048576) (h : Hid (bunB f n o ts = false)) :
    Calls Tryd.prog 8 #[.agg #[.int .i64 f, .int .i64 n, .int .i64 o, .slice ao ts.length cap]] w fun e w' => e = .returned (.tuple #[.string ByteArray.empty, .bool false]) ∧ Below w.heap.size w w' := by
  have HX : ∀ o, Hid (ItemsAt (w.alloc o) ao ts) := fun o => hx.out.stays ((Below.refl _ _).alloc (Nat.le_refl _) _)
  go_enter Tryd.func8, Tryd.ntmps8
  go_wp2_with fail
  refine (bundleOk_is _ (HX _) hl h.out).mono ?_
  rintro e w1 ⟨rfl, hb1⟩
  go_wp2_with fail
  go_ret2
  exact ⟨rfl, ((Below.refl _ _).alloc (Nat.le_refl _) _).trans (hb1.mono (by simp))⟩
set_option maxRecDepth 100000 in
set_option maxHeartbeats 1000000 in
theorem spBundleText_no (f n o : Int) (ao : Option Addr) (cap : Nat) (ts : List It) (w : World) (hx : Hid (ItemsAt w ao ts)) (hl : ts.length ≤ 1048576) (h : Hid (bunB f n o ts = false)) :
    Calls Tryd.prog 10 #[.agg #[.int .i64 f, .int .i64 n, .int .i64 o, .slice ao ts.length cap]] w fun e w' => e = .returned (.tuple #[.string ByteArray.empty, .bool false]) ∧ Below w.heap.size w w' := by
  have HX : ∀ o, Hid (ItemsAt (w.alloc o) ao ts) := fun o => hx.out.stays ((Below.refl _ _).alloc (Nat.le_refl _) _)
  go_enter Tryd.func10, Tryd.ntmps10
  go_wp2_with fail
  refine (spBundleOk_is _ (HX _) hl h.out).mono ?_
  rintro e w1 ⟨rfl, hb1⟩
  go_wp2_with fail
  go_ret2
  exact ⟨rfl, ((Below.refl _ _).alloc (Nat.le_refl _) _).trans (hb1.mono (by simp))⟩

set_option maxRecDepth 100000 in
set_option maxHeartbeats 4000000 in
theorem bundleText_yes (f n o : Nat) (ao : Option Addr) (cap : Nat) (ts : List It) (w : World) (hx : Hid (ItemsAt w ao ts)) (ho : Hid (BnOk f n o ts)) (ht : Hid (Tab w)) :
    Calls Tryd.prog 8 #[.agg #[.int .i64 f, .int .i64 n, .int .i64 o, .slice ao ts.length cap]] w fun e w' => e = .returned (.tuple #[.string (sealS (bunS f n o ts)), .bool true]) ∧ Below w.heap.size w w' := by
  obtain ⟨n1, n2, n3, n4, n5⟩ := ho.out.nats
  have N5 : Hid (∀ x ∈ ts, itB x.1 x.2.1 x.2.2.1 x.2.2.2 = true) := n5
  have hT : Hid (itsS (varS ts.length) ts = itsS (varS ts.length) ts) := rfl
  have hTz : (itsS (varS ts.length) ts).size ≤ 5000 := by
    have z := itsS_size ts (varS ts.length) n5
    have z1 : (varS ts.length).size ≤ 5 := by rw [rt_size, varS_list]; exact varL_len (by omega)
    omega
  have hBS := bunS_impl f n o ts
  have HBS : Hid (byteS f ++ byteS n ++ byteS o ++ itsS (varS ts.length) ts = bunS f n o ts) := hBS
  have hTI := fun (w : World) (h : Hid (ItemsAt w ao ts)) => textItems_any ao cap ts w h n4 N5
  clear n5 hBS hT
  generalize itsS (varS ts.length) ts = T at *
  have HTI : Hid _ := hTI
  clear hTI
  have y1 := byteS_size f
  have y2 := byteS_size n
  have y3 := byteS_size o
  have m1 : ¬9223372036854775807 < 1 + 1 := by omega
  have m2 : ¬9223372036854775807 < 1 + 1 + 1 := by omega
  have m3 : ¬9223372036854775807 < 1 + 1 + 1 + T.size := by omega
  have hB : Hid (Below w.heap.size w (w.alloc (.cells #[.int .i64 f, .int .i64 n, .int .i64 o, .slice ao ts.length cap] 26))) := (Below.refl _ _).alloc (Nat.le_refl _) _
  have HT : Hid (Bx (w.alloc (.cells #[.int .i64 f, .int .i64 n, .int .i64 o, .slice ao ts.length cap] 26)) w.heap.size 26 [.int .i64 f, .int .i64 n, .int .i64 o, .slice ao ts.length cap]) := Bx.new w 26 _
  have hX : Hid (ItemsAt (w.alloc (.cells #[.int .i64 f, .int .i64 n, .int .i64 o, .slice ao ts.length cap] 26)) ao ts) := hx.out.stays hB.out
  have HK : Hid (bunB f n o ts = true) := ho.out
  go_enter Tryd.func8, Tryd.ntmps8
  go_wp2_with fail
  generalize w.alloc (.cells #[.int .i64 f, .int .i64 n, .int .i64 o, .slice ao ts.length cap] 26) = W0 at *
  refine (bundleOk_is _ hX (by omega) HK.out).mono ?_
  rintro e w1 ⟨rfl, hb1⟩
  have T1 := HT.out.later hb1
  have B1 : Below w.heap.size w w1.drew := (hB.out.trans (hb1.mono hB.out.size)).drew
  have HI : (w1.drew.cell? ⟨w.heap.size, 0, none⟩ = some (.int .i64 f) ∧ w1.drew.cell? ⟨w.heap.size, 1, none⟩ = some (.int .i64 n) ∧ w1.drew.cell? ⟨w.heap.size, 2, none⟩ = some (.int .i64 o) ∧ w1.drew.cell? ⟨w.heap.size, 3, none⟩ = some (.slice ao ts.length cap)) ∧ Hid (Below w.heap.size w w1.drew ∧ Bx w1.drew w.heap.size 26 [.int .i64 f, .int .i64 n, .int .i64 o, .slice ao ts.length cap]) :=
    ⟨⟨T1.cell 0, T1.cell 1, T1.cell 2, T1.cell 3⟩, B1, T1⟩
  clear hb1 T1 HT hX hB HK B1
  go_wp2_with fail
  go_region_held3 (fun w' => (w'.cell? ⟨w.heap.size, 0, none⟩ = some (.int .i64 f) ∧ w'.cell? ⟨w.heap.size, 1, none⟩ = some (.int .i64 n) ∧ w'.cell? ⟨w.heap.size, 2, none⟩ = some (.int .i64 o) ∧ w'.cell? ⟨w.heap.size, 3, none⟩ = some (.slice ao ts.length cap)) ∧ Hid (Below w.heap.size w w' ∧ Bx w' w.heap.size 26 [.int .i64 f, .int .i64 n, .int .i64 o, .slice ao ts.length cap])) (first | exact HI | assumption) (first | (go_at_call_of 24 (Value.int IntKind.i64 (f : Int)); refine (byteOf_any f _ (by omega)).mono ?_; rintro e w3 ⟨rfl, hb3⟩; have hk3 := bb_step (W := w) (by assumption) hb3) | (go_at_call_of 24 (Value.int IntKind.i64 (n : Int)); refine (byteOf_any n _ (by omega)).mono ?_; rintro e w4 ⟨rfl, hb4⟩; have hk4 := bb_step (W := w) (by assumption) hb4) | (go_at_call_of 24 (Value.int IntKind.i64 (o : Int)); refine (byteOf_any o _ (by omega)).mono ?_; rintro e w5 ⟨rfl, hb5⟩; have hk5 := bb_step (W := w) (by assumption) hb5) | (go_at_call 25; refine (HTI.out _ (show Hid (ItemsAt _ ao ts) from hx.out.stays hk5.2.out.1)).mono ?_; rintro e w6 ⟨rfl, hb6⟩; have hk6 := bb_step (W := w) (by assumption) hb6) | (go_at_call 23; refine (implSeal_any _ _ (by simp only [ByteArray.size_append]; omega) (show Hid (Tab _) from ht.out.below hk6.2.out.1)).mono ?_; rintro e w7 ⟨rfl, hb7⟩; have hk7 := bb_step (W := w) (by assumption) hb7))
  go_wp2_with fail
  go_ret2
  exact ⟨by rw [← HBS.out]; rfl, hk7.2.out.1⟩
end Go.Proofs.YtlflcjdpdbdbkaaDoor
