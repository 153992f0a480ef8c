/- Joined texts: Bt13 Bt14 Lbt Rb1 Rb2 Do13. -/
import Derived.Test.YtlflcjdpdbdbkaaDoorBj17
import Derived.Test.YtlflcjdpdbdbkaaDoorBj4
import Derived.Test.YtlflcjdpdbdbkaaDoorBj20
import Derived.Test.YtlflcjdpdbdbkaaDoorBj18
import Derived.Test.YtlflcjdpdbdbkaaDoorBj21
import Derived.BigQuiet
import Derived.Deep.RegionHeld
import Derived.Test.YtlflcjdpdbdbkaaDoorBj7
import Derived.Test.YtlflcjdpdbdbkaaDoorBj14
import Derived.Test.YtlflcjdpdbdbkaaDoorBj10
/- Both BundleText. -/
namespace Go.Proofs.YtlflcjdpdbdbkaaDoor
open Go.RowKit Pl
set_option linter.unusedVariables false

theorem itText_yes (x : It) (w : World) (h : itB x.1 x.2.1 x.2.2.1 x.2.2.2 = true) :
    Calls Tryd.prog 60 #[.agg #[.int .i64 x.1, .int .i64 x.2.1, .int .i64 x.2.2.1, .string x.2.2.2]] w fun e w' => e = .returned (.tuple #[.string (itS x), .bool true]) ∧ Below w.heap.size w w' := by
  obtain ⟨e1, e2, e3, ho⟩ := itB_nats h
  have := itemText_yes x.1.toNat x.2.1.toNat x.2.2.1.toNat x.2.2.2 w ho
  rw [← e1, ← e2, ← e3] at this
  exact this
theorem spItText_yes (x : It) (w : World) (h : itB x.1 x.2.1 x.2.2.1 x.2.2.2 = true) :
    Calls Tryd.prog 33 #[.agg #[.int .i64 x.1, .int .i64 x.2.1, .int .i64 x.2.2.1, .string x.2.2.2]] w fun e w' => e = .returned (.tuple #[.string (itS x), .bool true]) ∧ Below w.heap.size w w' := by
  obtain ⟨e1, e2, e3, ho⟩ := itB_nats h
  have := spItemText_yes x.1.toNat x.2.1.toNat x.2.2.1.toNat x.2.2.2 w ho
  rw [← e1, ← e2, ← e3] at this
  exact this

set_option maxRecDepth 100000 in
set_option maxHeartbeats 2000000 in
theorem textItems_any (ao : Option Addr) (cap : Nat) (ts : List It) (w : World) (hx : Hid (ItemsAt w ao ts)) (hl : ts.length ≤ 60) (hok : Hid (∀ x ∈ ts, itB x.1 x.2.1 x.2.2.1 x.2.2.2 = true)) :
    Calls Tryd.prog 25 #[.slice ao ts.length cap] w fun e w' => e = .returned (.string (itsS (varS ts.length) ts)) ∧ Below w.heap.size w w' := by
  have z0 : (varS ts.length).size ≤ 5 := by rw [rt_size, varS_list]; exact varL_len (by omega)
  go_enter Tryd.func25, Tryd.ntmps25
  go_wp2_with fail
  refine (varOf_any ts.length _ (by omega)).mono ?_
  rintro e w1 ⟨rfl, hb1⟩
  have B1 : Hid (Below w.heap.size w w1) := hb1
  clear hb1
  go_wp2_with fail
  go_loopw [3, 15] (fun tx i wr => ∃ (k : Nat) (S : ByteArray), k ≤ ts.length ∧ tx = .string S ∧ i = .int .i64 k ∧ S.size ≤ 5 + 77 * k ∧ Hid (S = itsS (varS ts.length) (ts.take k)) ∧ Hid (Below w.heap.size w wr)) (fun _ i _ => ts.length - (intOf i).toNat)
  case atStart => exact ⟨0, varS ts.length, Nat.zero_le _, rfl, rfl, by omega, rfl, B1.out⟩
  case round =>
    clear B1
    obtain ⟨k, S, hk, rfl, rfl, hS, hSS, hB⟩ := hrel
    by_cases hlt : k < ts.length
    · obtain ⟨b, off, rfl, hbb, c0, c1, c2, c3⟩ := hx.out.stays hB.out k hlt
      have hit := hok.out _ (List.getElem_mem hlt)
      have HP : Hid (∃ x : It, x = ts[k]) := ⟨_, rfl⟩
      obtain ⟨⟨q, f, lv, tx⟩, hp⟩ := HP.out
      rw [← hp] at c0 c1 c2 c3 hit
      have HQ : Hid ((q, f, lv, tx) = ts[k]) := hp
      clear hp HP
      dsimp only at c0 c1 c2 c3 hit
      have HI : Hid (itB q f lv tx = true) := hit
      have hz := itS_size (x := (q, f, lv, tx)) hit
      have hz2 := shS_size (t := itS (q, f, lv, tx)) (by omega)
      clear hit
      go_wp2_with fail
      refine (itText_yes (q, f, lv, tx) _ HI.out).mono ?_
      rintro e w2 ⟨rfl, hb2⟩
      have B2 : Hid (Below w.heap.size w w2) := (hB.out.alloc hB.out.size _).trans (hb2.mono (Nat.le_trans hB.out.size (by simp)))
      clear hb2 c0 c1 c2 c3 hB
      generalize hI : itS (q, f, lv, tx) = I at *
      have HII : Hid (itS (q, f, lv, tx) = I) := hI
      clear hI
      go_wp2_with fail
      refine (implShort_in I _ (by omega)).mono ?_
      rintro e w3 ⟨rfl, hb3⟩
      have B3 : Hid (Below w.heap.size w w3) := bl_nxt B2.out hb3
      have hsh : varS I.size ++ I = shS I := rfl
      rw [hsh]
      clear hb3 B2 hsh
      generalize hJ : shS I = J at *
      have HJJ : Hid (shS I = J) := hJ
      clear hJ
      have mx : ¬9223372036854775807 < S.size + J.size := by omega
      go_wp2_with fail
      go_roundw
      case rel =>
        refine ⟨k + 1, _, by omega, rfl, by go_num, by rw [ByteArray.size_append]; omega, ?_, B3.out⟩
        show _ = _
        rw [itsS_next ts _ k hlt, ← hSS.out, ← HQ.out, HII.out, HJJ.out]
      case measure => simp [intOf]; omega
    · have HS : Hid (S = itsS (varS ts.length) ts) := by
        have := hSS.out
        rw [List.take_of_length_le (by omega)] at this
        exact this
      go_wp2_with fail
      go_ret
      exact ⟨by rw [HS.out]; rfl, hB.out⟩

theorem bb_step {W w w' : World} {g : Nat} {f n o : Int} {v : Value} (h : (w.cell? ⟨g, 0, none⟩ = some (.int .i64 f) ∧ w.cell? ⟨g, 1, none⟩ = some (.int .i64 n) ∧ w.cell? ⟨g, 2, none⟩ = some (.int .i64 o) ∧ w.cell? ⟨g, 3, none⟩ = some v) ∧ Hid (Below W.heap.size W w ∧ Bx w g 26 [.int .i64 f, .int .i64 n, .int .i64 o, v])) (hb : Below w.heap.size w w') :
    (w'.cell? ⟨g, 0, none⟩ = some (.int .i64 f) ∧ w'.cell? ⟨g, 1, none⟩ = some (.int .i64 n) ∧ w'.cell? ⟨g, 2, none⟩ = some (.int .i64 o) ∧ w'.cell? ⟨g, 3, none⟩ = some v) ∧ Hid (Below W.heap.size W w' ∧ Bx w' g 26 [.int .i64 f, .int .i64 n, .int .i64 o, v]) := by
  obtain ⟨h1, h2⟩ := h
  obtain ⟨h3, h4⟩ := h2.out
  have h5 := h4.later hb
  exact ⟨⟨h5.cell 0, h5.cell 1, h5.cell 2, h5.cell 3⟩, ⟨h3.trans (hb.mono h3.size), h5⟩⟩

set_option maxRecDepth 100000 in
set_option maxHeartbeats 1000000 in
theorem bundleText_no (f n o : Int) (ao : Option Addr) (cap : Nat) (ts : List It) (w : World) (hx : Hid (ItemsAt w ao ts)) (hl : ts.length ≤ 1048576) (h : Hid (bunB f n o ts = false)) :
    Calls Tryd.prog 8 #[.agg #[.int .i64 f, .int .i64 n, .int .i64 o, .slice ao ts.length cap]] w fun e w' => e = .returned (.tuple #[.string ByteArray.empty, .bool false]) ∧ Below w.heap.size w w' := by
  have HX : ∀ o, Hid (ItemsAt (w.alloc o) ao ts) := fun o => hx.out.stays ((Below.refl _ _).alloc (Nat.le_refl _) _)
  go_enter Tryd.func8, Tryd.ntmps8
  go_wp2_with fail
  refine (bundleOk_is _ (HX _) hl h.out).mono ?_
  rintro e w1 ⟨rfl, hb1⟩
  go_wp2_with fail
  go_ret2
  exact ⟨rfl, ((Below.refl _ _).alloc (Nat.le_refl _) _).trans (hb1.mono (by simp))⟩
set_option maxRecDepth 100000 in
set_option maxHeartbeats 1000000 in
theorem spBundleText_no (f n o : Int) (ao : Option Addr) (cap : Nat) (ts : List It) (w : World) (hx : Hid (ItemsAt w ao ts)) (hl : ts.length ≤ 1048576) (h : Hid (bunB f n o ts = false)) :
    Calls Tryd.prog 10 #[.agg #[.int .i64 f, .int .i64 n, .int .i64 o, .slice ao ts.length cap]] w fun e w' => e = .returned (.tuple #[.string ByteArray.empty, .bool false]) ∧ Below w.heap.size w w' := by
  have HX : ∀ o, Hid (ItemsAt (w.alloc o) ao ts) := fun o => hx.out.stays ((Below.refl _ _).alloc (Nat.le_refl _) _)
  go_enter Tryd.func10, Tryd.ntmps10
  go_wp2_with fail
  refine (spBundleOk_is _ (HX _) hl h.out).mono ?_
  rintro e w1 ⟨rfl, hb1⟩
  go_wp2_with fail
  go_ret2
  exact ⟨rfl, ((Below.refl _ _).alloc (Nat.le_refl _) _).trans (hb1.mono (by simp))⟩

set_option maxRecDepth 100000 in
set_option maxHeartbeats 4000000 in
theorem bundleText_yes (f n o : Nat) (ao : Option Addr) (cap : Nat) (ts : List It) (w : World) (hx : Hid (ItemsAt w ao ts)) (ho : Hid (BnOk f n o ts)) (ht : Hid (Tab w)) :
    Calls Tryd.prog 8 #[.agg #[.int .i64 f, .int .i64 n, .int .i64 o, .slice ao ts.length cap]] w fun e w' => e = .returned (.tuple #[.string (sealS (bunS f n o ts)), .bool true]) ∧ Below w.heap.size w w' := by
  obtain ⟨n1, n2, n3, n4, n5⟩ := ho.out.nats
  have N5 : Hid (∀ x ∈ ts, itB x.1 x.2.1 x.2.2.1 x.2.2.2 = true) := n5
  have hT : Hid (itsS (varS ts.length) ts = itsS (varS ts.length) ts) := rfl
  have hTz : (itsS (varS ts.length) ts).size ≤ 5000 := by
    have z := itsS_size ts (varS ts.length) n5
    have z1 : (varS ts.length).size ≤ 5 := by rw [rt_size, varS_list]; exact varL_len (by omega)
    omega
  have hBS := bunS_impl f n o ts
  have HBS : Hid (byteS f ++ byteS n ++ byteS o ++ itsS (varS ts.length) ts = bunS f n o ts) := hBS
  have hTI := fun (w : World) (h : Hid (ItemsAt w ao ts)) => textItems_any ao cap ts w h n4 N5
  clear n5 hBS hT
  generalize itsS (varS ts.length) ts = T at *
  have HTI : Hid _ := hTI
  clear hTI
  have y1 := byteS_size f
  have y2 := byteS_size n
  have y3 := byteS_size o
  have m1 : ¬9223372036854775807 < 1 + 1 := by omega
  have m2 : ¬9223372036854775807 < 1 + 1 + 1 := by omega
  have m3 : ¬9223372036854775807 < 1 + 1 + 1 + T.size := by omega
  have hB : Hid (Below w.heap.size w (w.alloc (.cells #[.int .i64 f, .int .i64 n, .int .i64 o, .slice ao ts.length cap] 26))) := (Below.refl _ _).alloc (Nat.le_refl _) _
  have HT : Hid (Bx (w.alloc (.cells #[.int .i64 f, .int .i64 n, .int .i64 o, .slice ao ts.length cap] 26)) w.heap.size 26 [.int .i64 f, .int .i64 n, .int .i64 o, .slice ao ts.length cap]) := Bx.new w 26 _
  have hX : Hid (ItemsAt (w.alloc (.cells #[.int .i64 f, .int .i64 n, .int .i64 o, .slice ao ts.length cap] 26)) ao ts) := hx.out.stays hB.out
  have HK : Hid (bunB f n o ts = true) := ho.out
  go_enter Tryd.func8, Tryd.ntmps8
  go_wp2_with fail
  generalize w.alloc (.cells #[.int .i64 f, .int .i64 n, .int .i64 o, .slice ao ts.length cap] 26) = W0 at *
  refine (bundleOk_is _ hX (by omega) HK.out).mono ?_
  rintro e w1 ⟨rfl, hb1⟩
  have T1 := HT.out.later hb1
  have B1 : Below w.heap.size w w1.drew := (hB.out.trans (hb1.mono hB.out.size)).drew
  have HI : (w1.drew.cell? ⟨w.heap.size, 0, none⟩ = some (.int .i64 f) ∧ w1.drew.cell? ⟨w.heap.size, 1, none⟩ = some (.int .i64 n) ∧ w1.drew.cell? ⟨w.heap.size, 2, none⟩ = some (.int .i64 o) ∧ w1.drew.cell? ⟨w.heap.size, 3, none⟩ = some (.slice ao ts.length cap)) ∧ Hid (Below w.heap.size w w1.drew ∧ Bx w1.drew w.heap.size 26 [.int .i64 f, .int .i64 n, .int .i64 o, .slice ao ts.length cap]) :=
    ⟨⟨T1.cell 0, T1.cell 1, T1.cell 2, T1.cell 3⟩, B1, T1⟩
  clear hb1 T1 HT hX hB HK B1
  go_wp2_with fail
  go_region_held3 (fun w' => (w'.cell? ⟨w.heap.size, 0, none⟩ = some (.int .i64 f) ∧ w'.cell? ⟨w.heap.size, 1, none⟩ = some (.int .i64 n) ∧ w'.cell? ⟨w.heap.size, 2, none⟩ = some (.int .i64 o) ∧ w'.cell? ⟨w.heap.size, 3, none⟩ = some (.slice ao ts.length cap)) ∧ Hid (Below w.heap.size w w' ∧ Bx w' w.heap.size 26 [.int .i64 f, .int .i64 n, .int .i64 o, .slice ao ts.length cap])) (first | exact HI | assumption) (first | (go_at_call_of 24 (Value.int IntKind.i64 (f : Int)); refine (byteOf_any f _ (by omega)).mono ?_; rintro e w3 ⟨rfl, hb3⟩; have hk3 := bb_step (W := w) (by assumption) hb3) | (go_at_call_of 24 (Value.int IntKind.i64 (n : Int)); refine (byteOf_any n _ (by omega)).mono ?_; rintro e w4 ⟨rfl, hb4⟩; have hk4 := bb_step (W := w) (by assumption) hb4) | (go_at_call_of 24 (Value.int IntKind.i64 (o : Int)); refine (byteOf_any o _ (by omega)).mono ?_; rintro e w5 ⟨rfl, hb5⟩; have hk5 := bb_step (W := w) (by assumption) hb5) | (go_at_call 25; refine (HTI.out _ (show Hid (ItemsAt _ ao ts) from hx.out.stays hk5.2.out.1)).mono ?_; rintro e w6 ⟨rfl, hb6⟩; have hk6 := bb_step (W := w) (by assumption) hb6) | (go_at_call 23; refine (implSeal_any _ _ (by simp only [ByteArray.size_append]; omega) (show Hid (Tab _) from ht.out.below hk6.2.out.1)).mono ?_; rintro e w7 ⟨rfl, hb7⟩; have hk7 := bb_step (W := w) (by assumption) hb7))
  go_wp2_with fail
  go_ret2
  exact ⟨by rw [← HBS.out]; rfl, hk7.2.out.1⟩
end Go.Proofs.YtlflcjdpdbdbkaaDoor

/- The specification's BundleText at a right bundle. -/
namespace Go.Proofs.YtlflcjdpdbdbkaaDoor
open Go.RowKit Pl
set_option linter.unusedVariables false
set_option linter.unusedSimpArgs false

theorem owt_bx_ne {w : World} {B g T e : Nat} {v : Value} {s : ByteArray} {cs : List Value} (h : OwT w B e v s) (hB : Bx w g T cs) (hT : T ≠ e) : v.ownBlock ≠ some g := by
  obtain ⟨k, cap, cur, fz, rfl, _, hk, _⟩ := h
  intro e
  cases e
  unfold Bx at hB
  rw [hk] at hB
  simp at hB
  exact hT hB.2.1.symm

set_option maxRecDepth 100000 in
set_option maxHeartbeats 8000000 in
theorem spBundleText_yes (f n o : Nat) (ao : Option Addr) (cap : Nat) (ts : List It) (w : World) (hx : Hid (ItemsAt w ao ts)) (ho : Hid (BnOk f n o ts)) :
    Calls Tryd.prog 10 #[.agg #[.int .i64 f, .int .i64 n, .int .i64 o, .slice ao ts.length cap]] w fun e w' => e = .returned (.tuple #[.string (sealS (bunS f n o ts)), .bool true]) ∧ Below w.heap.size w w' := by
  obtain ⟨n1, n2, n3, n4, n5⟩ := ho.out.nats
  have N5 : Hid (∀ x ∈ ts, itB x.1 x.2.1 x.2.2.1 x.2.2.2 = true) := n5
  have z0 : (varS ts.length).size ≤ 5 := by rw [rt_size, varS_list]; exact varL_len (by omega)
  clear n5
  have y1 := byteS_size f
  have y2 := byteS_size n
  have y3 := byteS_size o
  have m1 : ¬9223372036854775807 < (byteS f).size + (byteS n).size := by omega
  have m2 : ¬9223372036854775807 < (byteS f ++ byteS n).size + (byteS o).size := by rw [ByteArray.size_append]; omega
  have m3 : ¬9223372036854775807 < (byteS f ++ byteS n ++ byteS o).size + (varS ts.length).size := by rw [ByteArray.size_append, ByteArray.size_append]; omega
  have hB : Hid (Below w.heap.size w (w.alloc (.cells #[.int .i64 f, .int .i64 n, .int .i64 o, .slice ao ts.length cap] 26))) := (Below.refl _ _).alloc (Nat.le_refl _) _
  have HT : Hid (Bx (w.alloc (.cells #[.int .i64 f, .int .i64 n, .int .i64 o, .slice ao ts.length cap] 26)) w.heap.size 26 [.int .i64 f, .int .i64 n, .int .i64 o, .slice ao ts.length cap]) := Bx.new w 26 _
  have hX : Hid (ItemsAt (w.alloc (.cells #[.int .i64 f, .int .i64 n, .int .i64 o, .slice ao ts.length cap] 26)) ao ts) := hx.out.stays hB.out
  have HK : Hid (bunB f n o ts = true) := ho.out
  go_enter Tryd.func10, Tryd.ntmps10
  go_wp2_with fail
  generalize w.alloc (.cells #[.int .i64 f, .int .i64 n, .int .i64 o, .slice ao ts.length cap] 26) = W0 at *
  refine (spBundleOk_is _ hX (by omega) HK.out).mono ?_
  rintro e W ⟨rfl, hb1⟩
  have HT : Hid (Bx W w.heap.size 26 [.int .i64 f, .int .i64 n, .int .i64 o, .slice ao ts.length cap]) := HT.out.later hb1
  have hB : Hid (Below w.heap.size w W) := bl_nxt hB.out hb1
  clear hb1 hX HK
  go_wp2_with fail
  have KEEP : Hid (∀ w', Below W.heap.size W w' → (w'.cell? ⟨w.heap.size, 0, none⟩ = some (.int .i64 f) ∧ w'.cell? ⟨w.heap.size, 1, none⟩ = some (.int .i64 n) ∧ w'.cell? ⟨w.heap.size, 2, none⟩ = some (.int .i64 o) ∧ w'.cell? ⟨w.heap.size, 3, none⟩ = some (.slice ao ts.length cap)) ∧ Hid (Below W.heap.size W w')) := fun w' hb => ⟨⟨(HT.out.later hb).cell 0, (HT.out.later hb).cell 1, (HT.out.later hb).cell 2, (HT.out.later hb).cell 3⟩, hb⟩
  have c : Below W.heap.size W W.drew := (Below.refl _ _).drew
  refine wp_region_held_drew (S := fun w' => (w'.cell? ⟨w.heap.size, 0, none⟩ = some (.int .i64 f) ∧ w'.cell? ⟨w.heap.size, 1, none⟩ = some (.int .i64 n) ∧ w'.cell? ⟨w.heap.size, 2, none⟩ = some (.int .i64 o) ∧ w'.cell? ⟨w.heap.size, 3, none⟩ = some (.slice ao ts.length cap)) ∧ Hid (Below W.heap.size W w')) (by kernel_rfl) (KEEP.out _ c) (fun hHeld => ?_)
  refine wpAnyH_take (i := 0) (v := ?v0) rfl (by kernel_rfl) (by kernel_rfl) (by kernel_rfl) (fun _ _ _ h => h) (Or.inl ⟨by rfl, ?hy0⟩) (by assumption) ?_
  case hy0 => (intro w hSw; (try dsimp only at hSw); simp only [List.getElem_toArray, List.getElem_cons_zero, List.getElem_cons_succ]; go_simp; try with_reducible rfl)
  try simp only [Act.put, List.getElem_toArray, List.getElem_cons_zero, List.getElem_cons_succ, List.setIfInBounds_toArray, List.set_cons_zero, List.set_cons_succ]
  refine wpAnyH_take (i := 1) (v := ?v1) rfl (by kernel_rfl) (by kernel_rfl) (by kernel_rfl) (fun _ _ _ h => h) (Or.inl ⟨by rfl, ?hy1⟩) (by assumption) ?_
  case hy1 => (intro w hSw; (try dsimp only at hSw); simp only [List.getElem_toArray, List.getElem_cons_zero, List.getElem_cons_succ]; go_simp; try with_reducible rfl)
  try simp only [Act.put, List.getElem_toArray, List.getElem_cons_zero, List.getElem_cons_succ, List.setIfInBounds_toArray, List.set_cons_zero, List.set_cons_succ]
  refine wpAnyH_take (i := 3) (v := ?v3) rfl (by kernel_rfl) (by kernel_rfl) (by kernel_rfl) (fun _ _ _ h => h) (Or.inl ⟨by rfl, ?hy3⟩) (by assumption) ?_
  case hy3 => (intro w hSw; (try dsimp only at hSw); simp only [List.getElem_toArray, List.getElem_cons_zero, List.getElem_cons_succ]; go_simp; try with_reducible rfl)
  try simp only [Act.put, List.getElem_toArray, List.getElem_cons_zero, List.getElem_cons_succ, List.setIfInBounds_toArray, List.set_cons_zero, List.set_cons_succ]
  refine wpAnyH_take (i := 4) (v := ?v4) rfl (by kernel_rfl) (by kernel_rfl) (by kernel_rfl) (fun _ _ _ h => h) (Or.inl ⟨by rfl, ?hy4⟩) (by assumption) ?_
  case hy4 => (intro w hSw; (try dsimp only at hSw); simp only [List.getElem_toArray, List.getElem_cons_zero, List.getElem_cons_succ]; go_simp; try with_reducible rfl)
  try simp only [Act.put, List.getElem_toArray, List.getElem_cons_zero, List.getElem_cons_succ, List.setIfInBounds_toArray, List.set_cons_zero, List.set_cons_succ]
  refine wpAnyH_take (i := 7) (v := ?v7) rfl (by kernel_rfl) (by kernel_rfl) (by kernel_rfl) (fun _ _ _ h => h) (Or.inl ⟨by rfl, ?hy7⟩) (by assumption) ?_
  case hy7 => (intro w hSw; (try dsimp only at hSw); simp only [List.getElem_toArray, List.getElem_cons_zero, List.getElem_cons_succ]; go_simp; try with_reducible rfl)
  try simp only [Act.put, List.getElem_toArray, List.getElem_cons_zero, List.getElem_cons_succ, List.setIfInBounds_toArray, List.set_cons_zero, List.set_cons_succ]
  refine wpAnyH_take (i := 8) (v := ?v8) rfl (by kernel_rfl) (by kernel_rfl) (by kernel_rfl) (fun _ _ _ h => h) (Or.inl ⟨by rfl, ?hy8⟩) (by assumption) ?_
  case hy8 => (intro w hSw; (try dsimp only at hSw); simp only [List.getElem_toArray, List.getElem_cons_zero, List.getElem_cons_succ]; go_simp; try with_reducible rfl)
  try simp only [Act.put, List.getElem_toArray, List.getElem_cons_zero, List.getElem_cons_succ, List.setIfInBounds_toArray, List.set_cons_zero, List.set_cons_succ]
  refine wpAnyH_take (i := 11) (v := ?v11) rfl (by kernel_rfl) (by kernel_rfl) (by kernel_rfl) (fun _ _ _ h => h) (Or.inl ⟨by rfl, ?hy11⟩) (by assumption) ?_
  case hy11 => (intro w hSw; (try dsimp only at hSw); simp only [List.getElem_toArray, List.getElem_cons_zero, List.getElem_cons_succ]; go_simp; try with_reducible rfl)
  try simp only [Act.put, List.getElem_toArray, List.getElem_cons_zero, List.getElem_cons_succ, List.setIfInBounds_toArray, List.set_cons_zero, List.set_cons_succ]
  refine wpAnyH_take (i := 12) (v := ?v12) rfl (by kernel_rfl) (by kernel_rfl) (by kernel_rfl) (fun _ _ _ h => h) (Or.inl ⟨by rfl, ?hy12⟩) (by assumption) ?_
  case hy12 => (intro w hSw; (try dsimp only at hSw); simp only [List.getElem_toArray, List.getElem_cons_zero, List.getElem_cons_succ]; go_simp; try with_reducible rfl)
  try simp only [Act.put, List.getElem_toArray, List.getElem_cons_zero, List.getElem_cons_succ, List.setIfInBounds_toArray, List.set_cons_zero, List.set_cons_succ]
  refine wpAnyH_take (i := 13) (v := ?v13) rfl (by kernel_rfl) (by kernel_rfl) (by kernel_rfl) (fun _ _ _ h => h) (Or.inl ⟨by rfl, ?hy13⟩) (by assumption) ?_
  case hy13 => (intro w hSw; (try dsimp only at hSw); simp only [List.getElem_toArray, List.getElem_cons_zero, List.getElem_cons_succ]; go_simp; try with_reducible rfl)
  try simp only [Act.put, List.getElem_toArray, List.getElem_cons_zero, List.getElem_cons_succ, List.setIfInBounds_toArray, List.set_cons_zero, List.set_cons_succ]
  refine wpAnyH_ready (rs := [2]) (by kernel_rfl) (by simp) ?_
  refine AllReadyH.cons (i := 2) rfl (fun K hK => ?_) AllReadyH.nil
  rw [if_pos (by rfl)]
  simp only [List.getElem_toArray, List.getElem_cons_zero, List.getElem_cons_succ]
  go_simp
  refine (l05Byte_any f _ (by omega)).mono ?_
  rintro e x1 ⟨rfl, b⟩
  have c : Below W.heap.size W x1 := bl_nxt c b
  refine hK.out _ _ (KEEP.out _ c) (fun hHeld => ?_)
  clear hK K
  try simp only [Act.put, List.getElem_toArray, List.getElem_cons_zero, List.getElem_cons_succ, List.setIfInBounds_toArray, List.set_cons_zero, List.set_cons_succ]
  clear b
  refine wpAnyH_ready (rs := [5]) (by kernel_rfl) (by simp) ?_
  refine AllReadyH.cons (i := 5) rfl (fun K hK => ?_) AllReadyH.nil
  rw [if_pos (by rfl)]
  simp only [List.getElem_toArray, List.getElem_cons_zero, List.getElem_cons_succ]
  go_simp
  refine (l05Byte_any n _ (by omega)).mono ?_
  rintro e x2 ⟨rfl, b⟩
  have c : Below W.heap.size W x2 := bl_nxt c b
  refine hK.out _ _ (KEEP.out _ c) (fun hHeld => ?_)
  clear hK K
  try simp only [Act.put, List.getElem_toArray, List.getElem_cons_zero, List.getElem_cons_succ, List.setIfInBounds_toArray, List.set_cons_zero, List.set_cons_succ]
  clear b
  refine wpAnyH_take (i := 6) (v := ?v6p) rfl (by kernel_rfl) (by kernel_rfl) (by kernel_rfl) (fun _ _ _ h => h) (Or.inl ⟨by rfl, ?hy6p⟩) (by assumption) ?_
  case hy6p => (intro w hSw; (try dsimp only at hSw); simp only [List.getElem_toArray, List.getElem_cons_zero, List.getElem_cons_succ]; go_simp; (first | with_reducible rfl | (refine if_neg ?_; assumption)))
  try simp only [Act.put, List.getElem_toArray, List.getElem_cons_zero, List.getElem_cons_succ, List.setIfInBounds_toArray, List.set_cons_zero, List.set_cons_succ]
  refine wpAnyH_ready (rs := [9]) (by kernel_rfl) (by simp) ?_
  refine AllReadyH.cons (i := 9) rfl (fun K hK => ?_) AllReadyH.nil
  rw [if_pos (by rfl)]
  simp only [List.getElem_toArray, List.getElem_cons_zero, List.getElem_cons_succ]
  go_simp
  refine (l05Byte_any o _ (by omega)).mono ?_
  rintro e x3 ⟨rfl, b⟩
  have c : Below W.heap.size W x3 := bl_nxt c b
  refine hK.out _ _ (KEEP.out _ c) (fun hHeld => ?_)
  clear hK K
  try simp only [Act.put, List.getElem_toArray, List.getElem_cons_zero, List.getElem_cons_succ, List.setIfInBounds_toArray, List.set_cons_zero, List.set_cons_succ]
  clear b
  refine wpAnyH_take (i := 10) (v := ?v10p) rfl (by kernel_rfl) (by kernel_rfl) (by kernel_rfl) (fun _ _ _ h => h) (Or.inl ⟨by rfl, ?hy10p⟩) (by assumption) ?_
  case hy10p => (intro w hSw; (try dsimp only at hSw); simp only [List.getElem_toArray, List.getElem_cons_zero, List.getElem_cons_succ]; go_simp; (first | with_reducible rfl | (refine if_neg ?_; assumption)))
  try simp only [Act.put, List.getElem_toArray, List.getElem_cons_zero, List.getElem_cons_succ, List.setIfInBounds_toArray, List.set_cons_zero, List.set_cons_succ]
  refine wpAnyH_ready (rs := [14]) (by kernel_rfl) (by simp) ?_
  refine AllReadyH.cons (i := 14) rfl (fun K hK => ?_) AllReadyH.nil
  rw [if_pos (by rfl)]
  simp only [List.getElem_toArray, List.getElem_cons_zero, List.getElem_cons_succ]
  go_simp
  refine (l01Var_any ts.length _ (by omega)).mono ?_
  rintro e x4 ⟨rfl, b⟩
  have c : Below W.heap.size W x4 := bl_nxt c b
  refine hK.out _ _ (KEEP.out _ c) (fun hHeld => ?_)
  clear hK K
  try simp only [Act.put, List.getElem_toArray, List.getElem_cons_zero, List.getElem_cons_succ, List.setIfInBounds_toArray, List.set_cons_zero, List.set_cons_succ]
  clear b
  refine wpAnyH_take (i := 15) (v := ?v15p) rfl (by kernel_rfl) (by kernel_rfl) (by kernel_rfl) (fun _ _ _ h => h) (Or.inl ⟨by rfl, ?hy15p⟩) (by assumption) ?_
  case hy15p => (intro w hSw; (try dsimp only at hSw); simp only [List.getElem_toArray, List.getElem_cons_zero, List.getElem_cons_succ]; go_simp; (first | with_reducible rfl | (refine if_neg ?_; assumption)))
  try simp only [Act.put, List.getElem_toArray, List.getElem_cons_zero, List.getElem_cons_succ, List.setIfInBounds_toArray, List.set_cons_zero, List.set_cons_succ]
  have c4 := c.size
  obtain ⟨cv, x5, hcr, hct, hcb⟩ := conv_own_bytes (P := Tryd.prog) x4 9 22 5 (byteS f ++ byteS n ++ byteS o ++ varS ts.length) Tryd.underlying9 Tryd.underlying22 Tryd.underlying5 (by simp only [ByteArray.size_append]; omega)
  refine wpAnyH_ready (rs := [16]) (by kernel_rfl) (by simp) ?_
  refine AllReadyH.cons (i := 16) rfl (fun K hK => ?_) AllReadyH.nil
  rw [if_pos (by rfl)]
  simp only [List.getElem_toArray, List.getElem_cons_zero, List.getElem_cons_succ]
  go_simp
  have c : Below W.heap.size W x5 := bl_nxt c hcb
  refine hK.out _ _ (KEEP.out _ c) (fun hHeld => ?_)
  clear hK K
  try simp only [Act.put, List.getElem_toArray, List.getElem_cons_zero, List.getElem_cons_succ, List.setIfInBounds_toArray, List.set_cons_zero, List.set_cons_succ]
  clear hcr hcb
  refine wpAnyH_take (i := 17) (v := ?v17) rfl (by kernel_rfl) (by kernel_rfl) (by kernel_rfl) (fun _ _ _ h => h) (Or.inl ⟨by rfl, ?hy17⟩) (by assumption) ?_
  case hy17 => (intro w hSw; (try dsimp only at hSw); simp only [List.getElem_toArray, List.getElem_cons_zero, List.getElem_cons_succ]; go_simp; try with_reducible rfl)
  try simp only [Act.put, List.getElem_toArray, List.getElem_cons_zero, List.getElem_cons_succ, List.setIfInBounds_toArray, List.set_cons_zero, List.set_cons_succ]
  refine wpAnyH_done (by kernel_rfl) ?_ _
  have O5 : Hid (OwT x5 w.heap.size 5 cv (byteS f ++ byteS n ++ byteS o ++ varS ts.length)) := hct.down (Nat.le_trans hB.out.size (Nat.le_trans c4 (Nat.le_refl _)))
  have HT : Hid (Bx x5 w.heap.size 26 [.int .i64 f, .int .i64 n, .int .i64 o, .slice ao ts.length cap]) := HT.out.later c
  have hB : Hid (Below w.heap.size w x5) := bl_nxt hB.out c
  have hH : Hid (byteS f ++ byteS n ++ byteS o ++ varS ts.length = byteS f ++ byteS n ++ byteS o ++ varS ts.length) := rfl
  have hS0 : (byteS f ++ byteS n ++ byteS o ++ varS ts.length).size ≤ 8 := by simp only [ByteArray.size_append]; omega
  have hBS : Hid (itsS (byteS f ++ byteS n ++ byteS o ++ varS ts.length) ts = bunS f n o ts) := rfl
  clear KEEP hct c m1 m2 m3 y1 y2 y3 z0 hHeld c4 hH
  generalize byteS f ++ byteS n ++ byteS o ++ varS ts.length = T0 at *
  go_wp2_with fail
  go_loopw [4, 5] (fun v i wr => ∃ (k : Nat) (S : ByteArray), k ≤ ts.length ∧ i = .int .i64 k ∧ S.size ≤ 8 + 77 * k ∧ Hid (OwT wr w.heap.size 5 v S) ∧ Hid (S = itsS T0 (ts.take k)) ∧ Hid (Bx wr w.heap.size 26 [.int .i64 f, .int .i64 n, .int .i64 o, .slice ao ts.length cap]) ∧ Hid (Below w.heap.size w wr)) (fun _ i _ => ts.length - (intOf i).toNat)
  case atStart => exact ⟨0, T0, Nat.zero_le _, rfl, by omega, O5.out, rfl, HT.out, hB.out⟩
  case round =>
    clear O5 HT hB
    obtain ⟨k, S, hk, rfl, hS, hO, hSS, hT, hB⟩ := hrel
    have c3 := hT.out.cell 3
    simp only [List.getElem?_cons_succ, List.getElem?_cons_zero] at c3
    by_cases hlt : k < ts.length
    · obtain ⟨b, off, rfl, hbb, i0, i1, i2, i3⟩ := hx.out.stays hB.out k hlt
      have hit := N5.out _ (List.getElem_mem hlt)
      have HP : Hid (∃ x : It, x = ts[k]) := ⟨_, rfl⟩
      obtain ⟨⟨q, f', lv, tx⟩, hp⟩ := HP.out
      rw [← hp] at i0 i1 i2 i3 hit
      have HQ : Hid ((q, f', lv, tx) = ts[k]) := hp
      clear hp HP
      dsimp only at i0 i1 i2 i3 hit
      have HI : Hid (itB q f' lv tx = true) := hit
      have hz := itS_size (x := (q, f', lv, tx)) hit
      have hz2 := shS_size (t := itS (q, f', lv, tx)) (by omega)
      clear hit
      go_wp2_with fail
      refine (spItText_yes (q, f', lv, tx) _ HI.out).mono ?_
      rintro e w2 ⟨rfl, hb2⟩
      have B2 : Hid (Below w.heap.size w w2) := bl_nxt hB.out hb2
      have O2 : Hid (OwT w2 w.heap.size 5 u4 S) := hO.out.below hb2
      have T2 : Hid (Bx w2 w.heap.size 26 [.int .i64 f, .int .i64 n, .int .i64 o, .slice (some ⟨b, off, none⟩) ts.length cap]) := hT.out.later hb2
      clear hb2 c3 i0 i1 i2 i3 hB hO hT
      generalize hI : itS (q, f', lv, tx) = I at *
      have HII : Hid (itS (q, f', lv, tx) = I) := hI
      clear hI
      go_wp2_with fail
      refine (l05Short_any I _ (by omega)).mono ?_
      rintro e w3 ⟨rfl, hb3⟩
      have B3 : Hid (Below w.heap.size w w3) := bl_nxt B2.out hb3
      have O3 : Hid (OwT w3 w.heap.size 5 u4 S) := O2.out.below hb3
      have T3 : Hid (Bx w3 w.heap.size 26 [.int .i64 f, .int .i64 n, .int .i64 o, .slice (some ⟨b, off, none⟩) ts.length cap]) := T2.out.later hb3
      have hsh : varS I.size ++ I = shS I := rfl
      rw [hsh]
      clear hb3 B2 hsh O2 T2
      generalize hJ : shS I = J at *
      have HJJ : Hid (shS I = J) := hJ
      clear hJ
      obtain ⟨cv, w4, hcr, hct, hcb⟩ := conv_own_bytes (P := Tryd.prog) w3 9 22 5 J Tryd.underlying9 Tryd.underlying22 Tryd.underlying5 (by omega)
      have B4 : Hid (Below w.heap.size w w4) := bl_nxt B3.out hcb
      have O4 : Hid (OwT w4 w.heap.size 5 u4 S) := O3.out.below hcb
      have T4 : Hid (Bx w4 w.heap.size 26 [.int .i64 f, .int .i64 n, .int .i64 o, .slice (some ⟨b, off, none⟩) ts.length cap]) := T3.out.later hcb
      have C4 : Hid (OwT w4 w3.heap.size 5 cv J) := hct
      clear hct hcb B3 O3 T3
      go_wp2_with (first | (with_reducible refine wpList_haltA _ _ _ rfl ?_))
      refine Stp.go ?_
      clear hcr
      refine wpList_catBytes rfl _ _ 22 5 rfl Tryd.underlying22 Tryd.info5 w.heap.size w3.heap.size _ _ S J rfl O4.out rfl C4.out (by omega) B4.out.size ?_
      intro v6 w6 O6 g6
      have O6 : Hid (OwT w6 w.heap.size 5 v6 (S ++ J)) := O6
      have B6 : Hid (Below w.heap.size w w6) := B4.out.grown g6 B4.out.size (fun k hk => (O4.out.lt k hk).1)
      have T6 : Hid (Bx w6 w.heap.size 26 [.int .i64 f, .int .i64 n, .int .i64 o, .slice (some ⟨b, off, none⟩) ts.length cap]) := T4.out.grown g6 (fun e => owt_bx_ne O4.out T4.out (by decide) e.symm)
      clear g6 O4 B4 T4 C4
      go_wp2_with fail
      go_roundw
      case rel =>
        refine ⟨k + 1, S ++ J, by omega, by go_num, by rw [ByteArray.size_append]; omega, O6, ?_, T6, B6⟩
        show _ = _
        rw [itsS_next ts _ k hlt, ← hSS.out, ← HQ.out, HII.out, HJJ.out]
      case measure => simp [intOf]; omega
    · have HS : Hid (S = bunS f n o ts) := by
        have := hSS.out
        rw [List.take_of_length_le (by omega), hBS.out] at this
        exact this
      have hcv := conv_text (P := Tryd.prog) (src := 22) (dst := 9) (e := 5) Tryd.underlying22 Tryd.underlying5 Tryd.underlying9 hO.out
      obtain ⟨ad, cc, rfl⟩ := hO.out.form
      have hd : decide (20000 < (S.size : Int) + 4) = false := by simp; omega
      go_wp2_with fail
      refine (specSeal_any S _ (by omega)).mono ?_
      rintro e w9 ⟨rfl, hb9⟩
      have B9 : Hid (Below w.heap.size w w9) := bl_nxt hB.out hb9
      clear hb9
      go_wp2_with fail
      go_ret2
      exact ⟨by rw [HS.out]; rfl, B9.out⟩
end Go.Proofs.YtlflcjdpdbdbkaaDoor

/- The law on BundleText. -/
namespace Go.Proofs.YtlflcjdpdbdbkaaDoor
open Go.RowKit Pl
set_option linter.unusedVariables false
set_option linter.unusedSimpArgs false

/-- both BundleTexts, at whatever bundle. -/
theorem bundleText_two (f n o : Int) (ts : List It) (hl : ts.length ≤ 1048576) : ∃ (T : ByteArray) (k : Bool), T.size ≤ 5004 ∧ bunB f n o ts = k ∧ ((k = true ∧ ∃ (F N O : Nat), f = F ∧ n = N ∧ o = O ∧ BnOk F N O ts ∧ T = sealS (bunS F N O ts)) ∨ (k = false ∧ T = ByteArray.empty)) ∧
    (∀ (w : World) (s : Sv), Hid (RIt w s ts) → Hid (Tab w) → Calls Tryd.prog 8 #[.agg #[.int .i64 f, .int .i64 n, .int .i64 o, .slice s.a s.n s.c]] w fun e w' => e = .returned (.tuple #[.string T, .bool k]) ∧ Below w.heap.size w w') ∧
    (∀ (w : World) (s : Sv), Hid (RIt w s ts) → Calls Tryd.prog 10 #[.agg #[.int .i64 f, .int .i64 n, .int .i64 o, .slice s.a s.n s.c]] w fun e w' => e = .returned (.tuple #[.string T, .bool k]) ∧ Below w.heap.size w w') := by
  cases h : bunB f n o ts with
  | true =>
    obtain ⟨F, N, O, rfl, rfl, rfl, ho⟩ := bunB_nats h
    refine ⟨sealS (bunS F N O ts), true, ?_, rfl, .inl ⟨rfl, F, N, O, rfl, rfl, rfl, ho, rfl⟩, fun w s hx ht => ?_, fun w s hx => ?_⟩
    · have := bunS_size ho
      rw [sealS_size]; omega
    · rw [hx.out.1]; exact bundleText_yes F N O s.a s.c ts w hx.out.2 ho ht
    · rw [hx.out.1]; exact spBundleText_yes F N O s.a s.c ts w hx.out.2 ho
  | false =>
    refine ⟨ByteArray.empty, false, by decide, rfl, .inr ⟨rfl, rfl⟩, fun w s hx _ => ?_, fun w s hx => ?_⟩
    · rw [hx.out.1]; exact bundleText_no f n o s.a s.c ts w hx.out.2 hl h
    · rw [hx.out.1]; exact spBundleText_no f n o s.a s.c ts w hx.out.2 hl h

set_option maxRecDepth 100000 in
set_option maxHeartbeats 8000000 in
theorem lawBundleText (f n o : Int) (s : Sv) (ts : List It) (w : World) (h : Hid (RIt w s ts)) (hl : ts.length ≤ 9223372036854775807) (hsz : Hid (∀ x ∈ ts, x.2.2.2.size ≤ 9223372036854775807)) (htab : Hid (Tab w)) :
    Calls Tryd.prog 4 #[.agg #[.int .i64 f, .int .i64 n, .int .i64 o, .slice s.a s.n s.c]] w fun e w' => e = .returned (.bool true) ∧ Below w.heap.size w w' := by
  have HA : Hid (Bx (w.alloc (.cells #[.int .i64 f, .int .i64 n, .int .i64 o, .slice s.a s.n s.c] 37)) w.heap.size 37 [.int .i64 f, .int .i64 n, .int .i64 o, .slice s.a s.n s.c]) := Bx.new w 37 _
  have HB0 : Hid (Below w.heap.size w (w.alloc (.cells #[.int .i64 f, .int .i64 n, .int .i64 o, .slice s.a s.n s.c] 37))) := (Below.refl _ _).alloc (Nat.le_refl _) _
  have HR : Hid (RIt (w.alloc (.cells #[.int .i64 f, .int .i64 n, .int .i64 o, .slice s.a s.n s.c] 37)) s ts) := h.out.stays HB0.out
  clear h
  go_enter Tryd.func4, Tryd.ntmps4
  go_wp2_with (first | (refine wpList_ldG rfl 37 _ rfl w.heap.size 0 rfl 37 _ HA.out [.int .i64 f, .int .i64 n, .int .i64 o, .slice s.a s.n s.c] rfl _ Tryd.underlying37 rfl Tryd.sizeLBu ?_))
  generalize w.alloc (.cells #[.int .i64 f, .int .i64 n, .int .i64 o, .slice s.a s.n s.c] 37) = W0 at *
  refine (szBundle_any f n o s ts 1048576 _ HR hl hsz (Nat.le_refl _)).mono ?_
  rintro e w1 ⟨hz, b⟩
  have HA : Hid (Bx w1 w.heap.size 37 [.int .i64 f, .int .i64 n, .int .i64 o, .slice s.a s.n s.c]) := HA.out.later b
  have HB0 : Hid (Below w.heap.size w w1) := bl_nxt HB0.out b
  have HR : Hid (RIt w1 s ts) := HR.out.stays b
  clear b
  rcases hz with rfl | ⟨z, rfl, _, hs⟩
  · go_wp2_with fail
    go_ret
    exact ⟨rfl, HB0.out⟩
  have hlen : ts.length ≤ 1048576 := by have := hs.out.1; omega
  clear hl hs
  obtain ⟨T, K, _, _, _, himpl, hspec⟩ := bundleText_two f n o ts hlen
  have HIMPL : Hid _ := himpl
  have HSPEC : Hid _ := hspec
  clear himpl hspec
  have hz : decide ((z : Int) < 0) = false := by simp
  go_wp2_with (first | (refine wpList_ldG rfl 37 _ rfl w.heap.size 0 rfl 37 _ HA.out [.int .i64 f, .int .i64 n, .int .i64 o, .slice s.a s.n s.c] rfl _ Tryd.underlying37 rfl Tryd.sizeLBu ?_))
  clear hz
  refine (toBundle_any f n o s ts _ HR hlen).mono ?_
  rintro e w2 ⟨u2, rfl, o2, b⟩
  have HA : Hid (Bx w2 w.heap.size 37 [.int .i64 f, .int .i64 n, .int .i64 o, .slice s.a s.n s.c]) := HA.out.later b
  have HB0 : Hid (Below w.heap.size w w2) := bl_nxt HB0.out b
  have HR : Hid (RIt w2 s ts) := HR.out.stays b
  clear b
  have R2 : Hid (RIt w2 u2 ts) := o2.rit
  clear o2
  go_wp2_with fail
  refine (HSPEC.out _ u2 R2).mono ?_
  rintro e w3 ⟨rfl, b⟩
  have HA : Hid (Bx w3 w.heap.size 37 [.int .i64 f, .int .i64 n, .int .i64 o, .slice s.a s.n s.c]) := HA.out.later b
  have HB0 : Hid (Below w.heap.size w w3) := bl_nxt HB0.out b
  have HR : Hid (RIt w3 s ts) := HR.out.stays b
  clear b R2
  go_wp2_with (first | (refine wpList_ldG rfl 37 _ rfl w.heap.size 0 rfl 37 _ HA.out [.int .i64 f, .int .i64 n, .int .i64 o, .slice s.a s.n s.c] rfl _ Tryd.underlying37 rfl Tryd.sizeLBu ?_))
  refine (toBundle_any f n o s ts _ HR hlen).mono ?_
  rintro e w4 ⟨uX, rfl, oX, b⟩
  have HA : Hid (Bx w4 w.heap.size 37 [.int .i64 f, .int .i64 n, .int .i64 o, .slice s.a s.n s.c]) := HA.out.later b
  have HB0 : Hid (Below w.heap.size w w4) := bl_nxt HB0.out b
  have HR : Hid (RIt w4 s ts) := HR.out.stays b
  clear b
  have XO : Hid (SlI w4 w3.heap.size uX.v ts) := oX
  clear oX
  have hz_WX : Hid (Bx (w4.alloc (.cells #[.int .i64 0, .int .i64 0, .int .i64 0, .slice none 0 0] 26)) w4.heap.size 26 [.int .i64 0, .int .i64 0, .int .i64 0, .slice none 0 0]) := Bx.new w4 26 _
  go_wp2_with (first | (refine wpList_stB rfl 26 _ _ rfl w4.heap.size 0 rfl 26 _ hz_WX.out [.int .i64 f, .int .i64 n, .int .i64 o, .slice uX.a uX.n uX.c] rfl (by simp) Tryd.sizeBu rfl [.int .i64 f, .int .i64 n, .int .i64 o, .slice uX.a uX.n uX.c] rfl ?_; intro WX kb kt; have bb : Below w4.heap.size w4 WX := ((Below.refl _ _).alloc (Nat.le_refl _) _).trans (kt.below (Nat.le_refl _)); have HA : Hid (Bx WX w.heap.size 37 [.int .i64 f, .int .i64 n, .int .i64 o, .slice s.a s.n s.c]) := HA.out.later bb; have HB0 : Hid (Below w.heap.size w WX) := bl_nxt HB0.out bb; have HR : Hid (RIt WX s ts) := HR.out.stays bb; have XO : Hid (SlI WX w3.heap.size uX.v ts) := XO.out.below bb; have WXB : Hid (Bx WX w4.heap.size 26 [.int .i64 f, .int .i64 n, .int .i64 o, .slice uX.a uX.n uX.c]) := kb; clear kb kt) | (refine wpList_ldG rfl 26 _ rfl w4.heap.size 0 rfl 26 _ WXB.out [.int .i64 f, .int .i64 n, .int .i64 o, .slice uX.a uX.n uX.c] rfl _ Tryd.underlying26 rfl Tryd.sizeBu ?_))
  clear bb hz_WX
  generalize w4.heap.size = gX at *
  have HTX : Hid (Tab WX) := htab.out.below HB0.out
  refine (HIMPL.out _ uX XO.out.rit HTX).mono ?_
  rintro e w5 ⟨rfl, b⟩
  have HA : Hid (Bx w5 w.heap.size 37 [.int .i64 f, .int .i64 n, .int .i64 o, .slice s.a s.n s.c]) := HA.out.later b
  have HB0 : Hid (Below w.heap.size w w5) := bl_nxt HB0.out b
  have HR : Hid (RIt w5 s ts) := HR.out.stays b
  have XO : Hid (SlI w5 w3.heap.size uX.v ts) := XO.out.below b
  have WXB : Hid (Bx w5 gX 26 [.int .i64 f, .int .i64 n, .int .i64 o, .slice uX.a uX.n uX.c]) := WXB.out.later b
  clear b
  clear HTX HIMPL HSPEC
  go_wp2_with fail
  refine wp_region_held_drew (S := fun w' => Below w5.heap.size w5 w') (by kernel_rfl) (Below.refl _ _).drew (fun hHeld => ?_)
  refine wpAnyH_take (i := 0) (v := _) rfl (by kernel_rfl) (by kernel_rfl) (by kernel_rfl) (fun _ _ _ h => h) (ld_yield (by rfl) 26 _ rfl gX 0 rfl 26 _ (fun w hS => WXB.out.later hS) [.int .i64 f, .int .i64 n, .int .i64 o, .slice uX.a uX.n uX.c] rfl _ Tryd.underlying26 rfl Tryd.sizeBu) (by assumption) ?_
  try simp only [Act.put, List.getElem_toArray, List.getElem_cons_zero, List.getElem_cons_succ, List.setIfInBounds_toArray, List.set_cons_zero, List.set_cons_succ]
  refine wpAnyH_take (i := 1) (v := _) rfl (by kernel_rfl) (by kernel_rfl) (by kernel_rfl) (fun _ _ _ h => h) (ld_yield (by rfl) 37 _ rfl w.heap.size 0 rfl 37 _ (fun w hS => HA.out.later hS) [.int .i64 f, .int .i64 n, .int .i64 o, .slice s.a s.n s.c] rfl _ Tryd.underlying37 rfl Tryd.sizeLBu) (by assumption) ?_
  try simp only [Act.put, List.getElem_toArray, List.getElem_cons_zero, List.getElem_cons_succ, List.setIfInBounds_toArray, List.set_cons_zero, List.set_cons_succ]
  refine wpAnyH_ready (rs := [2]) (by kernel_rfl) (by simp) ?_
  refine AllReadyH.cons (i := 2) rfl (fun K hK => ?_) AllReadyH.nil
  rw [if_pos (by rfl)]
  simp only [List.getElem_toArray, List.getElem_cons_zero, List.getElem_cons_succ]
  go_simp
  refine (toBundle_any f n o s ts _ (show Hid (RIt w5.drew s ts) from HR.out.stays (Below.refl _ _).drew) hlen).mono ?_
  rintro e w6 ⟨u6, rfl, o6, b6⟩
  have c6 : Below w5.heap.size w5 w6 := (Below.refl w5.heap.size w5).drew.trans b6
  refine hK.out _ _ (c6) (fun hHeld => ?_)
  clear hK K
  try simp only [Act.put, List.getElem_toArray, List.getElem_cons_zero, List.getElem_cons_succ, List.setIfInBounds_toArray, List.set_cons_zero, List.set_cons_succ]
  refine wpAnyH_ready (rs := [3]) (by kernel_rfl) (by simp) ?_
  refine AllReadyH.cons (i := 3) rfl (fun K hK => ?_) AllReadyH.nil
  rw [if_pos (by rfl)]
  simp only [List.getElem_toArray, List.getElem_cons_zero, List.getElem_cons_succ]
  go_simp
  refine (eqBundle_same f n o uX u6 ts w3.heap.size _ _ (show Hid (SlI w6 _ uX.v ts) from XO.out.below c6) (show Hid (SlI w6 _ u6.v ts) from o6) hlen).mono ?_
  rintro e w7 ⟨rfl, b7⟩
  have c7 : Below w5.heap.size w5 w7 := bl_nxt c6 b7
  refine hK.out _ _ (c7) (fun hHeld => ?_)
  clear hK K
  try simp only [Act.put, List.getElem_toArray, List.getElem_cons_zero, List.getElem_cons_succ, List.setIfInBounds_toArray, List.set_cons_zero, List.set_cons_succ]
  refine wpAnyH_take (i := 4) (v := ?v4) rfl (by kernel_rfl) (by kernel_rfl) (by kernel_rfl) (fun _ _ _ h => h) (Or.inl ⟨by rfl, ?hy4⟩) (by assumption) ?_
  case hy4 => (intro w hSw; (try dsimp only at hSw); simp only [List.getElem_toArray, List.getElem_cons_zero, List.getElem_cons_succ]; go_simp; try with_reducible rfl)
  try simp only [Act.put, List.getElem_toArray, List.getElem_cons_zero, List.getElem_cons_succ, List.setIfInBounds_toArray, List.set_cons_zero, List.set_cons_succ]
  refine wpAnyH_done (by kernel_rfl) ?_ _
  have BF : Below w.heap.size w w7 := bl_nxt HB0.out c7
  go_wp2_with fail
  go_ret
  exact ⟨rfl, BF⟩
end Go.Proofs.YtlflcjdpdbdbkaaDoor

/- The walks over the program's reader of several items, over the closure that reads a bundle and over the reading of its packet. Written by gen_rb.py. -/
namespace Go.Proofs.YtlflcjdpdbdbkaaDoor
open Go.RowKit Pl
set_option linter.unusedVariables false
set_option linter.unusedSimpArgs false

/-- several items, their number ahead. -/
def itemsP (s : ByteArray) (A : Nat) : Option (List It × Nat) := (rv s A).bind fun x => itsP s x.2 x.1
theorem itemsP_none {s : ByteArray} {A : Nat} (h : rv s A = none) : itemsP s A = none := by unfold itemsP; rw [h]; rfl
theorem itemsP_some {s : ByteArray} {A k i : Nat} (h : rv s A = some (k, i)) : itemsP s A = itsP s i k := by unfold itemsP; rw [h]; rfl
/-- the state behind j items. -/
def NSt (s : ByteArray) (A k j Aj : Nat) (xs : List It) : Prop := itsP s A k = (itsP s Aj (k - j)).map fun y => (xs ++ y.1, y.2)
theorem nst_start (s : ByteArray) (A k : Nat) : NSt s A k 0 A [] := by
  unfold NSt
  rcases h : itsP s A k with _ | y
  · simp
  · simp
theorem nst_next {s t : ByteArray} {A k j Aj i : Nat} {x : It} {xs : List It} (h : NSt s A k j Aj xs) (hj : j < k) (hr : shP s Aj = some (t, i)) (hx : rdP t = some x) : NSt s A k (j + 1) i (xs ++ [x]) := by
  unfold NSt at h ⊢
  obtain ⟨m, hm⟩ : ∃ m, k - j = m + 1 := ⟨k - j - 1, by omega⟩
  have hm' : k - (j + 1) = m := by omega
  rw [h, hm, hm', itsP_some hr hx, Option.map_map]
  congr 1
  funext y
  simp
theorem nst_bad1 {s : ByteArray} {A k j Aj : Nat} {xs : List It} (h : NSt s A k j Aj xs) (hj : j < k) (hr : shP s Aj = none) : itsP s A k = none := by
  unfold NSt at h
  obtain ⟨m, hm⟩ : ∃ m, k - j = m + 1 := ⟨k - j - 1, by omega⟩
  rw [h, hm, itsP_no1 hr]; rfl
theorem nst_bad2 {s t : ByteArray} {A k j Aj i : Nat} {xs : List It} (h : NSt s A k j Aj xs) (hj : j < k) (hr : shP s Aj = some (t, i)) (hx : rdP t = none) : itsP s A k = none := by
  unfold NSt at h
  obtain ⟨m, hm⟩ : ∃ m, k - j = m + 1 := ⟨k - j - 1, by omega⟩
  rw [h, hm, itsP_no2 hr hx]; rfl
theorem nst_end {s : ByteArray} {A k Aj : Nat} {xs : List It} (h : NSt s A k k Aj xs) : itsP s A k = some (xs, Aj) := by
  unfold NSt at h
  rw [h, Nat.sub_self]
  simp [itsP]
theorem shP_small {s t : ByteArray} {A i : Nat} (hA : A ≤ s.size) (h : shP s A = some (t, i)) : t.size ≤ 20000 := by
  have hu : Upto s A (s.data.toList.take A) := ⟨s.data.toList.drop A, (List.take_append_drop _ _).symm, by rw [List.length_take, ← rt_size]; omega⟩
  exact (hu.sh h).2
theorem keep_below {g : Nat} {a b c : World} (h : KeepBut g a b) (hb : Below a.heap.size b c) : KeepBut g a c :=
  ⟨hb.os.trans h.os, hb.tape.trans h.tape, hb.output.trans h.output, Nat.le_trans h.size hb.size, fun k hk hg => (hb.block k hk).trans (h.block k hk hg)⟩
theorem SlI.keepg {w w' : World} {B g : Nat} {v : Value} {ts : List It} (h : SlI w B v ts) (hk : KeepBut g w w') (hg : g < B) : SlI w' B v ts :=
  h.keep fun k e hl => hk.block k hl (by have := (h.lt k e).1; omega)
theorem PrAt.later {w w' : World} {g A : Nat} {s : ByteArray} (h : PrAt w g s A) (hb : Below w.heap.size w w') : PrAt w' g s A := h.stays hb h.lt

set_option maxRecDepth 100000 in
set_option maxHeartbeats 4000000 in
theorem items_any (s : ByteArray) (g A : Nat) (w : World) (hp : Hid (PrAt w g s A)) (hs : s.size ≤ 1048576) (hA : A ≤ s.size) :
    Calls Tryd.prog 30 #[.pointer (some ⟨g, 0, none⟩)] w fun e w' => (e = .panicked noPk ∧ itemsP s A = none ∧ KeepBut g w w') ∨
      ∃ (ts : List It) (i : Nat) (v : Value), e = .returned v ∧ itemsP s A = some (ts, i) ∧ ts.length ≤ 1048576 ∧ SlI w' w.heap.size v ts ∧ PrAt w' g s i ∧ KeepBut g w w' := by
  have hg := hp.out.lt
  have P0 : Hid (PrAt (w.alloc (.cells #[] 57)) g s A) := hp.out.stays ((Below.refl _ _).alloc (Nat.le_refl _) _) hg
  have V0 : Hid (SlI (w.alloc (.cells #[] 57)) w.heap.size (.slice (some ⟨w.heap.size, 0, none⟩) 0 0) []) := SlI.made w w.heap.size (Nat.le_refl _)
  have K0 : Hid (KeepBut g w (w.alloc (.cells #[] 57))) := keep_of_below ((Below.refl _ _).alloc (Nat.le_refl _) _)
  go_enter Tryd.func30, Tryd.ntmps30
  go_wp2_with fail
  generalize w.alloc (.cells #[] 57) = W0 at *
  rcases h0 : rv s A with _ | ⟨k, i⟩
  · refine (number_none s g A _ P0 hs hA h0).mono ?_
    rintro e w1 ⟨rfl, ht1⟩
    exact ⟨rfl, .inl ⟨rfl, itemsP_none h0, K0.out.trans ht1.keep⟩⟩
  have H0 : Hid (rv s A = some (k, i)) := h0
  obtain ⟨hk, hi⟩ := rv_le hA h0
  clear h0
  refine (number_some s g A k i _ P0 hs hA H0).mono ?_
  rintro e w1 ⟨rfl, hp1, ht1⟩
  have P1 : Hid (PrAt w1 g s i) := hp1
  have V1 : Hid (SlI w1 w.heap.size (.slice (some ⟨w.heap.size, 0, none⟩) 0 0) []) := V0.out.keepg ht1.keep hg
  have K1 : Hid (KeepBut g w w1) := K0.out.trans ht1.keep
  clear hp1 ht1 P0 V0 K0
  go_wp2_with fail
  go_loopw [3, 9] (fun v ix wr => ∃ (j Aj : Nat) (xs : List It), j ≤ k ∧ ix = .int .i64 j ∧ xs.length ≤ j ∧ j ≤ xs.length ∧ j ≤ Aj ∧ Aj ≤ s.size ∧ Hid (NSt s i k j Aj xs) ∧ Hid (SlI wr w.heap.size v xs) ∧ Hid (PrAt wr g s Aj) ∧ Hid (KeepBut g w wr)) (fun _ ix _ => k - (intOf ix).toNat)
  case atStart => exact ⟨0, i, [], Nat.zero_le _, rfl, Nat.zero_le _, Nat.zero_le _, Nat.zero_le _, hi, nst_start s i k, V1.out, P1.out, K1.out⟩
  case round =>
    clear P1 V1 K1
    obtain ⟨j, Aj, xs, hj, rfl, hxl, hxl2, hjA, hAj, hst, hV, hP, hK⟩ := hrel
    by_cases hlt : j < k
    · go_wp2_with fail
      rcases h1 : shP s Aj with _ | ⟨t, i2⟩
      · refine (short_none s g Aj _ hP hs hAj h1).mono ?_
        rintro e w2 ⟨rfl, ht2⟩
        exact ⟨rfl, .inl ⟨rfl, by rw [itemsP_some H0.out]; exact nst_bad1 hst.out hlt h1, hK.out.trans ht2.keep⟩⟩
      have H1 : Hid (shP s Aj = some (t, i2)) := h1
      obtain ⟨hlt2, hi2⟩ := shP_lt hAj h1
      have htz := shP_small hAj h1
      clear h1
      refine (short_some s t g Aj i2 _ hP hs hAj H1).mono ?_
      rintro e w2 ⟨rfl, hp2, hk2⟩
      have P2 : Hid (PrAt w2 g s i2) := hp2
      have V2 : Hid (SlI w2 w.heap.size u3 xs) := hV.out.keepg hk2 hg
      have K2 : Hid (KeepBut g w w2) := hK.out.trans hk2
      clear hp2 hk2 hP hV hK
      go_wp2_with fail
      refine (readItem_any t _ (by omega)).mono ?_
      rintro e w3 ⟨q, f, l, tx, r, rfl, hans, hb3⟩
      have P3 : Hid (PrAt w3 g s i2) := P2.out.later hb3
      have V3 : Hid (SlI w3 w.heap.size u3 xs) := V2.out.below hb3
      have K3 : Hid (KeepBut g w w3) := keep_below K2.out (hb3.mono K2.out.size)
      clear hb3 P2 V2 K2
      have hal : Below w3.heap.size w3 (w3.alloc (.cells #[.int .i64 q, .int .i64 f, .int .i64 l, .string tx] 57)) := (Below.refl _ _).alloc (Nat.le_refl _) _
      have P4 : Hid (PrAt (w3.alloc (.cells #[.int .i64 q, .int .i64 f, .int .i64 l, .string tx] 57)) g s i2) := P3.out.later hal
      have V4 : Hid (SlI (w3.alloc (.cells #[.int .i64 q, .int .i64 f, .int .i64 l, .string tx] 57)) w.heap.size u3 xs) := V3.out.below hal
      have K4 : Hid (KeepBut g w (w3.alloc (.cells #[.int .i64 q, .int .i64 f, .int .i64 l, .string tx] 57))) := keep_below K3.out (hal.mono K3.out.size)
      have I4 : Hid (ItAt (w3.alloc (.cells #[.int .i64 q, .int .i64 f, .int .i64 l, .string tx] 57)) w3.heap.size q f l tx) := heap_alloc_new w3 _
      clear hal P3 V3 K3
      cases r with
      | false =>
        have HR : Hid (rdP t = none) := (AnsI.rd_no hans).1
        clear hans
        go_wp2_with fail
        generalize (w3.alloc (.cells #[.int .i64 q, .int .i64 f, .int .i64 l, .string tx] 57)) = W4 at *
        exact ⟨rfl, .inl ⟨rfl, by rw [itemsP_some H0.out]; exact nst_bad2 hst.out hlt H1.out HR.out, K4.out⟩⟩
      | true =>
        have HR : Hid (rdP t = some ((q : Int), (f : Int), (l : Int), tx)) := AnsI.rd_yes hans
        clear hans
        obtain ⟨c0, c1, c2, c3⟩ := I4.out.cells
        have hs4 := K4.out.size
        have HZ : Hid ((w3.alloc (.cells #[.int .i64 q, .int .i64 f, .int .i64 l, .string tx] 57)).heap.size = w3.heap.size + 1) := by show _ = _; simp
        go_wp2_with (first | (with_reducible refine wpList_haltA _ _ _ rfl ?_))
        refine Stp.go ?_
        generalize (w3.alloc (.cells #[.int .i64 q, .int .i64 f, .int .i64 l, .string tx] 57)) = W4 at *
        refine wpList_pushIt rfl _ _ 24 rfl Tryd.underlying24 w.heap.size _ xs rfl V4.out ((q : Int), (f : Int), (l : Int), tx) (by rw [HZ.out]; rfl) (by omega) hs4 ?_
        intro v5 w5 O5 _ b5 _
        have O5 : Hid (SlI w5 w.heap.size v5 (xs ++ [((q : Int), (f : Int), (l : Int), tx)])) := O5
        have P5 : Hid (PrAt w5 g s i2) := P4.out.stays b5 hg
        have K5 : Hid (KeepBut g w w5) := keep_below K4.out b5
        clear c0 c1 c2 c3 P4 V4 K4 I4 b5
        go_wp2_with fail
        go_roundw
        case rel => exact ⟨j + 1, i2, xs ++ [((q : Int), (f : Int), (l : Int), tx)], by omega, by go_num, by simp; omega, by simp; omega, by omega, hi2, nst_next hst.out hlt H1.out HR.out, O5.out, P5.out, K5.out⟩
        case measure => simp [intOf]; omega
    · obtain rfl : j = k := by omega
      go_wp2_with fail
      go_ret
      exact .inr ⟨xs, Aj, _, rfl, by rw [itemsP_some H0.out]; exact nst_end hst.out, by omega, hV.out, hP.out, hK.out⟩

theorem bunP_n0 {s : ByteArray} (h : oneP s 0 = none) : bunP s = none := by simp [bunP, h]
theorem bunP_n1 {s : ByteArray} {f i0 : Nat} (h0 : oneP s 0 = some (f, i0)) (h : oneP s i0 = none) : bunP s = none := by simp [bunP, h0, h]
theorem bunP_n2 {s : ByteArray} {f i0 n i1 : Nat} (h0 : oneP s 0 = some (f, i0)) (h1 : oneP s i0 = some (n, i1)) (h : oneP s i1 = none) : bunP s = none := by simp [bunP, h0, h1, h]
theorem bunP_n3 {s : ByteArray} {f i0 n i1 o i2 : Nat} (h0 : oneP s 0 = some (f, i0)) (h1 : oneP s i0 = some (n, i1)) (h2 : oneP s i1 = some (o, i2)) (h : itemsP s i2 = none) : bunP s = none := by
  unfold itemsP at h
  rcases h3 : rv s i2 with _ | ⟨k, i3⟩
  · simp [bunP, h0, h1, h2, h3]
  · rw [h3, Option.bind_some] at h
    simp [bunP, h0, h1, h2, h3, h]
theorem bunP_all {s : ByteArray} {f i0 n i1 o i2 A : Nat} {ts : List It} (h0 : oneP s 0 = some (f, i0)) (h1 : oneP s i0 = some (n, i1)) (h2 : oneP s i1 = some (o, i2)) (h : itemsP s i2 = some (ts, A)) : bunP s = some ((f, n, o), ts, A) := by
  unfold itemsP at h
  rcases h3 : rv s i2 with _ | ⟨k, i3⟩
  · rw [h3] at h; cases h
  · rw [h3, Option.bind_some] at h
    exact bunP_some h0 h1 h2 h3 h

/-- what the closure answers. -/
def ClAnsB (s : ByteArray) (gm gr : Nat) (w : World) (e : Ending) (w' : World) : Prop :=
  (e = .panicked noPk ∧ bunP s = none ∧ Keep2 gm gr w w') ∨
  ∃ (f n o A : Nat) (ts : List It) (u : Sv), e = .returned (.tuple #[]) ∧ bunP s = some ((f, n, o), ts, A) ∧ ts.length ≤ 1048576 ∧ Bx w' gm 26 [.int .i64 f, .int .i64 n, .int .i64 o, .slice u.a u.n u.c] ∧ SlI w' w.heap.size u.v ts ∧ PrAt w' gr s A ∧ Keep2 gm gr w w'

set_option maxRecDepth 100000 in
set_option maxHeartbeats 4000000 in
theorem clBundle_any (s : ByteArray) (gm gr : Nat) (w : World) (hm : Hid (Bx w gm 26 [.int .i64 0, .int .i64 0, .int .i64 0, .slice none 0 0])) (hp : Hid (PrAt w gr s 0)) (hne : gm < gr) (hs : s.size ≤ 1048576) :
    Calls Tryd.prog 28 #[.pointer (some ⟨gr, 0, none⟩), .pointer (some ⟨gm, 0, none⟩)] w fun e w' => ClAnsB s gm gr w e w' := by
  have hgr := hp.out.lt
  have KB : Hid (Keep2 gm gr w w) := (KeepBut.refl gm w).left
  have U : Hid (Upto s 0 []) := upto_start s
  have hi : (0 : Nat) ≤ s.size := Nat.zero_le _
  have MB : Hid (Bx w gm 26 [.int .i64 0, .int .i64 0, .int .i64 0, .slice none 0 0]) := hm
  have PB : Hid (PrAt w gr s 0) := hp
  clear hm hp
  go_enter Tryd.func28, Tryd.ntmps28
  go_wp2_with fail
  rcases h0 : oneP s 0 with _ | ⟨f, i0⟩
  · refine (oneB_no s gr 0 _ PB hs hi h0).mono ?_
    rintro e w1 ⟨rfl, ht⟩
    exact ⟨rfl, .inl ⟨rfl, bunP_n0  h0, KB.out.trans ht.keep.right⟩⟩
  have H0 : Hid (oneP s 0 = some (f, i0)) := h0
  obtain ⟨u0, _⟩ := U.out.one h0
  have hi := u0.le
  have U : Hid (Upto s i0 ([] ++ [UInt8.ofNat f])) := u0
  clear h0 u0
  refine (oneB_yes s gr 0 f i0 _ PB hs H0).mono ?_
  rintro e w1 ⟨rfl, hp1, ht⟩
  have KA : Hid (Keep2 gm gr w w1) := KB.out.trans ht.keep.right
  have MA : Hid (Bx w1 gm 26 [.int .i64 0, .int .i64 0, .int .i64 0, .slice none 0 0]) := MB.out.keepb ht.keep (by omega)
  have PA : Hid (PrAt w1 gr s i0) := hp1
  have c0 := MA.out.cell 0
  simp only [List.getElem?_cons_succ, List.getElem?_cons_zero] at c0
  have f0 := MA.out.frozen 0
  clear hp1 ht KB MB PB
  have MB : Hid (Bx (w1.setCell ⟨gm, 0, none⟩ (.int .i64 f)) gm 26 [.int .i64 f, .int .i64 0, .int .i64 0, .slice none 0 0]) := MA.out.set 0 (.int .i64 f)
  have PB : Hid (PrAt (w1.setCell ⟨gm, 0, none⟩ (.int .i64 f)) gr s i0) := PA.out.turn ((TurnAt.refl gm w1).setCell 0 _) (by omega)
  have KB : Hid (Keep2 gm gr w (w1.setCell ⟨gm, 0, none⟩ (.int .i64 f))) := KA.out.trans ((TurnAt.refl gm w1).setCell 0 _).keep.left
  go_wp2_with fail
  generalize (w1.setCell ⟨gm, 0, none⟩ (.int .i64 f)) = W0 at *
  clear MA PA KA c0 f0
  rcases h1 : oneP s i0 with _ | ⟨n, i1⟩
  · refine (oneB_no s gr i0 _ PB hs hi h1).mono ?_
    rintro e w2 ⟨rfl, ht⟩
    exact ⟨rfl, .inl ⟨rfl, bunP_n1 H0.out h1, KB.out.trans ht.keep.right⟩⟩
  have H1 : Hid (oneP s i0 = some (n, i1)) := h1
  obtain ⟨u1, _⟩ := U.out.one h1
  have hi := u1.le
  have U : Hid (Upto s i1 (([] ++ [UInt8.ofNat f]) ++ [UInt8.ofNat n])) := u1
  clear h1 u1
  refine (oneB_yes s gr i0 n i1 _ PB hs H1).mono ?_
  rintro e w2 ⟨rfl, hp1, ht⟩
  have KA : Hid (Keep2 gm gr w w2) := KB.out.trans ht.keep.right
  have MA : Hid (Bx w2 gm 26 [.int .i64 f, .int .i64 0, .int .i64 0, .slice none 0 0]) := MB.out.keepb ht.keep (by omega)
  have PA : Hid (PrAt w2 gr s i1) := hp1
  have c0 := MA.out.cell 1
  simp only [List.getElem?_cons_succ, List.getElem?_cons_zero] at c0
  have f0 := MA.out.frozen 1
  clear hp1 ht KB MB PB
  have MB : Hid (Bx (w2.setCell ⟨gm, 1, none⟩ (.int .i64 n)) gm 26 [.int .i64 f, .int .i64 n, .int .i64 0, .slice none 0 0]) := MA.out.set 1 (.int .i64 n)
  have PB : Hid (PrAt (w2.setCell ⟨gm, 1, none⟩ (.int .i64 n)) gr s i1) := PA.out.turn ((TurnAt.refl gm w2).setCell 1 _) (by omega)
  have KB : Hid (Keep2 gm gr w (w2.setCell ⟨gm, 1, none⟩ (.int .i64 n))) := KA.out.trans ((TurnAt.refl gm w2).setCell 1 _).keep.left
  go_wp2_with fail
  generalize (w2.setCell ⟨gm, 1, none⟩ (.int .i64 n)) = W1 at *
  clear MA PA KA c0 f0
  rcases h2 : oneP s i1 with _ | ⟨o, i2⟩
  · refine (oneB_no s gr i1 _ PB hs hi h2).mono ?_
    rintro e w3 ⟨rfl, ht⟩
    exact ⟨rfl, .inl ⟨rfl, bunP_n2 H0.out H1.out h2, KB.out.trans ht.keep.right⟩⟩
  have H2 : Hid (oneP s i1 = some (o, i2)) := h2
  obtain ⟨u2, _⟩ := U.out.one h2
  have hi := u2.le
  have U : Hid (Upto s i2 ((([] ++ [UInt8.ofNat f]) ++ [UInt8.ofNat n]) ++ [UInt8.ofNat o])) := u2
  clear h2 u2
  refine (oneB_yes s gr i1 o i2 _ PB hs H2).mono ?_
  rintro e w3 ⟨rfl, hp1, ht⟩
  have KA : Hid (Keep2 gm gr w w3) := KB.out.trans ht.keep.right
  have MA : Hid (Bx w3 gm 26 [.int .i64 f, .int .i64 n, .int .i64 0, .slice none 0 0]) := MB.out.keepb ht.keep (by omega)
  have PA : Hid (PrAt w3 gr s i2) := hp1
  have c0 := MA.out.cell 2
  simp only [List.getElem?_cons_succ, List.getElem?_cons_zero] at c0
  have f0 := MA.out.frozen 2
  clear hp1 ht KB MB PB
  have MB : Hid (Bx (w3.setCell ⟨gm, 2, none⟩ (.int .i64 o)) gm 26 [.int .i64 f, .int .i64 n, .int .i64 o, .slice none 0 0]) := MA.out.set 2 (.int .i64 o)
  have PB : Hid (PrAt (w3.setCell ⟨gm, 2, none⟩ (.int .i64 o)) gr s i2) := PA.out.turn ((TurnAt.refl gm w3).setCell 2 _) (by omega)
  have KB : Hid (Keep2 gm gr w (w3.setCell ⟨gm, 2, none⟩ (.int .i64 o))) := KA.out.trans ((TurnAt.refl gm w3).setCell 2 _).keep.left
  go_wp2_with fail
  generalize (w3.setCell ⟨gm, 2, none⟩ (.int .i64 o)) = W2 at *
  clear MA PA KA c0 f0
  refine (items_any s gr i2 _ PB hs hi).mono ?_
  rintro e w4 (⟨rfl, hn, hk⟩ | ⟨ts, A, v, rfl, hn, hl, hv, hp4, hk⟩)
  · exact ⟨rfl, .inl ⟨rfl, bunP_n3 H0.out H1.out H2.out hn, KB.out.trans hk.right⟩⟩
  have HN : Hid (itemsP s i2 = some (ts, A)) := hn
  have hsz := KB.out.size
  have KA : Hid (Keep2 gm gr w w4) := KB.out.trans hk.right
  have MA : Hid (Bx w4 gm 26 [.int .i64 f, .int .i64 n, .int .i64 o, .slice none 0 0]) := MB.out.keepb hk (by omega)
  have VA : Hid (SlI w4 w.heap.size v ts) := hv.down hsz
  have PA : Hid (PrAt w4 gr s A) := hp4
  obtain ⟨u, rfl, -⟩ := VA.out.sv
  unfold Sv.v
  have c0 := MA.out.cell 3
  simp only [List.getElem?_cons_succ, List.getElem?_cons_zero] at c0
  have f0 := MA.out.frozen 3
  clear hn hk hv hp4 KB MB PB
  have T4 := (TurnAt.refl gm w4).setCell 3 (.slice u.a u.n u.c)
  have MB : Hid (Bx (w4.setCell ⟨gm, 3, none⟩ (.slice u.a u.n u.c)) gm 26 [.int .i64 f, .int .i64 n, .int .i64 o, .slice u.a u.n u.c]) := MA.out.set 3 (.slice u.a u.n u.c)
  have PB : Hid (PrAt (w4.setCell ⟨gm, 3, none⟩ (.slice u.a u.n u.c)) gr s A) := PA.out.turn T4 (by omega)
  have KB : Hid (Keep2 gm gr w (w4.setCell ⟨gm, 3, none⟩ (.slice u.a u.n u.c))) := KA.out.trans T4.keep.left
  have VB : Hid (SlI (w4.setCell ⟨gm, 3, none⟩ (.slice u.a u.n u.c)) w.heap.size u.v ts) := VA.out.past MA.out T4 (by decide)
  clear T4
  go_wp2_with fail
  go_end0
  exact .inr ⟨f, n, o, A, ts, u, rfl, bunP_all H0.out H1.out H2.out HN.out, hl, MB.out, VB.out, PB.out, KB.out⟩

/-- what the reading of a bundle's packet answers. -/
def RpAnsB (s : ByteArray) (gm : Nat) (w : World) (e : Ending) (w' : World) : Prop :=
  (e = .returned (.bool false) ∧ bunP s = none ∧ KeepBut gm w w') ∨
  ∃ (f n o A : Nat) (ts : List It) (u : Sv), e = .returned (.bool ((A : Int) == (s.size : Int))) ∧ bunP s = some ((f, n, o), ts, A) ∧ ts.length ≤ 1048576 ∧ Bx w' gm 26 [.int .i64 f, .int .i64 n, .int .i64 o, .slice u.a u.n u.c] ∧ SlI w' w.heap.size u.v ts ∧ KeepBut gm w w'

set_option maxRecDepth 100000 in
set_option maxHeartbeats 4000000 in
theorem readPB_any (s : ByteArray) (gm : Nat) (w : World) (hm : Hid (Bx w gm 26 [.int .i64 0, .int .i64 0, .int .i64 0, .slice none 0 0])) (hs : s.size ≤ 1048576) :
    Calls Tryd.prog 27 #[.string s, .func (.func 28) #[] #[.pointer (some ⟨gm, 0, none⟩)]] w fun e w' => RpAnsB s gm w e w' := by
  have hmf : ∀ (fn : Fn) (first cap : Array Value) (w : World), (Instr.makeFunc fn first cap).run Tryd.prog w = .ok (.func fn first cap) w := fun _ _ _ _ => rfl
  have hlt := hm.out.lt
  have H1 : Hid (Bx ((w.alloc (.cells #[.bool false] 4)).alloc (.cells #[.string s, .int .i64 0] 88)) gm 26 [.int .i64 0, .int .i64 0, .int .i64 0, .slice none 0 0]) := (hm.out.stays ((Below.refl w.heap.size w).alloc (Nat.le_refl _) _) hlt).stays ((Below.refl (w.heap.size + 1) _).alloc (by simp) _) (by omega)
  have H2 : Hid (PrAt ((w.alloc (.cells #[.bool false] 4)).alloc (.cells #[.string s, .int .i64 0] 88)) (w.heap.size + 1) s 0) := by
    have := heap_alloc_new (w.alloc (.cells #[.bool false] 4)) (.cells #[.string s, .int .i64 0] 88)
    show PrAt _ _ _ _
    simpa [PrAt] using this
  have H3 : Hid (((w.alloc (.cells #[.bool false] 4)).alloc (.cells #[.string s, .int .i64 0] 88)).heap[w.heap.size]? = some (.cells #[.bool false] 4 (0, 0))) :=
    (((Below.refl (w.heap.size + 1) (w.alloc (.cells #[.bool false] 4))).alloc (by simp) _).block w.heap.size (by omega)).trans (heap_alloc_new w _)
  have H4 : Hid (Below w.heap.size w ((w.alloc (.cells #[.bool false] 4)).alloc (.cells #[.string s, .int .i64 0] 88))) := ((Below.refl _ _).alloc (Nat.le_refl _) _).alloc (by simp) _
  have H5 : Hid (((w.alloc (.cells #[.bool false] 4)).alloc (.cells #[.string s, .int .i64 0] 88)).heap.size = w.heap.size + 2) := by show _ = _; simp
  go_enter_defers Tryd.func27, Tryd.ntmps27
  go_wp2_with fail
  generalize (w.alloc (.cells #[.bool false] 4)).alloc (.cells #[.string s, .int .i64 0] 88) = W at *
  refine (clBundle_any s gm (w.heap.size + 1) W H1 H2 (by omega) hs).mono ?_
  rintro e w1 (⟨rfl, hn, hk⟩ | ⟨f, n, o, A, ts, u, rfl, hq, hl, hi, hv, hp, hk⟩)
  · have hb : w1.heap[w.heap.size]? = some (.cells #[.bool false] 4 (0, 0)) := (hk.block w.heap.size (by have := H5.out; omega) (by omega) (by omega)).trans H3.out
    have hc : w1.cell? ⟨w.heap.size, 0, none⟩ = some (.bool false) := by rw [cell_of_row w1 w.heap.size 0 _ 4 (0, 0) hb]; rfl
    have hf := frozen_of_row w1 w.heap.size 0 _ 4 hb
    refine leaves_cons (f := 63) (args := #[.pointer (some ⟨w.heap.size, 0, none⟩)]) (by simp) (by simp [go_sem]) ?_
    refine (catch_panicking ⟨w.heap.size, 0, none⟩ false _ hc hf).mono ?_
    rintro e u' w'' ⟨rfl, rfl, rfl⟩
    have hsame : (w1.setCell ⟨w.heap.size, 0, none⟩ (.bool false)).cell? ⟨w.heap.size, 0, none⟩ = some (.bool false) := by
      rw [cell_of_row _ w.heap.size 0 _ 4 (0, 0) (heap_setCell_same w1 w.heap.size 0 _ 4 (.bool false) hb)]; rfl
    simp [Leaves, settle, results, Tryd.results27, go_sem, hsame]
    exact .inl ⟨rfl, hn, keep_out H4.out hk ((TurnAt.refl _ _).setCell 0 _)⟩
  · have hb : w1.heap[w.heap.size]? = some (.cells #[.bool false] 4 (0, 0)) := (hk.block w.heap.size (by have := H5.out; omega) (by omega) (by omega)).trans H3.out
    have hc : w1.cell? ⟨w.heap.size, 0, none⟩ = some (.bool false) := by rw [cell_of_row w1 w.heap.size 0 _ 4 (0, 0) hb]; rfl
    have hf := frozen_of_row w1 w.heap.size 0 _ 4 hb
    obtain ⟨c0, c1, _, _⟩ := hp.cells
    have HB : Hid (w1.heap[w.heap.size]? = some (.cells #[.bool false] 4 (0, 0))) := hb
    have HI : Hid (Bx w1 gm 26 [.int .i64 f, .int .i64 n, .int .i64 o, .slice u.a u.n u.c]) := hi
    have HV : Hid (SlI w1 (w.heap.size + 2) u.v ts) := by
      show SlI _ _ _ _
      rw [← H5.out]
      exact hv
    have HK : Hid (Keep2 gm (w.heap.size + 1) W w1) := hk
    have HQ : Hid (bunP s = some ((f, n, o), ts, A)) := hq
    clear hb hi hv hp hk hq H1 H2 H3 H5
    go_wp2_with fail
    have hsame : (w1.setCell ⟨w.heap.size, 0, none⟩ (.bool ((A : Int) == (s.size : Int)))).cell? ⟨w.heap.size, 0, none⟩ = some (.bool ((A : Int) == (s.size : Int))) := by
      rw [cell_of_row _ w.heap.size 0 _ 4 (0, 0) (heap_setCell_same w1 w.heap.size 0 _ 4 _ HB.out)]; rfl
    refine leaves_cons (f := 63) (args := #[.pointer (some ⟨w.heap.size, 0, none⟩)]) (by simp) (by simp [go_sem]) ?_
    refine (catch_idle ⟨w.heap.size, 0, none⟩ _).mono ?_
    rintro e u' w'' ⟨rfl, rfl, rfl⟩
    simp [Leaves, settle, results, Tryd.results27, go_sem, hsame]
    exact .inr ⟨f, n, o, A, ts, u, rfl, HQ.out, hl, HI.out.keepb ((TurnAt.refl w.heap.size w1).setCell 0 _).keep (by omega), (HV.out.keepg ((TurnAt.refl w.heap.size w1).setCell 0 _).keep (by omega)).down (by omega), keep_out H4.out HK.out ((TurnAt.refl _ _).setCell 0 _)⟩

end Go.Proofs.YtlflcjdpdbdbkaaDoor

/- The walk over the program's ReadBundle. -/
namespace Go.Proofs.YtlflcjdpdbdbkaaDoor
open Go.RowKit Pl
set_option linter.unusedVariables false
set_option linter.unusedSimpArgs false

/-- both Unsealed, at whatever text. -/
theorem un_two (t : ByteArray) (ht : t.size ≤ 1048576) : ∃ (s : ByteArray) (k : Bool), s.size ≤ 20000 ∧ ((k = true ∧ t = sealS s) ∨ (k = false ∧ s = ByteArray.empty ∧ ∀ s : ByteArray, s.size ≤ 20000 → t ≠ sealS s)) ∧
    (∀ w, Hid (Tab w) → Calls Tryd.prog 26 #[.string t] w fun e w' => e = .returned (.tuple #[.string s, .bool k]) ∧ Below w.heap.size w w') ∧
    (∀ w, Calls Tryd.prog 41 #[.string t] w fun e w' => e = .returned (.tuple #[.string s, .bool k]) ∧ Below w.heap.size w w') := by
  rcases seal_cases t with ⟨s, hs, rfl⟩ | ⟨h, hn⟩
  · obtain ⟨h1, h2⟩ := good_seal s
    have hz := sealS_size s
    rw [hz, Nat.add_sub_cancel] at h2
    refine ⟨s, true, hs, .inl ⟨rfl, rfl⟩, fun w htab => ?_, fun w => ?_⟩
    · have := implUn_yes (sealS s) s.size w hz hs htab h1
      rw [h2] at this
      exact this
    · have := specUn_yes (sealS s) s.size w hz hs h1
      rw [h2] at this
      exact this
  · refine ⟨ByteArray.empty, false, by decide, .inr ⟨rfl, rfl, hn⟩, fun w htab => ?_, fun w => ?_⟩
    · rcases h with h | h | ⟨n, h1, h2, h3⟩
      · exact implUn_short t w h
      · exact implUn_long t w h ht
      · exact implUn_no t n w h1 h2 htab h3
    · rcases h with h | h | ⟨n, h1, h2, h3⟩
      · exact specUn_short t w h
      · exact specUn_long t w h ht
      · exact specUn_no t n w h1 h2 h3


set_option maxRecDepth 100000 in
set_option maxHeartbeats 8000000 in
theorem readBundle_any (t : ByteArray) (w : World) (hs : t.size ≤ 1048576) (htab : Hid (Tab w)) :
    Calls Tryd.prog 9 #[.string t] w fun e w' => ∃ (f n o : Nat) (ts : List It) (k : Bool) (u : Sv), e = .returned (.tuple #[.agg #[.int .i64 f, .int .i64 n, .int .i64 o, .slice u.a u.n u.c], .bool k]) ∧ AnsB t f n o ts k ∧ SlI w' w.heap.size u.v ts ∧ Below w.heap.size w w' := by
  have hmf : ∀ (fn : Fn) (first cap : Array Value) (w : World), (Instr.makeFunc fn first cap).run Tryd.prog w = .ok (.func fn first cap) w := fun _ _ _ _ => rfl
  obtain ⟨s, k, hs20, hcase, himpl, _⟩ := un_two t hs
  have HIMPL : Hid _ := himpl
  have R0 : Hid (Bx (w.alloc (.cells #[.int .i64 0, .int .i64 0, .int .i64 0, .slice none 0 0] 26)) w.heap.size 26 [.int .i64 0, .int .i64 0, .int .i64 0, .slice none 0 0]) := Bx.new w 26 _
  have B0 : Hid (Below w.heap.size w (w.alloc (.cells #[.int .i64 0, .int .i64 0, .int .i64 0, .slice none 0 0] 26))) := (Below.refl _ _).alloc (Nat.le_refl _) _
  clear himpl
  go_enter Tryd.func9, Tryd.ntmps9
  go_wp2_with fail
  generalize (w.alloc (.cells #[.int .i64 0, .int .i64 0, .int .i64 0, .slice none 0 0] 26)) = W0 at *
  have T0 : Hid (Tab W0) := htab.out.below B0.out
  refine (HIMPL.out _ T0).mono ?_
  rintro e w1 ⟨rfl, hb1⟩
  have R1 : Hid (Bx w1 w.heap.size 26 [.int .i64 0, .int .i64 0, .int .i64 0, .slice none 0 0]) := R0.out.later hb1
  have B1 : Hid (Below w.heap.size w w1) := bl_nxt B0.out hb1
  clear hb1 R0 B0 HIMPL
  rcases hcase with ⟨rfl, hseal⟩ | ⟨rfl, _, hopen⟩
  case inr =>
    have HO : Hid _ := hopen
    clear hopen
    go_wp2_with (first | (with_reducible refine wpList_haltS 26 _ _ rfl ?_))
    refine Stp.go ?_
    refine wpList_stB rfl 26 _ _ rfl w.heap.size 0 rfl 26 _ R1.out [.int .i64 0, .int .i64 0, .int .i64 0, .slice none 0 0] rfl (by simp) Tryd.sizeBu rfl [.int .i64 0, .int .i64 0, .int .i64 0, .slice none 0 0] rfl ?_
    intro W9 R9 T9
    have B9 : Hid (Below w.heap.size w W9) := B1.out.trans (T9.below (Nat.le_refl _))
    clear T9
    go_wp2_with fail
    refine bodyPost_ret (results_bt Tryd.results9 w.heap.size 26 [.int .i64 0, .int .i64 0, .int .i64 0, .slice none 0 0] _ rfl R9 Tryd.underlying26 rfl Tryd.sizeBu) rfl ?_
    exact ⟨0, 0, 0, [], false, ⟨none, 0, 0⟩, rfl, ansB_open HO.out, SlI.zero _ _, B9.out⟩
  case inl =>
    have HS : Hid (t = sealS s) := hseal
    clear hseal
    have hN1 := R1.out.lt
    have D1 : Below w1.heap.size w1 (w1.alloc (.cells #[.int .i64 0, .int .i64 0, .int .i64 0, .slice none 0 0] 26)) := (Below.refl _ _).alloc (Nat.le_refl _) _
    have R2 : Hid (Bx (w1.alloc (.cells #[.int .i64 0, .int .i64 0, .int .i64 0, .slice none 0 0] 26)) w.heap.size 26 [.int .i64 0, .int .i64 0, .int .i64 0, .slice none 0 0]) := R1.out.later D1
    have M2 : Hid (Bx (w1.alloc (.cells #[.int .i64 0, .int .i64 0, .int .i64 0, .slice none 0 0] 26)) w1.heap.size 26 [.int .i64 0, .int .i64 0, .int .i64 0, .slice none 0 0]) := Bx.new w1 26 _
    have B2 : Hid (Below w.heap.size w (w1.alloc (.cells #[.int .i64 0, .int .i64 0, .int .i64 0, .slice none 0 0] 26))) := bl_nxt B1.out D1
    clear D1
    go_wp2_with fail
    generalize (w1.alloc (.cells #[.int .i64 0, .int .i64 0, .int .i64 0, .slice none 0 0] 26)) = W1 at *
    generalize w1.heap.size = gm at *
    clear R1 B1
    refine (readPB_any s gm W1 M2 (by omega)).mono ?_
    rintro e w2 (⟨rfl, hn, hk⟩ | ⟨f, n, o, A, ts, u, rfl, hq, hl, hi, hv, hk⟩)
    · have R3 : Hid (Bx w2 w.heap.size 26 [.int .i64 0, .int .i64 0, .int .i64 0, .slice none 0 0]) := R2.out.keepb hk (by omega)
      have B3 : Hid (Below w.heap.size w w2) := B2.out.trans (hk.below (by omega) B2.out.size)
      have HN : Hid (bunP s = none) := hn
      clear hn hk R2 B2 M2
      go_wp2_with (first | (with_reducible refine wpList_haltS 26 _ _ rfl ?_))
      refine Stp.go ?_
      refine wpList_stB rfl 26 _ _ rfl w.heap.size 0 rfl 26 _ R3.out [.int .i64 0, .int .i64 0, .int .i64 0, .slice none 0 0] rfl (by simp) Tryd.sizeBu rfl [.int .i64 0, .int .i64 0, .int .i64 0, .slice none 0 0] rfl ?_
      intro W9 R9 T9
      have B9 : Hid (Below w.heap.size w W9) := B3.out.trans (T9.below (Nat.le_refl _))
      clear T9
      go_wp2_with fail
      refine bodyPost_ret (results_bt Tryd.results9 w.heap.size 26 [.int .i64 0, .int .i64 0, .int .i64 0, .slice none 0 0] _ rfl R9 Tryd.underlying26 rfl Tryd.sizeBu) rfl ?_
      exact ⟨0, 0, 0, [], false, ⟨none, 0, 0⟩, rfl, by rw [HS.out]; exact (ansV_none HN.out).seal, SlI.zero _ _, B9.out⟩
    · have R3 : Hid (Bx w2 w.heap.size 26 [.int .i64 0, .int .i64 0, .int .i64 0, .slice none 0 0]) := R2.out.keepb hk (by omega)
      have B3 : Hid (Below w.heap.size w w2) := B2.out.trans (hk.below (by omega) B2.out.size)
      have HQ : Hid (bunP s = some ((f, n, o), ts, A)) := hq
      have M3 : Hid (Bx w2 gm 26 [.int .i64 f, .int .i64 n, .int .i64 o, .slice u.a u.n u.c]) := hi
      have V3 : Hid (SlI w2 w.heap.size u.v ts) := hv.down B2.out.size
      clear hq hk hi hv R2 B2 M2
      by_cases hA : A = s.size
      · have hb : ((A : Int) == (s.size : Int)) = true := by rw [hA]; simp
        rw [hb]
        have HA : Hid (A = s.size) := hA
        have c0 := M3.out.cell 0
        have c1 := M3.out.cell 1
        have c2 := M3.out.cell 2
        have c3 := M3.out.cell 3
        simp only [List.getElem?_cons_succ, List.getElem?_cons_zero] at c0 c1 c2 c3
        clear hb hA
        go_wp2_with fail
        have hct := bundleOk_r f n o u ts w2 V3.out.rit hl
        cases ho : bunB f n o ts with
        | true =>
          have HO : Hid (BnOk f n o ts) := ho
          rw [ho] at hct
          refine hct.mono ?_
          rintro e w3 ⟨rfl, hb3⟩
          have R4 : Hid (Bx w3 w.heap.size 26 [.int .i64 0, .int .i64 0, .int .i64 0, .slice none 0 0]) := R3.out.later hb3
          have M4 : Hid (Bx w3 gm 26 [.int .i64 f, .int .i64 n, .int .i64 o, .slice u.a u.n u.c]) := M3.out.later hb3
          have B4 : Hid (Below w.heap.size w w3) := bl_nxt B3.out hb3
          have V4 : Hid (SlI w3 w.heap.size u.v ts) := V3.out.below hb3
          clear ho hb3 hct R3 M3 B3 V3 c0 c1 c2 c3
          have c0 := M4.out.cell 0
          have c1 := M4.out.cell 1
          have c2 := M4.out.cell 2
          have c3 := M4.out.cell 3
          simp only [List.getElem?_cons_succ, List.getElem?_cons_zero] at c0 c1 c2 c3
          go_wp2_with (first | (with_reducible refine wpList_haltS 26 _ _ rfl ?_))
          refine Stp.go ?_
          refine wpList_stB rfl 26 _ _ rfl w.heap.size 0 rfl 26 _ R4.out [.int .i64 f, .int .i64 n, .int .i64 o, .slice u.a u.n u.c] rfl (by simp) Tryd.sizeBu rfl [.int .i64 f, .int .i64 n, .int .i64 o, .slice u.a u.n u.c] rfl ?_
          intro W9 R9 T9
          have B9 : Hid (Below w.heap.size w W9) := B4.out.trans (T9.below (Nat.le_refl _))
          have O9 : Hid (SlI W9 w.heap.size u.v ts) := V4.out.past R4.out T9 (by decide)
          clear T9 c0 c1 c2 c3
          go_wp2_with fail
          refine bodyPost_ret (results_bt Tryd.results9 w.heap.size 26 [.int .i64 f, .int .i64 n, .int .i64 o, .slice u.a u.n u.c] _ rfl R9 Tryd.underlying26 rfl Tryd.sizeBu) rfl ?_
          exact ⟨f, n, o, ts, true, u, rfl, by rw [HS.out]; exact (ansV_good (by rw [← HA.out]; exact HQ.out) HO.out).seal, O9.out, B9.out⟩
        | false =>
          have HO : Hid (¬ BnOk f n o ts) := by
            show ¬ _
            unfold BnOk
            rw [ho]
            exact Bool.false_ne_true
          rw [ho] at hct
          refine hct.mono ?_
          rintro e w3 ⟨rfl, hb3⟩
          have R4 : Hid (Bx w3 w.heap.size 26 [.int .i64 0, .int .i64 0, .int .i64 0, .slice none 0 0]) := R3.out.later hb3
          have B4 : Hid (Below w.heap.size w w3) := bl_nxt B3.out hb3
          clear ho hb3 hct R3 M3 B3 V3 c0 c1 c2 c3
          go_wp2_with (first | (with_reducible refine wpList_haltS 26 _ _ rfl ?_))
          refine Stp.go ?_
          refine wpList_stB rfl 26 _ _ rfl w.heap.size 0 rfl 26 _ R4.out [.int .i64 0, .int .i64 0, .int .i64 0, .slice none 0 0] rfl (by simp) Tryd.sizeBu rfl [.int .i64 0, .int .i64 0, .int .i64 0, .slice none 0 0] rfl ?_
          intro W9 R9 T9
          have B9 : Hid (Below w.heap.size w W9) := B4.out.trans (T9.below (Nat.le_refl _))
          clear T9
          go_wp2_with fail
          refine bodyPost_ret (results_bt Tryd.results9 w.heap.size 26 [.int .i64 0, .int .i64 0, .int .i64 0, .slice none 0 0] _ rfl R9 Tryd.underlying26 rfl Tryd.sizeBu) rfl ?_
          exact ⟨0, 0, 0, [], false, ⟨none, 0, 0⟩, rfl, by rw [HS.out]; exact (ansV_bad HQ.out (.inr HO.out)).seal, SlI.zero _ _, B9.out⟩
      · have hb : ((A : Int) == (s.size : Int)) = false := by simp; omega
        rw [hb]
        have HA : Hid (A ≠ s.size) := hA
        clear hA hb M3 V3
        go_wp2_with (first | (with_reducible refine wpList_haltS 26 _ _ rfl ?_))
        refine Stp.go ?_
        refine wpList_stB rfl 26 _ _ rfl w.heap.size 0 rfl 26 _ R3.out [.int .i64 0, .int .i64 0, .int .i64 0, .slice none 0 0] rfl (by simp) Tryd.sizeBu rfl [.int .i64 0, .int .i64 0, .int .i64 0, .slice none 0 0] rfl ?_
        intro W9 R9 T9
        have B9 : Hid (Below w.heap.size w W9) := B3.out.trans (T9.below (Nat.le_refl _))
        clear T9
        go_wp2_with fail
        refine bodyPost_ret (results_bt Tryd.results9 w.heap.size 26 [.int .i64 0, .int .i64 0, .int .i64 0, .slice none 0 0] _ rfl R9 Tryd.underlying26 rfl Tryd.sizeBu) rfl ?_
        exact ⟨0, 0, 0, [], false, ⟨none, 0, 0⟩, rfl, by rw [HS.out]; exact (ansV_bad HQ.out (.inl HA.out)).seal, SlI.zero _ _, B9.out⟩
end Go.Proofs.YtlflcjdpdbdbkaaDoor

/- The draws that the law on bundles begins with. -/
namespace Go.Proofs.YtlflcjdpdbdbkaaDoor
open Go.RowKit Pl
set_option linter.unusedVariables false
set_option linter.unusedSimpArgs false

set_option maxRecDepth 100000 in
set_option maxHeartbeats 1000000 in
theorem same_same (v1 v2 : Value) (ts : List It) (B1 B2 : Nat) (w : World) (h1 : SlI w B1 v1 ts) (h2 : SlI w B2 v2 ts) (hl : ts.length ≤ 1048576) :
    Calls Tryd.prog 13 #[v1, v2] w fun e w' => e = .returned (.bool true) ∧ Below w.heap.size w w' := by
  obtain ⟨a1, c1, rfl, x1⟩ := h1.items
  obtain ⟨a2, c2, rfl, x2⟩ := h2.items
  have X1 : Hid (ItemsAt w a1 ts) := x1
  have X2 : Hid (ItemsAt w a2 ts) := x2
  clear h1 h2 x1 x2
  go_enter Tryd.func13, Tryd.ntmps13
  go_wp2_with fail
  go_loopw [5] (fun i wr => ∃ k : Nat, k ≤ ts.length ∧ i = .int .i64 k ∧ Hid (Below w.heap.size w wr)) (fun i _ => ts.length - (intOf i).toNat)
  case atStart => exact ⟨0, by omega, rfl, Below.refl _ _⟩
  case round =>
    obtain ⟨k, hk, rfl, hb⟩ := hrel
    by_cases hlt : k < ts.length
    · obtain ⟨b1, off1, rfl, hbb1, h0, h1, h2, h3⟩ := X1.out.stays hb.out k hlt
      obtain ⟨b2, off2, rfl, hbb2, g0, g1, g2, g3⟩ := X2.out.stays hb.out k hlt
      have HP : Hid (∃ x : It, x = ts[k]) := ⟨_, rfl⟩
      obtain ⟨⟨q, f, lv, tx⟩, hp⟩ := HP.out
      rw [← hp] at h0 h1 h2 h3 g0 g1 g2 g3
      clear hp HP
      dsimp only at h0 h1 h2 h3 g0 g1 g2 g3
      have i0 : (0 : Int) ≤ (k : Int) := by omega
      have i1 : (k : Int) < (ts.length : Int) := by omega
      go_wp2_with fail
      go_region
      have B1 : Hid (Below w.heap.size w wr.drew) := hb.out.drew
      clear h0 h1 h2 h3 g0 g1 g2 g3
      generalize wr.drew = W1 at *
      go_wp2_with fail
      go_roundw
      case rel => exact ⟨k + 1, by omega, by go_num, B1⟩
      case measure => simp [intOf]; omega
    · go_wp2_with fail
      go_ret
      exact ⟨rfl, hb.out⟩
set_option maxRecDepth 100000 in
set_option maxHeartbeats 2000000 in
theorem drawBT_any (w : World) (n cap : Nat) (ao : Option Addr) (hn : n ≤ 1048576) (hk : Hid (CodeAt w w.heap.size ao n)) :
    Calls Tryd.prog 7 #[.slice ao n cap] w fun e w' => (∃ (f k o : Int) (u : Sv) (ts : List It), e = .returned (.agg #[.int .i64 f, .int .i64 k, .int .i64 o, .slice u.a u.n u.c]) ∧ SlI w' w.heap.size u.v ts ∧ ts.length ≤ 10) ∧ Below w.heap.size w w' := by
  have HB0 : Hid (Below w.heap.size w (w.alloc (.cells #[.int .i64 0, .int .i64 0, .int .i64 0, .slice none 0 0] 26))) := (Below.refl _ _).alloc (Nat.le_refl _) _
  have R0 : Hid (Bx (w.alloc (.cells #[.int .i64 0, .int .i64 0, .int .i64 0, .slice none 0 0] 26)) w.heap.size 26 [.int .i64 0, .int .i64 0, .int .i64 0, .slice none 0 0]) := Bx.new w 26 _
  go_enter Tryd.func7, Tryd.ntmps7
  go_wp2_with fail
  generalize w.alloc (.cells #[.int .i64 0, .int .i64 0, .int .i64 0, .slice none 0 0] 26) = W0 at *
  have hW0 := R0.out.lt
  have K0 : Hid (CodeAt W0 w.heap.size ao n) := hk.out.stays HB0.out (Nat.le_refl _)
  refine (new_any W0 n cap ao hn (code_up K0.out (Nat.le_of_lt hW0))).mono ?_
  rintro e w1 ⟨rfl, hc1, hb1, hs1⟩
  have R1 : Hid (Bx w1 w.heap.size 26 [.int .i64 0, .int .i64 0, .int .i64 0, .slice none 0 0]) := R0.out.later hb1
  have D1 : Hid (Drw w1 w1 w.heap.size W0.heap.size ao n cap) := Drw.start hc1.out (K0.out.stays hb1 (Nat.le_of_lt hW0))
  have B1 : Hid (Below w.heap.size w w1) := HB0.out.trans (hb1.mono HB0.out.size)
  clear hc1 hb1 R0 K0 HB0 hk
  go_wp2_with fail
  generalize W0.heap.size = gc at *
  refine (anyBundle_any w1 w1 w.heap.size gc n cap ao hn (by omega) D1).mono ?_
  rintro e w2 ⟨⟨f, k, o, s, ts, rfl, hv, hl⟩, hd2⟩
  have R2 : Hid (Bx w2 w.heap.size 26 [.int .i64 0, .int .i64 0, .int .i64 0, .slice none 0 0]) := R1.out.keepb hd2.out.2.2 (by omega)
  have B2 : Hid (Below w.heap.size w w2) := B1.out.trans (hd2.out.2.2.below (by omega) B1.out.size)
  have V2 : Hid (SlI w2 w.heap.size s.v ts) := hv.down B1.out.size
  clear hd2 D1 R1 B1 hv
  go_wp2_with (first | (with_reducible refine wpList_haltS 26 _ _ rfl ?_))
  refine Stp.go ?_
  refine wpList_stB rfl 26 _ _ rfl w.heap.size 0 rfl 26 _ R2.out [.int .i64 f, .int .i64 k, .int .i64 o, .slice s.a s.n s.c] rfl (by simp) Tryd.sizeBu rfl [.int .i64 f, .int .i64 k, .int .i64 o, .slice s.a s.n s.c] rfl ?_
  intro W9 R9 T9
  have B9 : Hid (Below w.heap.size w W9) := B2.out.trans (T9.below (Nat.le_refl _))
  have V9 : Hid (SlI W9 w.heap.size s.v ts) := V2.out.past R2.out T9 (by decide)
  clear T9
  go_wp2_with fail
  refine bodyPost_ret (results_b Tryd.results7 w.heap.size 26 [.int .i64 f, .int .i64 k, .int .i64 o, .slice s.a s.n s.c] _ rfl R9 Tryd.underlying26 rfl Tryd.sizeBu) rfl ?_
  exact ⟨⟨f, k, o, s, ts, rfl, V9.out, hl⟩, B9.out⟩

set_option maxRecDepth 100000 in
set_option maxHeartbeats 2000000 in
theorem drawRB_any (w : World) (n cap : Nat) (ao : Option Addr) (hn : n ≤ 1048576) (hk : Hid (CodeAt w w.heap.size ao n)) :
    Calls Tryd.prog 14 #[.slice ao n cap] w fun e w' => (∃ t : ByteArray, t.size ≤ 9000 ∧ e = .returned (.string t)) ∧ Below w.heap.size w w' := by
  go_enter Tryd.func14, Tryd.ntmps14
  go_wp2_with fail
  refine (new_any w n cap ao hn hk).mono ?_
  rintro e w1 ⟨rfl, hc1, hb1, hs1⟩
  have D1 : Hid (Drw w1 w1 w.heap.size w.heap.size ao n cap) := Drw.start hc1.out (hk.out.stays hb1 (Nat.le_refl _))
  have B1 : Hid (Below w.heap.size w w1) := hb1
  clear hc1 hb1 hk
  go_wp2_with fail
  refine (anyBundle_any w1 w1 w.heap.size w.heap.size n cap ao hn (Nat.le_refl _) D1).mono ?_
  rintro e w2 ⟨⟨f, k, o, s, ts, rfl, hv, hl⟩, hd2⟩
  clear D1
  have X2 : Hid (RIt w2 s ts) := SlI.rit hv
  obtain ⟨T, kk, hT, _, _, _, hsp⟩ := bundleText_two f k o ts (by omega)
  have HSP : Hid _ := hsp
  clear hsp hv
  go_wp2_with fail
  refine (HSP.out _ s X2).mono ?_
  rintro e w3 ⟨rfl, hb3⟩
  have D3 : Hid (Drw w1 w3 w.heap.size w.heap.size ao n cap) := hd2.out.step (Nat.le_refl _) hb3
  clear hd2 hb3 HSP X2
  go_wp2_with fail
  refine (once_any w1 _ w.heap.size w.heap.size n cap 3 ao hn (Nat.le_refl _) (by omega) (by omega) D3).mono ?_
  rintro e w4 ⟨⟨bo, rfl⟩, hd4⟩
  clear D3
  cases bo with
  | false =>
    go_wp2_with fail
    refine (spoilt_big w1 _ w.heap.size w.heap.size n cap ao T hn (Nat.le_refl _) (by omega) hd4).mono ?_
    rintro e w5 ⟨⟨u, hu, rfl⟩, hd5⟩
    clear hd4
    go_wp2_with fail
    go_ret
    exact ⟨⟨u, by omega, rfl⟩, B1.out.trans (hd5.out.2.2.below (Nat.le_refl _) B1.out.size)⟩
  | true =>
    obtain ⟨s', k2, hs20, hcase, _, hspec⟩ := un_two T (by omega)
    have HSPEC : Hid _ := hspec
    clear hspec
    go_wp2_with fail
    refine (HSPEC.out _).mono ?_
    rintro e w5 ⟨rfl, hb5⟩
    have D5 : Hid (Drw w1 w5 w.heap.size w.heap.size ao n cap) := hd4.out.step (Nat.le_refl _) hb5
    clear hd4 hb5 HSPEC
    rcases hcase with ⟨rfl, hseal⟩ | ⟨rfl, _, _⟩
    · have hss : s'.size ≤ 5000 := by
        have := sealS_size s'
        rw [← hseal] at this
        omega
      clear hseal
      go_wp2_with fail
      refine (spoilt_big w1 _ w.heap.size w.heap.size n cap ao s' hn (Nat.le_refl _) (by omega) D5).mono ?_
      rintro e w6 ⟨⟨u, hu, rfl⟩, hd6⟩
      clear D5
      go_wp2_with fail
      refine (specSeal_any u _ (by omega)).mono ?_
      rintro e w7 ⟨rfl, hb7⟩
      have hz7 := sealS_size u
      have B6 : Below w.heap.size w w6 := B1.out.trans (hd6.out.2.2.below (Nat.le_refl _) B1.out.size)
      clear hd6
      go_wp2_with fail
      go_ret
      exact ⟨⟨_, by rw [hz7]; omega, rfl⟩, B6.trans (hb7.mono B6.size)⟩
    · go_wp2_with fail
      go_ret
      exact ⟨⟨T, by omega, rfl⟩, B1.out.trans (D5.out.2.2.below (Nat.le_refl _) B1.out.size)⟩
end Go.Proofs.YtlflcjdpdbdbkaaDoor

