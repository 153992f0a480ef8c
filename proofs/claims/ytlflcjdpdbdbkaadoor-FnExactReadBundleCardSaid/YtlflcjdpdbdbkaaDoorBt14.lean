/- The specification's BundleText at a right bundle. -/
import Derived.Test.YtlflcjdpdbdbkaaDoorBt13
import Derived.Deep.RegionHeld
namespace Go.Proofs.YtlflcjdpdbdbkaaDoor
open Go.RowKit Pl
set_option linter.unusedVariables false
set_option linter.unusedSimpArgs false

theorem owt_bx_ne {w : World} {B g T e : Nat} {v : Value} {s : ByteArray} {cs : List Value} (h : OwT w B e v s) (hB : Bx w g T cs) (hT : T ≠ e) : v.ownBlock ≠ some g := by
  obtain ⟨k, cap, cur, fz, rfl, _, hk, _⟩ := h
  intro e
  cases e
  unfold Bx at hB
  rw [hk] at hB
  simp at hB
  exact hT hB.2.1.symm

set_option maxRecDepth 100000 in
set_option maxHeartbeats 8000000 in
theorem spBundleText_yes (f n o : Nat) (ao : Option Addr) (cap : Nat) (ts : List It) (w : World) (hx : Hid (ItemsAt w ao ts)) (ho : Hid (BnOk f n o ts)) :
    Calls Tryd.prog 10 #[.agg #[.int .i64 f, .int .i64 n, .int .i64 o, .slice ao ts.length cap]] w fun e w' => e = .returned (.tuple #[.string (sealS (bunS f n o ts)), .bool true]) ∧ Below w.heap.size w w' := by
  obtain ⟨n1, n2, n3, n4, n5⟩ := ho.out.nats
  have N5 : Hid (∀ x ∈ ts, itB x.1 x.2.1 x.2.2.1 x.2.2.2 = true) := n5
  have z0 : (varS ts.length).size ≤ 5 := by rw [rt_size, varS_list]; exact varL_len (by omega)
  clear n5
  have y1 := byteS_size f
  have y2 := byteS_size n
  have y3 := byteS_size o
  have m1 : ¬9223372036854775807 < (byteS f).size + (byteS n).size := by omega
  have m2 : ¬9223372036854775807 < (byteS f ++ byteS n).size + (byteS o).size := by rw [ByteArray.size_append]; omega
  have m3 : ¬9223372036854775807 < (byteS f ++ byteS n ++ byteS o).size + (varS ts.length).size := by rw [ByteArray.size_append, ByteArray.size_append]; omega
  have hB : Hid (Below w.heap.size w (w.alloc (.cells #[.int .i64 f, .int .i64 n, .int .i64 o, .slice ao ts.length cap] 26))) := (Below.refl _ _).alloc (Nat.le_refl _) _
  have HT : Hid (Bx (w.alloc (.cells #[.int .i64 f, .int .i64 n, .int .i64 o, .slice ao ts.length cap] 26)) w.heap.size 26 [.int .i64 f, .int .i64 n, .int .i64 o, .slice ao ts.length cap]) := Bx.new w 26 _
  have hX : Hid (ItemsAt (w.alloc (.cells #[.int .i64 f, .int .i64 n, .int .i64 o, .slice ao ts.length cap] 26)) ao ts) := hx.out.stays hB.out
  have HK : Hid (bunB f n o ts = true) := ho.out
  go_enter Tryd.func10, Tryd.ntmps10
  go_wp2_with fail
  generalize w.alloc (.cells #[.int .i64 f, .int .i64 n, .int .i64 o, .slice ao ts.length cap] 26) = W0 at *
  refine (spBundleOk_is _ hX (by omega) HK.out).mono ?_
  rintro e W ⟨rfl, hb1⟩
  have HT : Hid (Bx W w.heap.size 26 [.int .i64 f, .int .i64 n, .int .i64 o, .slice ao ts.length cap]) := HT.out.later hb1
  have hB : Hid (Below w.heap.size w W) := bl_nxt hB.out hb1
  clear hb1 hX HK
  go_wp2_with fail
  have KEEP : Hid (∀ w', Below W.heap.size W w' → (w'.cell? ⟨w.heap.size, 0, none⟩ = some (.int .i64 f) ∧ w'.cell? ⟨w.heap.size, 1, none⟩ = some (.int .i64 n) ∧ w'.cell? ⟨w.heap.size, 2, none⟩ = some (.int .i64 o) ∧ w'.cell? ⟨w.heap.size, 3, none⟩ = some (.slice ao ts.length cap)) ∧ Hid (Below W.heap.size W w')) := fun w' hb => ⟨⟨(HT.out.later hb).cell 0, (HT.out.later hb).cell 1, (HT.out.later hb).cell 2, (HT.out.later hb).cell 3⟩, hb⟩
  have c : Below W.heap.size W W.drew := (Below.refl _ _).drew
  refine wp_region_held_drew (S := fun w' => (w'.cell? ⟨w.heap.size, 0, none⟩ = some (.int .i64 f) ∧ w'.cell? ⟨w.heap.size, 1, none⟩ = some (.int .i64 n) ∧ w'.cell? ⟨w.heap.size, 2, none⟩ = some (.int .i64 o) ∧ w'.cell? ⟨w.heap.size, 3, none⟩ = some (.slice ao ts.length cap)) ∧ Hid (Below W.heap.size W w')) (by kernel_rfl) (KEEP.out _ c) (fun hHeld => ?_)
  refine wpAnyH_take (i := 0) (v := ?v0) rfl (by kernel_rfl) (by kernel_rfl) (by kernel_rfl) (fun _ _ _ h => h) (Or.inl ⟨by rfl, ?hy0⟩) (by assumption) ?_
  case hy0 => (intro w hSw; (try dsimp only at hSw); simp only [List.getElem_toArray, List.getElem_cons_zero, List.getElem_cons_succ]; go_simp; try with_reducible rfl)
  try simp only [Act.put, List.getElem_toArray, List.getElem_cons_zero, List.getElem_cons_succ, List.setIfInBounds_toArray, List.set_cons_zero, List.set_cons_succ]
  refine wpAnyH_take (i := 1) (v := ?v1) rfl (by kernel_rfl) (by kernel_rfl) (by kernel_rfl) (fun _ _ _ h => h) (Or.inl ⟨by rfl, ?hy1⟩) (by assumption) ?_
  case hy1 => (intro w hSw; (try dsimp only at hSw); simp only [List.getElem_toArray, List.getElem_cons_zero, List.getElem_cons_succ]; go_simp; try with_reducible rfl)
  try simp only [Act.put, List.getElem_toArray, List.getElem_cons_zero, List.getElem_cons_succ, List.setIfInBounds_toArray, List.set_cons_zero, List.set_cons_succ]
  refine wpAnyH_take (i := 3) (v := ?v3) rfl (by kernel_rfl) (by kernel_rfl) (by kernel_rfl) (fun _ _ _ h => h) (Or.inl ⟨by rfl, ?hy3⟩) (by assumption) ?_
  case hy3 => (intro w hSw; (try dsimp only at hSw); simp only [List.getElem_toArray, List.getElem_cons_zero, List.getElem_cons_succ]; go_simp; try with_reducible rfl)
  try simp only [Act.put, List.getElem_toArray, List.getElem_cons_zero, List.getElem_cons_succ, List.setIfInBounds_toArray, List.set_cons_zero, List.set_cons_succ]
  refine wpAnyH_take (i := 4) (v := ?v4) rfl (by kernel_rfl) (by kernel_rfl) (by kernel_rfl) (fun _ _ _ h => h) (Or.inl ⟨by rfl, ?hy4⟩) (by assumption) ?_
  case hy4 => (intro w hSw; (try dsimp only at hSw); simp only [List.getElem_toArray, List.getElem_cons_zero, List.getElem_cons_succ]; go_simp; try with_reducible rfl)
  try simp only [Act.put, List.getElem_toArray, List.getElem_cons_zero, List.getElem_cons_succ, List.setIfInBounds_toArray, List.set_cons_zero, List.set_cons_succ]
  refine wpAnyH_take (i := 7) (v := ?v7) rfl (by kernel_rfl) (by kernel_rfl) (by kernel_rfl) (fun _ _ _ h => h) (Or.inl ⟨by rfl, ?hy7⟩) (by assumption) ?_
  case hy7 => (intro w hSw; (try dsimp only at hSw); simp only [List.getElem_toArray, List.getElem_cons_zero, List.getElem_cons_succ]; go_simp; try with_reducible rfl)
  try simp only [Act.put, List.getElem_toArray, List.getElem_cons_zero, List.getElem_cons_succ, List.setIfInBounds_toArray, List.set_cons_zero, List.set_cons_succ]
  refine wpAnyH_take (i := 8) (v := ?v8) rfl (by kernel_rfl) (by kernel_rfl) (by kernel_rfl) (fun _ _ _ h => h) (Or.inl ⟨by rfl, ?hy8⟩) (by assumption) ?_
  case hy8 => (intro w hSw; (try dsimp only at hSw); simp only [List.getElem_toArray, List.getElem_cons_zero, List.getElem_cons_succ]; go_simp; try with_reducible rfl)
  try simp only [Act.put, List.getElem_toArray, List.getElem_cons_zero, List.getElem_cons_succ, List.setIfInBounds_toArray, List.set_cons_zero, List.set_cons_succ]
  refine wpAnyH_take (i := 11) (v := ?v11) rfl (by kernel_rfl) (by kernel_rfl) (by kernel_rfl) (fun _ _ _ h => h) (Or.inl ⟨by rfl, ?hy11⟩) (by assumption) ?_
  case hy11 => (intro w hSw; (try dsimp only at hSw); simp only [List.getElem_toArray, List.getElem_cons_zero, List.getElem_cons_succ]; go_simp; try with_reducible rfl)
  try simp only [Act.put, List.getElem_toArray, List.getElem_cons_zero, List.getElem_cons_succ, List.setIfInBounds_toArray, List.set_cons_zero, List.set_cons_succ]
  refine wpAnyH_take (i := 12) (v := ?v12) rfl (by kernel_rfl) (by kernel_rfl) (by kernel_rfl) (fun _ _ _ h => h) (Or.inl ⟨by rfl, ?hy12⟩) (by assumption) ?_
  case hy12 => (intro w hSw; (try dsimp only at hSw); simp only [List.getElem_toArray, List.getElem_cons_zero, List.getElem_cons_succ]; go_simp; try with_reducible rfl)
  try simp only [Act.put, List.getElem_toArray, List.getElem_cons_zero, List.getElem_cons_succ, List.setIfInBounds_toArray, List.set_cons_zero, List.set_cons_succ]
  refine wpAnyH_take (i := 13) (v := ?v13) rfl (by kernel_rfl) (by kernel_rfl) (by kernel_rfl) (fun _ _ _ h => h) (Or.inl ⟨by rfl, ?hy13⟩) (by assumption) ?_
  case hy13 => (intro w hSw; (try dsimp only at hSw); simp only [List.getElem_toArray, List.getElem_cons_zero, List.getElem_cons_succ]; go_simp; try with_reducible rfl)
  try simp only [Act.put, List.getElem_toArray, List.getElem_cons_zero, List.getElem_cons_succ, List.setIfInBounds_toArray, List.set_cons_zero, List.set_cons_succ]
  refine wpAnyH_ready (rs := [2]) (by kernel_rfl) (by simp) ?_
  refine AllReadyH.cons (i := 2) rfl (fun K hK => ?_) AllReadyH.nil
  rw [if_pos (by rfl)]
  simp only [List.getElem_toArray, List.getElem_cons_zero, List.getElem_cons_succ]
  go_simp
  refine (l05Byte_any f _ (by omega)).mono ?_
  rintro e x1 ⟨rfl, b⟩
  have c : Below W.heap.size W x1 := bl_nxt c b
  refine hK.out _ _ (KEEP.out _ c) (fun hHeld => ?_)
  clear hK K
  try simp only [Act.put, List.getElem_toArray, List.getElem_cons_zero, List.getElem_cons_succ, List.setIfInBounds_toArray, List.set_cons_zero, List.set_cons_succ]
  clear b
  refine wpAnyH_ready (rs := [5]) (by kernel_rfl) (by simp) ?_
  refine AllReadyH.cons (i := 5) rfl (fun K hK => ?_) AllReadyH.nil
  rw [if_pos (by rfl)]
  simp only [List.getElem_toArray, List.getElem_cons_zero, List.getElem_cons_succ]
  go_simp
  refine (l05Byte_any n _ (by omega)).mono ?_
  rintro e x2 ⟨rfl, b⟩
  have c : Below W.heap.size W x2 := bl_nxt c b
  refine hK.out _ _ (KEEP.out _ c) (fun hHeld => ?_)
  clear hK K
  try simp only [Act.put, List.getElem_toArray, List.getElem_cons_zero, List.getElem_cons_succ, List.setIfInBounds_toArray, List.set_cons_zero, List.set_cons_succ]
  clear b
  refine wpAnyH_take (i := 6) (v := ?v6p) rfl (by kernel_rfl) (by kernel_rfl) (by kernel_rfl) (fun _ _ _ h => h) (Or.inl ⟨by rfl, ?hy6p⟩) (by assumption) ?_
  case hy6p => (intro w hSw; (try dsimp only at hSw); simp only [List.getElem_toArray, List.getElem_cons_zero, List.getElem_cons_succ]; go_simp; (first | with_reducible rfl | (refine if_neg ?_; assumption)))
  try simp only [Act.put, List.getElem_toArray, List.getElem_cons_zero, List.getElem_cons_succ, List.setIfInBounds_toArray, List.set_cons_zero, List.set_cons_succ]
  refine wpAnyH_ready (rs := [9]) (by kernel_rfl) (by simp) ?_
  refine AllReadyH.cons (i := 9) rfl (fun K hK => ?_) AllReadyH.nil
  rw [if_pos (by rfl)]
  simp only [List.getElem_toArray, List.getElem_cons_zero, List.getElem_cons_succ]
  go_simp
  refine (l05Byte_any o _ (by omega)).mono ?_
  rintro e x3 ⟨rfl, b⟩
  have c : Below W.heap.size W x3 := bl_nxt c b
  refine hK.out _ _ (KEEP.out _ c) (fun hHeld => ?_)
  clear hK K
  try simp only [Act.put, List.getElem_toArray, List.getElem_cons_zero, List.getElem_cons_succ, List.setIfInBounds_toArray, List.set_cons_zero, List.set_cons_succ]
  clear b
  refine wpAnyH_take (i := 10) (v := ?v10p) rfl (by kernel_rfl) (by kernel_rfl) (by kernel_rfl) (fun _ _ _ h => h) (Or.inl ⟨by rfl, ?hy10p⟩) (by assumption) ?_
  case hy10p => (intro w hSw; (try dsimp only at hSw); simp only [List.getElem_toArray, List.getElem_cons_zero, List.getElem_cons_succ]; go_simp; (first | with_reducible rfl | (refine if_neg ?_; assumption)))
  try simp only [Act.put, List.getElem_toArray, List.getElem_cons_zero, List.getElem_cons_succ, List.setIfInBounds_toArray, List.set_cons_zero, List.set_cons_succ]
  refine wpAnyH_ready (rs := [14]) (by kernel_rfl) (by simp) ?_
  refine AllReadyH.cons (i := 14) rfl (fun K hK => ?_) AllReadyH.nil
  rw [if_pos (by rfl)]
  simp only [List.getElem_toArray, List.getElem_cons_zero, List.getElem_cons_succ]
  go_simp
  refine (l01Var_any ts.length _ (by omega)).mono ?_
  rintro e x4 ⟨rfl, b⟩
  have c : Below W.heap.size W x4 := bl_nxt c b
  refine hK.out _ _ (KEEP.out _ c) (fun hHeld => ?_)
  clear hK K
  try simp only [Act.put, List.getElem_toArray, List.getElem_cons_zero, List.getElem_cons_succ, List.setIfInBounds_toArray, List.set_cons_zero, List.set_cons_succ]
  clear b
  refine wpAnyH_take (i := 15) (v := ?v15p) rfl (by kernel_rfl) (by kernel_rfl) (by kernel_rfl) (fun _ _ _ h => h) (Or.inl ⟨by rfl, ?hy15p⟩) (by assumption) ?_
  case hy15p => (intro w hSw; (try dsimp only at hSw); simp only [List.getElem_toArray, List.getElem_cons_zero, List.getElem_cons_succ]; go_simp; (first | with_reducible rfl | (refine if_neg ?_; assumption)))
  try simp only [Act.put, List.getElem_toArray, List.getElem_cons_zero, List.getElem_cons_succ, List.setIfInBounds_toArray, List.set_cons_zero, List.set_cons_succ]
  have c4 := c.size
  obtain ⟨cv, x5, hcr, hct, hcb⟩ := conv_own_bytes (P := Tryd.prog) x4 9 22 5 (byteS f ++ byteS n ++ byteS o ++ varS ts.length) Tryd.underlying9 Tryd.underlying22 Tryd.underlying5 (by simp only [ByteArray.size_append]; omega)
  refine wpAnyH_ready (rs := [16]) (by kernel_rfl) (by simp) ?_
  refine AllReadyH.cons (i := 16) rfl (fun K hK => ?_) AllReadyH.nil
  rw [if_pos (by rfl)]
  simp only [List.getElem_toArray, List.getElem_cons_zero, List.getElem_cons_succ]
  go_simp
  have c : Below W.heap.size W x5 := bl_nxt c hcb
  refine hK.out _ _ (KEEP.out _ c) (fun hHeld => ?_)
  clear hK K
  try simp only [Act.put, List.getElem_toArray, List.getElem_cons_zero, List.getElem_cons_succ, List.setIfInBounds_toArray, List.set_cons_zero, List.set_cons_succ]
  clear hcr hcb
  refine wpAnyH_take (i := 17) (v := ?v17) rfl (by kernel_rfl) (by kernel_rfl) (by kernel_rfl) (fun _ _ _ h => h) (Or.inl ⟨by rfl, ?hy17⟩) (by assumption) ?_
  case hy17 => (intro w hSw; (try dsimp only at hSw); simp only [List.getElem_toArray, List.getElem_cons_zero, List.getElem_cons_succ]; go_simp; try with_reducible rfl)
  try simp only [Act.put, List.getElem_toArray, List.getElem_cons_zero, List.getElem_cons_succ, List.setIfInBounds_toArray, List.set_cons_zero, List.set_cons_succ]
  refine wpAnyH_done (by kernel_rfl) ?_ _
  have O5 : Hid (OwT x5 w.heap.size 5 cv (byteS f ++ byteS n ++ byteS o ++ varS ts.length)) := hct.down (Nat.le_trans hB.out.size (Nat.le_trans c4 (Nat.le_refl _)))
  have HT : Hid (Bx x5 w.heap.size 26 [.int .i64 f, .int .i64 n, .int .i64 o, .slice ao ts.length cap]) := HT.out.later c
  have hB : Hid (Below w.heap.size w x5) := bl_nxt hB.out c
  have hH : Hid (byteS f ++ byteS n ++ byteS o ++ varS ts.length = byteS f ++ byteS n ++ byteS o ++ varS ts.length) := rfl
  have hS0 : (byteS f ++ byteS n ++ byteS o ++ varS ts.length).size ≤ 8 := by simp only [ByteArray.size_append]; omega
  have hBS : Hid (itsS (byteS f ++ byteS n ++ byteS o ++ varS ts.length) ts = bunS f n o ts) := rfl
  clear KEEP hct c m1 m2 m3 y1 y2 y3 z0 hHeld c4 hH
  generalize byteS f ++ byteS n ++ byteS o ++ varS ts.length = T0 at *
  go_wp2_with fail
  go_loopw [4, 5] (fun v i wr => ∃ (k : Nat) (S : ByteArray), k ≤ ts.length ∧ i = .int .i64 k ∧ S.size ≤ 8 + 77 * k ∧ Hid (OwT wr w.heap.size 5 v S) ∧ Hid (S = itsS T0 (ts.take k)) ∧ Hid (Bx wr w.heap.size 26 [.int .i64 f, .int .i64 n, .int .i64 o, .slice ao ts.length cap]) ∧ Hid (Below w.heap.size w wr)) (fun _ i _ => ts.length - (intOf i).toNat)
  case atStart => exact ⟨0, T0, Nat.zero_le _, rfl, by omega, O5.out, rfl, HT.out, hB.out⟩
  case round =>
    clear O5 HT hB
    obtain ⟨k, S, hk, rfl, hS, hO, hSS, hT, hB⟩ := hrel
    have c3 := hT.out.cell 3
    simp only [List.getElem?_cons_succ, List.getElem?_cons_zero] at c3
    by_cases hlt : k < ts.length
    · obtain ⟨b, off, rfl, hbb, i0, i1, i2, i3⟩ := hx.out.stays hB.out k hlt
      have hit := N5.out _ (List.getElem_mem hlt)
      have HP : Hid (∃ x : It, x = ts[k]) := ⟨_, rfl⟩
      obtain ⟨⟨q, f', lv, tx⟩, hp⟩ := HP.out
      rw [← hp] at i0 i1 i2 i3 hit
      have HQ : Hid ((q, f', lv, tx) = ts[k]) := hp
      clear hp HP
      dsimp only at i0 i1 i2 i3 hit
      have HI : Hid (itB q f' lv tx = true) := hit
      have hz := itS_size (x := (q, f', lv, tx)) hit
      have hz2 := shS_size (t := itS (q, f', lv, tx)) (by omega)
      clear hit
      go_wp2_with fail
      refine (spItText_yes (q, f', lv, tx) _ HI.out).mono ?_
      rintro e w2 ⟨rfl, hb2⟩
      have B2 : Hid (Below w.heap.size w w2) := bl_nxt hB.out hb2
      have O2 : Hid (OwT w2 w.heap.size 5 u4 S) := hO.out.below hb2
      have T2 : Hid (Bx w2 w.heap.size 26 [.int .i64 f, .int .i64 n, .int .i64 o, .slice (some ⟨b, off, none⟩) ts.length cap]) := hT.out.later hb2
      clear hb2 c3 i0 i1 i2 i3 hB hO hT
      generalize hI : itS (q, f', lv, tx) = I at *
      have HII : Hid (itS (q, f', lv, tx) = I) := hI
      clear hI
      go_wp2_with fail
      refine (l05Short_any I _ (by omega)).mono ?_
      rintro e w3 ⟨rfl, hb3⟩
      have B3 : Hid (Below w.heap.size w w3) := bl_nxt B2.out hb3
      have O3 : Hid (OwT w3 w.heap.size 5 u4 S) := O2.out.below hb3
      have T3 : Hid (Bx w3 w.heap.size 26 [.int .i64 f, .int .i64 n, .int .i64 o, .slice (some ⟨b, off, none⟩) ts.length cap]) := T2.out.later hb3
      have hsh : varS I.size ++ I = shS I := rfl
      rw [hsh]
      clear hb3 B2 hsh O2 T2
      generalize hJ : shS I = J at *
      have HJJ : Hid (shS I = J) := hJ
      clear hJ
      obtain ⟨cv, w4, hcr, hct, hcb⟩ := conv_own_bytes (P := Tryd.prog) w3 9 22 5 J Tryd.underlying9 Tryd.underlying22 Tryd.underlying5 (by omega)
      have B4 : Hid (Below w.heap.size w w4) := bl_nxt B3.out hcb
      have O4 : Hid (OwT w4 w.heap.size 5 u4 S) := O3.out.below hcb
      have T4 : Hid (Bx w4 w.heap.size 26 [.int .i64 f, .int .i64 n, .int .i64 o, .slice (some ⟨b, off, none⟩) ts.length cap]) := T3.out.later hcb
      have C4 : Hid (OwT w4 w3.heap.size 5 cv J) := hct
      clear hct hcb B3 O3 T3
      go_wp2_with (first | (with_reducible refine wpList_haltA _ _ _ rfl ?_))
      refine Stp.go ?_
      clear hcr
      refine wpList_catBytes rfl _ _ 22 5 rfl Tryd.underlying22 Tryd.info5 w.heap.size w3.heap.size _ _ S J rfl O4.out rfl C4.out (by omega) B4.out.size ?_
      intro v6 w6 O6 g6
      have O6 : Hid (OwT w6 w.heap.size 5 v6 (S ++ J)) := O6
      have B6 : Hid (Below w.heap.size w w6) := B4.out.grown g6 B4.out.size (fun k hk => (O4.out.lt k hk).1)
      have T6 : Hid (Bx w6 w.heap.size 26 [.int .i64 f, .int .i64 n, .int .i64 o, .slice (some ⟨b, off, none⟩) ts.length cap]) := T4.out.grown g6 (fun e => owt_bx_ne O4.out T4.out (by decide) e.symm)
      clear g6 O4 B4 T4 C4
      go_wp2_with fail
      go_roundw
      case rel =>
        refine ⟨k + 1, S ++ J, by omega, by go_num, by rw [ByteArray.size_append]; omega, O6, ?_, T6, B6⟩
        show _ = _
        rw [itsS_next ts _ k hlt, ← hSS.out, ← HQ.out, HII.out, HJJ.out]
      case measure => simp [intOf]; omega
    · have HS : Hid (S = bunS f n o ts) := by
        have := hSS.out
        rw [List.take_of_length_le (by omega), hBS.out] at this
        exact this
      have hcv := conv_text (P := Tryd.prog) (src := 22) (dst := 9) (e := 5) Tryd.underlying22 Tryd.underlying5 Tryd.underlying9 hO.out
      obtain ⟨ad, cc, rfl⟩ := hO.out.form
      have hd : decide (20000 < (S.size : Int) + 4) = false := by simp; omega
      go_wp2_with fail
      refine (specSeal_any S _ (by omega)).mono ?_
      rintro e w9 ⟨rfl, hb9⟩
      have B9 : Hid (Below w.heap.size w w9) := bl_nxt hB.out hb9
      clear hb9
      go_wp2_with fail
      go_ret2
      exact ⟨by rw [HS.out]; rfl, B9.out⟩
end Go.Proofs.YtlflcjdpdbdbkaaDoor
