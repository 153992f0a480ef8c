/- The walk over the program's AddPiece. Written by gen_ia.py. -/
import Derived.Test.YtfefjkldjaabbaaSa
import Derived.Test.YtfefjkldjaabbaaCt1
namespace Go.Proofs.Ytfefjkldjaabbaa
open Go.RowKit Pl
set_option linter.unusedVariables false
set_option linter.unusedSimpArgs false

theorem copyTexts_r (s : Sv) (ts : List ByteArray) (w : World) (h : Hid (RT w (.slice s.a s.n s.c) ts)) (hl : ts.length ≤ 1048576) (hs : ∀ x ∈ ts, x.size ≤ 1048576) :
    Calls Try.prog 46 #[.slice s.a s.n s.c] w fun e w' => ∃ u : Sv, e = .returned (.slice u.a u.n u.c) ∧ OwnS w' w.heap.size u.v ts ∧ Below w.heap.size w w' := by
  obtain ⟨ao, cap, he, hx⟩ := h.out
  rw [he]
  refine (copyTexts_any ao cap ts w hx hl hs).mono ?_
  rintro e w' ⟨v, rfl, h1, h2⟩
  obtain ⟨u, rfl, _⟩ := sv_form h1
  exact ⟨u, rfl, h1, h2⟩

set_option maxRecDepth 100000 in
set_option maxHeartbeats 8000000 in
theorem implAdd_any (p : Pi) (x : ByteArray) (s : Sv) (w : World) (hO : Hid (RT w (.slice s.a s.n s.c) p.ps)) (hps : Hid p.short) (hx : x.size ≤ 1048576) :
    Calls Try.prog 18 #[.agg #[.int .i64 p.num, .int .i64 p.cnt, .slice s.a s.n s.c], .string x] w fun e w' => SpPost p x w e w' := by
  have B0 : Hid (Below w.heap.size w ((w.alloc (.cells #[.int .i64 p.num, .int .i64 p.cnt, .slice s.a s.n s.c] 35)).alloc (.cells #[.int .i64 0, .int .i64 0, .slice none 0 0] 35))) := ((Below.refl _ _).alloc (Nat.le_refl _) _).alloc (by simp) _
  have P0 : Hid (PiB ((w.alloc (.cells #[.int .i64 p.num, .int .i64 p.cnt, .slice s.a s.n s.c] 35)).alloc (.cells #[.int .i64 0, .int .i64 0, .slice none 0 0] 35)) w.heap.size p.num p.cnt s) := (Bx.new w 35 [.int .i64 p.num, .int .i64 p.cnt, .slice s.a s.n s.c]).stays ((Below.refl (w.heap.size + 1) _).alloc (by simp) _) (by omega)
  have R0 : Hid (PiB ((w.alloc (.cells #[.int .i64 p.num, .int .i64 p.cnt, .slice s.a s.n s.c] 35)).alloc (.cells #[.int .i64 0, .int .i64 0, .slice none 0 0] 35)) (w.heap.size + 1) 0 0 ⟨none, 0, 0⟩) := bx_new1 w _ 35 [.int .i64 0, .int .i64 0, .slice none 0 0]
  have T0 : Hid (RT ((w.alloc (.cells #[.int .i64 p.num, .int .i64 p.cnt, .slice s.a s.n s.c] 35)).alloc (.cells #[.int .i64 0, .int .i64 0, .slice none 0 0] 35)) (.slice s.a s.n s.c) p.ps) := hO.out.stays B0.out
  go_enter Try.func18, Try.ntmps18
  go_wp2_with fail
  generalize ((w.alloc (.cells #[.int .i64 p.num, .int .i64 p.cnt, .slice s.a s.n s.c] 35)).alloc (.cells #[.int .i64 0, .int .i64 0, .slice none 0 0] 35)) = W at *
  go_cut [7] (fun u7 wx => ∃ (gq : Nat) (uq : Sv), u7 = .pointer (some ⟨gq, 0, none⟩) ∧ CutSt W gq p uq wx)
  case first =>
    have KEEP : Hid (∀ w', Below W.heap.size W w' → (w'.cell? ⟨w.heap.size, 0, none⟩ = some (.int .i64 p.num) ∧ w'.cell? ⟨w.heap.size, 1, none⟩ = some (.int .i64 p.cnt) ∧ w'.cell? ⟨w.heap.size, 2, none⟩ = some (.slice s.a s.n s.c)) ∧ Hid (Below W.heap.size W w')) := fun w' hb => ⟨(P0.out.later hb).cells, hb⟩
    have c : Below W.heap.size W W.drew := (Below.refl _ _).drew
    refine wp_region_held_drew (S := fun w' => (w'.cell? ⟨w.heap.size, 0, none⟩ = some (.int .i64 p.num) ∧ w'.cell? ⟨w.heap.size, 1, none⟩ = some (.int .i64 p.cnt) ∧ w'.cell? ⟨w.heap.size, 2, none⟩ = some (.slice s.a s.n s.c)) ∧ Hid (Below W.heap.size W w')) (by kernel_rfl) (KEEP.out _ c) (fun hHeld => ?_)
    refine wpAnyH_take (i := 0) (v := ?v0b1) rfl (by kernel_rfl) (by kernel_rfl) (by kernel_rfl) (fun _ _ _ h => h) (Or.inl ⟨by rfl, ?hy0b1⟩) (by assumption) ?_
    case hy0b1 => (intro w hSw; (try dsimp only at hSw); simp only [List.getElem_toArray, List.getElem_cons_zero, List.getElem_cons_succ]; go_simp; try with_reducible rfl)
    try simp only [Act.put, List.getElem_toArray, List.getElem_cons_zero, List.getElem_cons_succ, List.setIfInBounds_toArray, List.set_cons_zero, List.set_cons_succ]
    refine wpAnyH_take (i := 1) (v := ?v1b2) rfl (by kernel_rfl) (by kernel_rfl) (by kernel_rfl) (fun _ _ _ h => h) (Or.inl ⟨by rfl, ?hy1b2⟩) (by assumption) ?_
    case hy1b2 => (intro w hSw; (try dsimp only at hSw); simp only [List.getElem_toArray, List.getElem_cons_zero, List.getElem_cons_succ]; go_simp; try with_reducible rfl)
    try simp only [Act.put, List.getElem_toArray, List.getElem_cons_zero, List.getElem_cons_succ, List.setIfInBounds_toArray, List.set_cons_zero, List.set_cons_succ]
    refine wpAnyH_take (i := 2) (v := ?v2b3) rfl (by kernel_rfl) (by kernel_rfl) (by kernel_rfl) (fun _ _ _ h => h) (Or.inl ⟨by rfl, ?hy2b3⟩) (by assumption) ?_
    case hy2b3 => (intro w hSw; (try dsimp only at hSw); simp only [List.getElem_toArray, List.getElem_cons_zero, List.getElem_cons_succ]; go_simp; try with_reducible rfl)
    try simp only [Act.put, List.getElem_toArray, List.getElem_cons_zero, List.getElem_cons_succ, List.setIfInBounds_toArray, List.set_cons_zero, List.set_cons_succ]
    refine wpAnyH_take (i := 3) (v := ?v3b4) rfl (by kernel_rfl) (by kernel_rfl) (by kernel_rfl) (fun _ _ _ h => h) (Or.inl ⟨by rfl, ?hy3b4⟩) (by assumption) ?_
    case hy3b4 => (intro w hSw; (try dsimp only at hSw); simp only [List.getElem_toArray, List.getElem_cons_zero, List.getElem_cons_succ]; go_simp; try with_reducible rfl)
    try simp only [Act.put, List.getElem_toArray, List.getElem_cons_zero, List.getElem_cons_succ, List.setIfInBounds_toArray, List.set_cons_zero, List.set_cons_succ]
    refine wpAnyH_take (i := 4) (v := ?v4b5) rfl (by kernel_rfl) (by kernel_rfl) (by kernel_rfl) (fun _ _ _ h => h) (Or.inl ⟨by rfl, ?hy4b5⟩) (by assumption) ?_
    case hy4b5 => (intro w hSw; (try dsimp only at hSw); simp only [List.getElem_toArray, List.getElem_cons_zero, List.getElem_cons_succ]; go_simp; try with_reducible rfl)
    try simp only [Act.put, List.getElem_toArray, List.getElem_cons_zero, List.getElem_cons_succ, List.setIfInBounds_toArray, List.set_cons_zero, List.set_cons_succ]
    refine wpAnyH_take (i := 5) (v := ?v5b6) rfl (by kernel_rfl) (by kernel_rfl) (by kernel_rfl) (fun _ _ _ h => h) (Or.inl ⟨by rfl, ?hy5b6⟩) (by assumption) ?_
    case hy5b6 => (intro w hSw; (try dsimp only at hSw); simp only [List.getElem_toArray, List.getElem_cons_zero, List.getElem_cons_succ]; go_simp; try with_reducible rfl)
    try simp only [Act.put, List.getElem_toArray, List.getElem_cons_zero, List.getElem_cons_succ, List.setIfInBounds_toArray, List.set_cons_zero, List.set_cons_succ]
    refine wpAnyH_ready (rs := [6, 8]) (by kernel_rfl) (by simp) ?_
    refine (AllReadyH.cons (i := 6) rfl (fun K hK => ?_) (AllReadyH.cons (i := 8) rfl (fun K hK => ?_) AllReadyH.nil))
    · skip
      rw [if_pos (by rfl)]
      simp only [List.getElem_toArray, List.getElem_cons_zero, List.getElem_cons_succ]
      go_simp
      refine (copyTexts_r s p.ps W.drew (show Hid (RT W.drew (.slice s.a s.n s.c) p.ps) from T0.out.stays c) hps.out.1 hps.out.2).mono ?_
      rintro e y1 ⟨uq, rfl, om1, b⟩
      have zc : W.heap.size ≤ W.drew.heap.size := c.size
      have O1 : Hid (OwnS y1 W.heap.size uq.v p.ps) := om1.down zc
      have c : Below W.heap.size W y1 := bl_next c b
      refine hK.out _ _ (KEEP.out _ c) (fun hHeld => ?_)
      clear hK K
      try simp only [Act.put, List.getElem_toArray, List.getElem_cons_zero, List.getElem_cons_succ, List.setIfInBounds_toArray, List.set_cons_zero, List.set_cons_succ]
      clear b om1 zc
      refine wpAnyH_take (i := 7) (v := ?v7b7) rfl (by kernel_rfl) (by kernel_rfl) (by kernel_rfl) (fun _ _ _ h => h) (Or.inl ⟨by rfl, ?hy7b7⟩) (by assumption) ?_
      case hy7b7 => (intro w hSw; (try dsimp only at hSw); simp only [List.getElem_toArray, List.getElem_cons_zero, List.getElem_cons_succ]; go_simp; try with_reducible rfl)
      try simp only [Act.put, List.getElem_toArray, List.getElem_cons_zero, List.getElem_cons_succ, List.setIfInBounds_toArray, List.set_cons_zero, List.set_cons_succ]
      refine wpAnyH_ready (rs := [8]) (by kernel_rfl) (by simp) ?_
      refine AllReadyH.cons (i := 8) rfl (fun K hK => ?_) AllReadyH.nil
      rw [if_pos (by rfl)]
      simp only [List.getElem_toArray, List.getElem_cons_zero, List.getElem_cons_succ]
      go_simp
      have BX2 : Hid (Bx (y1.alloc (.cells #[.int .i64 0, .int .i64 0, .slice none 0 0] 35)) y1.heap.size 35 [.int .i64 0, .int .i64 0, .slice none 0 0]) := by have h := Bx.new y1 35 [.int .i64 0, .int .i64 0, .slice none 0 0]; rw [show y1.heap.size = y1.heap.size by simp] at h; exact h
      have zq : W.heap.size ≤ y1.heap.size := by have h := c.size; rw [show y1.heap.size = y1.heap.size by simp] at h; exact h
      have c : Below W.heap.size W (y1.alloc (.cells #[.int .i64 0, .int .i64 0, .slice none 0 0] 35)) := c.alloc c.size _
      have O1 : Hid (OwnS (y1.alloc (.cells #[.int .i64 0, .int .i64 0, .slice none 0 0] 35)) W.heap.size uq.v p.ps) := O1.out.alloc _
      refine hK.out _ _ (KEEP.out _ c) (fun hHeld => ?_)
      clear hK K
      try simp only [Act.put, List.getElem_toArray, List.getElem_cons_zero, List.getElem_cons_succ, List.setIfInBounds_toArray, List.set_cons_zero, List.set_cons_succ]
      refine wpAnyH_ready (rs := [9]) (by kernel_rfl) (by simp) ?_
      refine AllReadyH.cons (i := 9) rfl (fun K hK => ?_) AllReadyH.nil
      rw [if_pos (by rfl)]
      simp only [List.getElem_toArray, List.getElem_cons_zero, List.getElem_cons_succ]
      refine wp_stB 35 _ _ rfl (y1.heap.size) 0 (by rfl) 35 _ BX2.out [.int .i64 p.num, .int .i64 p.cnt, .slice uq.a uq.n uq.c] (by rfl) (by simp) Try.sizeP rfl [.int .i64 p.num, .int .i64 p.cnt, .slice uq.a uq.n uq.c] rfl ?_
      intro y3 RB3 TB3
      have O3 := O1.out.past BX2.out TB3 (by decide)
      have c : Below W.heap.size W y3 := c.trans (TB3.below zq)
      refine hK.out _ _ (KEEP.out _ c) (fun hHeld => ?_)
      clear hK K
      try simp only [Act.put, List.getElem_toArray, List.getElem_cons_zero, List.getElem_cons_succ, List.setIfInBounds_toArray, List.set_cons_zero, List.set_cons_succ]
      refine wpAnyH_done (by kernel_rfl) ?_ _
      try go_wp2_with fail
      go_meet
      exact ⟨_, uq, rfl, RB3, O3, zq, c⟩
    · skip
      rw [if_pos (by rfl)]
      simp only [List.getElem_toArray, List.getElem_cons_zero, List.getElem_cons_succ]
      go_simp
      have BX1 : Hid (Bx (W.drew.alloc (.cells #[.int .i64 0, .int .i64 0, .slice none 0 0] 35)) W.heap.size 35 [.int .i64 0, .int .i64 0, .slice none 0 0]) := by have h := Bx.new W.drew 35 [.int .i64 0, .int .i64 0, .slice none 0 0]; rw [show W.drew.heap.size = W.heap.size by simp] at h; exact h
      have zq : W.heap.size ≤ W.heap.size := by have h := c.size; rw [show W.drew.heap.size = W.heap.size by simp] at h; exact h
      have c : Below W.heap.size W (W.drew.alloc (.cells #[.int .i64 0, .int .i64 0, .slice none 0 0] 35)) := c.alloc c.size _
      refine hK.out _ _ (KEEP.out _ c) (fun hHeld => ?_)
      clear hK K
      try simp only [Act.put, List.getElem_toArray, List.getElem_cons_zero, List.getElem_cons_succ, List.setIfInBounds_toArray, List.set_cons_zero, List.set_cons_succ]
      refine wpAnyH_ready (rs := [6]) (by kernel_rfl) (by simp) ?_
      refine AllReadyH.cons (i := 6) rfl (fun K hK => ?_) AllReadyH.nil
      rw [if_pos (by rfl)]
      simp only [List.getElem_toArray, List.getElem_cons_zero, List.getElem_cons_succ]
      go_simp
      refine (copyTexts_r s p.ps (W.drew.alloc (.cells #[.int .i64 0, .int .i64 0, .slice none 0 0] 35)) (show Hid (RT (W.drew.alloc (.cells #[.int .i64 0, .int .i64 0, .slice none 0 0] 35)) (.slice s.a s.n s.c) p.ps) from T0.out.stays c) hps.out.1 hps.out.2).mono ?_
      rintro e y2 ⟨uq, rfl, om2, b⟩
      have zc : W.heap.size ≤ (W.drew.alloc (.cells #[.int .i64 0, .int .i64 0, .slice none 0 0] 35)).heap.size := c.size
      have BX1 : Hid (Bx y2 W.heap.size 35 [.int .i64 0, .int .i64 0, .slice none 0 0]) := BX1.out.later b
      have O2 : Hid (OwnS y2 W.heap.size uq.v p.ps) := om2.down zc
      have c : Below W.heap.size W y2 := bl_next c b
      refine hK.out _ _ (KEEP.out _ c) (fun hHeld => ?_)
      clear hK K
      try simp only [Act.put, List.getElem_toArray, List.getElem_cons_zero, List.getElem_cons_succ, List.setIfInBounds_toArray, List.set_cons_zero, List.set_cons_succ]
      clear b om2 zc
      refine wpAnyH_take (i := 7) (v := ?v7b8) rfl (by kernel_rfl) (by kernel_rfl) (by kernel_rfl) (fun _ _ _ h => h) (Or.inl ⟨by rfl, ?hy7b8⟩) (by assumption) ?_
      case hy7b8 => (intro w hSw; (try dsimp only at hSw); simp only [List.getElem_toArray, List.getElem_cons_zero, List.getElem_cons_succ]; go_simp; try with_reducible rfl)
      try simp only [Act.put, List.getElem_toArray, List.getElem_cons_zero, List.getElem_cons_succ, List.setIfInBounds_toArray, List.set_cons_zero, List.set_cons_succ]
      refine wpAnyH_ready (rs := [9]) (by kernel_rfl) (by simp) ?_
      refine AllReadyH.cons (i := 9) rfl (fun K hK => ?_) AllReadyH.nil
      rw [if_pos (by rfl)]
      simp only [List.getElem_toArray, List.getElem_cons_zero, List.getElem_cons_succ]
      refine wp_stB 35 _ _ rfl (W.heap.size) 0 (by rfl) 35 _ BX1.out [.int .i64 p.num, .int .i64 p.cnt, .slice uq.a uq.n uq.c] (by rfl) (by simp) Try.sizeP rfl [.int .i64 p.num, .int .i64 p.cnt, .slice uq.a uq.n uq.c] rfl ?_
      intro y3 RB3 TB3
      have O3 := O2.out.past BX1.out TB3 (by decide)
      have c : Below W.heap.size W y3 := c.trans (TB3.below zq)
      refine hK.out _ _ (KEEP.out _ c) (fun hHeld => ?_)
      clear hK K
      try simp only [Act.put, List.getElem_toArray, List.getElem_cons_zero, List.getElem_cons_succ, List.setIfInBounds_toArray, List.set_cons_zero, List.set_cons_succ]
      refine wpAnyH_done (by kernel_rfl) ?_ _
      try go_wp2_with fail
      go_meet
      exact ⟨_, uq, rfl, RB3, O3, zq, c⟩

  case rest =>
  obtain ⟨gq, uq, rfl, hbx, hoq, zgq, b2⟩ := hcut
  generalize wc = W3 at *
  have Q3 : Hid (PiB W3 gq p.num p.cnt uq) := hbx
  have O3 : Hid (OwnS W3 W.heap.size uq.v p.ps) := hoq
  have B3 : Hid (Below w.heap.size w W3) := B0.out.trans (b2.mono B0.out.size)
  have R3 : Hid (PiB W3 (w.heap.size + 1) 0 0 ⟨none, 0, 0⟩) := R0.out.later b2
  have ZQ : Hid (W.heap.size ≤ gq ∧ w.heap.size + 1 < W.heap.size ∧ W.heap.size ≤ W3.heap.size) := ⟨zgq, R0.out.lt, b2.size⟩
  clear hbx hoq b2 zgq B0 P0 R0 T0
  generalize hgr : w.heap.size + 1 = gr at *
  have HGR : Hid (w.heap.size + 1 = gr) := hgr
  clear hgr
  have hgr' : w.heap.size ≤ gr := by have := HGR.out; omega
  go_wp2_with fail
  refine (add_any p x gq W.heap.size uq W3 Q3 O3 hps hx ZQ.out.2.2).mono ?_
  rintro e w4 ⟨s4, rfl, hP4, hO4, hN4, hG4⟩
  have P4 : Hid (PiB w4 gq (addP p x).1.num (addP p x).1.cnt s4) := hP4
  have O4 : Hid (OwnS w4 w.heap.size s4.v (addP p x).1.ps) := hO4.down (by have := ZQ.out; have := HGR.out; omega)
  have B4 : Hid (Below w.heap.size w w4) := B3.out.trans (hG4.below (fun k hk => by
    rcases hk with rfl | hk
    · have := ZQ.out; have := HGR.out; omega
    · have := (O3.out.lt k hk).1; have := ZQ.out; have := HGR.out; omega) B3.out.size)
  have R4 : Hid (PiB w4 gr 0 0 ⟨none, 0, 0⟩) := (hG4.block gr R3.out.lt (fun hk => by
    rcases hk with hk | hk
    · have := ZQ.out; omega
    · have := (O3.out.lt gr hk).1; have := ZQ.out; omega)).trans R3.out
  obtain ⟨c0, c1, c2⟩ := P4.out.cells
  clear hP4 hO4 hN4 hG4 Q3 O3 B3 R3
  generalize hA : (addP p x) = a4 at *
  have HA : Hid ((addP p x) = a4) := hA
  clear hA
  go_wp2_with (first | (with_reducible refine wpList_haltS 35 _ _ rfl ?_))
  refine Stp.go ?_
  refine wpList_stB rfl 35 _ _ rfl gr 0 rfl 35 _ R4.out [.int .i64 a4.1.num, .int .i64 a4.1.cnt, .slice s4.a s4.n s4.c] rfl (by simp) Try.sizeP rfl [.int .i64 a4.1.num, .int .i64 a4.1.cnt, .slice s4.a s4.n s4.c] rfl ?_
  intro wz RZ TZ
  have BZ : Below w.heap.size w wz := B4.out.trans (TZ.below hgr')
  have OZ := O4.out.past R4.out TZ (by decide)
  obtain ⟨z0, z1, z2⟩ := PiB.cells (s := s4) RZ
  go_wp2_with fail
  refine bodyPost_ret (v := .tuple #[.agg #[.int .i64 a4.1.num, .int .i64 a4.1.cnt, .slice s4.a s4.n s4.c], .string a4.2.1, .bool a4.2.2]) (by simp [results, Try.results18, go_sem, z0, z1, z2]) rfl ?_
  exact ⟨s4, by rw [HA.out], by rw [HA.out]; exact OZ, BZ⟩
end Go.Proofs.Ytfefjkldjaabbaa
