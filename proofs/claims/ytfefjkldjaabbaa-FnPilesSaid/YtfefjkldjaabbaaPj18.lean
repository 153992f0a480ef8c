/- Joined texts: Sa Sj Ia2. -/
import Derived.Test.YtfefjkldjaabbaaPj7
import Derived.Test.YtfefjkldjaabbaaPj15
import Derived.Test.YtfefjkldjaabbaaPj16
import Derived.Deep.DeepCutAuto
import Derived.Test.YtfefjkldjaabbaaPj17
/- The walk over the specification's AddPiece. -/
namespace Go.Proofs.Ytfefjkldjaabbaa
open Go.RowKit Pl
set_option linter.unusedVariables false
set_option linter.unusedSimpArgs false

theorem spReadPiece_yes (s : ByteArray) (n p c : Nat) (t : ByteArray) (w : World) (hs : s.size ≤ 1048576) (h : Hid (pcP s = some (n, p, c, t))) :
    Calls Try.prog 22 #[.string s] w fun e w' => e = .returned (.tuple #[.int .i64 n, .int .i64 p, .int .i64 c, .string t, .bool true]) ∧ Below w.heap.size w w' := by
  refine (spReadPiece_any s w hs).mono ?_
  rintro e w' ⟨q, f, l, x, r, rfl, ha, hb⟩
  rcases ha with ⟨h1, rfl⟩ | ⟨h1, _⟩
  · rw [h.out] at h1
    simp only [Option.some.injEq, Prod.mk.injEq] at h1
    obtain ⟨rfl, rfl, rfl, rfl⟩ := h1
    exact ⟨rfl, hb⟩
  · rw [h.out] at h1; cases h1
theorem spReadPiece_no (s : ByteArray) (w : World) (hs : s.size ≤ 1048576) (h : Hid (pcP s = none)) :
    Calls Try.prog 22 #[.string s] w fun e w' => e = .returned (.tuple #[.int .i64 0, .int .i64 0, .int .i64 0, .string ByteArray.empty, .bool false]) ∧ Below w.heap.size w w' := by
  refine (spReadPiece_any s w hs).mono ?_
  rintro e w' ⟨q, f, l, x, r, rfl, ha, hb⟩
  rcases ha with ⟨h1, rfl⟩ | ⟨h1, rfl, rfl, rfl, rfl, rfl⟩
  · rw [h.out] at h1; cases h1
  · exact ⟨rfl, hb⟩

/-- what a text that comes to a pile makes of it, in new memory. -/
def SpPost (p : Pi) (x : ByteArray) (w : World) (e : Ending) (w' : World) : Prop :=
  ∃ s' : Sv, e = .returned (.tuple #[.agg #[.int .i64 (addP p x).1.num, .int .i64 (addP p x).1.cnt, .slice s'.a s'.n s'.c], .string (addP p x).2.1, .bool (addP p x).2.2]) ∧ OwnS w' w.heap.size s'.v (addP p x).1.ps ∧ Below w.heap.size w w'

theorem bx_new1 (w : World) (o : Obj) (T : TypeId) (cs : List Value) : Bx ((w.alloc o).alloc (.cells cs.toArray T)) (w.heap.size + 1) T cs := by
  have h := Bx.new (w.alloc o) T cs
  rw [show (w.alloc o).heap.size = w.heap.size + 1 by simp] at h
  exact h
theorem own_made1 (w : World) (o : Obj) (B : Nat) (hB : B ≤ w.heap.size) : OwnS ((w.alloc o).alloc (.cells #[] 9)) B (.slice (some ⟨w.heap.size + 1, 0, none⟩) 0 0) [] := by
  have h := OwnS.made (w.alloc o) B (by simp; omega)
  rw [show (w.alloc o).heap.size = w.heap.size + 1 by simp] at h
  exact h
/-- the box gq is the pile p, in memory from W's end on. -/
def CutSt (W : World) (gq : Nat) (p : Pi) (sq : Sv) (wx : World) : Prop := PiB wx gq p.num p.cnt sq ∧ OwnS wx W.heap.size sq.v p.ps ∧ W.heap.size ≤ gq ∧ Below W.heap.size W wx

set_option maxRecDepth 100000 in
set_option maxHeartbeats 8000000 in
theorem spAdd_any (p : Pi) (x : ByteArray) (s : Sv) (w : World) (hO : Hid (RT w (.slice s.a s.n s.c) p.ps)) (hps : Hid p.short) (hx : x.size ≤ 1048576)  :
    Calls Try.prog 24 #[.agg #[.int .i64 p.num, .int .i64 p.cnt, .slice s.a s.n s.c], .string x] w fun e w' => SpPost p x w e w' := by
  have B0 : Hid (Below w.heap.size w ((w.alloc (.cells #[.int .i64 p.num, .int .i64 p.cnt, .slice s.a s.n s.c] 35)).alloc (.cells #[.int .i64 0, .int .i64 0, .slice none 0 0] 35))) := ((Below.refl _ _).alloc (Nat.le_refl _) _).alloc (by simp) _
  have P0 : Hid (PiB ((w.alloc (.cells #[.int .i64 p.num, .int .i64 p.cnt, .slice s.a s.n s.c] 35)).alloc (.cells #[.int .i64 0, .int .i64 0, .slice none 0 0] 35)) w.heap.size p.num p.cnt s) := (Bx.new w 35 [.int .i64 p.num, .int .i64 p.cnt, .slice s.a s.n s.c]).stays ((Below.refl (w.heap.size + 1) _).alloc (by simp) _) (by omega)
  have R0 : Hid (PiB ((w.alloc (.cells #[.int .i64 p.num, .int .i64 p.cnt, .slice s.a s.n s.c] 35)).alloc (.cells #[.int .i64 0, .int .i64 0, .slice none 0 0] 35)) (w.heap.size + 1) 0 0 ⟨none, 0, 0⟩) := bx_new1 w _ 35 [.int .i64 0, .int .i64 0, .slice none 0 0]
  have T0 : Hid (RT ((w.alloc (.cells #[.int .i64 p.num, .int .i64 p.cnt, .slice s.a s.n s.c] 35)).alloc (.cells #[.int .i64 0, .int .i64 0, .slice none 0 0] 35)) (.slice s.a s.n s.c) p.ps) := hO.out.stays B0.out
  have hn4 : 0 + p.ps.length < 4000000 := by have := hps.out.1; omega
  go_enter Try.func24, Try.ntmps24
  go_wp2_with fail
  generalize ((w.alloc (.cells #[.int .i64 p.num, .int .i64 p.cnt, .slice s.a s.n s.c] 35)).alloc (.cells #[.int .i64 0, .int .i64 0, .slice none 0 0] 35)) = W at *
  go_cut [7] (fun u7 wx => ∃ (gq : Nat) (uq : Sv), u7 = .pointer (some ⟨gq, 0, none⟩) ∧ CutSt W gq p uq wx)
  case first =>
    have KEEP : Hid (∀ w', Below W.heap.size W w' → (w'.cell? ⟨w.heap.size, 0, none⟩ = some (.int .i64 p.num) ∧ w'.cell? ⟨w.heap.size, 1, none⟩ = some (.int .i64 p.cnt) ∧ w'.cell? ⟨w.heap.size, 2, none⟩ = some (.slice s.a s.n s.c)) ∧ Hid (Below W.heap.size W w')) := fun w' hb => ⟨(P0.out.later hb).cells, hb⟩
    have c : Below W.heap.size W W.drew := (Below.refl _ _).drew
    refine wp_region_held_drew (S := fun w' => (w'.cell? ⟨w.heap.size, 0, none⟩ = some (.int .i64 p.num) ∧ w'.cell? ⟨w.heap.size, 1, none⟩ = some (.int .i64 p.cnt) ∧ w'.cell? ⟨w.heap.size, 2, none⟩ = some (.slice s.a s.n s.c)) ∧ Hid (Below W.heap.size W w')) (by kernel_rfl) (KEEP.out _ c) (fun hHeld => ?_)
    refine wpAnyH_take (i := 0) (v := ?v0b1) rfl (by kernel_rfl) (by kernel_rfl) (by kernel_rfl) (fun _ _ _ h => h) (Or.inl ⟨by rfl, ?hy0b1⟩) (by assumption) ?_
    case hy0b1 => (intro w hSw; (try dsimp only at hSw); simp only [List.getElem_toArray, List.getElem_cons_zero, List.getElem_cons_succ]; go_simp; try with_reducible rfl)
    try simp only [Act.put, List.getElem_toArray, List.getElem_cons_zero, List.getElem_cons_succ, List.setIfInBounds_toArray, List.set_cons_zero, List.set_cons_succ]
    refine wpAnyH_take (i := 1) (v := ?v1b2) rfl (by kernel_rfl) (by kernel_rfl) (by kernel_rfl) (fun _ _ _ h => h) (Or.inl ⟨by rfl, ?hy1b2⟩) (by assumption) ?_
    case hy1b2 => (intro w hSw; (try dsimp only at hSw); simp only [List.getElem_toArray, List.getElem_cons_zero, List.getElem_cons_succ]; go_simp; try with_reducible rfl)
    try simp only [Act.put, List.getElem_toArray, List.getElem_cons_zero, List.getElem_cons_succ, List.setIfInBounds_toArray, List.set_cons_zero, List.set_cons_succ]
    refine wpAnyH_take (i := 2) (v := ?v2b3) rfl (by kernel_rfl) (by kernel_rfl) (by kernel_rfl) (fun _ _ _ h => h) (Or.inl ⟨by rfl, ?hy2b3⟩) (by assumption) ?_
    case hy2b3 => (intro w hSw; (try dsimp only at hSw); simp only [List.getElem_toArray, List.getElem_cons_zero, List.getElem_cons_succ]; go_simp; try with_reducible rfl)
    try simp only [Act.put, List.getElem_toArray, List.getElem_cons_zero, List.getElem_cons_succ, List.setIfInBounds_toArray, List.set_cons_zero, List.set_cons_succ]
    refine wpAnyH_take (i := 3) (v := ?v3b4) rfl (by kernel_rfl) (by kernel_rfl) (by kernel_rfl) (fun _ _ _ h => h) (Or.inl ⟨by rfl, ?hy3b4⟩) (by assumption) ?_
    case hy3b4 => (intro w hSw; (try dsimp only at hSw); simp only [List.getElem_toArray, List.getElem_cons_zero, List.getElem_cons_succ]; go_simp; try with_reducible rfl)
    try simp only [Act.put, List.getElem_toArray, List.getElem_cons_zero, List.getElem_cons_succ, List.setIfInBounds_toArray, List.set_cons_zero, List.set_cons_succ]
    refine wpAnyH_take (i := 5) (v := ?v5b5) rfl (by kernel_rfl) (by kernel_rfl) (by kernel_rfl) (fun _ _ _ h => h) (Or.inl ⟨by rfl, ?hy5b5⟩) (by assumption) ?_
    case hy5b5 => (intro w hSw; (try dsimp only at hSw); simp only [List.getElem_toArray, List.getElem_cons_zero, List.getElem_cons_succ]; go_simp; try with_reducible rfl)
    try simp only [Act.put, List.getElem_toArray, List.getElem_cons_zero, List.getElem_cons_succ, List.setIfInBounds_toArray, List.set_cons_zero, List.set_cons_succ]
    refine wpAnyH_take (i := 6) (v := ?v6b6) rfl (by kernel_rfl) (by kernel_rfl) (by kernel_rfl) (fun _ _ _ h => h) (Or.inl ⟨by rfl, ?hy6b6⟩) (by assumption) ?_
    case hy6b6 => (intro w hSw; (try dsimp only at hSw); simp only [List.getElem_toArray, List.getElem_cons_zero, List.getElem_cons_succ]; go_simp; try with_reducible rfl)
    try simp only [Act.put, List.getElem_toArray, List.getElem_cons_zero, List.getElem_cons_succ, List.setIfInBounds_toArray, List.set_cons_zero, List.set_cons_succ]
    refine wpAnyH_ready (rs := [4, 9]) (by kernel_rfl) (by simp) ?_
    refine (AllReadyH.cons (i := 4) rfl (fun K hK => ?_) (AllReadyH.cons (i := 9) rfl (fun K hK => ?_) AllReadyH.nil))
    · skip
      rw [if_pos (by rfl)]
      simp only [List.getElem_toArray, List.getElem_cons_zero, List.getElem_cons_succ]
      go_simp
      have OS1 : Hid (OwnS (W.drew.alloc (.cells #[] 9)) W.heap.size (.slice (some ⟨W.heap.size, 0, none⟩) 0 0) []) := by have h := OwnS.made W.drew W.heap.size c.size; rw [show W.drew.heap.size = W.heap.size by simp] at h; exact h
      have c : Below W.heap.size W (W.drew.alloc (.cells #[] 9)) := c.alloc c.size _
      refine hK.out _ _ (KEEP.out _ c) (fun hHeld => ?_)
      clear hK K
      try simp only [Act.put, List.getElem_toArray, List.getElem_cons_zero, List.getElem_cons_succ, List.setIfInBounds_toArray, List.set_cons_zero, List.set_cons_succ]
      refine wpAnyH_ready (rs := [7, 9]) (by kernel_rfl) (by simp) ?_
      refine (AllReadyH.cons (i := 7) rfl (fun K hK => ?_) (AllReadyH.cons (i := 9) rfl (fun K hK => ?_) AllReadyH.nil))
      · skip
        rw [if_pos (by rfl)]
        simp only [List.getElem_toArray, List.getElem_cons_zero, List.getElem_cons_succ]
        refine wp_catT _ _ 26 rfl Try.underlying26 Try.info9 W.heap.size (.slice (some ⟨W.heap.size, 0, none⟩) 0 0) [] (by rfl) OS1.out (.slice s.a s.n s.c) p.ps (by rfl) (T0.out.stays c) hn4 c.size (fun h => by cases h) ?_
        intro v2 y2 hv2 hg2
        obtain ⟨uq, hf2, -⟩ := sv_form hv2
        subst hf2
        have O2 : Hid (OwnS y2 W.heap.size uq.v p.ps) := hv2
        unfold Sv.v
        have c0 := c
        have c : Below W.heap.size W y2 := c.grown hg2 c.size (fun k hk => (OS1.out.lt k hk).1)
        refine hK.out _ _ (KEEP.out _ c) (fun hHeld => ?_)
        clear hK K
        try simp only [Act.put, List.getElem_toArray, List.getElem_cons_zero, List.getElem_cons_succ, List.setIfInBounds_toArray, List.set_cons_zero, List.set_cons_succ]
        clear hv2 hg2 c0
        refine wpAnyH_take (i := 8) (v := ?v8b7) rfl (by kernel_rfl) (by kernel_rfl) (by kernel_rfl) (fun _ _ _ h => h) (Or.inl ⟨by rfl, ?hy8b7⟩) (by assumption) ?_
        case hy8b7 => (intro w hSw; (try dsimp only at hSw); simp only [List.getElem_toArray, List.getElem_cons_zero, List.getElem_cons_succ]; go_simp; try with_reducible rfl)
        try simp only [Act.put, List.getElem_toArray, List.getElem_cons_zero, List.getElem_cons_succ, List.setIfInBounds_toArray, List.set_cons_zero, List.set_cons_succ]
        refine wpAnyH_ready (rs := [9]) (by kernel_rfl) (by simp) ?_
        refine AllReadyH.cons (i := 9) rfl (fun K hK => ?_) AllReadyH.nil
        rw [if_pos (by rfl)]
        simp only [List.getElem_toArray, List.getElem_cons_zero, List.getElem_cons_succ]
        go_simp
        have BX3 : Hid (Bx (y2.alloc (.cells #[.int .i64 0, .int .i64 0, .slice none 0 0] 35)) y2.heap.size 35 [.int .i64 0, .int .i64 0, .slice none 0 0]) := by have h := Bx.new y2 35 [.int .i64 0, .int .i64 0, .slice none 0 0]; rw [show y2.heap.size = y2.heap.size by simp] at h; exact h
        have zq : W.heap.size ≤ y2.heap.size := by have h := c.size; rw [show y2.heap.size = y2.heap.size by simp] at h; exact h
        have c : Below W.heap.size W (y2.alloc (.cells #[.int .i64 0, .int .i64 0, .slice none 0 0] 35)) := c.alloc c.size _
        have O2 : Hid (OwnS (y2.alloc (.cells #[.int .i64 0, .int .i64 0, .slice none 0 0] 35)) W.heap.size uq.v p.ps) := O2.out.alloc _
        refine hK.out _ _ (KEEP.out _ c) (fun hHeld => ?_)
        clear hK K
        try simp only [Act.put, List.getElem_toArray, List.getElem_cons_zero, List.getElem_cons_succ, List.setIfInBounds_toArray, List.set_cons_zero, List.set_cons_succ]
        refine wpAnyH_ready (rs := [10]) (by kernel_rfl) (by simp) ?_
        refine AllReadyH.cons (i := 10) rfl (fun K hK => ?_) AllReadyH.nil
        rw [if_pos (by rfl)]
        simp only [List.getElem_toArray, List.getElem_cons_zero, List.getElem_cons_succ]
        refine wp_stB 35 _ _ rfl (y2.heap.size) 0 (by rfl) 35 _ BX3.out [.int .i64 p.num, .int .i64 p.cnt, .slice uq.a uq.n uq.c] (by rfl) (by simp) Try.sizeP rfl [.int .i64 p.num, .int .i64 p.cnt, .slice uq.a uq.n uq.c] rfl ?_
        intro y4 RB4 TB4
        have O4 := O2.out.past BX3.out TB4 (by decide)
        have c : Below W.heap.size W y4 := c.trans (TB4.below zq)
        refine hK.out _ _ (KEEP.out _ c) (fun hHeld => ?_)
        clear hK K
        try simp only [Act.put, List.getElem_toArray, List.getElem_cons_zero, List.getElem_cons_succ, List.setIfInBounds_toArray, List.set_cons_zero, List.set_cons_succ]
        refine wpAnyH_done (by kernel_rfl) ?_ _
        try go_wp2_with fail
        go_meet
        exact ⟨_, uq, rfl, RB4, O4, zq, c⟩
      · skip
        rw [if_pos (by rfl)]
        simp only [List.getElem_toArray, List.getElem_cons_zero, List.getElem_cons_succ]
        go_simp
        have BX2 : Hid (Bx ((W.drew.alloc (.cells #[] 9)).alloc (.cells #[.int .i64 0, .int .i64 0, .slice none 0 0] 35)) (W.heap.size + 1) 35 [.int .i64 0, .int .i64 0, .slice none 0 0]) := by have h := Bx.new (W.drew.alloc (.cells #[] 9)) 35 [.int .i64 0, .int .i64 0, .slice none 0 0]; rw [show (W.drew.alloc (.cells #[] 9)).heap.size = (W.heap.size + 1) by simp] at h; exact h
        have zq : W.heap.size ≤ (W.heap.size + 1) := by have h := c.size; rw [show (W.drew.alloc (.cells #[] 9)).heap.size = (W.heap.size + 1) by simp] at h; exact h
        have c : Below W.heap.size W ((W.drew.alloc (.cells #[] 9)).alloc (.cells #[.int .i64 0, .int .i64 0, .slice none 0 0] 35)) := c.alloc c.size _
        have OS1 : Hid (OwnS ((W.drew.alloc (.cells #[] 9)).alloc (.cells #[.int .i64 0, .int .i64 0, .slice none 0 0] 35)) W.heap.size (.slice (some ⟨W.heap.size, 0, none⟩) 0 0) []) := OS1.out.alloc _
        refine hK.out _ _ (KEEP.out _ c) (fun hHeld => ?_)
        clear hK K
        try simp only [Act.put, List.getElem_toArray, List.getElem_cons_zero, List.getElem_cons_succ, List.setIfInBounds_toArray, List.set_cons_zero, List.set_cons_succ]
        refine wpAnyH_ready (rs := [7]) (by kernel_rfl) (by simp) ?_
        refine AllReadyH.cons (i := 7) rfl (fun K hK => ?_) AllReadyH.nil
        rw [if_pos (by rfl)]
        simp only [List.getElem_toArray, List.getElem_cons_zero, List.getElem_cons_succ]
        refine wp_catT _ _ 26 rfl Try.underlying26 Try.info9 W.heap.size (.slice (some ⟨W.heap.size, 0, none⟩) 0 0) [] (by rfl) OS1.out (.slice s.a s.n s.c) p.ps (by rfl) (T0.out.stays c) hn4 c.size (fun h => by cases h) ?_
        intro v3 y3 hv3 hg3
        obtain ⟨uq, hf3, -⟩ := sv_form hv3
        subst hf3
        have O3 : Hid (OwnS y3 W.heap.size uq.v p.ps) := hv3
        unfold Sv.v
        have c0 := c
        have c : Below W.heap.size W y3 := c.grown hg3 c.size (fun k hk => (OS1.out.lt k hk).1)
        have BX2 : Hid (Bx y3 (W.heap.size + 1) 35 [.int .i64 0, .int .i64 0, .slice none 0 0]) := BX2.out.grown hg3 (fun e => bx_s_ne OS1.out BX2.out (by decide) e.symm)
        refine hK.out _ _ (KEEP.out _ c) (fun hHeld => ?_)
        clear hK K
        try simp only [Act.put, List.getElem_toArray, List.getElem_cons_zero, List.getElem_cons_succ, List.setIfInBounds_toArray, List.set_cons_zero, List.set_cons_succ]
        clear hv3 hg3 c0
        refine wpAnyH_take (i := 8) (v := ?v8b8) rfl (by kernel_rfl) (by kernel_rfl) (by kernel_rfl) (fun _ _ _ h => h) (Or.inl ⟨by rfl, ?hy8b8⟩) (by assumption) ?_
        case hy8b8 => (intro w hSw; (try dsimp only at hSw); simp only [List.getElem_toArray, List.getElem_cons_zero, List.getElem_cons_succ]; go_simp; try with_reducible rfl)
        try simp only [Act.put, List.getElem_toArray, List.getElem_cons_zero, List.getElem_cons_succ, List.setIfInBounds_toArray, List.set_cons_zero, List.set_cons_succ]
        refine wpAnyH_ready (rs := [10]) (by kernel_rfl) (by simp) ?_
        refine AllReadyH.cons (i := 10) rfl (fun K hK => ?_) AllReadyH.nil
        rw [if_pos (by rfl)]
        simp only [List.getElem_toArray, List.getElem_cons_zero, List.getElem_cons_succ]
        refine wp_stB 35 _ _ rfl ((W.heap.size + 1)) 0 (by rfl) 35 _ BX2.out [.int .i64 p.num, .int .i64 p.cnt, .slice uq.a uq.n uq.c] (by rfl) (by simp) Try.sizeP rfl [.int .i64 p.num, .int .i64 p.cnt, .slice uq.a uq.n uq.c] rfl ?_
        intro y4 RB4 TB4
        have O4 := O3.out.past BX2.out TB4 (by decide)
        have c : Below W.heap.size W y4 := c.trans (TB4.below zq)
        refine hK.out _ _ (KEEP.out _ c) (fun hHeld => ?_)
        clear hK K
        try simp only [Act.put, List.getElem_toArray, List.getElem_cons_zero, List.getElem_cons_succ, List.setIfInBounds_toArray, List.set_cons_zero, List.set_cons_succ]
        refine wpAnyH_done (by kernel_rfl) ?_ _
        try go_wp2_with fail
        go_meet
        exact ⟨_, uq, rfl, RB4, O4, zq, c⟩
    · skip
      rw [if_pos (by rfl)]
      simp only [List.getElem_toArray, List.getElem_cons_zero, List.getElem_cons_succ]
      go_simp
      have BX1 : Hid (Bx (W.drew.alloc (.cells #[.int .i64 0, .int .i64 0, .slice none 0 0] 35)) W.heap.size 35 [.int .i64 0, .int .i64 0, .slice none 0 0]) := by have h := Bx.new W.drew 35 [.int .i64 0, .int .i64 0, .slice none 0 0]; rw [show W.drew.heap.size = W.heap.size by simp] at h; exact h
      have zq : W.heap.size ≤ W.heap.size := by have h := c.size; rw [show W.drew.heap.size = W.heap.size by simp] at h; exact h
      have c : Below W.heap.size W (W.drew.alloc (.cells #[.int .i64 0, .int .i64 0, .slice none 0 0] 35)) := c.alloc c.size _
      refine hK.out _ _ (KEEP.out _ c) (fun hHeld => ?_)
      clear hK K
      try simp only [Act.put, List.getElem_toArray, List.getElem_cons_zero, List.getElem_cons_succ, List.setIfInBounds_toArray, List.set_cons_zero, List.set_cons_succ]
      refine wpAnyH_ready (rs := [4]) (by kernel_rfl) (by simp) ?_
      refine AllReadyH.cons (i := 4) rfl (fun K hK => ?_) AllReadyH.nil
      rw [if_pos (by rfl)]
      simp only [List.getElem_toArray, List.getElem_cons_zero, List.getElem_cons_succ]
      go_simp
      have OS2 : Hid (OwnS ((W.drew.alloc (.cells #[.int .i64 0, .int .i64 0, .slice none 0 0] 35)).alloc (.cells #[] 9)) W.heap.size (.slice (some ⟨(W.heap.size + 1), 0, none⟩) 0 0) []) := by have h := OwnS.made (W.drew.alloc (.cells #[.int .i64 0, .int .i64 0, .slice none 0 0] 35)) W.heap.size c.size; rw [show (W.drew.alloc (.cells #[.int .i64 0, .int .i64 0, .slice none 0 0] 35)).heap.size = (W.heap.size + 1) by simp] at h; exact h
      have c : Below W.heap.size W ((W.drew.alloc (.cells #[.int .i64 0, .int .i64 0, .slice none 0 0] 35)).alloc (.cells #[] 9)) := c.alloc c.size _
      have BX1 : Hid (Bx ((W.drew.alloc (.cells #[.int .i64 0, .int .i64 0, .slice none 0 0] 35)).alloc (.cells #[] 9)) W.heap.size 35 [.int .i64 0, .int .i64 0, .slice none 0 0]) := BX1.out.later ((Below.refl _ _).alloc (Nat.le_refl _) _)
      refine hK.out _ _ (KEEP.out _ c) (fun hHeld => ?_)
      clear hK K
      try simp only [Act.put, List.getElem_toArray, List.getElem_cons_zero, List.getElem_cons_succ, List.setIfInBounds_toArray, List.set_cons_zero, List.set_cons_succ]
      refine wpAnyH_ready (rs := [7]) (by kernel_rfl) (by simp) ?_
      refine AllReadyH.cons (i := 7) rfl (fun K hK => ?_) AllReadyH.nil
      rw [if_pos (by rfl)]
      simp only [List.getElem_toArray, List.getElem_cons_zero, List.getElem_cons_succ]
      refine wp_catT _ _ 26 rfl Try.underlying26 Try.info9 W.heap.size (.slice (some ⟨(W.heap.size + 1), 0, none⟩) 0 0) [] (by rfl) OS2.out (.slice s.a s.n s.c) p.ps (by rfl) (T0.out.stays c) hn4 c.size (fun h => by cases h) ?_
      intro v3 y3 hv3 hg3
      obtain ⟨uq, hf3, -⟩ := sv_form hv3
      subst hf3
      have O3 : Hid (OwnS y3 W.heap.size uq.v p.ps) := hv3
      unfold Sv.v
      have c0 := c
      have c : Below W.heap.size W y3 := c.grown hg3 c.size (fun k hk => (OS2.out.lt k hk).1)
      have BX1 : Hid (Bx y3 W.heap.size 35 [.int .i64 0, .int .i64 0, .slice none 0 0]) := BX1.out.grown hg3 (fun e => bx_s_ne OS2.out BX1.out (by decide) e.symm)
      refine hK.out _ _ (KEEP.out _ c) (fun hHeld => ?_)
      clear hK K
      try simp only [Act.put, List.getElem_toArray, List.getElem_cons_zero, List.getElem_cons_succ, List.setIfInBounds_toArray, List.set_cons_zero, List.set_cons_succ]
      clear hv3 hg3 c0
      refine wpAnyH_take (i := 8) (v := ?v8b9) rfl (by kernel_rfl) (by kernel_rfl) (by kernel_rfl) (fun _ _ _ h => h) (Or.inl ⟨by rfl, ?hy8b9⟩) (by assumption) ?_
      case hy8b9 => (intro w hSw; (try dsimp only at hSw); simp only [List.getElem_toArray, List.getElem_cons_zero, List.getElem_cons_succ]; go_simp; try with_reducible rfl)
      try simp only [Act.put, List.getElem_toArray, List.getElem_cons_zero, List.getElem_cons_succ, List.setIfInBounds_toArray, List.set_cons_zero, List.set_cons_succ]
      refine wpAnyH_ready (rs := [10]) (by kernel_rfl) (by simp) ?_
      refine AllReadyH.cons (i := 10) rfl (fun K hK => ?_) AllReadyH.nil
      rw [if_pos (by rfl)]
      simp only [List.getElem_toArray, List.getElem_cons_zero, List.getElem_cons_succ]
      refine wp_stB 35 _ _ rfl (W.heap.size) 0 (by rfl) 35 _ BX1.out [.int .i64 p.num, .int .i64 p.cnt, .slice uq.a uq.n uq.c] (by rfl) (by simp) Try.sizeP rfl [.int .i64 p.num, .int .i64 p.cnt, .slice uq.a uq.n uq.c] rfl ?_
      intro y4 RB4 TB4
      have O4 := O3.out.past BX1.out TB4 (by decide)
      have c : Below W.heap.size W y4 := c.trans (TB4.below zq)
      refine hK.out _ _ (KEEP.out _ c) (fun hHeld => ?_)
      clear hK K
      try simp only [Act.put, List.getElem_toArray, List.getElem_cons_zero, List.getElem_cons_succ, List.setIfInBounds_toArray, List.set_cons_zero, List.set_cons_succ]
      refine wpAnyH_done (by kernel_rfl) ?_ _
      try go_wp2_with fail
      go_meet
      exact ⟨_, uq, rfl, RB4, O4, zq, c⟩

  case rest =>
  obtain ⟨gq, uq, rfl, hbx, hoq, zgq, b2⟩ := hcut
  generalize wc = W3 at *
  have Q3 : Hid (PiB W3 gq p.num p.cnt uq) := hbx
  have O3 : Hid (OwnS W3 W.heap.size uq.v p.ps) := hoq
  have B3 : Hid (Below w.heap.size w W3) := B0.out.trans (b2.mono B0.out.size)
  have P3 : Hid (PiB W3 w.heap.size p.num p.cnt s) := P0.out.later b2
  have R3 : Hid (PiB W3 (w.heap.size + 1) 0 0 ⟨none, 0, 0⟩) := R0.out.later b2
  have ZQ : Hid (W.heap.size ≤ gq ∧ w.heap.size + 1 < W.heap.size) := ⟨zgq, R0.out.lt⟩
  clear hbx hoq b2 zgq B0 P0 R0 T0
  generalize hgr : w.heap.size + 1 = gr at *
  have HGR : Hid (w.heap.size + 1 = gr) := hgr
  clear hgr
  have hgr' : w.heap.size ≤ gr := by have := HGR.out; omega
  go_wp2_with fail
  have HSN : Hid (s.n = p.ps.length) := by obtain ⟨a, c, h1, _⟩ := hO.out; simp only [Value.slice.injEq] at h1; exact h1.2.1
  rcases h0 : pcP x with _ | ⟨n, q, c, t⟩
  · refine (spReadPiece_no x W3 hx h0).mono ?_
    rintro e w4 ⟨rfl, hb4⟩
    have HP : Hid (pcP x = none) := h0
    have P4 : Hid (PiB w4 w.heap.size p.num p.cnt s) := P3.out.later hb4
    have Q4 : Hid (PiB w4 gq p.num p.cnt uq) := Q3.out.later hb4
    have O4 : Hid (OwnS w4 W.heap.size uq.v p.ps) := ownS_later O3.out hb4
    have R4 : Hid (PiB w4 gr 0 0 ⟨none, 0, 0⟩) := R3.out.later hb4
    have B4 : Hid (Below w.heap.size w w4) := B3.out.trans (hb4.mono B3.out.size)
    clear P3 Q3 O3 R3 B3 hb4 h0
    obtain ⟨q0, q1, q2⟩ := Q4.out.cells
    obtain ⟨a0, a1, a2⟩ := P4.out.cells
    go_wp2_with (first | (refine wpList_stB rfl 35 _ _ rfl gr 0 rfl 35 _ R4.out [.int .i64 p.num, .int .i64 p.cnt, .slice uq.a uq.n uq.c] rfl (by simp) Try.sizeP rfl [.int .i64 p.num, .int .i64 p.cnt, .slice uq.a uq.n uq.c] rfl ?_; intro wz RZ TZ))
    have BZ : Below w.heap.size w wz := B4.out.trans (TZ.below hgr')
    have OZ : OwnS wz W.heap.size uq.v p.ps := O4.out.past R4.out TZ (by decide)
    obtain ⟨z0, z1, z2⟩ := PiB.cells (s := uq) RZ
    refine bodyPost_ret (v := .tuple #[.agg #[.int .i64 p.num, .int .i64 p.cnt, .slice uq.a uq.n uq.c], .string ⟨#[]⟩, .bool false]) (by simp [results, Try.results24, go_sem, z0, z1, z2]) rfl ?_
    exact ⟨uq, by rw [addP_none HP.out]; rfl, by rw [addP_none HP.out]; exact OZ.down (by have := ZQ.out; have := HGR.out; omega), BZ⟩
  · refine (spReadPiece_yes x n q c t W3 hx h0).mono ?_
    rintro e w4 ⟨rfl, hb4⟩
    have HP : Hid (pcP x = some (n, q, c, t)) := h0
    have hr := pcP_right h0
    have P4 : Hid (PiB w4 w.heap.size p.num p.cnt s) := P3.out.later hb4
    have Q4 : Hid (PiB w4 gq p.num p.cnt uq) := Q3.out.later hb4
    have O4 : Hid (OwnS w4 W.heap.size uq.v p.ps) := ownS_later O3.out hb4
    have R4 : Hid (PiB w4 gr 0 0 ⟨none, 0, 0⟩) := R3.out.later hb4
    have B4 : Hid (Below w.heap.size w w4) := B3.out.trans (hb4.mono B3.out.size)
    clear P3 Q3 O3 R3 B3 hb4 h0
    cases hf : fitsB p n q c with
    | false =>
      have hf' := of_decide_eq_false hf
      have HF : Hid (fitsB p n q c = false) := hf
      clear hf
      have hq : 0 < q := Nat.pos_of_ne_zero fun e => hf' (.inl e)
      have hq' : (0 : Int) < (q : Int) := by omega
      by_cases e0 : (n : Int) = p.num
      · by_cases e1 : (c : Int) = p.cnt
        · have d0 : (p.num != (n : Int)) = false := by simp [e0]
          have d1 : (p.cnt != (c : Int)) = false := by simp [e1]
          have d2 : ((s.n : Int) != (q : Int)) = true := by
            have := HSN.out
            simp; intro h; exact hf' (.inr ⟨e0, e1, by omega⟩)
          clear hf' e0 e1
          obtain ⟨q0, q1, q2⟩ := Q4.out.cells
          obtain ⟨a0, a1, a2⟩ := P4.out.cells
          go_wp2_with (first | (refine wpList_stB rfl 35 _ _ rfl gr 0 rfl 35 _ R4.out [.int .i64 p.num, .int .i64 p.cnt, .slice uq.a uq.n uq.c] rfl (by simp) Try.sizeP rfl [.int .i64 p.num, .int .i64 p.cnt, .slice uq.a uq.n uq.c] rfl ?_; intro wz RZ TZ))
          have BZ : Below w.heap.size w wz := B4.out.trans (TZ.below hgr')
          have OZ : OwnS wz W.heap.size uq.v p.ps := O4.out.past R4.out TZ (by decide)
          obtain ⟨z0, z1, z2⟩ := PiB.cells (s := uq) RZ
          refine bodyPost_ret (v := .tuple #[.agg #[.int .i64 p.num, .int .i64 p.cnt, .slice uq.a uq.n uq.c], .string ⟨#[]⟩, .bool false]) (by simp [results, Try.results24, go_sem, z0, z1, z2]) rfl ?_
          exact ⟨uq, by rw [addP_no HP.out HF.out]; rfl, by rw [addP_no HP.out HF.out]; exact OZ.down (by have := ZQ.out; have := HGR.out; omega), BZ⟩
        · have d0 : (p.num != (n : Int)) = false := by simp [e0]
          have d1 : (p.cnt != (c : Int)) = true := by simp; exact fun h => e1 h.symm
          clear hf' e0 e1
          obtain ⟨q0, q1, q2⟩ := Q4.out.cells
          obtain ⟨a0, a1, a2⟩ := P4.out.cells
          go_wp2_with (first | (refine wpList_stB rfl 35 _ _ rfl gr 0 rfl 35 _ R4.out [.int .i64 p.num, .int .i64 p.cnt, .slice uq.a uq.n uq.c] rfl (by simp) Try.sizeP rfl [.int .i64 p.num, .int .i64 p.cnt, .slice uq.a uq.n uq.c] rfl ?_; intro wz RZ TZ))
          have BZ : Below w.heap.size w wz := B4.out.trans (TZ.below hgr')
          have OZ : OwnS wz W.heap.size uq.v p.ps := O4.out.past R4.out TZ (by decide)
          obtain ⟨z0, z1, z2⟩ := PiB.cells (s := uq) RZ
          refine bodyPost_ret (v := .tuple #[.agg #[.int .i64 p.num, .int .i64 p.cnt, .slice uq.a uq.n uq.c], .string ⟨#[]⟩, .bool false]) (by simp [results, Try.results24, go_sem, z0, z1, z2]) rfl ?_
          exact ⟨uq, by rw [addP_no HP.out HF.out]; rfl, by rw [addP_no HP.out HF.out]; exact OZ.down (by have := ZQ.out; have := HGR.out; omega), BZ⟩
      · have d0 : (p.num != (n : Int)) = true := by simp; exact fun h => e0 h.symm
        clear hf' e0
        obtain ⟨q0, q1, q2⟩ := Q4.out.cells
        obtain ⟨a0, a1, a2⟩ := P4.out.cells
        go_wp2_with (first | (refine wpList_stB rfl 35 _ _ rfl gr 0 rfl 35 _ R4.out [.int .i64 p.num, .int .i64 p.cnt, .slice uq.a uq.n uq.c] rfl (by simp) Try.sizeP rfl [.int .i64 p.num, .int .i64 p.cnt, .slice uq.a uq.n uq.c] rfl ?_; intro wz RZ TZ))
        have BZ : Below w.heap.size w wz := B4.out.trans (TZ.below hgr')
        have OZ : OwnS wz W.heap.size uq.v p.ps := O4.out.past R4.out TZ (by decide)
        obtain ⟨z0, z1, z2⟩ := PiB.cells (s := uq) RZ
        refine bodyPost_ret (v := .tuple #[.agg #[.int .i64 p.num, .int .i64 p.cnt, .slice uq.a uq.n uq.c], .string ⟨#[]⟩, .bool false]) (by simp [results, Try.results24, go_sem, z0, z1, z2]) rfl ?_
        exact ⟨uq, by rw [addP_no HP.out HF.out]; rfl, by rw [addP_no HP.out HF.out]; exact OZ.down (by have := ZQ.out; have := HGR.out; omega), BZ⟩
    | true =>
      have HF : Hid (fitsB p n q c = true) := hf
      have HBL : Hid ((baseP p q).length = q ∧ q ≤ 9) := base_len HP.out hf
      have hff := of_decide_eq_true hf
      clear hf
      rcases Nat.eq_zero_or_pos q with hq | hq
      · subst hq
        by_cases hc : 0 + 1 = c
        · subst hc
          obtain ⟨a0, a1, a2⟩ := P4.out.cells
          go_wp2_with (first | (with_reducible refine wpList_haltS 35 _ _ rfl ?_))
          refine Stp.go ?_
          refine wpList_stB rfl 35 _ _ rfl (w4.heap.size + 1) 0 rfl 35 _ (bx_new1 w4 _ 35 [.int .i64 0, .int .i64 0, .slice none 0 0]) [.int .i64 n, .int .i64 1, .slice (some ⟨w4.heap.size, 0, none⟩) 1 1] rfl (by simp) Try.sizeP rfl [.int .i64 n, .int .i64 1, .slice (some ⟨w4.heap.size, 0, none⟩) 1 1] rfl ?_
          intro V5 GB TB
          have BL : Below w4.heap.size w4 V5 := (((Below.refl _ _).alloc (Nat.le_refl _) _).alloc (by simp) _).trans (TB.below (by omega))
          have G5 : Hid (PiB V5 (w4.heap.size + 1) n 1 ⟨some ⟨w4.heap.size, 0, none⟩, 1, 1⟩) := GB
          have L5 : Hid (OwnS V5 w.heap.size (Sv.v ⟨some ⟨w4.heap.size, 0, none⟩, 1, 1⟩) [t]) := ((OwnS.lit w4 w.heap.size [t] B4.out.size (by simp)).alloc _).past (bx_new1 w4 _ 35 [.int .i64 0, .int .i64 0, .slice none 0 0]) TB (by decide)
          have P5 : Hid (PiB V5 w.heap.size p.num p.cnt s) := P4.out.later BL
          have Q5 : Hid (PiB V5 gq p.num p.cnt uq) := Q4.out.later BL
          have O5 : Hid (OwnS V5 W.heap.size uq.v p.ps) := ownS_later O4.out BL
          have R5 : Hid (PiB V5 gr 0 0 ⟨none, 0, 0⟩) := R4.out.later BL
          have B5 : Hid (Below w.heap.size w V5) := B4.out.trans (BL.mono B4.out.size)
          have Z5 : Hid (gq < w4.heap.size ∧ gr < w4.heap.size ∧ w4.heap.size + 1 < V5.heap.size) := ⟨Q4.out.lt, R4.out.lt, G5.out.lt⟩
          clear P4 Q4 O4 R4 B4 BL GB TB a0 a1 a2
          generalize hg5 : w4.heap.size + 1 = g5 at *
          have HG5 : Hid (w4.heap.size + 1 = g5) := hg5
          clear hg5
          have E5 : Hid (PiB V5 g5 n 1 ⟨some ⟨w4.heap.size, 0, none⟩, 1, 1⟩) := G5.out
          have F5 : Hid (OwnS V5 w.heap.size (Sv.v ⟨some ⟨w4.heap.size, 0, none⟩, 1, 1⟩) (baseP p 0 ++ [t])) := L5.out
          obtain ⟨g0, g1, g2⟩ := E5.out.cells
          clear G5 L5 P5 Q5 O5
          generalize hsvx : (⟨some ⟨w4.heap.size, 0, none⟩, 1, 1⟩ : Sv) = sv at E5 F5
          clear hsvx
          generalize hLL : baseP p 0 ++ [t] = LL at F5
          have HLL : Hid (baseP p 0 ++ [t] = LL) := hLL
          have hl0 : 0 < LL.length := by rw [← hLL]; simp
          have hl1 : LL.length ≤ 10 := by rw [← hLL, List.length_append, HBL.out.1]; have := HBL.out.2; simp only [List.length_cons, List.length_nil]; omega
          have HSZ : Hid (∀ y ∈ LL, y.size ≤ 1048576) := by
            show ∀ y ∈ LL, y.size ≤ 1048576
            rw [← hLL]
            intro y hy
            rcases List.mem_append.1 hy with hy | hy
            · exact base_short hps.out y hy
            · simp at hy; subst hy; omega
          clear hLL g0 g1 g2
          obtain ⟨gl, cap, hv, _, hgl, hcl, _⟩ := F5.out.some hl0
          have HCL : Hid (∀ i (h : i < LL.length), V5.cell? ⟨gl, i, none⟩ = some (.string LL[i])) := hcl
          have g2 := E5.out.cells.2.2
          unfold Sv.v at hv
          rw [hv] at g2
          clear hv hcl
          go_wp2_with fail
          go_loop [14, 15] (fun wh i => ∃ k : Nat, k ≤ LL.length ∧ i = .int .i64 k ∧ wh = .string (catL (LL.take k))) (fun _ i => LL.length - (intOf i).toNat)
          case atStart => exact ⟨0, Nat.zero_le _, rfl, rfl⟩
          case round =>
            obtain ⟨k, hk, rfl, rfl⟩ := hrel
            by_cases hlt : k < LL.length
            · have hce := HCL.out k hlt
              have hys := HSZ.out _ (List.getElem_mem hlt)
              have hcs : (catL (LL.take k)).size ≤ 10485760 := by
                rw [rt_size]
                have h1 := catL_len (LL.take k) 1048576 (fun y hy => HSZ.out y (List.mem_of_mem_take hy))
                have h2 : (LL.take k).length ≤ 10 := by rw [List.length_take]; omega
                have h3 : (LL.take k).length * 1048576 ≤ 10 * 1048576 := Nat.mul_le_mul_right _ h2
                omega
              obtain ⟨y, hy⟩ : ∃ y, y = LL[k] := ⟨_, rfl⟩
              rw [← hy] at hce hys
              have HY : Hid (y = LL[k]) := hy
              clear hy
              go_wp2
              go_round
              case rel => exact ⟨k + 1, by omega, by go_num, by rw [catL_take hlt, ← HY.out]⟩
              case measure => simp [intOf]; omega
            · obtain rfl : k = LL.length := by omega
              rw [List.take_length]
              clear hk hlt
              go_wp2_with (first | (with_reducible refine wpList_haltS 35 _ _ rfl ?_))
              refine Stp.go ?_
              refine wpList_stB rfl 35 _ _ rfl gr 0 rfl 35 _ R5.out [.int .i64 0, .int .i64 0, .slice none 0 0] rfl (by simp) Try.sizeP rfl [.int .i64 0, .int .i64 0, .slice none 0 0] rfl ?_
              intro wz RZ TZ
              have BZ : Below w.heap.size w wz := B5.out.trans (TZ.below hgr')
              have OZ : OwnS wz w.heap.size (Sv.v ⟨none, 0, 0⟩) [] := ownS_none wz _
              obtain ⟨z0, z1, z2⟩ := PiB.cells (s := ⟨none, 0, 0⟩) RZ
              go_wp2_with fail
              refine bodyPost_ret (v := .tuple #[.agg #[.int .i64 0, .int .i64 0, .slice none 0 0], .string (catL LL), .bool true]) (by simp [results, Try.results24, go_sem, z0, z1, z2]) rfl ?_
              exact ⟨⟨none, 0, 0⟩, by rw [addP_last HP.out HF.out rfl, HLL.out]; rfl, by rw [addP_last HP.out HF.out rfl, HLL.out]; exact OZ, BZ⟩
        · have hc' : (1 : Int) < (c : Int) := by omega
          have HC1 : Hid (0 + 1 ≠ c) := hc
          clear hc hff
          obtain ⟨a0, a1, a2⟩ := P4.out.cells
          go_wp2_with (first | (with_reducible refine wpList_haltS 35 _ _ rfl ?_))
          refine Stp.go ?_
          refine wpList_stB rfl 35 _ _ rfl (w4.heap.size + 1) 0 rfl 35 _ (bx_new1 w4 _ 35 [.int .i64 0, .int .i64 0, .slice none 0 0]) [.int .i64 n, .int .i64 c, .slice (some ⟨w4.heap.size, 0, none⟩) 1 1] rfl (by simp) Try.sizeP rfl [.int .i64 n, .int .i64 c, .slice (some ⟨w4.heap.size, 0, none⟩) 1 1] rfl ?_
          intro V5 GB TB
          have BL : Below w4.heap.size w4 V5 := (((Below.refl _ _).alloc (Nat.le_refl _) _).alloc (by simp) _).trans (TB.below (by omega))
          have G5 : Hid (PiB V5 (w4.heap.size + 1) n c ⟨some ⟨w4.heap.size, 0, none⟩, 1, 1⟩) := GB
          have L5 : Hid (OwnS V5 w.heap.size (Sv.v ⟨some ⟨w4.heap.size, 0, none⟩, 1, 1⟩) [t]) := ((OwnS.lit w4 w.heap.size [t] B4.out.size (by simp)).alloc _).past (bx_new1 w4 _ 35 [.int .i64 0, .int .i64 0, .slice none 0 0]) TB (by decide)
          have P5 : Hid (PiB V5 w.heap.size p.num p.cnt s) := P4.out.later BL
          have Q5 : Hid (PiB V5 gq p.num p.cnt uq) := Q4.out.later BL
          have O5 : Hid (OwnS V5 W.heap.size uq.v p.ps) := ownS_later O4.out BL
          have R5 : Hid (PiB V5 gr 0 0 ⟨none, 0, 0⟩) := R4.out.later BL
          have B5 : Hid (Below w.heap.size w V5) := B4.out.trans (BL.mono B4.out.size)
          have Z5 : Hid (gq < w4.heap.size ∧ gr < w4.heap.size ∧ w4.heap.size + 1 < V5.heap.size) := ⟨Q4.out.lt, R4.out.lt, G5.out.lt⟩
          clear P4 Q4 O4 R4 B4 BL GB TB a0 a1 a2
          generalize hg5 : w4.heap.size + 1 = g5 at *
          have HG5 : Hid (w4.heap.size + 1 = g5) := hg5
          clear hg5
          have E5 : Hid (PiB V5 g5 n c ⟨some ⟨w4.heap.size, 0, none⟩, 1, 1⟩) := G5.out
          have F5 : Hid (OwnS V5 w.heap.size (Sv.v ⟨some ⟨w4.heap.size, 0, none⟩, 1, 1⟩) (baseP p 0 ++ [t])) := L5.out
          obtain ⟨g0, g1, g2⟩ := E5.out.cells
          clear G5 L5 P5 Q5 O5
          go_wp2_with (first | (with_reducible refine wpList_haltS 35 _ _ rfl ?_))
          refine Stp.go ?_
          refine wpList_stB rfl 35 _ _ rfl gr 0 rfl 35 _ R5.out [.int .i64 n, .int .i64 c, .slice (some ⟨w4.heap.size, 0, none⟩) 1 1] rfl (by simp) Try.sizeP rfl [.int .i64 n, .int .i64 c, .slice (some ⟨w4.heap.size, 0, none⟩) 1 1] rfl ?_
          intro wz RZ TZ
          have BZ : Below w.heap.size w wz := B5.out.trans (TZ.below hgr')
          have OZ : OwnS wz w.heap.size (Sv.v ⟨some ⟨w4.heap.size, 0, none⟩, 1, 1⟩) (baseP p 0 ++ [t]) := F5.out.past R5.out TZ (by decide)
          obtain ⟨z0, z1, z2⟩ := PiB.cells (s := ⟨some ⟨w4.heap.size, 0, none⟩, 1, 1⟩) RZ
          go_wp2_with fail
          refine bodyPost_ret (v := .tuple #[.agg #[.int .i64 n, .int .i64 c, .slice (some ⟨w4.heap.size, 0, none⟩) 1 1], .string ⟨#[]⟩, .bool false]) (by simp [results, Try.results24, go_sem, z0, z1, z2]) rfl ?_
          exact ⟨⟨some ⟨w4.heap.size, 0, none⟩, 1, 1⟩, by rw [addP_more HP.out HF.out HC1.out]; rfl, by rw [addP_more HP.out HF.out HC1.out]; exact OZ, BZ⟩
      · obtain ⟨f1, f2, f3⟩ := hff.resolve_left (by omega)
        have d0 : (p.num != (n : Int)) = false := by simp [f1]
        have d1 : (p.cnt != (c : Int)) = false := by simp [f2]
        have d2 : ((s.n : Int) != (q : Int)) = false := by have := HSN.out; simp; omega
        have hq' : (0 : Int) < (q : Int) := by omega
        clear hff f1 f2 f3
        by_cases hc : q + 1 = c
        · have hc' : ¬ ((q : Int) + 1 < (c : Int)) := by omega
          have HC1 : Hid (q + 1 = c) := hc
          clear hc
          obtain ⟨a0, a1, a2⟩ := P4.out.cells
          go_wp2_with (first | (with_reducible refine wpList_haltS 35 _ _ rfl ?_))
          refine Stp.go ?_
          refine wpList_stB rfl 35 _ _ rfl (w4.heap.size + 1) 0 rfl 35 _ (bx_new1 w4 _ 35 [.int .i64 0, .int .i64 0, .slice none 0 0]) [.int .i64 n, .int .i64 c, .slice (some ⟨w4.heap.size, 0, none⟩) 1 1] rfl (by simp) Try.sizeP rfl [.int .i64 n, .int .i64 c, .slice (some ⟨w4.heap.size, 0, none⟩) 1 1] rfl ?_
          intro V5 GB TB
          have BL : Below w4.heap.size w4 V5 := (((Below.refl _ _).alloc (Nat.le_refl _) _).alloc (by simp) _).trans (TB.below (by omega))
          have G5 : Hid (PiB V5 (w4.heap.size + 1) n c ⟨some ⟨w4.heap.size, 0, none⟩, 1, 1⟩) := GB
          have L5 : Hid (OwnS V5 w.heap.size (Sv.v ⟨some ⟨w4.heap.size, 0, none⟩, 1, 1⟩) [t]) := ((OwnS.lit w4 w.heap.size [t] B4.out.size (by simp)).alloc _).past (bx_new1 w4 _ 35 [.int .i64 0, .int .i64 0, .slice none 0 0]) TB (by decide)
          have P5 : Hid (PiB V5 w.heap.size p.num p.cnt s) := P4.out.later BL
          have Q5 : Hid (PiB V5 gq p.num p.cnt uq) := Q4.out.later BL
          have O5 : Hid (OwnS V5 W.heap.size uq.v p.ps) := ownS_later O4.out BL
          have R5 : Hid (PiB V5 gr 0 0 ⟨none, 0, 0⟩) := R4.out.later BL
          have B5 : Hid (Below w.heap.size w V5) := B4.out.trans (BL.mono B4.out.size)
          have Z5 : Hid (gq < w4.heap.size ∧ gr < w4.heap.size ∧ w4.heap.size + 1 < V5.heap.size) := ⟨Q4.out.lt, R4.out.lt, G5.out.lt⟩
          clear P4 Q4 O4 R4 B4 BL GB TB a0 a1 a2
          generalize hg5 : w4.heap.size + 1 = g5 at *
          have HG5 : Hid (w4.heap.size + 1 = g5) := hg5
          clear hg5
          have q2 := Q5.out.cells.2.2
          have hlp : p.ps.length < 4000000 := by have := hps.out.1; omega
          have zW : W.heap.size ≤ V5.heap.size := by have := ZQ.out; have := Z5.out; have := HG5.out; omega
          have O5' := O5.out
          go_wp2_with (first | (at_builtin; refine wpList_pushSb rfl _ _ 26 rfl Try.underlying26 Try.info9 W.heap.size uq.v p.ps rfl O5' t rfl hlp zW ?_; intro v6 w6 S6 G6 N6; obtain ⟨s6, rfl, -⟩ := sv_form S6; unfold Sv.v) | (with_reducible refine wpList_haltS 26 _ _ rfl ?_))
          refine Stp.go ?_
          have E6 := PiB.grown (G5.out.later ((Below.refl V5.heap.size V5).alloc (Nat.le_refl _) (.cells #[.string t] 9))) (O5.out.alloc _) G6
          have R6 := PiB.grown (R5.out.later ((Below.refl V5.heap.size V5).alloc (Nat.le_refl _) (.cells #[.string t] 9))) (O5.out.alloc _) G6
          have B6 : Below w.heap.size w w6 := (B5.out.alloc B5.out.size (.cells #[.string t] 9)).grown G6 (by have := B5.out.size; simp; omega) (fun j hj => by have := (O5.out.lt j hj).1; have := ZQ.out; have := HGR.out; omega)
          refine wpList_st1 rfl 26 _ _ rfl g5 2 rfl 35 _ E6 (.slice s6.a s6.n s6.c) rfl (by simp) rfl Try.sizeTs [.int .i64 n, .int .i64 c, .slice s6.a s6.n s6.c] rfl ?_
          intro w7 E7 T7
          have E7 : Hid (PiB w7 g5 n c s6) := E7
          have F7 : Hid (OwnS w7 w.heap.size s6.v (baseP p q ++ [t])) := by
            have h : baseP p q = p.ps := by unfold baseP; rw [if_neg (by omega)]
            rw [h]
            exact (S6.past E6 T7 (by decide)).down (by have := ZQ.out; have := HGR.out; omega)
          have R7 : Hid (PiB w7 gr 0 0 ⟨none, 0, 0⟩) := Bx.turn R6 T7 (by have := Z5.out; have := HG5.out; omega)
          have B7 : Hid (Below w.heap.size w w7) := B6.trans (T7.below (by have := Z5.out; have := HG5.out; have := HGR.out; omega))
          clear G5 L5 P5 Q5 O5 R5 B5 q2 O5' S6 G6 N6 E6 R6 B6 T7 zW
          obtain ⟨g0, g1, g2⟩ := E7.out.cells
          generalize hsvx : (s6 : Sv) = sv at E7 F7
          clear hsvx
          generalize hLL : baseP p q ++ [t] = LL at F7
          have HLL : Hid (baseP p q ++ [t] = LL) := hLL
          have hl0 : 0 < LL.length := by rw [← hLL]; simp
          have hl1 : LL.length ≤ 10 := by rw [← hLL, List.length_append, HBL.out.1]; have := HBL.out.2; simp only [List.length_cons, List.length_nil]; omega
          have HSZ : Hid (∀ y ∈ LL, y.size ≤ 1048576) := by
            show ∀ y ∈ LL, y.size ≤ 1048576
            rw [← hLL]
            intro y hy
            rcases List.mem_append.1 hy with hy | hy
            · exact base_short hps.out y hy
            · simp at hy; subst hy; omega
          clear hLL g0 g1 g2
          obtain ⟨gl, cap, hv, _, hgl, hcl, _⟩ := F7.out.some hl0
          have HCL : Hid (∀ i (h : i < LL.length), w7.cell? ⟨gl, i, none⟩ = some (.string LL[i])) := hcl
          have g2 := E7.out.cells.2.2
          unfold Sv.v at hv
          rw [hv] at g2
          clear hv hcl
          go_wp2_with fail
          go_loop [14, 15] (fun wh i => ∃ k : Nat, k ≤ LL.length ∧ i = .int .i64 k ∧ wh = .string (catL (LL.take k))) (fun _ i => LL.length - (intOf i).toNat)
          case atStart => exact ⟨0, Nat.zero_le _, rfl, rfl⟩
          case round =>
            obtain ⟨k, hk, rfl, rfl⟩ := hrel
            by_cases hlt : k < LL.length
            · have hce := HCL.out k hlt
              have hys := HSZ.out _ (List.getElem_mem hlt)
              have hcs : (catL (LL.take k)).size ≤ 10485760 := by
                rw [rt_size]
                have h1 := catL_len (LL.take k) 1048576 (fun y hy => HSZ.out y (List.mem_of_mem_take hy))
                have h2 : (LL.take k).length ≤ 10 := by rw [List.length_take]; omega
                have h3 : (LL.take k).length * 1048576 ≤ 10 * 1048576 := Nat.mul_le_mul_right _ h2
                omega
              obtain ⟨y, hy⟩ : ∃ y, y = LL[k] := ⟨_, rfl⟩
              rw [← hy] at hce hys
              have HY : Hid (y = LL[k]) := hy
              clear hy
              go_wp2
              go_round
              case rel => exact ⟨k + 1, by omega, by go_num, by rw [catL_take hlt, ← HY.out]⟩
              case measure => simp [intOf]; omega
            · obtain rfl : k = LL.length := by omega
              rw [List.take_length]
              clear hk hlt
              go_wp2_with (first | (with_reducible refine wpList_haltS 35 _ _ rfl ?_))
              refine Stp.go ?_
              refine wpList_stB rfl 35 _ _ rfl gr 0 rfl 35 _ R7.out [.int .i64 0, .int .i64 0, .slice none 0 0] rfl (by simp) Try.sizeP rfl [.int .i64 0, .int .i64 0, .slice none 0 0] rfl ?_
              intro wz RZ TZ
              have BZ : Below w.heap.size w wz := B7.out.trans (TZ.below hgr')
              have OZ : OwnS wz w.heap.size (Sv.v ⟨none, 0, 0⟩) [] := ownS_none wz _
              obtain ⟨z0, z1, z2⟩ := PiB.cells (s := ⟨none, 0, 0⟩) RZ
              go_wp2_with fail
              refine bodyPost_ret (v := .tuple #[.agg #[.int .i64 0, .int .i64 0, .slice none 0 0], .string (catL LL), .bool true]) (by simp [results, Try.results24, go_sem, z0, z1, z2]) rfl ?_
              exact ⟨⟨none, 0, 0⟩, by rw [addP_last HP.out HF.out HC1.out, HLL.out]; rfl, by rw [addP_last HP.out HF.out HC1.out, HLL.out]; exact OZ, BZ⟩
        · have hc' : (q : Int) + 1 < (c : Int) := by omega
          have HC1 : Hid (q + 1 ≠ c) := hc
          clear hc
          obtain ⟨a0, a1, a2⟩ := P4.out.cells
          go_wp2_with (first | (with_reducible refine wpList_haltS 35 _ _ rfl ?_))
          refine Stp.go ?_
          refine wpList_stB rfl 35 _ _ rfl (w4.heap.size + 1) 0 rfl 35 _ (bx_new1 w4 _ 35 [.int .i64 0, .int .i64 0, .slice none 0 0]) [.int .i64 n, .int .i64 c, .slice (some ⟨w4.heap.size, 0, none⟩) 1 1] rfl (by simp) Try.sizeP rfl [.int .i64 n, .int .i64 c, .slice (some ⟨w4.heap.size, 0, none⟩) 1 1] rfl ?_
          intro V5 GB TB
          have BL : Below w4.heap.size w4 V5 := (((Below.refl _ _).alloc (Nat.le_refl _) _).alloc (by simp) _).trans (TB.below (by omega))
          have G5 : Hid (PiB V5 (w4.heap.size + 1) n c ⟨some ⟨w4.heap.size, 0, none⟩, 1, 1⟩) := GB
          have L5 : Hid (OwnS V5 w.heap.size (Sv.v ⟨some ⟨w4.heap.size, 0, none⟩, 1, 1⟩) [t]) := ((OwnS.lit w4 w.heap.size [t] B4.out.size (by simp)).alloc _).past (bx_new1 w4 _ 35 [.int .i64 0, .int .i64 0, .slice none 0 0]) TB (by decide)
          have P5 : Hid (PiB V5 w.heap.size p.num p.cnt s) := P4.out.later BL
          have Q5 : Hid (PiB V5 gq p.num p.cnt uq) := Q4.out.later BL
          have O5 : Hid (OwnS V5 W.heap.size uq.v p.ps) := ownS_later O4.out BL
          have R5 : Hid (PiB V5 gr 0 0 ⟨none, 0, 0⟩) := R4.out.later BL
          have B5 : Hid (Below w.heap.size w V5) := B4.out.trans (BL.mono B4.out.size)
          have Z5 : Hid (gq < w4.heap.size ∧ gr < w4.heap.size ∧ w4.heap.size + 1 < V5.heap.size) := ⟨Q4.out.lt, R4.out.lt, G5.out.lt⟩
          clear P4 Q4 O4 R4 B4 BL GB TB a0 a1 a2
          generalize hg5 : w4.heap.size + 1 = g5 at *
          have HG5 : Hid (w4.heap.size + 1 = g5) := hg5
          clear hg5
          have q2 := Q5.out.cells.2.2
          have hlp : p.ps.length < 4000000 := by have := hps.out.1; omega
          have zW : W.heap.size ≤ V5.heap.size := by have := ZQ.out; have := Z5.out; have := HG5.out; omega
          have O5' := O5.out
          go_wp2_with (first | (at_builtin; refine wpList_pushSb rfl _ _ 26 rfl Try.underlying26 Try.info9 W.heap.size uq.v p.ps rfl O5' t rfl hlp zW ?_; intro v6 w6 S6 G6 N6; obtain ⟨s6, rfl, -⟩ := sv_form S6; unfold Sv.v) | (with_reducible refine wpList_haltS 26 _ _ rfl ?_))
          refine Stp.go ?_
          have E6 := PiB.grown (G5.out.later ((Below.refl V5.heap.size V5).alloc (Nat.le_refl _) (.cells #[.string t] 9))) (O5.out.alloc _) G6
          have R6 := PiB.grown (R5.out.later ((Below.refl V5.heap.size V5).alloc (Nat.le_refl _) (.cells #[.string t] 9))) (O5.out.alloc _) G6
          have B6 : Below w.heap.size w w6 := (B5.out.alloc B5.out.size (.cells #[.string t] 9)).grown G6 (by have := B5.out.size; simp; omega) (fun j hj => by have := (O5.out.lt j hj).1; have := ZQ.out; have := HGR.out; omega)
          refine wpList_st1 rfl 26 _ _ rfl g5 2 rfl 35 _ E6 (.slice s6.a s6.n s6.c) rfl (by simp) rfl Try.sizeTs [.int .i64 n, .int .i64 c, .slice s6.a s6.n s6.c] rfl ?_
          intro w7 E7 T7
          have E7 : Hid (PiB w7 g5 n c s6) := E7
          have F7 : Hid (OwnS w7 w.heap.size s6.v (baseP p q ++ [t])) := by
            have h : baseP p q = p.ps := by unfold baseP; rw [if_neg (by omega)]
            rw [h]
            exact (S6.past E6 T7 (by decide)).down (by have := ZQ.out; have := HGR.out; omega)
          have R7 : Hid (PiB w7 gr 0 0 ⟨none, 0, 0⟩) := Bx.turn R6 T7 (by have := Z5.out; have := HG5.out; omega)
          have B7 : Hid (Below w.heap.size w w7) := B6.trans (T7.below (by have := Z5.out; have := HG5.out; have := HGR.out; omega))
          clear G5 L5 P5 Q5 O5 R5 B5 q2 O5' S6 G6 N6 E6 R6 B6 T7 zW
          obtain ⟨g0, g1, g2⟩ := E7.out.cells
          go_wp2_with (first | (with_reducible refine wpList_haltS 35 _ _ rfl ?_))
          refine Stp.go ?_
          refine wpList_stB rfl 35 _ _ rfl gr 0 rfl 35 _ R7.out [.int .i64 n, .int .i64 c, .slice s6.a s6.n s6.c] rfl (by simp) Try.sizeP rfl [.int .i64 n, .int .i64 c, .slice s6.a s6.n s6.c] rfl ?_
          intro wz RZ TZ
          have BZ : Below w.heap.size w wz := B7.out.trans (TZ.below hgr')
          have OZ : OwnS wz w.heap.size (Sv.v s6) (baseP p q ++ [t]) := F7.out.past R7.out TZ (by decide)
          obtain ⟨z0, z1, z2⟩ := PiB.cells (s := s6) RZ
          go_wp2_with fail
          refine bodyPost_ret (v := .tuple #[.agg #[.int .i64 n, .int .i64 c, .slice s6.a s6.n s6.c], .string ⟨#[]⟩, .bool false]) (by simp [results, Try.results24, go_sem, z0, z1, z2]) rfl ?_
          exact ⟨s6, by rw [addP_more HP.out HF.out HC1.out]; rfl, by rw [addP_more HP.out HF.out HC1.out]; exact OZ, BZ⟩

end Go.Proofs.Ytfefjkldjaabbaa

/- The walk over the specification's Join. Written by gen_sj.py. -/
namespace Go.Proofs.Ytfefjkldjaabbaa
open Go.RowKit Pl
set_option linter.unusedVariables false
set_option linter.unusedSimpArgs false

theorem Pl.TextsAt.at {w : World} {b off : Nat} {xs : List ByteArray} (h : TextsAt w (some ⟨b, off, none⟩) xs) (k : Nat) (hk : k < xs.length) : b < w.heap.size ∧ w.cell? ⟨b, off + k, none⟩ = some (.string xs[k]) := by
  obtain ⟨b', off', e, h1, h2⟩ := h k hk
  simp at e
  obtain ⟨rfl, rfl⟩ := e
  exact ⟨h1, h2⟩

set_option maxRecDepth 100000 in
set_option maxHeartbeats 8000000 in
theorem specJoin_at (sb so cap : Nat) (ts : List ByteArray) (w : World) (hx : Hid (TextsAt w (some ⟨sb, so, none⟩) ts)) (hl : ts.length ≤ 1048576) (hs : Hid (∀ x ∈ ts, x.size ≤ 1048576)) :
    Calls Try.prog 17 #[.slice (some ⟨sb, so, none⟩) ts.length cap] w fun e w' => ∃ v, e = .returned v ∧ OwnS w' w.heap.size v (joinedL ts) ∧ Below w.heap.size w w' := by
  have S0 : Hid (JoSt w ((w.alloc (.cells #[] 9)).alloc (.cells #[.int .i64 0, .int .i64 0, .slice none 0 0] 35)) (w.heap.size + 1) (.slice (some ⟨w.heap.size, 0, none⟩) 0 0) (ts.take 0)) :=
    ⟨⟨none, 0, 0⟩, (OwnS.made w w.heap.size (Nat.le_refl _)).alloc _, bx_new1 w _ 35 [.int .i64 0, .int .i64 0, .slice none 0 0], ownS_none _ _, ap_none _ 0 0, ((Below.refl _ _).alloc (Nat.le_refl _) _).alloc (by simp) _⟩
  go_enter Try.func17, Try.ntmps17
  go_wp2_with fail
  generalize hgp : w.heap.size + 1 = gp at *
  have HGP : Hid (w.heap.size + 1 = gp) := hgp
  clear hgp
  have hgp' : w.heap.size ≤ gp := by have := HGP.out; omega
  go_loopw [3, 5] (fun v i wr => ∃ k : Nat, k ≤ ts.length ∧ i = .int .i64 k ∧ Hid (JoSt w wr gp v (ts.take k))) (fun _ i _ => ts.length - (intOf i).toNat)
  case atStart => exact ⟨0, Nat.zero_le _, rfl, S0⟩
  case round =>
    clear S0
    obtain ⟨k, hk, rfl, hst⟩ := hrel
    by_cases hlt : k < ts.length
    · obtain ⟨s, hO, hP, hS, hA, hB⟩ := hst.out
      obtain ⟨hsb, hcl⟩ := (hx.out.stays hB).at k hlt
      have hsz := hs.out _ (List.getElem_mem hlt)
      obtain ⟨tx, hp⟩ : ∃ x : ByteArray, x = ts[k] := ⟨_, rfl⟩
      rw [← hp] at hcl hsz
      have HQ : Hid (tx = ts[k]) := hp
      have O1 : Hid (OwnS wr w.heap.size u3 (joinedL (ts.take k))) := hO
      have P1 : Hid (PiB wr gp (pileL (ts.take k)).num (pileL (ts.take k)).cnt s) := hP
      have RS : Hid (RT wr (.slice s.a s.n s.c) (pileL (ts.take k)).ps) := hS.rt
      have A1 : Hid (Ap s.v u3) := hA
      have B1 : Hid (Below w.heap.size w wr) := hB
      have HL : Hid (pileL (ts.take k)).short := pile_short _
      have i0 : (0 : Int) ≤ (k : Int) := by omega
      have i1 : (k : Int) < (ts.length : Int) := by omega
      clear hp hO hP hS hA hB hst
      go_wp2_with fail
      go_cut [6, 7, 8] (fun u6 u7 u8 wx => ∃ (gm : Nat) (um : Sv), u6 = .pointer (some ⟨gm, 0, none⟩) ∧ u7 = .string (addP (pileL (ts.take k)) tx).2.1 ∧ u8 = .bool (addP (pileL (ts.take k)) tx).2.2 ∧ Bx wx gm 35 [.int .i64 (addP (pileL (ts.take k)) tx).1.num, .int .i64 (addP (pileL (ts.take k)) tx).1.cnt, .slice um.a um.n um.c] ∧ OwnS wx wr.heap.size um.v (addP (pileL (ts.take k)) tx).1.ps ∧ wr.heap.size ≤ gm ∧ Below wr.heap.size wr wx)
      case first =>
        have KEEP : Hid (∀ w', Below wr.heap.size wr w' → (w'.cell? ⟨sb, so + k, none⟩ = some (.string tx)) ∧ Hid (Below wr.heap.size wr w')) := fun w' hb => ⟨(hb.cell (p := ⟨sb, so + k, none⟩) hsb).trans hcl, hb⟩
        have c : Below wr.heap.size wr wr.drew := (Below.refl _ _).drew
        refine wp_region_held_drew (S := fun w' => (w'.cell? ⟨sb, so + k, none⟩ = some (.string tx)) ∧ Hid (Below wr.heap.size wr w')) (by kernel_rfl) (KEEP.out _ c) (fun hHeld => ?_)
        refine wpAnyH_take (i := 0) (v := _) rfl (by kernel_rfl) (by kernel_rfl) (by kernel_rfl) (fun _ _ _ h => h) (ld_yield (by rfl) 35 _ rfl gp 0 rfl 35 _ (fun w hS => P1.out.later hS.2.out) [.int .i64 (pileL (ts.take k)).num, .int .i64 (pileL (ts.take k)).cnt, .slice s.a s.n s.c] rfl _ Try.underlying35 rfl Try.sizeP) (by assumption) ?_
        try simp only [Act.put, List.getElem_toArray, List.getElem_cons_zero, List.getElem_cons_succ, List.setIfInBounds_toArray, List.set_cons_zero, List.set_cons_succ]
        refine wpAnyH_take (i := 1) (v := ?v1b2) rfl (by kernel_rfl) (by kernel_rfl) (by kernel_rfl) (fun _ _ _ h => h) (Or.inl ⟨by rfl, ?hy1b2⟩) (by assumption) ?_
        case hy1b2 => (intro w hSw; (try dsimp only at hSw); simp only [List.getElem_toArray, List.getElem_cons_zero, List.getElem_cons_succ]; go_simp; try with_reducible rfl)
        try simp only [Act.put, List.getElem_toArray, List.getElem_cons_zero, List.getElem_cons_succ, List.setIfInBounds_toArray, List.set_cons_zero, List.set_cons_succ]
        refine wpAnyH_take (i := 2) (v := ?v2b3) rfl (by kernel_rfl) (by kernel_rfl) (by kernel_rfl) (fun _ _ _ h => h) (Or.inl ⟨by rfl, ?hy2b3⟩) (by assumption) ?_
        case hy2b3 => (intro w hSw; (try dsimp only at hSw); simp only [List.getElem_toArray, List.getElem_cons_zero, List.getElem_cons_succ]; go_simp; try with_reducible rfl)
        try simp only [Act.put, List.getElem_toArray, List.getElem_cons_zero, List.getElem_cons_succ, List.setIfInBounds_toArray, List.set_cons_zero, List.set_cons_succ]
        refine wpAnyH_take (i := 3) (v := ?v3b4) rfl (by kernel_rfl) (by kernel_rfl) (by kernel_rfl) (fun _ _ _ h => h) (Or.inl ⟨by rfl, ?hy3b4⟩) (by assumption) ?_
        case hy3b4 => (intro w hSw; (try dsimp only at hSw); simp only [List.getElem_toArray, List.getElem_cons_zero, List.getElem_cons_succ]; go_simp; try with_reducible rfl)
        try simp only [Act.put, List.getElem_toArray, List.getElem_cons_zero, List.getElem_cons_succ, List.setIfInBounds_toArray, List.set_cons_zero, List.set_cons_succ]
        refine wpAnyH_take (i := 4) (v := ?v4b5) rfl (by kernel_rfl) (by kernel_rfl) (by kernel_rfl) (fun _ _ _ h => h) (Or.inl ⟨by rfl, ?hy4b5⟩) (by assumption) ?_
        case hy4b5 => (intro w hSw; (try dsimp only at hSw); simp only [List.getElem_toArray, List.getElem_cons_zero, List.getElem_cons_succ]; go_simp; try with_reducible rfl)
        try simp only [Act.put, List.getElem_toArray, List.getElem_cons_zero, List.getElem_cons_succ, List.setIfInBounds_toArray, List.set_cons_zero, List.set_cons_succ]
        refine wpAnyH_ready (rs := [5, 10]) (by kernel_rfl) (by simp) ?_
        refine (AllReadyH.cons (i := 5) rfl (fun K hK => ?_) (AllReadyH.cons (i := 10) rfl (fun K hK => ?_) AllReadyH.nil))
        · skip
          rw [if_pos (by rfl)]
          simp only [List.getElem_toArray, List.getElem_cons_zero, List.getElem_cons_succ]
          go_simp
          refine (spAdd_any (pileL (ts.take k)) tx s wr.drew (show Hid (RT wr.drew (.slice s.a s.n s.c) (pileL (ts.take k)).ps) from RS.out.stays c) HL hsz).mono ?_
          rintro e y1 ⟨um, rfl, om1, b⟩
          have zc : wr.heap.size ≤ wr.drew.heap.size := c.size
          have O1 : Hid (OwnS y1 wr.heap.size um.v (addP (pileL (ts.take k)) tx).1.ps) := om1.down zc
          have c : Below wr.heap.size wr y1 := bl_next c b
          refine hK.out _ _ (KEEP.out _ c) (fun hHeld => ?_)
          clear hK K
          try simp only [Act.put, List.getElem_toArray, List.getElem_cons_zero, List.getElem_cons_succ, List.setIfInBounds_toArray, List.set_cons_zero, List.set_cons_succ]
          clear b om1 zc
          refine wpAnyH_take (i := 6) (v := ?v6b6) rfl (by kernel_rfl) (by kernel_rfl) (by kernel_rfl) (fun _ _ _ h => h) (Or.inl ⟨by rfl, ?hy6b6⟩) (by assumption) ?_
          case hy6b6 => (intro w hSw; (try dsimp only at hSw); simp only [List.getElem_toArray, List.getElem_cons_zero, List.getElem_cons_succ]; go_simp; try with_reducible rfl)
          try simp only [Act.put, List.getElem_toArray, List.getElem_cons_zero, List.getElem_cons_succ, List.setIfInBounds_toArray, List.set_cons_zero, List.set_cons_succ]
          refine wpAnyH_take (i := 7) (v := ?v7b7) rfl (by kernel_rfl) (by kernel_rfl) (by kernel_rfl) (fun _ _ _ h => h) (Or.inl ⟨by rfl, ?hy7b7⟩) (by assumption) ?_
          case hy7b7 => (intro w hSw; (try dsimp only at hSw); simp only [List.getElem_toArray, List.getElem_cons_zero, List.getElem_cons_succ]; go_simp; try with_reducible rfl)
          try simp only [Act.put, List.getElem_toArray, List.getElem_cons_zero, List.getElem_cons_succ, List.setIfInBounds_toArray, List.set_cons_zero, List.set_cons_succ]
          refine wpAnyH_take (i := 8) (v := ?v8b8) rfl (by kernel_rfl) (by kernel_rfl) (by kernel_rfl) (fun _ _ _ h => h) (Or.inl ⟨by rfl, ?hy8b8⟩) (by assumption) ?_
          case hy8b8 => (intro w hSw; (try dsimp only at hSw); simp only [List.getElem_toArray, List.getElem_cons_zero, List.getElem_cons_succ]; go_simp; try with_reducible rfl)
          try simp only [Act.put, List.getElem_toArray, List.getElem_cons_zero, List.getElem_cons_succ, List.setIfInBounds_toArray, List.set_cons_zero, List.set_cons_succ]
          refine wpAnyH_take (i := 9) (v := ?v9b9) rfl (by kernel_rfl) (by kernel_rfl) (by kernel_rfl) (fun _ _ _ h => h) (Or.inl ⟨by rfl, ?hy9b9⟩) (by assumption) ?_
          case hy9b9 => (intro w hSw; (try dsimp only at hSw); simp only [List.getElem_toArray, List.getElem_cons_zero, List.getElem_cons_succ]; go_simp; try with_reducible rfl)
          try simp only [Act.put, List.getElem_toArray, List.getElem_cons_zero, List.getElem_cons_succ, List.setIfInBounds_toArray, List.set_cons_zero, List.set_cons_succ]
          refine wpAnyH_ready (rs := [10]) (by kernel_rfl) (by simp) ?_
          refine AllReadyH.cons (i := 10) rfl (fun K hK => ?_) AllReadyH.nil
          rw [if_pos (by rfl)]
          simp only [List.getElem_toArray, List.getElem_cons_zero, List.getElem_cons_succ]
          go_simp
          have BX2 : Hid (Bx (y1.alloc (.cells #[.int .i64 0, .int .i64 0, .slice none 0 0] 35)) y1.heap.size 35 [.int .i64 0, .int .i64 0, .slice none 0 0]) := by have h := Bx.new y1 35 [.int .i64 0, .int .i64 0, .slice none 0 0]; rw [show y1.heap.size = y1.heap.size by simp] at h; exact h
          have zq : wr.heap.size ≤ y1.heap.size := by have h := c.size; rw [show y1.heap.size = y1.heap.size by simp] at h; exact h
          have c : Below wr.heap.size wr (y1.alloc (.cells #[.int .i64 0, .int .i64 0, .slice none 0 0] 35)) := c.alloc c.size _
          have O1 : Hid (OwnS (y1.alloc (.cells #[.int .i64 0, .int .i64 0, .slice none 0 0] 35)) wr.heap.size um.v (addP (pileL (ts.take k)) tx).1.ps) := O1.out.alloc _
          refine hK.out _ _ (KEEP.out _ c) (fun hHeld => ?_)
          clear hK K
          try simp only [Act.put, List.getElem_toArray, List.getElem_cons_zero, List.getElem_cons_succ, List.setIfInBounds_toArray, List.set_cons_zero, List.set_cons_succ]
          refine wpAnyH_ready (rs := [11]) (by kernel_rfl) (by simp) ?_
          refine AllReadyH.cons (i := 11) rfl (fun K hK => ?_) AllReadyH.nil
          rw [if_pos (by rfl)]
          simp only [List.getElem_toArray, List.getElem_cons_zero, List.getElem_cons_succ]
          refine wp_stB 35 _ _ rfl (y1.heap.size) 0 (by rfl) 35 _ BX2.out [.int .i64 (addP (pileL (ts.take k)) tx).1.num, .int .i64 (addP (pileL (ts.take k)) tx).1.cnt, .slice um.a um.n um.c] (by rfl) (by simp) Try.sizeP rfl [.int .i64 (addP (pileL (ts.take k)) tx).1.num, .int .i64 (addP (pileL (ts.take k)) tx).1.cnt, .slice um.a um.n um.c] rfl ?_
          intro y3 RB3 TB3
          have O3 := O1.out.past BX2.out TB3 (by decide)
          have c : Below wr.heap.size wr y3 := c.trans (TB3.below zq)
          refine hK.out _ _ (KEEP.out _ c) (fun hHeld => ?_)
          clear hK K
          try simp only [Act.put, List.getElem_toArray, List.getElem_cons_zero, List.getElem_cons_succ, List.setIfInBounds_toArray, List.set_cons_zero, List.set_cons_succ]
          refine wpAnyH_take (i := 12) (v := ?v12b10) rfl (by kernel_rfl) (by kernel_rfl) (by kernel_rfl) (fun _ _ _ h => h) (Or.inl ⟨by rfl, ?hy12b10⟩) (by assumption) ?_
          case hy12b10 => (intro w hSw; (try dsimp only at hSw); simp only [List.getElem_toArray, List.getElem_cons_zero, List.getElem_cons_succ]; go_simp; try with_reducible rfl)
          try simp only [Act.put, List.getElem_toArray, List.getElem_cons_zero, List.getElem_cons_succ, List.setIfInBounds_toArray, List.set_cons_zero, List.set_cons_succ]
          refine wpAnyH_take (i := 13) (v := ?v13b11) rfl (by kernel_rfl) (by kernel_rfl) (by kernel_rfl) (fun _ _ _ h => h) (Or.inl ⟨by rfl, ?hy13b11⟩) (by assumption) ?_
          case hy13b11 => (intro w hSw; (try dsimp only at hSw); simp only [List.getElem_toArray, List.getElem_cons_zero, List.getElem_cons_succ]; go_simp; try with_reducible rfl)
          try simp only [Act.put, List.getElem_toArray, List.getElem_cons_zero, List.getElem_cons_succ, List.setIfInBounds_toArray, List.set_cons_zero, List.set_cons_succ]
          refine wpAnyH_done (by kernel_rfl) ?_ _
          try go_wp2_with fail
          go_meet
          exact ⟨_, um, rfl, rfl, rfl, RB3, O3, zq, c⟩
        · skip
          rw [if_pos (by rfl)]
          simp only [List.getElem_toArray, List.getElem_cons_zero, List.getElem_cons_succ]
          go_simp
          have BX1 : Hid (Bx (wr.drew.alloc (.cells #[.int .i64 0, .int .i64 0, .slice none 0 0] 35)) wr.heap.size 35 [.int .i64 0, .int .i64 0, .slice none 0 0]) := by have h := Bx.new wr.drew 35 [.int .i64 0, .int .i64 0, .slice none 0 0]; rw [show wr.drew.heap.size = wr.heap.size by simp] at h; exact h
          have zq : wr.heap.size ≤ wr.heap.size := by have h := c.size; rw [show wr.drew.heap.size = wr.heap.size by simp] at h; exact h
          have c : Below wr.heap.size wr (wr.drew.alloc (.cells #[.int .i64 0, .int .i64 0, .slice none 0 0] 35)) := c.alloc c.size _
          refine hK.out _ _ (KEEP.out _ c) (fun hHeld => ?_)
          clear hK K
          try simp only [Act.put, List.getElem_toArray, List.getElem_cons_zero, List.getElem_cons_succ, List.setIfInBounds_toArray, List.set_cons_zero, List.set_cons_succ]
          refine wpAnyH_ready (rs := [5]) (by kernel_rfl) (by simp) ?_
          refine AllReadyH.cons (i := 5) rfl (fun K hK => ?_) AllReadyH.nil
          rw [if_pos (by rfl)]
          simp only [List.getElem_toArray, List.getElem_cons_zero, List.getElem_cons_succ]
          go_simp
          refine (spAdd_any (pileL (ts.take k)) tx s (wr.drew.alloc (.cells #[.int .i64 0, .int .i64 0, .slice none 0 0] 35)) (show Hid (RT (wr.drew.alloc (.cells #[.int .i64 0, .int .i64 0, .slice none 0 0] 35)) (.slice s.a s.n s.c) (pileL (ts.take k)).ps) from RS.out.stays c) HL hsz).mono ?_
          rintro e y2 ⟨um, rfl, om2, b⟩
          have zc : wr.heap.size ≤ (wr.drew.alloc (.cells #[.int .i64 0, .int .i64 0, .slice none 0 0] 35)).heap.size := c.size
          have BX1 : Hid (Bx y2 wr.heap.size 35 [.int .i64 0, .int .i64 0, .slice none 0 0]) := BX1.out.later b
          have O2 : Hid (OwnS y2 wr.heap.size um.v (addP (pileL (ts.take k)) tx).1.ps) := om2.down zc
          have c : Below wr.heap.size wr y2 := bl_next c b
          refine hK.out _ _ (KEEP.out _ c) (fun hHeld => ?_)
          clear hK K
          try simp only [Act.put, List.getElem_toArray, List.getElem_cons_zero, List.getElem_cons_succ, List.setIfInBounds_toArray, List.set_cons_zero, List.set_cons_succ]
          clear b om2 zc
          refine wpAnyH_take (i := 6) (v := ?v6b12) rfl (by kernel_rfl) (by kernel_rfl) (by kernel_rfl) (fun _ _ _ h => h) (Or.inl ⟨by rfl, ?hy6b12⟩) (by assumption) ?_
          case hy6b12 => (intro w hSw; (try dsimp only at hSw); simp only [List.getElem_toArray, List.getElem_cons_zero, List.getElem_cons_succ]; go_simp; try with_reducible rfl)
          try simp only [Act.put, List.getElem_toArray, List.getElem_cons_zero, List.getElem_cons_succ, List.setIfInBounds_toArray, List.set_cons_zero, List.set_cons_succ]
          refine wpAnyH_take (i := 7) (v := ?v7b13) rfl (by kernel_rfl) (by kernel_rfl) (by kernel_rfl) (fun _ _ _ h => h) (Or.inl ⟨by rfl, ?hy7b13⟩) (by assumption) ?_
          case hy7b13 => (intro w hSw; (try dsimp only at hSw); simp only [List.getElem_toArray, List.getElem_cons_zero, List.getElem_cons_succ]; go_simp; try with_reducible rfl)
          try simp only [Act.put, List.getElem_toArray, List.getElem_cons_zero, List.getElem_cons_succ, List.setIfInBounds_toArray, List.set_cons_zero, List.set_cons_succ]
          refine wpAnyH_take (i := 8) (v := ?v8b14) rfl (by kernel_rfl) (by kernel_rfl) (by kernel_rfl) (fun _ _ _ h => h) (Or.inl ⟨by rfl, ?hy8b14⟩) (by assumption) ?_
          case hy8b14 => (intro w hSw; (try dsimp only at hSw); simp only [List.getElem_toArray, List.getElem_cons_zero, List.getElem_cons_succ]; go_simp; try with_reducible rfl)
          try simp only [Act.put, List.getElem_toArray, List.getElem_cons_zero, List.getElem_cons_succ, List.setIfInBounds_toArray, List.set_cons_zero, List.set_cons_succ]
          refine wpAnyH_take (i := 9) (v := ?v9b15) rfl (by kernel_rfl) (by kernel_rfl) (by kernel_rfl) (fun _ _ _ h => h) (Or.inl ⟨by rfl, ?hy9b15⟩) (by assumption) ?_
          case hy9b15 => (intro w hSw; (try dsimp only at hSw); simp only [List.getElem_toArray, List.getElem_cons_zero, List.getElem_cons_succ]; go_simp; try with_reducible rfl)
          try simp only [Act.put, List.getElem_toArray, List.getElem_cons_zero, List.getElem_cons_succ, List.setIfInBounds_toArray, List.set_cons_zero, List.set_cons_succ]
          refine wpAnyH_ready (rs := [11]) (by kernel_rfl) (by simp) ?_
          refine AllReadyH.cons (i := 11) rfl (fun K hK => ?_) AllReadyH.nil
          rw [if_pos (by rfl)]
          simp only [List.getElem_toArray, List.getElem_cons_zero, List.getElem_cons_succ]
          refine wp_stB 35 _ _ rfl (wr.heap.size) 0 (by rfl) 35 _ BX1.out [.int .i64 (addP (pileL (ts.take k)) tx).1.num, .int .i64 (addP (pileL (ts.take k)) tx).1.cnt, .slice um.a um.n um.c] (by rfl) (by simp) Try.sizeP rfl [.int .i64 (addP (pileL (ts.take k)) tx).1.num, .int .i64 (addP (pileL (ts.take k)) tx).1.cnt, .slice um.a um.n um.c] rfl ?_
          intro y3 RB3 TB3
          have O3 := O2.out.past BX1.out TB3 (by decide)
          have c : Below wr.heap.size wr y3 := c.trans (TB3.below zq)
          refine hK.out _ _ (KEEP.out _ c) (fun hHeld => ?_)
          clear hK K
          try simp only [Act.put, List.getElem_toArray, List.getElem_cons_zero, List.getElem_cons_succ, List.setIfInBounds_toArray, List.set_cons_zero, List.set_cons_succ]
          refine wpAnyH_take (i := 12) (v := ?v12b16) rfl (by kernel_rfl) (by kernel_rfl) (by kernel_rfl) (fun _ _ _ h => h) (Or.inl ⟨by rfl, ?hy12b16⟩) (by assumption) ?_
          case hy12b16 => (intro w hSw; (try dsimp only at hSw); simp only [List.getElem_toArray, List.getElem_cons_zero, List.getElem_cons_succ]; go_simp; try with_reducible rfl)
          try simp only [Act.put, List.getElem_toArray, List.getElem_cons_zero, List.getElem_cons_succ, List.setIfInBounds_toArray, List.set_cons_zero, List.set_cons_succ]
          refine wpAnyH_take (i := 13) (v := ?v13b17) rfl (by kernel_rfl) (by kernel_rfl) (by kernel_rfl) (fun _ _ _ h => h) (Or.inl ⟨by rfl, ?hy13b17⟩) (by assumption) ?_
          case hy13b17 => (intro w hSw; (try dsimp only at hSw); simp only [List.getElem_toArray, List.getElem_cons_zero, List.getElem_cons_succ]; go_simp; try with_reducible rfl)
          try simp only [Act.put, List.getElem_toArray, List.getElem_cons_zero, List.getElem_cons_succ, List.setIfInBounds_toArray, List.set_cons_zero, List.set_cons_succ]
          refine wpAnyH_done (by kernel_rfl) ?_ _
          try go_wp2_with fail
          go_meet
          exact ⟨_, um, rfl, rfl, rfl, RB3, O3, zq, c⟩

      case rest =>
      obtain ⟨gm, um, rfl, rfl, rfl, hbm, hom, zgm, b7⟩ := hcut
      generalize wc = W7 at *
      have GM : Hid (PiB W7 gm (addP (pileL (ts.take k)) tx).1.num (addP (pileL (ts.take k)) tx).1.cnt um) := hbm
      have OM : Hid (OwnS W7 wr.heap.size um.v (addP (pileL (ts.take k)) tx).1.ps) := hom
      have P7 : Hid (PiB W7 gp (pileL (ts.take k)).num (pileL (ts.take k)).cnt s) := P1.out.later b7
      have O7 : Hid (OwnS W7 w.heap.size u3 (joinedL (ts.take k))) := ownS_later O1.out b7
      have B7 : Hid (Below w.heap.size w W7) := B1.out.trans (b7.mono B1.out.size)
      have A7 : Hid (Ap um.v u3) := fun j hj hv => by have := (hom.lt j hj).1; have := (O1.out.lt j hv).2; omega
      have ZB : Hid (w.heap.size ≤ wr.heap.size) := B1.out.size
      generalize hr : (addP (pileL (ts.take k)) tx).2.2 = r at *
      generalize hc : (addP (pileL (ts.take k)) tx).2.1 = y at *
      have HR : Hid ((addP (pileL (ts.take k)) tx).2.2 = r) := hr
      have HC : Hid ((addP (pileL (ts.take k)) tx).2.1 = y) := hc
      clear hbm hom b7 hcl hsb i0 i1 P1 O1 RS A1 B1 zgm hr hc
      obtain ⟨m0, m1, m2⟩ := GM.out.cells
      go_wp2_with (first | (with_reducible refine wpList_haltS 35 _ _ rfl ?_))
      refine Stp.go ?_
      refine wpList_stB rfl 35 _ _ rfl gp 0 rfl 35 _ P7.out [.int .i64 (addP (pileL (ts.take k)) tx).1.num, .int .i64 (addP (pileL (ts.take k)) tx).1.cnt, .slice um.a um.n um.c] rfl (by simp) Try.sizeP rfl [.int .i64 (addP (pileL (ts.take k)) tx).1.num, .int .i64 (addP (pileL (ts.take k)) tx).1.cnt, .slice um.a um.n um.c] rfl ?_
      intro w8 G8 T8
      have P8 : Hid (PiB w8 gp (pileL (ts.take (k + 1))).num (pileL (ts.take (k + 1))).cnt um) := by
        show PiB _ _ _ _ _
        rw [pile_next hlt, ← HQ.out]; exact G8
      have OM8 : Hid (OwnS w8 w.heap.size um.v (pileL (ts.take (k + 1))).ps) := by
        show OwnS _ _ _ _
        rw [pile_next hlt, ← HQ.out]; exact (OM.out.past P7.out T8 (by decide)).down ZB.out
      have O8 : Hid (OwnS w8 w.heap.size u3 (joinedL (ts.take k))) := O7.out.past P7.out T8 (by decide)
      have B8 : Hid (Below w.heap.size w w8) := B7.out.trans (T8.below hgp')
      clear G8 T8 GM OM P7 O7 B7 m0 m1 m2
      cases r with
      | false =>
        go_wp2_with fail
        go_roundw
        case rel =>
          refine ⟨k + 1, by omega, by go_num, ⟨um, ?_, P8.out, OM8.out, A7.out, B8.out⟩⟩
          rw [joined_next hlt, ← HQ.out, if_neg (by rw [HR.out]; simp)]
          exact O8.out
        case measure => simp [intOf]; omega
      | true =>
        have z1 : w.heap.size ≤ w8.heap.size := B8.out.size
        have hlk : (joinedL (ts.take k)).length < 4000000 := by have := joinedL_len (ts.take k); rw [List.length_take] at this; omega
        have O2 := O8.out
        go_wp2_with (at_builtin; refine wpList_pushSb rfl _ _ 26 rfl Try.underlying26 Try.info9 w.heap.size u3 (joinedL (ts.take k)) rfl O2 y rfl hlk z1 ?_; intro v2 w2 S3 G3 N3)
        go_roundw
        case rel =>
          refine ⟨k + 1, by omega, by go_num, ⟨um, ?_, ?_, ?_, ?_, ?_⟩⟩
          · rw [joined_next hlt, ← HQ.out, if_pos HR.out, HC.out]
            exact S3
          · exact PiB.grown (P8.out.later ((Below.refl w8.heap.size w8).alloc (Nat.le_refl _) (.cells #[.string y] 9))) (O8.out.alloc _) G3
          · refine ownS_kept (OM8.out.alloc (.cells #[.string y] 9)) G3 fun j hj e => A7.out j hj e.symm
          · intro j hj hv
            rcases N3 with h | h
            · exact A7.out j hj (by rw [← h]; exact hv)
            · have := (OM8.out.lt j hj).2
              rw [hv] at h
              simp only [Option.some.injEq] at h
              omega
          · exact (B8.out.alloc z1 (.cells #[.string y] 9)).grown G3 (by simp; omega) (fun j hj => (O8.out.lt j hj).1)
        case measure => simp [intOf]; omega
    · obtain rfl : k = ts.length := by omega
      obtain ⟨s, hO, _, _, _, hB⟩ := hst.out
      rw [List.take_length] at hO
      have O1 : Hid (OwnS wr w.heap.size u3 (joinedL ts)) := hO
      have B1 : Hid (Below w.heap.size w wr) := hB
      clear hO hB hst
      go_wp2_with fail
      go_ret
      exact ⟨_, rfl, O1.out, B1.out⟩

set_option maxHeartbeats 1000000 in
theorem specJoin_none (ao : Option Addr) (cap : Nat) (w : World) :
    Calls Try.prog 17 #[.slice ao 0 cap] w fun e w' => ∃ v, e = .returned v ∧ OwnS w' w.heap.size v (joinedL []) ∧ Below w.heap.size w w' := by
  go_enter Try.func17, Try.ntmps17
  go_wp2
  refine wp_loop_rounds 1 ?_
  rw [rounds_succ]
  go_wp2
  go_ret
  exact ⟨_, rfl, (OwnS.made w w.heap.size (Nat.le_refl _)).alloc _, ((Below.refl _ _).alloc (Nat.le_refl _) _).alloc (by simp) _⟩

theorem specJoin (ao : Option Addr) (cap : Nat) (ts : List ByteArray) (w : World) (hx : Hid (TextsAt w ao ts)) (hl : ts.length ≤ 1048576) (hs : Hid (∀ x ∈ ts, x.size ≤ 1048576)) :
    Calls Try.prog 17 #[.slice ao ts.length cap] w fun e w' => ∃ v, e = .returned v ∧ OwnS w' w.heap.size v (joinedL ts) ∧ Below w.heap.size w w' := by
  cases ts with
  | nil => exact specJoin_none ao cap w
  | cons t r =>
    obtain ⟨b, off, rfl, _, _⟩ := hx.out 0 (by simp)
    exact specJoin_at b off cap (t :: r) w hx hl hs
end Go.Proofs.Ytfefjkldjaabbaa

/- The walk over the program's AddPiece. Written by gen_ia.py. -/
namespace Go.Proofs.Ytfefjkldjaabbaa
open Go.RowKit Pl
set_option linter.unusedVariables false
set_option linter.unusedSimpArgs false

theorem copyTexts_r (s : Sv) (ts : List ByteArray) (w : World) (h : Hid (RT w (.slice s.a s.n s.c) ts)) (hl : ts.length ≤ 1048576) (hs : ∀ x ∈ ts, x.size ≤ 1048576) :
    Calls Try.prog 46 #[.slice s.a s.n s.c] w fun e w' => ∃ u : Sv, e = .returned (.slice u.a u.n u.c) ∧ OwnS w' w.heap.size u.v ts ∧ Below w.heap.size w w' := by
  obtain ⟨ao, cap, he, hx⟩ := h.out
  rw [he]
  refine (copyTexts_any ao cap ts w hx hl hs).mono ?_
  rintro e w' ⟨v, rfl, h1, h2⟩
  obtain ⟨u, rfl, _⟩ := sv_form h1
  exact ⟨u, rfl, h1, h2⟩

set_option maxRecDepth 100000 in
set_option maxHeartbeats 8000000 in
theorem implAdd_any (p : Pi) (x : ByteArray) (s : Sv) (w : World) (hO : Hid (RT w (.slice s.a s.n s.c) p.ps)) (hps : Hid p.short) (hx : x.size ≤ 1048576) :
    Calls Try.prog 18 #[.agg #[.int .i64 p.num, .int .i64 p.cnt, .slice s.a s.n s.c], .string x] w fun e w' => SpPost p x w e w' := by
  have B0 : Hid (Below w.heap.size w ((w.alloc (.cells #[.int .i64 p.num, .int .i64 p.cnt, .slice s.a s.n s.c] 35)).alloc (.cells #[.int .i64 0, .int .i64 0, .slice none 0 0] 35))) := ((Below.refl _ _).alloc (Nat.le_refl _) _).alloc (by simp) _
  have P0 : Hid (PiB ((w.alloc (.cells #[.int .i64 p.num, .int .i64 p.cnt, .slice s.a s.n s.c] 35)).alloc (.cells #[.int .i64 0, .int .i64 0, .slice none 0 0] 35)) w.heap.size p.num p.cnt s) := (Bx.new w 35 [.int .i64 p.num, .int .i64 p.cnt, .slice s.a s.n s.c]).stays ((Below.refl (w.heap.size + 1) _).alloc (by simp) _) (by omega)
  have R0 : Hid (PiB ((w.alloc (.cells #[.int .i64 p.num, .int .i64 p.cnt, .slice s.a s.n s.c] 35)).alloc (.cells #[.int .i64 0, .int .i64 0, .slice none 0 0] 35)) (w.heap.size + 1) 0 0 ⟨none, 0, 0⟩) := bx_new1 w _ 35 [.int .i64 0, .int .i64 0, .slice none 0 0]
  have T0 : Hid (RT ((w.alloc (.cells #[.int .i64 p.num, .int .i64 p.cnt, .slice s.a s.n s.c] 35)).alloc (.cells #[.int .i64 0, .int .i64 0, .slice none 0 0] 35)) (.slice s.a s.n s.c) p.ps) := hO.out.stays B0.out
  go_enter Try.func18, Try.ntmps18
  go_wp2_with fail
  generalize ((w.alloc (.cells #[.int .i64 p.num, .int .i64 p.cnt, .slice s.a s.n s.c] 35)).alloc (.cells #[.int .i64 0, .int .i64 0, .slice none 0 0] 35)) = W at *
  go_cut [7] (fun u7 wx => ∃ (gq : Nat) (uq : Sv), u7 = .pointer (some ⟨gq, 0, none⟩) ∧ CutSt W gq p uq wx)
  case first =>
    have KEEP : Hid (∀ w', Below W.heap.size W w' → (w'.cell? ⟨w.heap.size, 0, none⟩ = some (.int .i64 p.num) ∧ w'.cell? ⟨w.heap.size, 1, none⟩ = some (.int .i64 p.cnt) ∧ w'.cell? ⟨w.heap.size, 2, none⟩ = some (.slice s.a s.n s.c)) ∧ Hid (Below W.heap.size W w')) := fun w' hb => ⟨(P0.out.later hb).cells, hb⟩
    have c : Below W.heap.size W W.drew := (Below.refl _ _).drew
    refine wp_region_held_drew (S := fun w' => (w'.cell? ⟨w.heap.size, 0, none⟩ = some (.int .i64 p.num) ∧ w'.cell? ⟨w.heap.size, 1, none⟩ = some (.int .i64 p.cnt) ∧ w'.cell? ⟨w.heap.size, 2, none⟩ = some (.slice s.a s.n s.c)) ∧ Hid (Below W.heap.size W w')) (by kernel_rfl) (KEEP.out _ c) (fun hHeld => ?_)
    refine wpAnyH_take (i := 0) (v := ?v0b1) rfl (by kernel_rfl) (by kernel_rfl) (by kernel_rfl) (fun _ _ _ h => h) (Or.inl ⟨by rfl, ?hy0b1⟩) (by assumption) ?_
    case hy0b1 => (intro w hSw; (try dsimp only at hSw); simp only [List.getElem_toArray, List.getElem_cons_zero, List.getElem_cons_succ]; go_simp; try with_reducible rfl)
    try simp only [Act.put, List.getElem_toArray, List.getElem_cons_zero, List.getElem_cons_succ, List.setIfInBounds_toArray, List.set_cons_zero, List.set_cons_succ]
    refine wpAnyH_take (i := 1) (v := ?v1b2) rfl (by kernel_rfl) (by kernel_rfl) (by kernel_rfl) (fun _ _ _ h => h) (Or.inl ⟨by rfl, ?hy1b2⟩) (by assumption) ?_
    case hy1b2 => (intro w hSw; (try dsimp only at hSw); simp only [List.getElem_toArray, List.getElem_cons_zero, List.getElem_cons_succ]; go_simp; try with_reducible rfl)
    try simp only [Act.put, List.getElem_toArray, List.getElem_cons_zero, List.getElem_cons_succ, List.setIfInBounds_toArray, List.set_cons_zero, List.set_cons_succ]
    refine wpAnyH_take (i := 2) (v := ?v2b3) rfl (by kernel_rfl) (by kernel_rfl) (by kernel_rfl) (fun _ _ _ h => h) (Or.inl ⟨by rfl, ?hy2b3⟩) (by assumption) ?_
    case hy2b3 => (intro w hSw; (try dsimp only at hSw); simp only [List.getElem_toArray, List.getElem_cons_zero, List.getElem_cons_succ]; go_simp; try with_reducible rfl)
    try simp only [Act.put, List.getElem_toArray, List.getElem_cons_zero, List.getElem_cons_succ, List.setIfInBounds_toArray, List.set_cons_zero, List.set_cons_succ]
    refine wpAnyH_take (i := 3) (v := ?v3b4) rfl (by kernel_rfl) (by kernel_rfl) (by kernel_rfl) (fun _ _ _ h => h) (Or.inl ⟨by rfl, ?hy3b4⟩) (by assumption) ?_
    case hy3b4 => (intro w hSw; (try dsimp only at hSw); simp only [List.getElem_toArray, List.getElem_cons_zero, List.getElem_cons_succ]; go_simp; try with_reducible rfl)
    try simp only [Act.put, List.getElem_toArray, List.getElem_cons_zero, List.getElem_cons_succ, List.setIfInBounds_toArray, List.set_cons_zero, List.set_cons_succ]
    refine wpAnyH_take (i := 4) (v := ?v4b5) rfl (by kernel_rfl) (by kernel_rfl) (by kernel_rfl) (fun _ _ _ h => h) (Or.inl ⟨by rfl, ?hy4b5⟩) (by assumption) ?_
    case hy4b5 => (intro w hSw; (try dsimp only at hSw); simp only [List.getElem_toArray, List.getElem_cons_zero, List.getElem_cons_succ]; go_simp; try with_reducible rfl)
    try simp only [Act.put, List.getElem_toArray, List.getElem_cons_zero, List.getElem_cons_succ, List.setIfInBounds_toArray, List.set_cons_zero, List.set_cons_succ]
    refine wpAnyH_take (i := 5) (v := ?v5b6) rfl (by kernel_rfl) (by kernel_rfl) (by kernel_rfl) (fun _ _ _ h => h) (Or.inl ⟨by rfl, ?hy5b6⟩) (by assumption) ?_
    case hy5b6 => (intro w hSw; (try dsimp only at hSw); simp only [List.getElem_toArray, List.getElem_cons_zero, List.getElem_cons_succ]; go_simp; try with_reducible rfl)
    try simp only [Act.put, List.getElem_toArray, List.getElem_cons_zero, List.getElem_cons_succ, List.setIfInBounds_toArray, List.set_cons_zero, List.set_cons_succ]
    refine wpAnyH_ready (rs := [6, 8]) (by kernel_rfl) (by simp) ?_
    refine (AllReadyH.cons (i := 6) rfl (fun K hK => ?_) (AllReadyH.cons (i := 8) rfl (fun K hK => ?_) AllReadyH.nil))
    · skip
      rw [if_pos (by rfl)]
      simp only [List.getElem_toArray, List.getElem_cons_zero, List.getElem_cons_succ]
      go_simp
      refine (copyTexts_r s p.ps W.drew (show Hid (RT W.drew (.slice s.a s.n s.c) p.ps) from T0.out.stays c) hps.out.1 hps.out.2).mono ?_
      rintro e y1 ⟨uq, rfl, om1, b⟩
      have zc : W.heap.size ≤ W.drew.heap.size := c.size
      have O1 : Hid (OwnS y1 W.heap.size uq.v p.ps) := om1.down zc
      have c : Below W.heap.size W y1 := bl_next c b
      refine hK.out _ _ (KEEP.out _ c) (fun hHeld => ?_)
      clear hK K
      try simp only [Act.put, List.getElem_toArray, List.getElem_cons_zero, List.getElem_cons_succ, List.setIfInBounds_toArray, List.set_cons_zero, List.set_cons_succ]
      clear b om1 zc
      refine wpAnyH_take (i := 7) (v := ?v7b7) rfl (by kernel_rfl) (by kernel_rfl) (by kernel_rfl) (fun _ _ _ h => h) (Or.inl ⟨by rfl, ?hy7b7⟩) (by assumption) ?_
      case hy7b7 => (intro w hSw; (try dsimp only at hSw); simp only [List.getElem_toArray, List.getElem_cons_zero, List.getElem_cons_succ]; go_simp; try with_reducible rfl)
      try simp only [Act.put, List.getElem_toArray, List.getElem_cons_zero, List.getElem_cons_succ, List.setIfInBounds_toArray, List.set_cons_zero, List.set_cons_succ]
      refine wpAnyH_ready (rs := [8]) (by kernel_rfl) (by simp) ?_
      refine AllReadyH.cons (i := 8) rfl (fun K hK => ?_) AllReadyH.nil
      rw [if_pos (by rfl)]
      simp only [List.getElem_toArray, List.getElem_cons_zero, List.getElem_cons_succ]
      go_simp
      have BX2 : Hid (Bx (y1.alloc (.cells #[.int .i64 0, .int .i64 0, .slice none 0 0] 35)) y1.heap.size 35 [.int .i64 0, .int .i64 0, .slice none 0 0]) := by have h := Bx.new y1 35 [.int .i64 0, .int .i64 0, .slice none 0 0]; rw [show y1.heap.size = y1.heap.size by simp] at h; exact h
      have zq : W.heap.size ≤ y1.heap.size := by have h := c.size; rw [show y1.heap.size = y1.heap.size by simp] at h; exact h
      have c : Below W.heap.size W (y1.alloc (.cells #[.int .i64 0, .int .i64 0, .slice none 0 0] 35)) := c.alloc c.size _
      have O1 : Hid (OwnS (y1.alloc (.cells #[.int .i64 0, .int .i64 0, .slice none 0 0] 35)) W.heap.size uq.v p.ps) := O1.out.alloc _
      refine hK.out _ _ (KEEP.out _ c) (fun hHeld => ?_)
      clear hK K
      try simp only [Act.put, List.getElem_toArray, List.getElem_cons_zero, List.getElem_cons_succ, List.setIfInBounds_toArray, List.set_cons_zero, List.set_cons_succ]
      refine wpAnyH_ready (rs := [9]) (by kernel_rfl) (by simp) ?_
      refine AllReadyH.cons (i := 9) rfl (fun K hK => ?_) AllReadyH.nil
      rw [if_pos (by rfl)]
      simp only [List.getElem_toArray, List.getElem_cons_zero, List.getElem_cons_succ]
      refine wp_stB 35 _ _ rfl (y1.heap.size) 0 (by rfl) 35 _ BX2.out [.int .i64 p.num, .int .i64 p.cnt, .slice uq.a uq.n uq.c] (by rfl) (by simp) Try.sizeP rfl [.int .i64 p.num, .int .i64 p.cnt, .slice uq.a uq.n uq.c] rfl ?_
      intro y3 RB3 TB3
      have O3 := O1.out.past BX2.out TB3 (by decide)
      have c : Below W.heap.size W y3 := c.trans (TB3.below zq)
      refine hK.out _ _ (KEEP.out _ c) (fun hHeld => ?_)
      clear hK K
      try simp only [Act.put, List.getElem_toArray, List.getElem_cons_zero, List.getElem_cons_succ, List.setIfInBounds_toArray, List.set_cons_zero, List.set_cons_succ]
      refine wpAnyH_done (by kernel_rfl) ?_ _
      try go_wp2_with fail
      go_meet
      exact ⟨_, uq, rfl, RB3, O3, zq, c⟩
    · skip
      rw [if_pos (by rfl)]
      simp only [List.getElem_toArray, List.getElem_cons_zero, List.getElem_cons_succ]
      go_simp
      have BX1 : Hid (Bx (W.drew.alloc (.cells #[.int .i64 0, .int .i64 0, .slice none 0 0] 35)) W.heap.size 35 [.int .i64 0, .int .i64 0, .slice none 0 0]) := by have h := Bx.new W.drew 35 [.int .i64 0, .int .i64 0, .slice none 0 0]; rw [show W.drew.heap.size = W.heap.size by simp] at h; exact h
      have zq : W.heap.size ≤ W.heap.size := by have h := c.size; rw [show W.drew.heap.size = W.heap.size by simp] at h; exact h
      have c : Below W.heap.size W (W.drew.alloc (.cells #[.int .i64 0, .int .i64 0, .slice none 0 0] 35)) := c.alloc c.size _
      refine hK.out _ _ (KEEP.out _ c) (fun hHeld => ?_)
      clear hK K
      try simp only [Act.put, List.getElem_toArray, List.getElem_cons_zero, List.getElem_cons_succ, List.setIfInBounds_toArray, List.set_cons_zero, List.set_cons_succ]
      refine wpAnyH_ready (rs := [6]) (by kernel_rfl) (by simp) ?_
      refine AllReadyH.cons (i := 6) rfl (fun K hK => ?_) AllReadyH.nil
      rw [if_pos (by rfl)]
      simp only [List.getElem_toArray, List.getElem_cons_zero, List.getElem_cons_succ]
      go_simp
      refine (copyTexts_r s p.ps (W.drew.alloc (.cells #[.int .i64 0, .int .i64 0, .slice none 0 0] 35)) (show Hid (RT (W.drew.alloc (.cells #[.int .i64 0, .int .i64 0, .slice none 0 0] 35)) (.slice s.a s.n s.c) p.ps) from T0.out.stays c) hps.out.1 hps.out.2).mono ?_
      rintro e y2 ⟨uq, rfl, om2, b⟩
      have zc : W.heap.size ≤ (W.drew.alloc (.cells #[.int .i64 0, .int .i64 0, .slice none 0 0] 35)).heap.size := c.size
      have BX1 : Hid (Bx y2 W.heap.size 35 [.int .i64 0, .int .i64 0, .slice none 0 0]) := BX1.out.later b
      have O2 : Hid (OwnS y2 W.heap.size uq.v p.ps) := om2.down zc
      have c : Below W.heap.size W y2 := bl_next c b
      refine hK.out _ _ (KEEP.out _ c) (fun hHeld => ?_)
      clear hK K
      try simp only [Act.put, List.getElem_toArray, List.getElem_cons_zero, List.getElem_cons_succ, List.setIfInBounds_toArray, List.set_cons_zero, List.set_cons_succ]
      clear b om2 zc
      refine wpAnyH_take (i := 7) (v := ?v7b8) rfl (by kernel_rfl) (by kernel_rfl) (by kernel_rfl) (fun _ _ _ h => h) (Or.inl ⟨by rfl, ?hy7b8⟩) (by assumption) ?_
      case hy7b8 => (intro w hSw; (try dsimp only at hSw); simp only [List.getElem_toArray, List.getElem_cons_zero, List.getElem_cons_succ]; go_simp; try with_reducible rfl)
      try simp only [Act.put, List.getElem_toArray, List.getElem_cons_zero, List.getElem_cons_succ, List.setIfInBounds_toArray, List.set_cons_zero, List.set_cons_succ]
      refine wpAnyH_ready (rs := [9]) (by kernel_rfl) (by simp) ?_
      refine AllReadyH.cons (i := 9) rfl (fun K hK => ?_) AllReadyH.nil
      rw [if_pos (by rfl)]
      simp only [List.getElem_toArray, List.getElem_cons_zero, List.getElem_cons_succ]
      refine wp_stB 35 _ _ rfl (W.heap.size) 0 (by rfl) 35 _ BX1.out [.int .i64 p.num, .int .i64 p.cnt, .slice uq.a uq.n uq.c] (by rfl) (by simp) Try.sizeP rfl [.int .i64 p.num, .int .i64 p.cnt, .slice uq.a uq.n uq.c] rfl ?_
      intro y3 RB3 TB3
      have O3 := O2.out.past BX1.out TB3 (by decide)
      have c : Below W.heap.size W y3 := c.trans (TB3.below zq)
      refine hK.out _ _ (KEEP.out _ c) (fun hHeld => ?_)
      clear hK K
      try simp only [Act.put, List.getElem_toArray, List.getElem_cons_zero, List.getElem_cons_succ, List.setIfInBounds_toArray, List.set_cons_zero, List.set_cons_succ]
      refine wpAnyH_done (by kernel_rfl) ?_ _
      try go_wp2_with fail
      go_meet
      exact ⟨_, uq, rfl, RB3, O3, zq, c⟩

  case rest =>
  obtain ⟨gq, uq, rfl, hbx, hoq, zgq, b2⟩ := hcut
  generalize wc = W3 at *
  have Q3 : Hid (PiB W3 gq p.num p.cnt uq) := hbx
  have O3 : Hid (OwnS W3 W.heap.size uq.v p.ps) := hoq
  have B3 : Hid (Below w.heap.size w W3) := B0.out.trans (b2.mono B0.out.size)
  have R3 : Hid (PiB W3 (w.heap.size + 1) 0 0 ⟨none, 0, 0⟩) := R0.out.later b2
  have ZQ : Hid (W.heap.size ≤ gq ∧ w.heap.size + 1 < W.heap.size ∧ W.heap.size ≤ W3.heap.size) := ⟨zgq, R0.out.lt, b2.size⟩
  clear hbx hoq b2 zgq B0 P0 R0 T0
  generalize hgr : w.heap.size + 1 = gr at *
  have HGR : Hid (w.heap.size + 1 = gr) := hgr
  clear hgr
  have hgr' : w.heap.size ≤ gr := by have := HGR.out; omega
  go_wp2_with fail
  refine (add_any p x gq W.heap.size uq W3 Q3 O3 hps hx ZQ.out.2.2).mono ?_
  rintro e w4 ⟨s4, rfl, hP4, hO4, hN4, hG4⟩
  have P4 : Hid (PiB w4 gq (addP p x).1.num (addP p x).1.cnt s4) := hP4
  have O4 : Hid (OwnS w4 w.heap.size s4.v (addP p x).1.ps) := hO4.down (by have := ZQ.out; have := HGR.out; omega)
  have B4 : Hid (Below w.heap.size w w4) := B3.out.trans (hG4.below (fun k hk => by
    rcases hk with rfl | hk
    · have := ZQ.out; have := HGR.out; omega
    · have := (O3.out.lt k hk).1; have := ZQ.out; have := HGR.out; omega) B3.out.size)
  have R4 : Hid (PiB w4 gr 0 0 ⟨none, 0, 0⟩) := (hG4.block gr R3.out.lt (fun hk => by
    rcases hk with hk | hk
    · have := ZQ.out; omega
    · have := (O3.out.lt gr hk).1; have := ZQ.out; omega)).trans R3.out
  obtain ⟨c0, c1, c2⟩ := P4.out.cells
  clear hP4 hO4 hN4 hG4 Q3 O3 B3 R3
  generalize hA : (addP p x) = a4 at *
  have HA : Hid ((addP p x) = a4) := hA
  clear hA
  go_wp2_with (first | (with_reducible refine wpList_haltS 35 _ _ rfl ?_))
  refine Stp.go ?_
  refine wpList_stB rfl 35 _ _ rfl gr 0 rfl 35 _ R4.out [.int .i64 a4.1.num, .int .i64 a4.1.cnt, .slice s4.a s4.n s4.c] rfl (by simp) Try.sizeP rfl [.int .i64 a4.1.num, .int .i64 a4.1.cnt, .slice s4.a s4.n s4.c] rfl ?_
  intro wz RZ TZ
  have BZ : Below w.heap.size w wz := B4.out.trans (TZ.below hgr')
  have OZ := O4.out.past R4.out TZ (by decide)
  obtain ⟨z0, z1, z2⟩ := PiB.cells (s := s4) RZ
  go_wp2_with fail
  refine bodyPost_ret (v := .tuple #[.agg #[.int .i64 a4.1.num, .int .i64 a4.1.cnt, .slice s4.a s4.n s4.c], .string a4.2.1, .bool a4.2.2]) (by simp [results, Try.results18, go_sem, z0, z1, z2]) rfl ?_
  exact ⟨s4, by rw [HA.out], by rw [HA.out]; exact OZ, BZ⟩
end Go.Proofs.Ytfefjkldjaabbaa

