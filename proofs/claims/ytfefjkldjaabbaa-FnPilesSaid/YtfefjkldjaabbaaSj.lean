/- The walk over the specification's Join. Written by gen_sj.py. -/
import Derived.Test.YtfefjkldjaabbaaSa
import Derived.Test.YtfefjkldjaabbaaJo
namespace Go.Proofs.Ytfefjkldjaabbaa
open Go.RowKit Pl
set_option linter.unusedVariables false
set_option linter.unusedSimpArgs false

theorem Pl.TextsAt.at {w : World} {b off : Nat} {xs : List ByteArray} (h : TextsAt w (some ⟨b, off, none⟩) xs) (k : Nat) (hk : k < xs.length) : b < w.heap.size ∧ w.cell? ⟨b, off + k, none⟩ = some (.string xs[k]) := by
  obtain ⟨b', off', e, h1, h2⟩ := h k hk
  simp at e
  obtain ⟨rfl, rfl⟩ := e
  exact ⟨h1, h2⟩

set_option maxRecDepth 100000 in
set_option maxHeartbeats 8000000 in
theorem specJoin_at (sb so cap : Nat) (ts : List ByteArray) (w : World) (hx : Hid (TextsAt w (some ⟨sb, so, none⟩) ts)) (hl : ts.length ≤ 1048576) (hs : Hid (∀ x ∈ ts, x.size ≤ 1048576)) :
    Calls Try.prog 17 #[.slice (some ⟨sb, so, none⟩) ts.length cap] w fun e w' => ∃ v, e = .returned v ∧ OwnS w' w.heap.size v (joinedL ts) ∧ Below w.heap.size w w' := by
  have S0 : Hid (JoSt w ((w.alloc (.cells #[] 9)).alloc (.cells #[.int .i64 0, .int .i64 0, .slice none 0 0] 35)) (w.heap.size + 1) (.slice (some ⟨w.heap.size, 0, none⟩) 0 0) (ts.take 0)) :=
    ⟨⟨none, 0, 0⟩, (OwnS.made w w.heap.size (Nat.le_refl _)).alloc _, bx_new1 w _ 35 [.int .i64 0, .int .i64 0, .slice none 0 0], ownS_none _ _, ap_none _ 0 0, ((Below.refl _ _).alloc (Nat.le_refl _) _).alloc (by simp) _⟩
  go_enter Try.func17, Try.ntmps17
  go_wp2_with fail
  generalize hgp : w.heap.size + 1 = gp at *
  have HGP : Hid (w.heap.size + 1 = gp) := hgp
  clear hgp
  have hgp' : w.heap.size ≤ gp := by have := HGP.out; omega
  go_loopw [3, 5] (fun v i wr => ∃ k : Nat, k ≤ ts.length ∧ i = .int .i64 k ∧ Hid (JoSt w wr gp v (ts.take k))) (fun _ i _ => ts.length - (intOf i).toNat)
  case atStart => exact ⟨0, Nat.zero_le _, rfl, S0⟩
  case round =>
    clear S0
    obtain ⟨k, hk, rfl, hst⟩ := hrel
    by_cases hlt : k < ts.length
    · obtain ⟨s, hO, hP, hS, hA, hB⟩ := hst.out
      obtain ⟨hsb, hcl⟩ := (hx.out.stays hB).at k hlt
      have hsz := hs.out _ (List.getElem_mem hlt)
      obtain ⟨tx, hp⟩ : ∃ x : ByteArray, x = ts[k] := ⟨_, rfl⟩
      rw [← hp] at hcl hsz
      have HQ : Hid (tx = ts[k]) := hp
      have O1 : Hid (OwnS wr w.heap.size u3 (joinedL (ts.take k))) := hO
      have P1 : Hid (PiB wr gp (pileL (ts.take k)).num (pileL (ts.take k)).cnt s) := hP
      have RS : Hid (RT wr (.slice s.a s.n s.c) (pileL (ts.take k)).ps) := hS.rt
      have A1 : Hid (Ap s.v u3) := hA
      have B1 : Hid (Below w.heap.size w wr) := hB
      have HL : Hid (pileL (ts.take k)).short := pile_short _
      have i0 : (0 : Int) ≤ (k : Int) := by omega
      have i1 : (k : Int) < (ts.length : Int) := by omega
      clear hp hO hP hS hA hB hst
      go_wp2_with fail
      go_cut [6, 7, 8] (fun u6 u7 u8 wx => ∃ (gm : Nat) (um : Sv), u6 = .pointer (some ⟨gm, 0, none⟩) ∧ u7 = .string (addP (pileL (ts.take k)) tx).2.1 ∧ u8 = .bool (addP (pileL (ts.take k)) tx).2.2 ∧ Bx wx gm 35 [.int .i64 (addP (pileL (ts.take k)) tx).1.num, .int .i64 (addP (pileL (ts.take k)) tx).1.cnt, .slice um.a um.n um.c] ∧ OwnS wx wr.heap.size um.v (addP (pileL (ts.take k)) tx).1.ps ∧ wr.heap.size ≤ gm ∧ Below wr.heap.size wr wx)
      case first =>
        have KEEP : Hid (∀ w', Below wr.heap.size wr w' → (w'.cell? ⟨sb, so + k, none⟩ = some (.string tx)) ∧ Hid (Below wr.heap.size wr w')) := fun w' hb => ⟨(hb.cell (p := ⟨sb, so + k, none⟩) hsb).trans hcl, hb⟩
        have c : Below wr.heap.size wr wr.drew := (Below.refl _ _).drew
        refine wp_region_held_drew (S := fun w' => (w'.cell? ⟨sb, so + k, none⟩ = some (.string tx)) ∧ Hid (Below wr.heap.size wr w')) (by kernel_rfl) (KEEP.out _ c) (fun hHeld => ?_)
        refine wpAnyH_take (i := 0) (v := _) rfl (by kernel_rfl) (by kernel_rfl) (by kernel_rfl) (fun _ _ _ h => h) (ld_yield (by rfl) 35 _ rfl gp 0 rfl 35 _ (fun w hS => P1.out.later hS.2.out) [.int .i64 (pileL (ts.take k)).num, .int .i64 (pileL (ts.take k)).cnt, .slice s.a s.n s.c] rfl _ Try.underlying35 rfl Try.sizeP) (by assumption) ?_
        try simp only [Act.put, List.getElem_toArray, List.getElem_cons_zero, List.getElem_cons_succ, List.setIfInBounds_toArray, List.set_cons_zero, List.set_cons_succ]
        refine wpAnyH_take (i := 1) (v := ?v1b2) rfl (by kernel_rfl) (by kernel_rfl) (by kernel_rfl) (fun _ _ _ h => h) (Or.inl ⟨by rfl, ?hy1b2⟩) (by assumption) ?_
        case hy1b2 => (intro w hSw; (try dsimp only at hSw); simp only [List.getElem_toArray, List.getElem_cons_zero, List.getElem_cons_succ]; go_simp; try with_reducible rfl)
        try simp only [Act.put, List.getElem_toArray, List.getElem_cons_zero, List.getElem_cons_succ, List.setIfInBounds_toArray, List.set_cons_zero, List.set_cons_succ]
        refine wpAnyH_take (i := 2) (v := ?v2b3) rfl (by kernel_rfl) (by kernel_rfl) (by kernel_rfl) (fun _ _ _ h => h) (Or.inl ⟨by rfl, ?hy2b3⟩) (by assumption) ?_
        case hy2b3 => (intro w hSw; (try dsimp only at hSw); simp only [List.getElem_toArray, List.getElem_cons_zero, List.getElem_cons_succ]; go_simp; try with_reducible rfl)
        try simp only [Act.put, List.getElem_toArray, List.getElem_cons_zero, List.getElem_cons_succ, List.setIfInBounds_toArray, List.set_cons_zero, List.set_cons_succ]
        refine wpAnyH_take (i := 3) (v := ?v3b4) rfl (by kernel_rfl) (by kernel_rfl) (by kernel_rfl) (fun _ _ _ h => h) (Or.inl ⟨by rfl, ?hy3b4⟩) (by assumption) ?_
        case hy3b4 => (intro w hSw; (try dsimp only at hSw); simp only [List.getElem_toArray, List.getElem_cons_zero, List.getElem_cons_succ]; go_simp; try with_reducible rfl)
        try simp only [Act.put, List.getElem_toArray, List.getElem_cons_zero, List.getElem_cons_succ, List.setIfInBounds_toArray, List.set_cons_zero, List.set_cons_succ]
        refine wpAnyH_take (i := 4) (v := ?v4b5) rfl (by kernel_rfl) (by kernel_rfl) (by kernel_rfl) (fun _ _ _ h => h) (Or.inl ⟨by rfl, ?hy4b5⟩) (by assumption) ?_
        case hy4b5 => (intro w hSw; (try dsimp only at hSw); simp only [List.getElem_toArray, List.getElem_cons_zero, List.getElem_cons_succ]; go_simp; try with_reducible rfl)
        try simp only [Act.put, List.getElem_toArray, List.getElem_cons_zero, List.getElem_cons_succ, List.setIfInBounds_toArray, List.set_cons_zero, List.set_cons_succ]
        refine wpAnyH_ready (rs := [5, 10]) (by kernel_rfl) (by simp) ?_
        refine (AllReadyH.cons (i := 5) rfl (fun K hK => ?_) (AllReadyH.cons (i := 10) rfl (fun K hK => ?_) AllReadyH.nil))
        · skip
          rw [if_pos (by rfl)]
          simp only [List.getElem_toArray, List.getElem_cons_zero, List.getElem_cons_succ]
          go_simp
          refine (spAdd_any (pileL (ts.take k)) tx s wr.drew (show Hid (RT wr.drew (.slice s.a s.n s.c) (pileL (ts.take k)).ps) from RS.out.stays c) HL hsz).mono ?_
          rintro e y1 ⟨um, rfl, om1, b⟩
          have zc : wr.heap.size ≤ wr.drew.heap.size := c.size
          have O1 : Hid (OwnS y1 wr.heap.size um.v (addP (pileL (ts.take k)) tx).1.ps) := om1.down zc
          have c : Below wr.heap.size wr y1 := bl_next c b
          refine hK.out _ _ (KEEP.out _ c) (fun hHeld => ?_)
          clear hK K
          try simp only [Act.put, List.getElem_toArray, List.getElem_cons_zero, List.getElem_cons_succ, List.setIfInBounds_toArray, List.set_cons_zero, List.set_cons_succ]
          clear b om1 zc
          refine wpAnyH_take (i := 6) (v := ?v6b6) rfl (by kernel_rfl) (by kernel_rfl) (by kernel_rfl) (fun _ _ _ h => h) (Or.inl ⟨by rfl, ?hy6b6⟩) (by assumption) ?_
          case hy6b6 => (intro w hSw; (try dsimp only at hSw); simp only [List.getElem_toArray, List.getElem_cons_zero, List.getElem_cons_succ]; go_simp; try with_reducible rfl)
          try simp only [Act.put, List.getElem_toArray, List.getElem_cons_zero, List.getElem_cons_succ, List.setIfInBounds_toArray, List.set_cons_zero, List.set_cons_succ]
          refine wpAnyH_take (i := 7) (v := ?v7b7) rfl (by kernel_rfl) (by kernel_rfl) (by kernel_rfl) (fun _ _ _ h => h) (Or.inl ⟨by rfl, ?hy7b7⟩) (by assumption) ?_
          case hy7b7 => (intro w hSw; (try dsimp only at hSw); simp only [List.getElem_toArray, List.getElem_cons_zero, List.getElem_cons_succ]; go_simp; try with_reducible rfl)
          try simp only [Act.put, List.getElem_toArray, List.getElem_cons_zero, List.getElem_cons_succ, List.setIfInBounds_toArray, List.set_cons_zero, List.set_cons_succ]
          refine wpAnyH_take (i := 8) (v := ?v8b8) rfl (by kernel_rfl) (by kernel_rfl) (by kernel_rfl) (fun _ _ _ h => h) (Or.inl ⟨by rfl, ?hy8b8⟩) (by assumption) ?_
          case hy8b8 => (intro w hSw; (try dsimp only at hSw); simp only [List.getElem_toArray, List.getElem_cons_zero, List.getElem_cons_succ]; go_simp; try with_reducible rfl)
          try simp only [Act.put, List.getElem_toArray, List.getElem_cons_zero, List.getElem_cons_succ, List.setIfInBounds_toArray, List.set_cons_zero, List.set_cons_succ]
          refine wpAnyH_take (i := 9) (v := ?v9b9) rfl (by kernel_rfl) (by kernel_rfl) (by kernel_rfl) (fun _ _ _ h => h) (Or.inl ⟨by rfl, ?hy9b9⟩) (by assumption) ?_
          case hy9b9 => (intro w hSw; (try dsimp only at hSw); simp only [List.getElem_toArray, List.getElem_cons_zero, List.getElem_cons_succ]; go_simp; try with_reducible rfl)
          try simp only [Act.put, List.getElem_toArray, List.getElem_cons_zero, List.getElem_cons_succ, List.setIfInBounds_toArray, List.set_cons_zero, List.set_cons_succ]
          refine wpAnyH_ready (rs := [10]) (by kernel_rfl) (by simp) ?_
          refine AllReadyH.cons (i := 10) rfl (fun K hK => ?_) AllReadyH.nil
          rw [if_pos (by rfl)]
          simp only [List.getElem_toArray, List.getElem_cons_zero, List.getElem_cons_succ]
          go_simp
          have BX2 : Hid (Bx (y1.alloc (.cells #[.int .i64 0, .int .i64 0, .slice none 0 0] 35)) y1.heap.size 35 [.int .i64 0, .int .i64 0, .slice none 0 0]) := by have h := Bx.new y1 35 [.int .i64 0, .int .i64 0, .slice none 0 0]; rw [show y1.heap.size = y1.heap.size by simp] at h; exact h
          have zq : wr.heap.size ≤ y1.heap.size := by have h := c.size; rw [show y1.heap.size = y1.heap.size by simp] at h; exact h
          have c : Below wr.heap.size wr (y1.alloc (.cells #[.int .i64 0, .int .i64 0, .slice none 0 0] 35)) := c.alloc c.size _
          have O1 : Hid (OwnS (y1.alloc (.cells #[.int .i64 0, .int .i64 0, .slice none 0 0] 35)) wr.heap.size um.v (addP (pileL (ts.take k)) tx).1.ps) := O1.out.alloc _
          refine hK.out _ _ (KEEP.out _ c) (fun hHeld => ?_)
          clear hK K
          try simp only [Act.put, List.getElem_toArray, List.getElem_cons_zero, List.getElem_cons_succ, List.setIfInBounds_toArray, List.set_cons_zero, List.set_cons_succ]
          refine wpAnyH_ready (rs := [11]) (by kernel_rfl) (by simp) ?_
          refine AllReadyH.cons (i := 11) rfl (fun K hK => ?_) AllReadyH.nil
          rw [if_pos (by rfl)]
          simp only [List.getElem_toArray, List.getElem_cons_zero, List.getElem_cons_succ]
          refine wp_stB 35 _ _ rfl (y1.heap.size) 0 (by rfl) 35 _ BX2.out [.int .i64 (addP (pileL (ts.take k)) tx).1.num, .int .i64 (addP (pileL (ts.take k)) tx).1.cnt, .slice um.a um.n um.c] (by rfl) (by simp) Try.sizeP rfl [.int .i64 (addP (pileL (ts.take k)) tx).1.num, .int .i64 (addP (pileL (ts.take k)) tx).1.cnt, .slice um.a um.n um.c] rfl ?_
          intro y3 RB3 TB3
          have O3 := O1.out.past BX2.out TB3 (by decide)
          have c : Below wr.heap.size wr y3 := c.trans (TB3.below zq)
          refine hK.out _ _ (KEEP.out _ c) (fun hHeld => ?_)
          clear hK K
          try simp only [Act.put, List.getElem_toArray, List.getElem_cons_zero, List.getElem_cons_succ, List.setIfInBounds_toArray, List.set_cons_zero, List.set_cons_succ]
          refine wpAnyH_take (i := 12) (v := ?v12b10) rfl (by kernel_rfl) (by kernel_rfl) (by kernel_rfl) (fun _ _ _ h => h) (Or.inl ⟨by rfl, ?hy12b10⟩) (by assumption) ?_
          case hy12b10 => (intro w hSw; (try dsimp only at hSw); simp only [List.getElem_toArray, List.getElem_cons_zero, List.getElem_cons_succ]; go_simp; try with_reducible rfl)
          try simp only [Act.put, List.getElem_toArray, List.getElem_cons_zero, List.getElem_cons_succ, List.setIfInBounds_toArray, List.set_cons_zero, List.set_cons_succ]
          refine wpAnyH_take (i := 13) (v := ?v13b11) rfl (by kernel_rfl) (by kernel_rfl) (by kernel_rfl) (fun _ _ _ h => h) (Or.inl ⟨by rfl, ?hy13b11⟩) (by assumption) ?_
          case hy13b11 => (intro w hSw; (try dsimp only at hSw); simp only [List.getElem_toArray, List.getElem_cons_zero, List.getElem_cons_succ]; go_simp; try with_reducible rfl)
          try simp only [Act.put, List.getElem_toArray, List.getElem_cons_zero, List.getElem_cons_succ, List.setIfInBounds_toArray, List.set_cons_zero, List.set_cons_succ]
          refine wpAnyH_done (by kernel_rfl) ?_ _
          try go_wp2_with fail
          go_meet
          exact ⟨_, um, rfl, rfl, rfl, RB3, O3, zq, c⟩
        · skip
          rw [if_pos (by rfl)]
          simp only [List.getElem_toArray, List.getElem_cons_zero, List.getElem_cons_succ]
          go_simp
          have BX1 : Hid (Bx (wr.drew.alloc (.cells #[.int .i64 0, .int .i64 0, .slice none 0 0] 35)) wr.heap.size 35 [.int .i64 0, .int .i64 0, .slice none 0 0]) := by have h := Bx.new wr.drew 35 [.int .i64 0, .int .i64 0, .slice none 0 0]; rw [show wr.drew.heap.size = wr.heap.size by simp] at h; exact h
          have zq : wr.heap.size ≤ wr.heap.size := by have h := c.size; rw [show wr.drew.heap.size = wr.heap.size by simp] at h; exact h
          have c : Below wr.heap.size wr (wr.drew.alloc (.cells #[.int .i64 0, .int .i64 0, .slice none 0 0] 35)) := c.alloc c.size _
          refine hK.out _ _ (KEEP.out _ c) (fun hHeld => ?_)
          clear hK K
          try simp only [Act.put, List.getElem_toArray, List.getElem_cons_zero, List.getElem_cons_succ, List.setIfInBounds_toArray, List.set_cons_zero, List.set_cons_succ]
          refine wpAnyH_ready (rs := [5]) (by kernel_rfl) (by simp) ?_
          refine AllReadyH.cons (i := 5) rfl (fun K hK => ?_) AllReadyH.nil
          rw [if_pos (by rfl)]
          simp only [List.getElem_toArray, List.getElem_cons_zero, List.getElem_cons_succ]
          go_simp
          refine (spAdd_any (pileL (ts.take k)) tx s (wr.drew.alloc (.cells #[.int .i64 0, .int .i64 0, .slice none 0 0] 35)) (show Hid (RT (wr.drew.alloc (.cells #[.int .i64 0, .int .i64 0, .slice none 0 0] 35)) (.slice s.a s.n s.c) (pileL (ts.take k)).ps) from RS.out.stays c) HL hsz).mono ?_
          rintro e y2 ⟨um, rfl, om2, b⟩
          have zc : wr.heap.size ≤ (wr.drew.alloc (.cells #[.int .i64 0, .int .i64 0, .slice none 0 0] 35)).heap.size := c.size
          have BX1 : Hid (Bx y2 wr.heap.size 35 [.int .i64 0, .int .i64 0, .slice none 0 0]) := BX1.out.later b
          have O2 : Hid (OwnS y2 wr.heap.size um.v (addP (pileL (ts.take k)) tx).1.ps) := om2.down zc
          have c : Below wr.heap.size wr y2 := bl_next c b
          refine hK.out _ _ (KEEP.out _ c) (fun hHeld => ?_)
          clear hK K
          try simp only [Act.put, List.getElem_toArray, List.getElem_cons_zero, List.getElem_cons_succ, List.setIfInBounds_toArray, List.set_cons_zero, List.set_cons_succ]
          clear b om2 zc
          refine wpAnyH_take (i := 6) (v := ?v6b12) rfl (by kernel_rfl) (by kernel_rfl) (by kernel_rfl) (fun _ _ _ h => h) (Or.inl ⟨by rfl, ?hy6b12⟩) (by assumption) ?_
          case hy6b12 => (intro w hSw; (try dsimp only at hSw); simp only [List.getElem_toArray, List.getElem_cons_zero, List.getElem_cons_succ]; go_simp; try with_reducible rfl)
          try simp only [Act.put, List.getElem_toArray, List.getElem_cons_zero, List.getElem_cons_succ, List.setIfInBounds_toArray, List.set_cons_zero, List.set_cons_succ]
          refine wpAnyH_take (i := 7) (v := ?v7b13) rfl (by kernel_rfl) (by kernel_rfl) (by kernel_rfl) (fun _ _ _ h => h) (Or.inl ⟨by rfl, ?hy7b13⟩) (by assumption) ?_
          case hy7b13 => (intro w hSw; (try dsimp only at hSw); simp only [List.getElem_toArray, List.getElem_cons_zero, List.getElem_cons_succ]; go_simp; try with_reducible rfl)
          try simp only [Act.put, List.getElem_toArray, List.getElem_cons_zero, List.getElem_cons_succ, List.setIfInBounds_toArray, List.set_cons_zero, List.set_cons_succ]
          refine wpAnyH_take (i := 8) (v := ?v8b14) rfl (by kernel_rfl) (by kernel_rfl) (by kernel_rfl) (fun _ _ _ h => h) (Or.inl ⟨by rfl, ?hy8b14⟩) (by assumption) ?_
          case hy8b14 => (intro w hSw; (try dsimp only at hSw); simp only [List.getElem_toArray, List.getElem_cons_zero, List.getElem_cons_succ]; go_simp; try with_reducible rfl)
          try simp only [Act.put, List.getElem_toArray, List.getElem_cons_zero, List.getElem_cons_succ, List.setIfInBounds_toArray, List.set_cons_zero, List.set_cons_succ]
          refine wpAnyH_take (i := 9) (v := ?v9b15) rfl (by kernel_rfl) (by kernel_rfl) (by kernel_rfl) (fun _ _ _ h => h) (Or.inl ⟨by rfl, ?hy9b15⟩) (by assumption) ?_
          case hy9b15 => (intro w hSw; (try dsimp only at hSw); simp only [List.getElem_toArray, List.getElem_cons_zero, List.getElem_cons_succ]; go_simp; try with_reducible rfl)
          try simp only [Act.put, List.getElem_toArray, List.getElem_cons_zero, List.getElem_cons_succ, List.setIfInBounds_toArray, List.set_cons_zero, List.set_cons_succ]
          refine wpAnyH_ready (rs := [11]) (by kernel_rfl) (by simp) ?_
          refine AllReadyH.cons (i := 11) rfl (fun K hK => ?_) AllReadyH.nil
          rw [if_pos (by rfl)]
          simp only [List.getElem_toArray, List.getElem_cons_zero, List.getElem_cons_succ]
          refine wp_stB 35 _ _ rfl (wr.heap.size) 0 (by rfl) 35 _ BX1.out [.int .i64 (addP (pileL (ts.take k)) tx).1.num, .int .i64 (addP (pileL (ts.take k)) tx).1.cnt, .slice um.a um.n um.c] (by rfl) (by simp) Try.sizeP rfl [.int .i64 (addP (pileL (ts.take k)) tx).1.num, .int .i64 (addP (pileL (ts.take k)) tx).1.cnt, .slice um.a um.n um.c] rfl ?_
          intro y3 RB3 TB3
          have O3 := O2.out.past BX1.out TB3 (by decide)
          have c : Below wr.heap.size wr y3 := c.trans (TB3.below zq)
          refine hK.out _ _ (KEEP.out _ c) (fun hHeld => ?_)
          clear hK K
          try simp only [Act.put, List.getElem_toArray, List.getElem_cons_zero, List.getElem_cons_succ, List.setIfInBounds_toArray, List.set_cons_zero, List.set_cons_succ]
          refine wpAnyH_take (i := 12) (v := ?v12b16) rfl (by kernel_rfl) (by kernel_rfl) (by kernel_rfl) (fun _ _ _ h => h) (Or.inl ⟨by rfl, ?hy12b16⟩) (by assumption) ?_
          case hy12b16 => (intro w hSw; (try dsimp only at hSw); simp only [List.getElem_toArray, List.getElem_cons_zero, List.getElem_cons_succ]; go_simp; try with_reducible rfl)
          try simp only [Act.put, List.getElem_toArray, List.getElem_cons_zero, List.getElem_cons_succ, List.setIfInBounds_toArray, List.set_cons_zero, List.set_cons_succ]
          refine wpAnyH_take (i := 13) (v := ?v13b17) rfl (by kernel_rfl) (by kernel_rfl) (by kernel_rfl) (fun _ _ _ h => h) (Or.inl ⟨by rfl, ?hy13b17⟩) (by assumption) ?_
          case hy13b17 => (intro w hSw; (try dsimp only at hSw); simp only [List.getElem_toArray, List.getElem_cons_zero, List.getElem_cons_succ]; go_simp; try with_reducible rfl)
          try simp only [Act.put, List.getElem_toArray, List.getElem_cons_zero, List.getElem_cons_succ, List.setIfInBounds_toArray, List.set_cons_zero, List.set_cons_succ]
          refine wpAnyH_done (by kernel_rfl) ?_ _
          try go_wp2_with fail
          go_meet
          exact ⟨_, um, rfl, rfl, rfl, RB3, O3, zq, c⟩

      case rest =>
      obtain ⟨gm, um, rfl, rfl, rfl, hbm, hom, zgm, b7⟩ := hcut
      generalize wc = W7 at *
      have GM : Hid (PiB W7 gm (addP (pileL (ts.take k)) tx).1.num (addP (pileL (ts.take k)) tx).1.cnt um) := hbm
      have OM : Hid (OwnS W7 wr.heap.size um.v (addP (pileL (ts.take k)) tx).1.ps) := hom
      have P7 : Hid (PiB W7 gp (pileL (ts.take k)).num (pileL (ts.take k)).cnt s) := P1.out.later b7
      have O7 : Hid (OwnS W7 w.heap.size u3 (joinedL (ts.take k))) := ownS_later O1.out b7
      have B7 : Hid (Below w.heap.size w W7) := B1.out.trans (b7.mono B1.out.size)
      have A7 : Hid (Ap um.v u3) := fun j hj hv => by have := (hom.lt j hj).1; have := (O1.out.lt j hv).2; omega
      have ZB : Hid (w.heap.size ≤ wr.heap.size) := B1.out.size
      generalize hr : (addP (pileL (ts.take k)) tx).2.2 = r at *
      generalize hc : (addP (pileL (ts.take k)) tx).2.1 = y at *
      have HR : Hid ((addP (pileL (ts.take k)) tx).2.2 = r) := hr
      have HC : Hid ((addP (pileL (ts.take k)) tx).2.1 = y) := hc
      clear hbm hom b7 hcl hsb i0 i1 P1 O1 RS A1 B1 zgm hr hc
      obtain ⟨m0, m1, m2⟩ := GM.out.cells
      go_wp2_with (first | (with_reducible refine wpList_haltS 35 _ _ rfl ?_))
      refine Stp.go ?_
      refine wpList_stB rfl 35 _ _ rfl gp 0 rfl 35 _ P7.out [.int .i64 (addP (pileL (ts.take k)) tx).1.num, .int .i64 (addP (pileL (ts.take k)) tx).1.cnt, .slice um.a um.n um.c] rfl (by simp) Try.sizeP rfl [.int .i64 (addP (pileL (ts.take k)) tx).1.num, .int .i64 (addP (pileL (ts.take k)) tx).1.cnt, .slice um.a um.n um.c] rfl ?_
      intro w8 G8 T8
      have P8 : Hid (PiB w8 gp (pileL (ts.take (k + 1))).num (pileL (ts.take (k + 1))).cnt um) := by
        show PiB _ _ _ _ _
        rw [pile_next hlt, ← HQ.out]; exact G8
      have OM8 : Hid (OwnS w8 w.heap.size um.v (pileL (ts.take (k + 1))).ps) := by
        show OwnS _ _ _ _
        rw [pile_next hlt, ← HQ.out]; exact (OM.out.past P7.out T8 (by decide)).down ZB.out
      have O8 : Hid (OwnS w8 w.heap.size u3 (joinedL (ts.take k))) := O7.out.past P7.out T8 (by decide)
      have B8 : Hid (Below w.heap.size w w8) := B7.out.trans (T8.below hgp')
      clear G8 T8 GM OM P7 O7 B7 m0 m1 m2
      cases r with
      | false =>
        go_wp2_with fail
        go_roundw
        case rel =>
          refine ⟨k + 1, by omega, by go_num, ⟨um, ?_, P8.out, OM8.out, A7.out, B8.out⟩⟩
          rw [joined_next hlt, ← HQ.out, if_neg (by rw [HR.out]; simp)]
          exact O8.out
        case measure => simp [intOf]; omega
      | true =>
        have z1 : w.heap.size ≤ w8.heap.size := B8.out.size
        have hlk : (joinedL (ts.take k)).length < 4000000 := by have := joinedL_len (ts.take k); rw [List.length_take] at this; omega
        have O2 := O8.out
        go_wp2_with (at_builtin; refine wpList_pushSb rfl _ _ 26 rfl Try.underlying26 Try.info9 w.heap.size u3 (joinedL (ts.take k)) rfl O2 y rfl hlk z1 ?_; intro v2 w2 S3 G3 N3)
        go_roundw
        case rel =>
          refine ⟨k + 1, by omega, by go_num, ⟨um, ?_, ?_, ?_, ?_, ?_⟩⟩
          · rw [joined_next hlt, ← HQ.out, if_pos HR.out, HC.out]
            exact S3
          · exact PiB.grown (P8.out.later ((Below.refl w8.heap.size w8).alloc (Nat.le_refl _) (.cells #[.string y] 9))) (O8.out.alloc _) G3
          · refine ownS_kept (OM8.out.alloc (.cells #[.string y] 9)) G3 fun j hj e => A7.out j hj e.symm
          · intro j hj hv
            rcases N3 with h | h
            · exact A7.out j hj (by rw [← h]; exact hv)
            · have := (OM8.out.lt j hj).2
              rw [hv] at h
              simp only [Option.some.injEq] at h
              omega
          · exact (B8.out.alloc z1 (.cells #[.string y] 9)).grown G3 (by simp; omega) (fun j hj => (O8.out.lt j hj).1)
        case measure => simp [intOf]; omega
    · obtain rfl : k = ts.length := by omega
      obtain ⟨s, hO, _, _, _, hB⟩ := hst.out
      rw [List.take_length] at hO
      have O1 : Hid (OwnS wr w.heap.size u3 (joinedL ts)) := hO
      have B1 : Hid (Below w.heap.size w wr) := hB
      clear hO hB hst
      go_wp2_with fail
      go_ret
      exact ⟨_, rfl, O1.out, B1.out⟩

set_option maxHeartbeats 1000000 in
theorem specJoin_none (ao : Option Addr) (cap : Nat) (w : World) :
    Calls Try.prog 17 #[.slice ao 0 cap] w fun e w' => ∃ v, e = .returned v ∧ OwnS w' w.heap.size v (joinedL []) ∧ Below w.heap.size w w' := by
  go_enter Try.func17, Try.ntmps17
  go_wp2
  refine wp_loop_rounds 1 ?_
  rw [rounds_succ]
  go_wp2
  go_ret
  exact ⟨_, rfl, (OwnS.made w w.heap.size (Nat.le_refl _)).alloc _, ((Below.refl _ _).alloc (Nat.le_refl _) _).alloc (by simp) _⟩

theorem specJoin (ao : Option Addr) (cap : Nat) (ts : List ByteArray) (w : World) (hx : Hid (TextsAt w ao ts)) (hl : ts.length ≤ 1048576) (hs : Hid (∀ x ∈ ts, x.size ≤ 1048576)) :
    Calls Try.prog 17 #[.slice ao ts.length cap] w fun e w' => ∃ v, e = .returned v ∧ OwnS w' w.heap.size v (joinedL ts) ∧ Below w.heap.size w w' := by
  cases ts with
  | nil => exact specJoin_none ao cap w
  | cons t r =>
    obtain ⟨b, off, rfl, _, _⟩ := hx.out 0 (by simp)
    exact specJoin_at b off cap (t :: r) w hx hl hs
end Go.Proofs.Ytfefjkldjaabbaa
