/- Both AllHere. Written by gen_bh.py. -/
import Derived.Test.YtlflcjdpdbdbkaaBf
import Derived.Test.YtlflcjdpdbdbkaaOwI
namespace Go.Proofs.Ytlflcjdpdbdbkaa
open Go.RowKit Pl
set_option linter.unusedVariables false
set_option linter.unusedSimpArgs false

/-- whether of each of these a right bundle for this ring is there. -/
def hereB (rid : Int) (ms : List Int) (bs : List Bu) : Bool := ms.all fun d => hitB rid d bs
theorem hereB_no {rid : Int} {ms : List Int} {bs : List Bu} {k : Nat} (hk : k < ms.length) (h : hitB rid ms[k] bs = false) : hereB rid ms bs = false := by
  cases hh : hereB rid ms bs with
  | false => rfl
  | true =>
    unfold hereB at hh
    rw [List.all_eq_true] at hh
    rw [hh _ (List.getElem_mem hk)] at h
    cases h
theorem hereB_next {rid : Int} {ms : List Int} {bs : List Bu} {k : Nat} (hk : k < ms.length) (h0 : hereB rid (ms.take k) bs = true) (h : hitB rid ms[k] bs = true) : hereB rid (ms.take (k + 1)) bs = true := by
  unfold hereB at h0 ⊢
  rw [List.take_succ_eq_append_getElem hk, List.all_append, h0, List.all_cons, h]
  rfl
theorem cell_lt {w w' : World} {b off i : Nat} {x : Value} (hb : Below w.heap.size w w') (h : w.cell? ⟨b, off + i, none⟩ = some x) (hl : b < w.heap.size) : w'.cell? ⟨b, off + i, none⟩ = some x := (hb.cell (p := ⟨b, off + i, none⟩) hl).trans h

theorem wp_stBu {P : Program} {w : World} {o : Oper} {a : Act} {Q : Exit → Act → World → Prop} {K : Act → World → Prop} (ty : TypeId) (x y : Operand) (ho : o.op = .store ty x y) (g off : Nat) (hx : a.eval x = .pointer (some ⟨g, off, none⟩)) (T : Nat) (all : List Value) (hB : Bx w g T all) (cs : List Value) (hy : a.eval y = .agg cs.toArray)
    (hl : off + cs.length ≤ all.length) (hi : (P.info? ty).map (·.size) = some cs.length) (h1 : cs.all (·.oneCell') = true) (all' : List Value) (he : all.take off ++ cs ++ all.drop (off + cs.length) = all')
    (h : ∀ w', Bx w' g T all' → TurnAt g w w' → K (a.put o.dst undef) w') : o.wp P a w K Q := by
  obtain ⟨w', hr, h2, h3⟩ := hB.store P ty off cs hl hi h1 all' he
  unfold Oper.wp execOp
  simp only [ho, hx, hy, Sem.run_bind, Instr.storeAt, Instr.sureAddr, Sem.run_pure, Result.andThen_ok, hr]
  exact h w' h2 h3

set_option maxRecDepth 100000 in
set_option maxHeartbeats 8000000 in
theorem spAllHere_any (rid : Int) (ma : Option Addr) (mc : Nat) (ms : List Int) (ao : Option Addr) (cap : Nat) (bs : List Bu) (w : World) (hm : Hid (IntsAt w ma ms)) (hml : ms.length ≤ 1048576) (hx : Hid (BnsAt w ao bs)) (hl : bs.length ≤ 1048576) (hs : Hid (∀ b ∈ bs, b.ts.length ≤ 1048576)) :
    Calls Try.prog 13 #[.agg #[.int .i64 rid, .slice ma ms.length mc], .slice ao bs.length cap] w fun e w' => e = .returned (.bool (hereB rid ms bs)) ∧ Below w.heap.size w w' := by
  have B0 : Hid (Below w.heap.size w (w.alloc (.cells #[.int .i64 rid, .slice ma ms.length mc] 40))) := (Below.refl _ _).alloc (Nat.le_refl _) _
  have R0 : Hid (Bx (w.alloc (.cells #[.int .i64 rid, .slice ma ms.length mc] 40)) w.heap.size 40 [.int .i64 rid, .slice ma ms.length mc]) := Bx.new w 40 _
  go_enter Try.func13, Try.ntmps13
  go_wp2_with fail
  generalize (w.alloc (.cells #[.int .i64 rid, .slice ma ms.length mc] 40)) = W0 at *
  go_loopw [5] (fun i wr => ∃ (k : Nat), k ≤ ms.length ∧ i = .int .i64 k ∧ Hid (hereB rid (ms.take k) bs = true) ∧ Hid (Bx wr w.heap.size 40 [.int .i64 rid, .slice ma ms.length mc]) ∧ Hid (Below w.heap.size w wr)) (fun i _ => ms.length - (intOf i).toNat)
  case atStart => exact ⟨0, by omega, rfl, rfl, R0.out, B0.out⟩
  case round =>
    clear R0 B0
    obtain ⟨k, hk, rfl, hok, HRg, hb⟩ := hrel
    have e1 := HRg.out.cell 1
    simp only [List.getElem?_cons_succ, List.getElem?_cons_zero] at e1
    by_cases hlt : k < ms.length
    · obtain ⟨b, off, rfl, hbb, hc⟩ := hm.out k hlt
      have HD : Hid (∃ d, d = ms[k]) := ⟨_, rfl⟩
      obtain ⟨d, hd⟩ := HD.out
      rw [← hd] at hc
      have HD : Hid (d = ms[k]) := hd
      clear hd
      have hc' : wr.cell? ⟨b, off + k, none⟩ = some (.int .i64 d) := cell_lt hb.out hc hbb
      have hbw : b < wr.heap.size := Nat.lt_of_lt_of_le hbb hb.out.size
      have HX : Hid (BnsAt wr ao bs) := hx.out.stays hb.out
      have KEEP : Hid (∀ w', Below wr.heap.size wr w' → (w'.cell? ⟨w.heap.size, 0, none⟩ = some (.int .i64 rid) ∧ w'.cell? ⟨w.heap.size, 1, none⟩ = some (.slice (some ⟨b, off, none⟩) ms.length mc) ∧ w'.cell? ⟨b, off + k, none⟩ = some (.int .i64 d)) ∧ Hid (Below wr.heap.size wr w')) := fun w' hw => ⟨⟨(HRg.out.later hw).cell 0, (HRg.out.later hw).cell 1, cell_lt hw hc' hbw⟩, hw⟩
      go_wp2_with fail
      clear e1 hc hc'
      have c : Below wr.heap.size wr wr.drew := (Below.refl _ _).drew
      refine wp_region_held_drew (S := fun w' => (w'.cell? ⟨w.heap.size, 0, none⟩ = some (.int .i64 rid) ∧ w'.cell? ⟨w.heap.size, 1, none⟩ = some (.slice (some ⟨b, off, none⟩) ms.length mc) ∧ w'.cell? ⟨b, off + k, none⟩ = some (.int .i64 d)) ∧ Hid (Below wr.heap.size wr w')) (by kernel_rfl) (KEEP.out _ c) (fun hHeld => ?_)
      refine wpAnyH_take (i := 0) (v := ?v0b1) rfl (by kernel_rfl) (by kernel_rfl) (by kernel_rfl) (fun _ _ _ h => h) (Or.inl ⟨by rfl, ?hy0b1⟩) (by assumption) ?_
      case hy0b1 => (intro w hSw; (try dsimp only at hSw); simp only [List.getElem_toArray, List.getElem_cons_zero, List.getElem_cons_succ]; go_simp; try with_reducible rfl)
      try simp only [Act.put, List.getElem_toArray, List.getElem_cons_zero, List.getElem_cons_succ, List.setIfInBounds_toArray, List.set_cons_zero, List.set_cons_succ]
      refine wpAnyH_take (i := 1) (v := ?v1b2) rfl (by kernel_rfl) (by kernel_rfl) (by kernel_rfl) (fun _ _ _ h => h) (Or.inl ⟨by rfl, ?hy1b2⟩) (by assumption) ?_
      case hy1b2 => (intro w hSw; (try dsimp only at hSw); simp only [List.getElem_toArray, List.getElem_cons_zero, List.getElem_cons_succ]; go_simp; try with_reducible rfl)
      try simp only [Act.put, List.getElem_toArray, List.getElem_cons_zero, List.getElem_cons_succ, List.setIfInBounds_toArray, List.set_cons_zero, List.set_cons_succ]
      refine wpAnyH_take (i := 2) (v := ?v2b3) rfl (by kernel_rfl) (by kernel_rfl) (by kernel_rfl) (fun _ _ _ h => h) (Or.inl ⟨by rfl, ?hy2b3⟩) (by assumption) ?_
      case hy2b3 => (intro w hSw; (try dsimp only at hSw); simp only [List.getElem_toArray, List.getElem_cons_zero, List.getElem_cons_succ]; go_simp; try with_reducible rfl)
      try simp only [Act.put, List.getElem_toArray, List.getElem_cons_zero, List.getElem_cons_succ, List.setIfInBounds_toArray, List.set_cons_zero, List.set_cons_succ]
      refine wpAnyH_take (i := 3) (v := ?v3b4) rfl (by kernel_rfl) (by kernel_rfl) (by kernel_rfl) (fun _ _ _ h => h) (Or.inl ⟨by rfl, ?hy3b4⟩) (by assumption) ?_
      case hy3b4 => (intro w hSw; (try dsimp only at hSw); simp only [List.getElem_toArray, List.getElem_cons_zero, List.getElem_cons_succ]; go_simp; try with_reducible rfl)
      try simp only [Act.put, List.getElem_toArray, List.getElem_cons_zero, List.getElem_cons_succ, List.setIfInBounds_toArray, List.set_cons_zero, List.set_cons_succ]
      refine wpAnyH_take (i := 4) (v := ?v4b5) rfl (by kernel_rfl) (by kernel_rfl) (by kernel_rfl) (fun _ _ _ h => h) (Or.inl ⟨by rfl, ?hy4b5⟩) (by assumption) ?_
      case hy4b5 => (intro w hSw; (try dsimp only at hSw); simp only [List.getElem_toArray, List.getElem_cons_zero, List.getElem_cons_succ]; go_simp; try with_reducible rfl)
      try simp only [Act.put, List.getElem_toArray, List.getElem_cons_zero, List.getElem_cons_succ, List.setIfInBounds_toArray, List.set_cons_zero, List.set_cons_succ]
      refine wpAnyH_take (i := 5) (v := ?v5b6) rfl (by kernel_rfl) (by kernel_rfl) (by kernel_rfl) (fun _ _ _ h => h) (Or.inl ⟨by rfl, ?hy5b6⟩) (by assumption) ?_
      case hy5b6 => (intro w hSw; (try dsimp only at hSw); simp only [List.getElem_toArray, List.getElem_cons_zero, List.getElem_cons_succ]; go_simp; try with_reducible rfl)
      try simp only [Act.put, List.getElem_toArray, List.getElem_cons_zero, List.getElem_cons_succ, List.setIfInBounds_toArray, List.set_cons_zero, List.set_cons_succ]
      refine wpAnyH_take (i := 6) (v := ?v6b7) rfl (by kernel_rfl) (by kernel_rfl) (by kernel_rfl) (fun _ _ _ h => h) (Or.inl ⟨by rfl, ?hy6b7⟩) (by assumption) ?_
      case hy6b7 => (intro w hSw; (try dsimp only at hSw); simp only [List.getElem_toArray, List.getElem_cons_zero, List.getElem_cons_succ]; go_simp; try with_reducible rfl)
      try simp only [Act.put, List.getElem_toArray, List.getElem_cons_zero, List.getElem_cons_succ, List.setIfInBounds_toArray, List.set_cons_zero, List.set_cons_succ]
      refine wpAnyH_ready (rs := [7, 11]) (by kernel_rfl) (by simp) ?_
      refine (AllReadyH.cons (i := 7) rfl (fun K hK => ?_) (AllReadyH.cons (i := 11) rfl (fun K hK => ?_) AllReadyH.nil))
      · skip
        rw [if_pos (by rfl)]
        simp only [List.getElem_toArray, List.getElem_cons_zero, List.getElem_cons_succ]
        go_simp
        refine (lfirst_any rid d (.slice (some ⟨b, off, none⟩) ms.length mc) ao cap bs wr.drew (show Hid (BnsAt wr.drew ao bs) from HX.out.stays c) hl hs rfl).mono ?_
        rintro e y1 ⟨f, n, o, s, rfl, bx⟩
        have c : Below wr.heap.size wr y1 := bl_nxt c bx
        refine hK.out _ _ (KEEP.out _ c) (fun hHeld => ?_)
        clear hK K
        try simp only [Act.put, List.getElem_toArray, List.getElem_cons_zero, List.getElem_cons_succ, List.setIfInBounds_toArray, List.set_cons_zero, List.set_cons_succ]
        clear bx
        refine wpAnyH_take (i := 8) (v := ?v8b8) rfl (by kernel_rfl) (by kernel_rfl) (by kernel_rfl) (fun _ _ _ h => h) (Or.inl ⟨by rfl, ?hy8b8⟩) (by assumption) ?_
        case hy8b8 => (intro w hSw; (try dsimp only at hSw); simp only [List.getElem_toArray, List.getElem_cons_zero, List.getElem_cons_succ]; go_simp; try with_reducible rfl)
        try simp only [Act.put, List.getElem_toArray, List.getElem_cons_zero, List.getElem_cons_succ, List.setIfInBounds_toArray, List.set_cons_zero, List.set_cons_succ]
        refine wpAnyH_take (i := 9) (v := ?v9b9) rfl (by kernel_rfl) (by kernel_rfl) (by kernel_rfl) (fun _ _ _ h => h) (Or.inl ⟨by rfl, ?hy9b9⟩) (by assumption) ?_
        case hy9b9 => (intro w hSw; (try dsimp only at hSw); simp only [List.getElem_toArray, List.getElem_cons_zero, List.getElem_cons_succ]; go_simp; try with_reducible rfl)
        try simp only [Act.put, List.getElem_toArray, List.getElem_cons_zero, List.getElem_cons_succ, List.setIfInBounds_toArray, List.set_cons_zero, List.set_cons_succ]
        refine wpAnyH_take (i := 10) (v := ?v10b10) rfl (by kernel_rfl) (by kernel_rfl) (by kernel_rfl) (fun _ _ _ h => h) (Or.inl ⟨by rfl, ?hy10b10⟩) (by assumption) ?_
        case hy10b10 => (intro w hSw; (try dsimp only at hSw); simp only [List.getElem_toArray, List.getElem_cons_zero, List.getElem_cons_succ]; go_simp; try with_reducible rfl)
        try simp only [Act.put, List.getElem_toArray, List.getElem_cons_zero, List.getElem_cons_succ, List.setIfInBounds_toArray, List.set_cons_zero, List.set_cons_succ]
        refine wpAnyH_ready (rs := [11]) (by kernel_rfl) (by simp) ?_
        refine AllReadyH.cons (i := 11) rfl (fun K hK => ?_) AllReadyH.nil
        rw [if_pos (by rfl)]
        simp only [List.getElem_toArray, List.getElem_cons_zero, List.getElem_cons_succ]
        go_simp
        have BX2 : Hid (Bx (y1.alloc (.cells #[.int .i64 0, .int .i64 0, .int .i64 0, .slice none 0 0] 29)) y1.heap.size 29 [.int .i64 0, .int .i64 0, .int .i64 0, .slice none 0 0]) := by have h := Bx.new y1 29 [.int .i64 0, .int .i64 0, .int .i64 0, .slice none 0 0]; rw [show y1.heap.size = y1.heap.size by simp] at h; exact h
        have zq : wr.heap.size ≤ y1.heap.size := by have h := c.size; rw [show y1.heap.size = y1.heap.size by simp] at h; exact h
        have c : Below wr.heap.size wr (y1.alloc (.cells #[.int .i64 0, .int .i64 0, .int .i64 0, .slice none 0 0] 29)) := c.alloc c.size _
        refine hK.out _ _ (KEEP.out _ c) (fun hHeld => ?_)
        clear hK K
        try simp only [Act.put, List.getElem_toArray, List.getElem_cons_zero, List.getElem_cons_succ, List.setIfInBounds_toArray, List.set_cons_zero, List.set_cons_succ]
        refine wpAnyH_ready (rs := [12]) (by kernel_rfl) (by simp) ?_
        refine AllReadyH.cons (i := 12) rfl (fun K hK => ?_) AllReadyH.nil
        rw [if_pos (by rfl)]
        simp only [List.getElem_toArray, List.getElem_cons_zero, List.getElem_cons_succ]
        refine wp_stBu 29 _ _ rfl (y1.heap.size) 0 (by rfl) 29 _ BX2.out [.int .i64 f, .int .i64 n, .int .i64 o, .slice s.a s.n s.c] (by rfl) (by simp) Try.sizeBu rfl [.int .i64 f, .int .i64 n, .int .i64 o, .slice s.a s.n s.c] rfl ?_
        intro y3 RB3 TB3
        have c : Below wr.heap.size wr y3 := c.trans (TB3.below zq)
        refine hK.out _ _ (KEEP.out _ c) (fun hHeld => ?_)
        clear hK K
        try simp only [Act.put, List.getElem_toArray, List.getElem_cons_zero, List.getElem_cons_succ, List.setIfInBounds_toArray, List.set_cons_zero, List.set_cons_succ]
        refine wpAnyH_take (i := 13) (v := ?v13b11) rfl (by kernel_rfl) (by kernel_rfl) (by kernel_rfl) (fun _ _ _ h => h) (Or.inl ⟨by rfl, ?hy13b11⟩) (by assumption) ?_
        case hy13b11 => (intro w hSw; (try dsimp only at hSw); simp only [List.getElem_toArray, List.getElem_cons_zero, List.getElem_cons_succ]; go_simp; try with_reducible rfl)
        try simp only [Act.put, List.getElem_toArray, List.getElem_cons_zero, List.getElem_cons_succ, List.setIfInBounds_toArray, List.set_cons_zero, List.set_cons_succ]
        refine wpAnyH_done (by kernel_rfl) ?_ _
        have B9 : Hid (Below w.heap.size w y3) := bl_nxt hb.out c
        have G9 : Hid (Bx y3 w.heap.size 40 [.int .i64 rid, .slice (some ⟨b, off, none⟩) ms.length mc]) := HRg.out.later c
        clear c KEEP hHeld RB3 TB3
        generalize hH : hitB rid d bs = H at *
        cases H with
        | false =>
          have HN : Hid (hereB rid ms bs = false) := hereB_no hlt (by rw [← HD.out]; exact hH)
          clear hH
          go_wp2_with fail
          go_ret
          exact ⟨by rw [HN.out]; rfl, B9.out⟩
        | true =>
          have HN : Hid (hereB rid (ms.take (k + 1)) bs = true) := hereB_next hlt hok.out (by rw [← HD.out]; exact hH)
          clear hH
          go_wp2_with fail
          go_roundw
          case rel => exact ⟨k + 1, by omega, by go_num, HN.out, G9.out, B9.out⟩
          case measure => simp [intOf]; omega
      · skip
        rw [if_pos (by rfl)]
        simp only [List.getElem_toArray, List.getElem_cons_zero, List.getElem_cons_succ]
        go_simp
        have BX1 : Hid (Bx (wr.drew.alloc (.cells #[.int .i64 0, .int .i64 0, .int .i64 0, .slice none 0 0] 29)) wr.heap.size 29 [.int .i64 0, .int .i64 0, .int .i64 0, .slice none 0 0]) := by have h := Bx.new wr.drew 29 [.int .i64 0, .int .i64 0, .int .i64 0, .slice none 0 0]; rw [show wr.drew.heap.size = wr.heap.size by simp] at h; exact h
        have zq : wr.heap.size ≤ wr.heap.size := by have h := c.size; rw [show wr.drew.heap.size = wr.heap.size by simp] at h; exact h
        have c : Below wr.heap.size wr (wr.drew.alloc (.cells #[.int .i64 0, .int .i64 0, .int .i64 0, .slice none 0 0] 29)) := c.alloc c.size _
        refine hK.out _ _ (KEEP.out _ c) (fun hHeld => ?_)
        clear hK K
        try simp only [Act.put, List.getElem_toArray, List.getElem_cons_zero, List.getElem_cons_succ, List.setIfInBounds_toArray, List.set_cons_zero, List.set_cons_succ]
        refine wpAnyH_ready (rs := [7]) (by kernel_rfl) (by simp) ?_
        refine AllReadyH.cons (i := 7) rfl (fun K hK => ?_) AllReadyH.nil
        rw [if_pos (by rfl)]
        simp only [List.getElem_toArray, List.getElem_cons_zero, List.getElem_cons_succ]
        go_simp
        refine (lfirst_any rid d (.slice (some ⟨b, off, none⟩) ms.length mc) ao cap bs (wr.drew.alloc (.cells #[.int .i64 0, .int .i64 0, .int .i64 0, .slice none 0 0] 29)) (show Hid (BnsAt (wr.drew.alloc (.cells #[.int .i64 0, .int .i64 0, .int .i64 0, .slice none 0 0] 29)) ao bs) from HX.out.stays c) hl hs rfl).mono ?_
        rintro e y2 ⟨f, n, o, s, rfl, bx⟩
        have BX1 : Hid (Bx y2 wr.heap.size 29 [.int .i64 0, .int .i64 0, .int .i64 0, .slice none 0 0]) := BX1.out.later bx
        have c : Below wr.heap.size wr y2 := bl_nxt c bx
        refine hK.out _ _ (KEEP.out _ c) (fun hHeld => ?_)
        clear hK K
        try simp only [Act.put, List.getElem_toArray, List.getElem_cons_zero, List.getElem_cons_succ, List.setIfInBounds_toArray, List.set_cons_zero, List.set_cons_succ]
        clear bx
        refine wpAnyH_take (i := 8) (v := ?v8b12) rfl (by kernel_rfl) (by kernel_rfl) (by kernel_rfl) (fun _ _ _ h => h) (Or.inl ⟨by rfl, ?hy8b12⟩) (by assumption) ?_
        case hy8b12 => (intro w hSw; (try dsimp only at hSw); simp only [List.getElem_toArray, List.getElem_cons_zero, List.getElem_cons_succ]; go_simp; try with_reducible rfl)
        try simp only [Act.put, List.getElem_toArray, List.getElem_cons_zero, List.getElem_cons_succ, List.setIfInBounds_toArray, List.set_cons_zero, List.set_cons_succ]
        refine wpAnyH_take (i := 9) (v := ?v9b13) rfl (by kernel_rfl) (by kernel_rfl) (by kernel_rfl) (fun _ _ _ h => h) (Or.inl ⟨by rfl, ?hy9b13⟩) (by assumption) ?_
        case hy9b13 => (intro w hSw; (try dsimp only at hSw); simp only [List.getElem_toArray, List.getElem_cons_zero, List.getElem_cons_succ]; go_simp; try with_reducible rfl)
        try simp only [Act.put, List.getElem_toArray, List.getElem_cons_zero, List.getElem_cons_succ, List.setIfInBounds_toArray, List.set_cons_zero, List.set_cons_succ]
        refine wpAnyH_take (i := 10) (v := ?v10b14) rfl (by kernel_rfl) (by kernel_rfl) (by kernel_rfl) (fun _ _ _ h => h) (Or.inl ⟨by rfl, ?hy10b14⟩) (by assumption) ?_
        case hy10b14 => (intro w hSw; (try dsimp only at hSw); simp only [List.getElem_toArray, List.getElem_cons_zero, List.getElem_cons_succ]; go_simp; try with_reducible rfl)
        try simp only [Act.put, List.getElem_toArray, List.getElem_cons_zero, List.getElem_cons_succ, List.setIfInBounds_toArray, List.set_cons_zero, List.set_cons_succ]
        refine wpAnyH_ready (rs := [12]) (by kernel_rfl) (by simp) ?_
        refine AllReadyH.cons (i := 12) rfl (fun K hK => ?_) AllReadyH.nil
        rw [if_pos (by rfl)]
        simp only [List.getElem_toArray, List.getElem_cons_zero, List.getElem_cons_succ]
        refine wp_stBu 29 _ _ rfl (wr.heap.size) 0 (by rfl) 29 _ BX1.out [.int .i64 f, .int .i64 n, .int .i64 o, .slice s.a s.n s.c] (by rfl) (by simp) Try.sizeBu rfl [.int .i64 f, .int .i64 n, .int .i64 o, .slice s.a s.n s.c] rfl ?_
        intro y3 RB3 TB3
        have c : Below wr.heap.size wr y3 := c.trans (TB3.below zq)
        refine hK.out _ _ (KEEP.out _ c) (fun hHeld => ?_)
        clear hK K
        try simp only [Act.put, List.getElem_toArray, List.getElem_cons_zero, List.getElem_cons_succ, List.setIfInBounds_toArray, List.set_cons_zero, List.set_cons_succ]
        refine wpAnyH_take (i := 13) (v := ?v13b15) rfl (by kernel_rfl) (by kernel_rfl) (by kernel_rfl) (fun _ _ _ h => h) (Or.inl ⟨by rfl, ?hy13b15⟩) (by assumption) ?_
        case hy13b15 => (intro w hSw; (try dsimp only at hSw); simp only [List.getElem_toArray, List.getElem_cons_zero, List.getElem_cons_succ]; go_simp; try with_reducible rfl)
        try simp only [Act.put, List.getElem_toArray, List.getElem_cons_zero, List.getElem_cons_succ, List.setIfInBounds_toArray, List.set_cons_zero, List.set_cons_succ]
        refine wpAnyH_done (by kernel_rfl) ?_ _
        have B9 : Hid (Below w.heap.size w y3) := bl_nxt hb.out c
        have G9 : Hid (Bx y3 w.heap.size 40 [.int .i64 rid, .slice (some ⟨b, off, none⟩) ms.length mc]) := HRg.out.later c
        clear c KEEP hHeld RB3 TB3
        generalize hH : hitB rid d bs = H at *
        cases H with
        | false =>
          have HN : Hid (hereB rid ms bs = false) := hereB_no hlt (by rw [← HD.out]; exact hH)
          clear hH
          go_wp2_with fail
          go_ret
          exact ⟨by rw [HN.out]; rfl, B9.out⟩
        | true =>
          have HN : Hid (hereB rid (ms.take (k + 1)) bs = true) := hereB_next hlt hok.out (by rw [← HD.out]; exact hH)
          clear hH
          go_wp2_with fail
          go_roundw
          case rel => exact ⟨k + 1, by omega, by go_num, HN.out, G9.out, B9.out⟩
          case measure => simp [intOf]; omega
    · have HN : Hid (hereB rid ms bs = true) := by
        have := hok.out
        rwa [List.take_of_length_le (by omega)] at this
      go_wp2_with fail
      go_ret
      exact ⟨by rw [HN.out]; rfl, hb.out⟩
theorem OwnBs.rows {w : World} {B : Nat} {v : Value} {bs : List Bu} (h : OwnBs w B v bs) : ∃ ao cap, v = .slice ao bs.length cap ∧ BnsAt w ao bs := SlN.bns h.1 h.2
theorem OwnBs.later {w w' : World} {B : Nat} {v : Value} {bs : List Bu} (h : OwnBs w B v bs) (hb : Below w.heap.size w w') : OwnBs w' B v bs := ⟨h.1.below hb, fun b hb' => (h.2 b hb').stays hb⟩

set_option maxRecDepth 100000 in
set_option maxHeartbeats 4000000 in
theorem kept_any (ao : Option Addr) (cap : Nat) (bs : List Bu) (w : World) (hx : Hid (BnsAt w ao bs)) (hl : bs.length ≤ 1048576) (hs : Hid (∀ b ∈ bs, b.ts.length ≤ 1048576)) :
    Calls Try.prog 35 #[.slice ao bs.length cap, .func (.func 9) #[] #[]] w fun e w' => ∃ v, e = .returned v ∧ OwnBs w' w.heap.size v (bs.filter Bu.ok) ∧ Below w.heap.size w w' := by
  have V0 : Hid (SlN (w.alloc (.cells #[] 29)) 29 4 w.heap.size (.slice (some ⟨w.heap.size, 0, none⟩) 0 0) []) := SlN.made w 29 4 w.heap.size (Nat.le_refl _)
  have B0 : Hid (Below w.heap.size w (w.alloc (.cells #[] 29))) := (Below.refl _ _).alloc (Nat.le_refl _) _
  go_enter Try.func35, Try.ntmps35
  go_wp2_with fail
  generalize w.alloc (.cells #[] 29) = W0 at *
  go_loopw [5, 11] (fun v i wr => ∃ (k : Nat), k ≤ bs.length ∧ i = .int .i64 k ∧ Hid (SlN wr 29 4 w.heap.size v (((bs.take k).filter Bu.ok).map Bu.row)) ∧ Hid (Below w.heap.size w wr)) (fun _ i _ => bs.length - (intOf i).toNat)
  case atStart => exact ⟨0, by omega, rfl, V0.out, B0.out⟩
  case round =>
    clear V0 B0
    obtain ⟨k, hk, rfl, hV, hb⟩ := hrel
    by_cases hlt : k < bs.length
    · obtain ⟨b, off, rfl, hbb, c0, c1, c2, c3, hrit⟩ := hx.out.stays hb.out k hlt
      have hq1 := hs.out _ (List.getElem_mem hlt)
      have HP : Hid (∃ x : Bu, x = bs[k]) := ⟨_, rfl⟩
      obtain ⟨⟨f, n, o, ts, s⟩, hp⟩ := HP.out
      rw [← hp] at c0 c1 c2 c3 hq1 hrit
      have HQ : Hid (Bu.mk f n o ts s = bs[k]) := hp
      clear hp HP
      dsimp only at c0 c1 c2 c3 hq1
      have D1 : Below wr.heap.size wr (wr.alloc (.cells #[.int .i64 f, .int .i64 n, .int .i64 o, .slice s.a s.n s.c] 29)) := (Below.refl _ _).alloc (Nat.le_refl _) _
      have HRI : Hid (RIt (wr.alloc (.cells #[.int .i64 f, .int .i64 n, .int .i64 o, .slice s.a s.n s.c] 29)) s ts) := hrit.stays D1
      have X1 : Hid (Bx (wr.alloc (.cells #[.int .i64 f, .int .i64 n, .int .i64 o, .slice s.a s.n s.c] 29)) wr.heap.size 29 [.int .i64 f, .int .i64 n, .int .i64 o, .slice s.a s.n s.c]) := Bx.new wr 29 _
      have V1 : Hid (SlN (wr.alloc (.cells #[.int .i64 f, .int .i64 n, .int .i64 o, .slice s.a s.n s.c] 29)) 29 4 w.heap.size u5 (((bs.take k).filter Bu.ok).map Bu.row)) := hV.out.below D1
      have B1 : Hid (Below w.heap.size w (wr.alloc (.cells #[.int .i64 f, .int .i64 n, .int .i64 o, .slice s.a s.n s.c] 29))) := bl_nxt hb.out D1
      clear D1 hrit hV hb
      go_wp2_with fail
      generalize wr.alloc (.cells #[.int .i64 f, .int .i64 n, .int .i64 o, .slice s.a s.n s.c] 29) = W1 at *
      generalize wr.heap.size = gb at *
      clear c0 c1 c2 c3
      have hct := bundleOk_r f n o s ts W1 HRI hq1
      cases ho : bunB f n o ts with
      | true =>
        have HF : Hid ((bs.take (k + 1)).filter Bu.ok = (bs.take k).filter Bu.ok ++ [Bu.mk f n o ts s]) := by
          show _ = _
          rw [List.take_succ_eq_append_getElem hlt, List.filter_append, ← HQ.out]
          congr 1
          simp [Bu.ok, ho]
        rw [ho] at hct
        refine hct.mono ?_
        rintro e w2 ⟨rfl, hb2⟩
        have V2 : Hid (SlN w2 29 4 w.heap.size u5 (((bs.take k).filter Bu.ok).map Bu.row)) := V1.out.below hb2
        have X2 : Hid (Bx w2 gb 29 [.int .i64 f, .int .i64 n, .int .i64 o, .slice s.a s.n s.c]) := X1.out.later hb2
        have B2 : Hid (Below w.heap.size w w2) := bl_nxt B1.out hb2
        have hlen : (((bs.take k).filter Bu.ok).map Bu.row).length ≤ 1048576 := by
          rw [List.length_map]
          have h1 := List.length_filter_le Bu.ok (bs.take k)
          rw [List.length_take] at h1
          omega
        have a0 := X2.out.cell 0
        have a1 := X2.out.cell 1
        have a2 := X2.out.cell 2
        have a3 := X2.out.cell 3
        simp only [List.getElem?_cons_succ, List.getElem?_cons_zero] at a0 a1 a2 a3
        have HLEN : Hid ((((bs.take k).filter Bu.ok).map Bu.row).length ≤ 1048576) := hlen
        clear ho hct hb2 V1 X1 B1 HRI hlen
        go_wp2_with (first | (with_reducible refine wpList_haltA _ _ _ rfl ?_))
        refine Stp.go ?_
        refine wpList_pushN rfl _ _ 42 rfl (.agg #[.int .i64 0, .int .i64 0, .int .i64 0, .slice none 0 0]) 48 Try.underlying42 Try.infoBu rfl (by omega) w.heap.size _ _ rfl V2.out [.int .i64 f, .int .i64 n, .int .i64 o, .slice s.a s.n s.c] rfl rfl rfl HLEN.out B2.out.size ?_
        intro v3 w3 O3 _ b3 _
        have O3 : Hid (SlN w3 29 4 w.heap.size v3 (((bs.take (k + 1)).filter Bu.ok).map Bu.row)) := by
          rw [HF.out, List.map_append]
          exact O3
        have B3 : Hid (Below w.heap.size w w3) := B2.out.trans b3
        clear b3 a0 a1 a2 a3 V2 X2 B2
        go_wp2_with fail
        go_roundw
        case rel => exact ⟨k + 1, by omega, by go_num, O3.out, B3.out⟩
        case measure => simp [intOf]; omega
      | false =>
        have HF : Hid ((bs.take (k + 1)).filter Bu.ok = (bs.take k).filter Bu.ok) := by
          show _ = _
          rw [List.take_succ_eq_append_getElem hlt, List.filter_append, ← HQ.out]
          simp [Bu.ok, ho]
        rw [ho] at hct
        refine hct.mono ?_
        rintro e w2 ⟨rfl, hb2⟩
        have V2 : Hid (SlN w2 29 4 w.heap.size u5 (((bs.take (k + 1)).filter Bu.ok).map Bu.row)) := by
          show SlN _ _ _ _ _ _
          rw [HF.out]; exact V1.out.below hb2
        have B2 : Hid (Below w.heap.size w w2) := bl_nxt B1.out hb2
        clear ho hct hb2 V1 X1 B1 HRI
        go_wp2_with fail
        go_roundw
        case rel => exact ⟨k + 1, by omega, by go_num, V2.out, B2.out⟩
        case measure => simp [intOf]; omega
    · have V2 : Hid (SlN wr 29 4 w.heap.size u5 ((bs.filter Bu.ok).map Bu.row)) := by
        have := hV.out
        rwa [List.take_of_length_le (by omega)] at this
      have hri : ∀ b ∈ bs.filter Bu.ok, RIt wr b.s b.ts := by
        intro b hbm
        have hbm' := (List.mem_filter.1 hbm).1
        obtain ⟨i, hi, rfl⟩ := List.getElem_of_mem hbm'
        obtain ⟨_, _, _, _, _, _, _, _, hr⟩ := hx.out.stays hb.out i hi
        exact hr
      have HRI : Hid (∀ b ∈ bs.filter Bu.ok, RIt wr b.s b.ts) := hri
      obtain ⟨fs, hfs, _⟩ := V2.out.form
      subst hfs
      clear hri
      go_wp2_with fail
      go_ret
      exact ⟨_, rfl, ⟨V2.out, HRI.out⟩, hb.out⟩

/-- whether a bundle of this member for this ring is among them. -/
def firB (rid d : Int) (bs : List Bu) : Bool := bs.any fun b => decide (b.n = rid) && decide (b.f = d)
theorem firB_kept (rid d : Int) (bs : List Bu) : firB rid d (bs.filter Bu.ok) = hitB rid d bs := by
  unfold firB hitB
  rw [List.any_filter]
  congr 1
  funext b
  cases Bu.ok b <;> cases decide (b.n = rid) <;> cases decide (b.f = d) <;> rfl
theorem firB_next {rid d : Int} {bs : List Bu} {k : Nat} (hk : k < bs.length) (h : firB rid d (bs.take k) = false) (hx : (decide (bs[k].n = rid) && decide (bs[k].f = d)) = false) : firB rid d (bs.take (k + 1)) = false := by
  unfold firB at h ⊢
  rw [List.take_succ_eq_append_getElem hk, List.any_append, h, List.any_cons, hx]
  rfl
theorem firB_yes {rid d : Int} {bs : List Bu} {k : Nat} (hk : k < bs.length) (hx : (decide (bs[k].n = rid) && decide (bs[k].f = d)) = true) : firB rid d bs = true := by
  unfold firB
  rw [List.any_eq_true]
  exact ⟨bs[k], List.getElem_mem hk, hx⟩

set_option maxRecDepth 100000 in
set_option maxHeartbeats 8000000 in
theorem firstBundle_any (rid d : Int) (ao : Option Addr) (cap : Nat) (bs : List Bu) (w : World) (hx : Hid (BnsAt w ao bs)) (hl : bs.length ≤ 1048576) :
    Calls Try.prog 36 #[.int .i64 rid, .int .i64 d, .slice ao bs.length cap] w fun e w' => ∃ (f n o : Int) (s : Sv), e = .returned (.tuple #[.agg #[.int .i64 f, .int .i64 n, .int .i64 o, .slice s.a s.n s.c], .bool (firB rid d bs)]) ∧ Below w.heap.size w w' := by
  have B0 : Hid (Below w.heap.size w (w.alloc (.cells #[.int .i64 0, .int .i64 0, .int .i64 0, .slice none 0 0] 29))) := (Below.refl _ _).alloc (Nat.le_refl _) _
  have U0 : Hid (Bx (w.alloc (.cells #[.int .i64 0, .int .i64 0, .int .i64 0, .slice none 0 0] 29)) w.heap.size 29 [.int .i64 0, .int .i64 0, .int .i64 0, .slice none 0 0]) := Bx.new w 29 _
  go_enter Try.func36, Try.ntmps36
  go_wp2_with fail
  generalize w.alloc (.cells #[.int .i64 0, .int .i64 0, .int .i64 0, .slice none 0 0] 29) = W0 at *
  go_loopw [12] (fun i wr => ∃ (k : Nat), k ≤ bs.length ∧ i = .int .i64 k ∧ Hid (firB rid d (bs.take k) = false) ∧ Hid (Bx wr w.heap.size 29 [.int .i64 0, .int .i64 0, .int .i64 0, .slice none 0 0]) ∧ Hid (Below w.heap.size w wr)) (fun i _ => bs.length - (intOf i).toNat)
  case atStart => exact ⟨0, by omega, rfl, rfl, U0.out, B0.out⟩
  case round =>
    clear U0 B0
    obtain ⟨k, hk, rfl, hno, HU, hb⟩ := hrel
    by_cases hlt : k < bs.length
    · obtain ⟨b, off, rfl, hbb, c0, c1, c2, c3, hrit⟩ := hx.out.stays hb.out k hlt
      have HP : Hid (∃ x : Bu, x = bs[k]) := ⟨_, rfl⟩
      obtain ⟨⟨f, n, o, ts, s⟩, hp⟩ := HP.out
      rw [← hp] at c0 c1 c2 c3
      have HQ : Hid (Bu.mk f n o ts s = bs[k]) := hp
      clear hp HP hrit
      dsimp only at c0 c1 c2 c3
      have D1 : Below wr.heap.size wr (wr.alloc (.cells #[.int .i64 f, .int .i64 n, .int .i64 o, .slice s.a s.n s.c] 29)) := (Below.refl _ _).alloc (Nat.le_refl _) _
      have X1 : Hid (Bx (wr.alloc (.cells #[.int .i64 f, .int .i64 n, .int .i64 o, .slice s.a s.n s.c] 29)) wr.heap.size 29 [.int .i64 f, .int .i64 n, .int .i64 o, .slice s.a s.n s.c]) := Bx.new wr 29 _
      have U1 : Hid (Bx (wr.alloc (.cells #[.int .i64 f, .int .i64 n, .int .i64 o, .slice s.a s.n s.c] 29)) w.heap.size 29 [.int .i64 0, .int .i64 0, .int .i64 0, .slice none 0 0]) := HU.out.later D1
      have B1 : Hid (Below w.heap.size w (wr.alloc (.cells #[.int .i64 f, .int .i64 n, .int .i64 o, .slice s.a s.n s.c] 29))) := bl_nxt hb.out D1
      have a0 := X1.out.cell 0
      have a1 := X1.out.cell 1
      have a2 := X1.out.cell 2
      have a3 := X1.out.cell 3
      simp only [List.getElem?_cons_succ, List.getElem?_cons_zero] at a0 a1 a2 a3
      clear D1 HU hb
      by_cases hn : n = rid
      · by_cases hf : f = d
        · have HY : Hid (firB rid d bs = true) := firB_yes hlt (by rw [← HQ.out]; simp [hn, hf])
          have en : (n == rid) = true := by simp [hn]
          have ef : (f == d) = true := by simp [hf]
          clear hn hf
          have R2 : Hid (Bx (((((wr.alloc (.cells #[.int .i64 f, .int .i64 n, .int .i64 o, .slice s.a s.n s.c] 29)).setCell ⟨w.heap.size, 0, none⟩ (.int .i64 f)).setCell ⟨w.heap.size, 1, none⟩ (.int .i64 n)).setCell ⟨w.heap.size, 2, none⟩ (.int .i64 o)).setCell ⟨w.heap.size, 3, none⟩ (.slice s.a s.n s.c)) w.heap.size 29 [.int .i64 f, .int .i64 n, .int .i64 o, .slice s.a s.n s.c]) := (((U1.out.set 0 (.int .i64 f)).set 1 (.int .i64 n)).set 2 (.int .i64 o)).set 3 (.slice s.a s.n s.c)
          have B2 : Hid (Below w.heap.size w (((((wr.alloc (.cells #[.int .i64 f, .int .i64 n, .int .i64 o, .slice s.a s.n s.c] 29)).setCell ⟨w.heap.size, 0, none⟩ (.int .i64 f)).setCell ⟨w.heap.size, 1, none⟩ (.int .i64 n)).setCell ⟨w.heap.size, 2, none⟩ (.int .i64 o)).setCell ⟨w.heap.size, 3, none⟩ (.slice s.a s.n s.c))) := B1.out.trans ((((((TurnAt.refl w.heap.size (wr.alloc (.cells #[.int .i64 f, .int .i64 n, .int .i64 o, .slice s.a s.n s.c] 29))).setCell 0 (.int .i64 f)).setCell 1 (.int .i64 n)).setCell 2 (.int .i64 o)).setCell 3 (.slice s.a s.n s.c)).below (Nat.le_refl _))
          have v0 := U1.out.cell 0
          have v1 := U1.out.cell 1
          have v2 := U1.out.cell 2
          have v3 := U1.out.cell 3
          simp only [List.getElem?_cons_succ, List.getElem?_cons_zero] at v0 v1 v2 v3
          have f0 := U1.out.frozen 0
          have f1 := U1.out.frozen 1
          have f2 := U1.out.frozen 2
          have f3 := U1.out.frozen 3
          go_wp2_with fail
          generalize (((((wr.alloc (.cells #[.int .i64 f, .int .i64 n, .int .i64 o, .slice s.a s.n s.c] 29)).setCell ⟨w.heap.size, 0, none⟩ (.int .i64 f)).setCell ⟨w.heap.size, 1, none⟩ (.int .i64 n)).setCell ⟨w.heap.size, 2, none⟩ (.int .i64 o)).setCell ⟨w.heap.size, 3, none⟩ (.slice s.a s.n s.c)) = W2 at *
          refine bodyPost_ret (results_bt Try.results36 w.heap.size 29 [.int .i64 f, .int .i64 n, .int .i64 o, .slice s.a s.n s.c] _ rfl R2.out Try.underlying29 rfl Try.sizeBu) rfl ?_
          exact ⟨f, n, o, s, by rw [HY.out]; rfl, B2.out⟩
        · have HY : Hid (firB rid d (bs.take (k + 1)) = false) := firB_next hlt hno.out (by rw [← HQ.out]; simp [hf])
          have en : (n == rid) = true := by simp [hn]
          have ef : (f == d) = false := by simp [hf]
          clear hn hf
          go_wp2_with fail
          generalize (wr.alloc (.cells #[.int .i64 f, .int .i64 n, .int .i64 o, .slice s.a s.n s.c] 29)) = W1 at *
          go_roundw
          case rel => exact ⟨k + 1, by omega, by go_num, HY.out, U1.out, B1.out⟩
          case measure => simp [intOf]; omega
      · have HY : Hid (firB rid d (bs.take (k + 1)) = false) := firB_next hlt hno.out (by rw [← HQ.out]; simp [hn])
        have en : (n == rid) = false := by simp [hn]
        clear hn
        go_wp2_with fail
        generalize (wr.alloc (.cells #[.int .i64 f, .int .i64 n, .int .i64 o, .slice s.a s.n s.c] 29)) = W1 at *
        go_roundw
        case rel => exact ⟨k + 1, by omega, by go_num, HY.out, U1.out, B1.out⟩
        case measure => simp [intOf]; omega
    · have HN : Hid (firB rid d bs = false) := by
        have := hno.out
        rwa [List.take_of_length_le (by omega)] at this
      go_wp2_with (first | (with_reducible refine wpList_haltS 29 _ _ rfl ?_))
      refine Stp.go ?_
      refine wpList_stB rfl 29 _ _ rfl w.heap.size 0 rfl 29 _ HU.out [.int .i64 0, .int .i64 0, .int .i64 0, .slice none 0 0] rfl (by simp) Try.sizeBu rfl [.int .i64 0, .int .i64 0, .int .i64 0, .slice none 0 0] rfl ?_
      intro w2 U2 T2
      have B2 : Hid (Below w.heap.size w w2) := hb.out.trans (T2.below (Nat.le_refl _))
      clear T2
      go_wp2_with fail
      refine bodyPost_ret (results_bt Try.results36 w.heap.size 29 [.int .i64 0, .int .i64 0, .int .i64 0, .slice none 0 0] _ rfl U2 Try.underlying29 rfl Try.sizeBu) rfl ?_
      exact ⟨0, 0, 0, ⟨none, 0, 0⟩, by rw [HN.out]; rfl, B2.out⟩

set_option maxRecDepth 100000 in
set_option maxHeartbeats 8000000 in
theorem allHere_any (rid : Int) (ma : Option Addr) (mc : Nat) (ms : List Int) (ao : Option Addr) (cap : Nat) (bs : List Bu) (w : World) (hm : Hid (IntsAt w ma ms)) (hml : ms.length ≤ 1048576) (hx : Hid (BnsAt w ao bs)) (hl : bs.length ≤ 1048576) (hs : Hid (∀ b ∈ bs, b.ts.length ≤ 1048576)) :
    Calls Try.prog 16 #[.agg #[.int .i64 rid, .slice ma ms.length mc], .slice ao bs.length cap] w fun e w' => e = .returned (.bool (hereB rid ms bs)) ∧ Below w.heap.size w w' := by
  have B0 : Hid (Below w.heap.size w (w.alloc (.cells #[.int .i64 rid, .slice ma ms.length mc] 40))) := (Below.refl _ _).alloc (Nat.le_refl _) _
  have R0 : Hid (Bx (w.alloc (.cells #[.int .i64 rid, .slice ma ms.length mc] 40)) w.heap.size 40 [.int .i64 rid, .slice ma ms.length mc]) := Bx.new w 40 _
  have X0 : Hid (BnsAt (w.alloc (.cells #[.int .i64 rid, .slice ma ms.length mc] 40)) ao bs) := hx.out.stays B0.out
  go_enter Try.func16, Try.ntmps16
  go_wp2_with fail
  generalize (w.alloc (.cells #[.int .i64 rid, .slice ma ms.length mc] 40)) = W0 at *
  refine (kept_any ao cap bs W0 X0 hl hs).mono ?_
  rintro e w1 ⟨v1, rfl, ho1, hb1⟩
  have R1 : Hid (Bx w1 w.heap.size 40 [.int .i64 rid, .slice ma ms.length mc]) := R0.out.later hb1
  have B1 : Hid (Below w.heap.size w w1) := bl_nxt B0.out hb1
  obtain ⟨ka, kc, rfl, hkx⟩ := ho1.rows
  have hkl : (bs.filter Bu.ok).length ≤ 1048576 := by have := List.length_filter_le Bu.ok bs; omega
  have HFK : Hid (∀ d, firB rid d (bs.filter Bu.ok) = hitB rid d bs) := fun d => firB_kept rid d bs
  generalize bs.filter Bu.ok = cs at *
  have K1 : Hid (BnsAt w1 ka cs) := hkx
  have e1 := R1.out.cell 1
  simp only [List.getElem?_cons_succ, List.getElem?_cons_zero] at e1
  clear ho1 hb1 hkx R0 B0 X0
  go_wp2_with fail
  go_loopw [15] (fun i wr => ∃ (k : Nat), k ≤ ms.length ∧ i = .int .i64 k ∧ Hid (hereB rid (ms.take k) bs = true) ∧ Hid (Bx wr w.heap.size 40 [.int .i64 rid, .slice ma ms.length mc]) ∧ Hid (BnsAt wr ka cs) ∧ Hid (Below w.heap.size w wr)) (fun i _ => ms.length - (intOf i).toNat)
  case atStart => exact ⟨0, by omega, rfl, rfl, R1.out, K1.out, B1.out⟩
  case round =>
    clear R1 B1 K1 e1
    obtain ⟨k, hk, rfl, hok, HRg, HK, hb⟩ := hrel
    by_cases hlt : k < ms.length
    · obtain ⟨b, off, rfl, hbb, hc⟩ := hm.out k hlt
      have HD : Hid (∃ d, d = ms[k]) := ⟨_, rfl⟩
      obtain ⟨d, hd⟩ := HD.out
      rw [← hd] at hc
      have HD : Hid (d = ms[k]) := hd
      clear hd
      have hc' : wr.cell? ⟨b, off + k, none⟩ = some (.int .i64 d) := cell_lt hb.out hc hbb
      have e0 := HRg.out.cell 0
      simp only [List.getElem?_cons_zero] at e0
      clear hc
      go_wp2_with fail
      refine (firstBundle_any rid d ka kc cs _ HK hkl).mono ?_
      rintro e w2 ⟨f, n, o, s, rfl, hb2⟩
      rw [HFK.out d]
      have D2 : Below w2.heap.size w2 (w2.alloc (.cells #[.int .i64 f, .int .i64 n, .int .i64 o, .slice s.a s.n s.c] 29)) := (Below.refl _ _).alloc (Nat.le_refl _) _
      have E2 := bl_nxt hb2 D2
      have G9 : Hid (Bx (w2.alloc (.cells #[.int .i64 f, .int .i64 n, .int .i64 o, .slice s.a s.n s.c] 29)) w.heap.size 40 [.int .i64 rid, .slice (some ⟨b, off, none⟩) ms.length mc]) := HRg.out.later E2
      have K9 : Hid (BnsAt (w2.alloc (.cells #[.int .i64 f, .int .i64 n, .int .i64 o, .slice s.a s.n s.c] 29)) ka cs) := HK.out.stays E2
      have B9 : Hid (Below w.heap.size w (w2.alloc (.cells #[.int .i64 f, .int .i64 n, .int .i64 o, .slice s.a s.n s.c] 29))) := bl_nxt hb.out E2
      clear D2 E2 hb2 hc' e0
      generalize hH : hitB rid d bs = H at *
      cases H with
      | false =>
        have HN : Hid (hereB rid ms bs = false) := hereB_no hlt (by rw [← HD.out]; exact hH)
        clear hH
        go_wp2_with fail
        go_ret
        exact ⟨by rw [HN.out]; rfl, B9.out⟩
      | true =>
        have HN : Hid (hereB rid (ms.take (k + 1)) bs = true) := hereB_next hlt hok.out (by rw [← HD.out]; exact hH)
        clear hH
        go_wp2_with fail
        generalize w2.alloc (.cells #[.int .i64 f, .int .i64 n, .int .i64 o, .slice s.a s.n s.c] 29) = W9 at *
        go_roundw
        case rel => exact ⟨k + 1, by omega, by go_num, HN.out, G9.out, K9.out, B9.out⟩
        case measure => simp [intOf]; omega
    · have HN : Hid (hereB rid ms bs = true) := by
        have := hok.out
        rwa [List.take_of_length_le (by omega)] at this
      go_wp2_with fail
      go_ret
      exact ⟨by rw [HN.out]; rfl, hb.out⟩
end Go.Proofs.Ytlflcjdpdbdbkaa

