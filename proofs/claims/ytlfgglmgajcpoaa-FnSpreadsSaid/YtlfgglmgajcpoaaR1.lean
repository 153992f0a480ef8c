/- The walk over the program's RoadsOk. -/
import Derived.Test.YtlfgglmgajcpoaaRd
import Derived.Deep.RegionWith
import Derived.BigQuiet
namespace Go.Proofs.Ytlfgglmgajcpoaa
open Go.RowKit Pl
set_option linter.unusedVariables false

theorem quietC {P : Program} {C : World → Prop} {id : Nat} {Q : Exit → Act → World → Prop} {a : Act} {w : World} {l : List Oper} (hm : P.follows .mixedOrders = true) (hB : Region.lexB .any l.toArray = true) (hC : C { w with drawn := w.drawn + 1 })
    (h : wpQuiet P l.toArray C (fun a' => ∀ w', C w' → Q .normal a' w') l a) : (Code.region id l.toArray true).wp P Q a w :=
  wp_region_quiet (C := C) hm hB hC (by simpa using h)
theorem q_val {P : Program} {C : World → Prop} {o : Oper} {a : Act} {K : Act → Prop} (v : Value) (h : ∀ w, C w → (execOp a.eval o).run P w = .ok (.value v) w) (hk : K (a.put o.dst v)) : o.quiet P a C K :=
  ⟨v, fun w hw => by unfold Oper.quietAt; rw [h w hw]; exact ⟨rfl, rfl⟩, hk⟩
theorem q_call {P : Program} {C : World → Prop} {o : Oper} {a : Act} {K : Act → Prop} (v : Value) (f : FuncId) (args : Array Value) (h : ∀ w, C w → (execOp a.eval o).run P w = .ok (.enter f args) w) (hc : ∀ w, C w → Calls P f args w fun e w' => e = .returned v ∧ C w') (hk : K (a.put o.dst v)) : o.quiet P a C K :=
  ⟨v, fun w hw => by unfold Oper.quietAt; rw [h w hw]; exact ⟨rfl, hc w hw⟩, hk⟩

/-- the first k roads are right. -/
def RSt (n : Int) (ts : List Rd) (k : Nat) : Prop := ∀ i, i < k → oneP n ts i

theorem RSt.next {n : Int} {ts : List Rd} {k : Nat} (h : RSt n ts k) (h1 : oneP n ts k) : RSt n ts (k + 1) := by
  intro i hi
  by_cases he : i = k
  · subst he; exact h1
  · exact h i (by omega)
theorem rd_bad {n : Int} {ts : List Rd} {k : Nat} (hk : k < ts.length) (h : ¬ oneP n ts k) : roadsB n ts = false := roadsB_false (fun hp => h (hp.2.2.2 k hk))
theorem rd_end {n : Int} {ts : List Rd} {k : Nat} (h : RSt n ts k) (hk : ts.length ≤ k) (hn : 1 ≤ n ∧ n ≤ 6) (hl : ts.length ≤ 12) : roadsB n ts = true := roadsB_true ⟨hn.1, hn.2, hl, fun i hi => h i (by omega)⟩

set_option maxRecDepth 100000 in
set_option maxHeartbeats 1000000 in
theorem roadsOk_any (n : Int) (ao : Option Addr) (cap : Nat) (ts : List Rd) (w : World) (hx : Hid (RoadsAt w ao ts)) (hl : ts.length ≤ 1048576) :
    Calls Try.prog 15 #[.int .i64 n, .slice ao ts.length cap] w fun e w' => e = .returned (.bool (roadsB n ts)) ∧ Below w.heap.size w w' := by
  by_cases hn : 1 ≤ n ∧ n ≤ 6
  case neg =>
    have HB : Hid (roadsB n ts = false) := roadsB_false (fun hp => hn ⟨hp.1, hp.2.1⟩)
    have hd : decide (1 ≤ n ∧ n ≤ 6) = false := decide_eq_false hn
    go_enter Try.func15, Try.ntmps15
    go_wp2_with (go_at_call 37; refine (within_any _ _ _ _).mono ?_; rw [hd]; rintro e w' ⟨rfl, hw⟩; obtain rfl := hw.symm)
    go_ret
    exact ⟨by rw [HB.out]; rfl, Below.refl _ _⟩
  have hd : decide (1 ≤ n ∧ n ≤ 6) = true := decide_eq_true hn
  by_cases hm : ts.length ≤ 12
  case neg =>
    have HB : Hid (roadsB n ts = false) := roadsB_false (fun hp => hm hp.2.2.1)
    have hd2 : decide ((12 : Int) < (ts.length : Int)) = true := decide_eq_true (by omega)
    go_enter Try.func15, Try.ntmps15
    go_wp2_with (go_at_call 37; refine (within_any _ _ _ _).mono ?_; rw [hd]; rintro e w' ⟨rfl, hw⟩; obtain rfl := hw.symm)
    go_ret
    exact ⟨by rw [HB.out]; rfl, Below.refl _ _⟩
  have hd2 : decide ((12 : Int) < (ts.length : Int)) = false := decide_eq_false (by omega)
  go_enter Try.func15, Try.ntmps15
  go_wp2_with (go_at_call 37; refine (within_any _ _ _ _).mono ?_; rw [hd]; rintro e w' ⟨rfl, hw⟩; obtain rfl := hw.symm)
  clear hd hd2
  go_loopw [17] (fun i wr => ∃ (k : Nat), k ≤ ts.length ∧ i = .int .i64 k ∧ Hid (RSt n ts k) ∧ Hid (Below w.heap.size w wr)) (fun i _ => ts.length - (intOf i).toNat)
  case atStart => exact ⟨0, Nat.zero_le _, rfl, fun i hi => absurd hi (by omega), Below.refl _ _⟩
  case round =>
    obtain ⟨k, hk, rfl, hst, hb⟩ := hrel
    by_cases hlt : k < ts.length
    · have XR := hx.out.stays hb.out
      obtain ⟨b, off, hao, hbb, h0, h1, h2⟩ := XR k hlt
      have HP : Hid (∃ x : Rd, x = ts[k]) := ⟨_, rfl⟩
      obtain ⟨⟨q, f, t⟩, hp⟩ := HP.out
      rw [← hp] at h0 h1 h2
      have HQ : Hid ((⟨q, f, t⟩ : Rd) = ts[k]) := hp
      clear hp HP
      dsimp only at h0 h1 h2
      have I0 : Hid (BoxRd (wr.alloc (.cells #[.int .i64 q, .int .i64 f, .int .i64 t] 31)) wr.heap.size ⟨q, f, t⟩) := heap_alloc_new wr _
      have B0 : Hid (Below w.heap.size w (wr.alloc (.cells #[.int .i64 q, .int .i64 f, .int .i64 t] 31))) := hb.out.alloc hb.out.size _
      have X0 : Hid (RoadsAt (wr.alloc (.cells #[.int .i64 q, .int .i64 f, .int .i64 t] 31)) ao ts) := XR.stays ((Below.refl _ _).alloc (Nat.le_refl _) _)
      have hsz : wr.heap.size < (wr.alloc (.cells #[.int .i64 q, .int .i64 f, .int .i64 t] 31)).heap.size := by simp
      have i0 : (0 : Int) ≤ (k : Int) := by omega
      have i1 : (k : Int) < (ts.length : Int) := by omega
      subst hao
      go_wp2_with fail
      generalize wr.alloc (.cells #[.int .i64 q, .int .i64 f, .int .i64 t] 31) = W0 at *
      clear h0 h1 h2 XR
      have hbb : b < W0.heap.size := by omega
      cases hit : decide (fitP n ⟨q, f, t⟩) with
      | false =>
        have HBAD : Hid (roadsB n ts = false) := rd_bad hlt (fun ⟨_, h, _⟩ => by rw [← HQ.out] at h; exact absurd h (of_decide_eq_false hit))
        refine quietC (C := fun w' => Hid (Below W0.heap.size W0 w')) (by kernel_rfl) (by kernel_rfl) (Below.refl _ _).drew ?_
        go_big_quiet_want
        refine q_val (.agg #[.int .i64 q, .int .i64 f, .int .i64 t]) (fun w' hw' => by obtain ⟨g0, g1, g2⟩ := (I0.out.stays hw'.out I0.out.lt).cells; go_simp) ?_
        go_big_quiet_on
        simp only [Act.put, List.setIfInBounds_toArray, List.set_cons_zero, List.set_cons_succ]
        go_big_quiet_want
        go_big_quiet_op
        go_big_quiet_on
        go_big_quiet_want
        refine q_call (.bool false) 43 #[.agg #[.int .i64 q, .int .i64 f, .int .i64 t], .int .i64 n] (fun w' hw' => by go_simp) (fun w' hw' => (fits_is _ hn hit).mono fun e w'' ⟨he, hb1⟩ => ⟨he, hw'.out.trans (hb1.mono hw'.out.size)⟩) ?_
        go_big_quiet_on
        simp only [Act.put, List.setIfInBounds_toArray, List.set_cons_zero, List.set_cons_succ]
        go_big_quiet_want
        refine q_val (.bool true) (fun w' hw' => by go_simp) ?_
        go_big_quiet_on
        simp only [Act.put, List.setIfInBounds_toArray, List.set_cons_zero, List.set_cons_succ]
        go_big_quiet_want
        go_big_quiet_op
        go_big_quiet_on
        go_big_quiet_skip
        go_big_quiet_skip
        go_big_quiet_skip
        go_big_quiet_skip
        go_big_quiet_skip
        go_big_quiet_skip
        go_big_quiet_skip
        go_big_quiet_skip
        go_big_quiet_skip
        go_big_quiet_skip
        go_big_quiet_skip
        go_big_quiet_skip
        go_big_quiet_want
        refine q_val (.bool true) (fun w' hw' => by go_simp) ?_
        go_big_quiet_on
        simp only [Act.put, List.setIfInBounds_toArray, List.set_cons_zero, List.set_cons_succ]
        refine wpQuiet_nil ?_
        intro w1 hcw
        have B1 : Hid (Below w.heap.size w w1) := B0.out.trans (hcw.out.mono B0.out.size)
        clear hcw
        clear hit
        go_wp2_with fail
        go_ret
        exact ⟨by rw [HBAD.out]; rfl, B1.out⟩
      | true =>
        by_cases k0 : k = 0
        · have HN : Hid (RSt n ts (k + 1)) := hst.out.next ⟨hlt, by rw [← HQ.out]; exact of_decide_eq_true hit, fun j _ h => by omega⟩
          have hk0 : ¬ 0 < k := by omega
          clear k0
          refine quietC (C := fun w' => Hid (Below W0.heap.size W0 w')) (by kernel_rfl) (by kernel_rfl) (Below.refl _ _).drew ?_
          go_big_quiet_want
          refine q_val (.agg #[.int .i64 q, .int .i64 f, .int .i64 t]) (fun w' hw' => by obtain ⟨g0, g1, g2⟩ := (I0.out.stays hw'.out I0.out.lt).cells; go_simp) ?_
          go_big_quiet_on
          simp only [Act.put, List.setIfInBounds_toArray, List.set_cons_zero, List.set_cons_succ]
          go_big_quiet_want
          go_big_quiet_op
          go_big_quiet_on
          go_big_quiet_want
          refine q_call (.bool true) 43 #[.agg #[.int .i64 q, .int .i64 f, .int .i64 t], .int .i64 n] (fun w' hw' => by go_simp) (fun w' hw' => (fits_is _ hn hit).mono fun e w'' ⟨he, hb1⟩ => ⟨he, hw'.out.trans (hb1.mono hw'.out.size)⟩) ?_
          go_big_quiet_on
          simp only [Act.put, List.setIfInBounds_toArray, List.set_cons_zero, List.set_cons_succ]
          go_big_quiet_want
          refine q_val (.bool false) (fun w' hw' => by go_simp) ?_
          go_big_quiet_on
          simp only [Act.put, List.setIfInBounds_toArray, List.set_cons_zero, List.set_cons_succ]
          go_big_quiet_want
          go_big_quiet_op
          go_big_quiet_on
          go_big_quiet_want
          go_big_quiet_op
          go_big_quiet_on
          go_big_quiet_want
          refine q_val (.bool false) (fun w' hw' => by go_simp) ?_
          go_big_quiet_on
          simp only [Act.put, List.setIfInBounds_toArray, List.set_cons_zero, List.set_cons_succ]
          go_big_quiet_want
          go_big_quiet_op
          go_big_quiet_on
          go_big_quiet_skip
          go_big_quiet_skip
          go_big_quiet_skip
          go_big_quiet_skip
          go_big_quiet_skip
          go_big_quiet_skip
          go_big_quiet_skip
          go_big_quiet_skip
          go_big_quiet_want
          refine q_val (.bool false) (fun w' hw' => by go_simp) ?_
          go_big_quiet_on
          simp only [Act.put, List.setIfInBounds_toArray, List.set_cons_zero, List.set_cons_succ]
          go_big_quiet_want
          refine q_val (.bool false) (fun w' hw' => by go_simp) ?_
          go_big_quiet_on
          simp only [Act.put, List.setIfInBounds_toArray, List.set_cons_zero, List.set_cons_succ]
          refine wpQuiet_nil ?_
          intro w1 hcw
          have B1 : Hid (Below w.heap.size w w1) := B0.out.trans (hcw.out.mono B0.out.size)
          clear hcw
          clear hit
          go_wp2_with fail
          go_roundw
          case rel => exact ⟨k + 1, by omega, by go_num, HN.out, B1.out⟩
          case measure => simp [intOf]; omega
        · obtain ⟨j, hj⟩ : ∃ j, k = j + 1 := ⟨k - 1, by omega⟩
          have hlj : j < ts.length := by omega
          obtain ⟨b2, off2, hao2, _, hp0, hp1, hp2⟩ := X0.out j hlj
          obtain ⟨rfl, rfl⟩ : b = b2 ∧ off = off2 := by simp at hao2; exact hao2
          have HP : Hid (∃ x : Rd, x = ts[j]) := ⟨_, rfl⟩
          obtain ⟨⟨q0, f0, t0⟩, hp⟩ := HP.out
          rw [← hp] at hp0 hp1 hp2
          have HR : Hid ((⟨q0, f0, t0⟩ : Rd) = ts[j]) := hp
          clear hp HP
          dsimp only at hp0 hp1 hp2
          have hk0 : 0 < k := by omega
          have hw1 : IntKind.i64.wrap ((k : Int) - 1) = (j : Int) := by rw [IntKind.wrap_i64]; omega
          have i2 : (0 : Int) ≤ (j : Int) := by omega
          have i3 : (j : Int) < (ts.length : Int) := by omega
          cases hah : decide (ahP ⟨q0, f0, t0⟩ ⟨q, f, t⟩) with
          | false =>
            have HBAD : Hid (roadsB n ts = false) := rd_bad hlt (fun ⟨_, _, h⟩ => by have h := h j hlj hj; rw [← HQ.out, ← HR.out] at h; exact absurd h (of_decide_eq_false hah))
            clear hao2 hj
            refine quietC (C := fun w' => Hid (Below W0.heap.size W0 w')) (by kernel_rfl) (by kernel_rfl) (Below.refl _ _).drew ?_
            go_big_quiet_want
            refine q_val (.agg #[.int .i64 q, .int .i64 f, .int .i64 t]) (fun w' hw' => by obtain ⟨g0, g1, g2⟩ := (I0.out.stays hw'.out I0.out.lt).cells; go_simp) ?_
            go_big_quiet_on
            simp only [Act.put, List.setIfInBounds_toArray, List.set_cons_zero, List.set_cons_succ]
            go_big_quiet_want
            go_big_quiet_op
            go_big_quiet_on
            go_big_quiet_want
            refine q_call (.bool true) 43 #[.agg #[.int .i64 q, .int .i64 f, .int .i64 t], .int .i64 n] (fun w' hw' => by go_simp) (fun w' hw' => (fits_is _ hn hit).mono fun e w'' ⟨he, hb1⟩ => ⟨he, hw'.out.trans (hb1.mono hw'.out.size)⟩) ?_
            go_big_quiet_on
            simp only [Act.put, List.setIfInBounds_toArray, List.set_cons_zero, List.set_cons_succ]
            go_big_quiet_want
            refine q_val (.bool false) (fun w' hw' => by go_simp) ?_
            go_big_quiet_on
            simp only [Act.put, List.setIfInBounds_toArray, List.set_cons_zero, List.set_cons_succ]
            go_big_quiet_want
            go_big_quiet_op
            go_big_quiet_on
            go_big_quiet_want
            go_big_quiet_op
            go_big_quiet_on
            go_big_quiet_want
            refine q_val (.bool true) (fun w' hw' => by go_simp) ?_
            go_big_quiet_on
            simp only [Act.put, List.setIfInBounds_toArray, List.set_cons_zero, List.set_cons_succ]
            go_big_quiet_want
            go_big_quiet_op
            go_big_quiet_on
            go_big_quiet_want
            go_big_quiet_op
            go_big_quiet_on
            go_big_quiet_want
            go_big_quiet_op
            go_big_quiet_on
            go_big_quiet_want
            refine q_val (.int .i64 (j : Int)) (fun w' hw' => by go_simp) ?_
            go_big_quiet_on
            simp only [Act.put, List.setIfInBounds_toArray, List.set_cons_zero, List.set_cons_succ]
            go_big_quiet_want
            refine q_val (.pointer (some ⟨b, off + j * 3, none⟩)) (fun w' hw' => by go_simp) ?_
            go_big_quiet_on
            simp only [Act.put, List.setIfInBounds_toArray, List.set_cons_zero, List.set_cons_succ]
            go_big_quiet_want
            refine q_val (.agg #[.int .i64 q0, .int .i64 f0, .int .i64 t0]) (fun w' hw' => by have p0 := (hw'.out.cell (p := ⟨b, off + j * 3, none⟩) hbb).trans hp0; have p1 := (hw'.out.cell (p := ⟨b, off + j * 3 + 1, none⟩) hbb).trans hp1; have p2 := (hw'.out.cell (p := ⟨b, off + j * 3 + 2, none⟩) hbb).trans hp2; go_simp) ?_
            go_big_quiet_on
            simp only [Act.put, List.setIfInBounds_toArray, List.set_cons_zero, List.set_cons_succ]
            go_big_quiet_want
            refine q_val (.agg #[.int .i64 q, .int .i64 f, .int .i64 t]) (fun w' hw' => by obtain ⟨g0, g1, g2⟩ := (I0.out.stays hw'.out I0.out.lt).cells; go_simp) ?_
            go_big_quiet_on
            simp only [Act.put, List.setIfInBounds_toArray, List.set_cons_zero, List.set_cons_succ]
            go_big_quiet_want
            refine q_call (.bool false) 44 #[.agg #[.int .i64 q0, .int .i64 f0, .int .i64 t0], .agg #[.int .i64 q, .int .i64 f, .int .i64 t]] (fun w' hw' => by go_simp) (fun w' hw' => (ahead_is _ hah).mono fun e w'' ⟨he, hb1⟩ => ⟨he, hw'.out.trans (hb1.mono hw'.out.size)⟩) ?_
            go_big_quiet_on
            simp only [Act.put, List.setIfInBounds_toArray, List.set_cons_zero, List.set_cons_succ]
            go_big_quiet_want
            refine q_val (.bool true) (fun w' hw' => by go_simp) ?_
            go_big_quiet_on
            simp only [Act.put, List.setIfInBounds_toArray, List.set_cons_zero, List.set_cons_succ]
            go_big_quiet_want
            refine q_val (.bool true) (fun w' hw' => by go_simp) ?_
            go_big_quiet_on
            simp only [Act.put, List.setIfInBounds_toArray, List.set_cons_zero, List.set_cons_succ]
            go_big_quiet_want
            refine q_val (.bool true) (fun w' hw' => by go_simp) ?_
            go_big_quiet_on
            simp only [Act.put, List.setIfInBounds_toArray, List.set_cons_zero, List.set_cons_succ]
            refine wpQuiet_nil ?_
            intro w1 hcw
            have B1 : Hid (Below w.heap.size w w1) := B0.out.trans (hcw.out.mono B0.out.size)
            clear hcw
            clear hit hah hp0 hp1 hp2
            go_wp2_with fail
            go_ret
            exact ⟨by rw [HBAD.out]; rfl, B1.out⟩
          | true =>
            have HN : Hid (RSt n ts (k + 1)) := hst.out.next ⟨hlt, by rw [← HQ.out]; exact of_decide_eq_true hit, fun j' hj' he => (by have he2 : j' = j := (by omega); subst he2; rw [← HQ.out, ← HR.out]; exact of_decide_eq_true hah)⟩
            clear hao2 hj
            refine quietC (C := fun w' => Hid (Below W0.heap.size W0 w')) (by kernel_rfl) (by kernel_rfl) (Below.refl _ _).drew ?_
            go_big_quiet_want
            refine q_val (.agg #[.int .i64 q, .int .i64 f, .int .i64 t]) (fun w' hw' => by obtain ⟨g0, g1, g2⟩ := (I0.out.stays hw'.out I0.out.lt).cells; go_simp) ?_
            go_big_quiet_on
            simp only [Act.put, List.setIfInBounds_toArray, List.set_cons_zero, List.set_cons_succ]
            go_big_quiet_want
            go_big_quiet_op
            go_big_quiet_on
            go_big_quiet_want
            refine q_call (.bool true) 43 #[.agg #[.int .i64 q, .int .i64 f, .int .i64 t], .int .i64 n] (fun w' hw' => by go_simp) (fun w' hw' => (fits_is _ hn hit).mono fun e w'' ⟨he, hb1⟩ => ⟨he, hw'.out.trans (hb1.mono hw'.out.size)⟩) ?_
            go_big_quiet_on
            simp only [Act.put, List.setIfInBounds_toArray, List.set_cons_zero, List.set_cons_succ]
            go_big_quiet_want
            refine q_val (.bool false) (fun w' hw' => by go_simp) ?_
            go_big_quiet_on
            simp only [Act.put, List.setIfInBounds_toArray, List.set_cons_zero, List.set_cons_succ]
            go_big_quiet_want
            go_big_quiet_op
            go_big_quiet_on
            go_big_quiet_want
            go_big_quiet_op
            go_big_quiet_on
            go_big_quiet_want
            refine q_val (.bool true) (fun w' hw' => by go_simp) ?_
            go_big_quiet_on
            simp only [Act.put, List.setIfInBounds_toArray, List.set_cons_zero, List.set_cons_succ]
            go_big_quiet_want
            go_big_quiet_op
            go_big_quiet_on
            go_big_quiet_want
            go_big_quiet_op
            go_big_quiet_on
            go_big_quiet_want
            go_big_quiet_op
            go_big_quiet_on
            go_big_quiet_want
            refine q_val (.int .i64 (j : Int)) (fun w' hw' => by go_simp) ?_
            go_big_quiet_on
            simp only [Act.put, List.setIfInBounds_toArray, List.set_cons_zero, List.set_cons_succ]
            go_big_quiet_want
            refine q_val (.pointer (some ⟨b, off + j * 3, none⟩)) (fun w' hw' => by go_simp) ?_
            go_big_quiet_on
            simp only [Act.put, List.setIfInBounds_toArray, List.set_cons_zero, List.set_cons_succ]
            go_big_quiet_want
            refine q_val (.agg #[.int .i64 q0, .int .i64 f0, .int .i64 t0]) (fun w' hw' => by have p0 := (hw'.out.cell (p := ⟨b, off + j * 3, none⟩) hbb).trans hp0; have p1 := (hw'.out.cell (p := ⟨b, off + j * 3 + 1, none⟩) hbb).trans hp1; have p2 := (hw'.out.cell (p := ⟨b, off + j * 3 + 2, none⟩) hbb).trans hp2; go_simp) ?_
            go_big_quiet_on
            simp only [Act.put, List.setIfInBounds_toArray, List.set_cons_zero, List.set_cons_succ]
            go_big_quiet_want
            refine q_val (.agg #[.int .i64 q, .int .i64 f, .int .i64 t]) (fun w' hw' => by obtain ⟨g0, g1, g2⟩ := (I0.out.stays hw'.out I0.out.lt).cells; go_simp) ?_
            go_big_quiet_on
            simp only [Act.put, List.setIfInBounds_toArray, List.set_cons_zero, List.set_cons_succ]
            go_big_quiet_want
            refine q_call (.bool true) 44 #[.agg #[.int .i64 q0, .int .i64 f0, .int .i64 t0], .agg #[.int .i64 q, .int .i64 f, .int .i64 t]] (fun w' hw' => by go_simp) (fun w' hw' => (ahead_is _ hah).mono fun e w'' ⟨he, hb1⟩ => ⟨he, hw'.out.trans (hb1.mono hw'.out.size)⟩) ?_
            go_big_quiet_on
            simp only [Act.put, List.setIfInBounds_toArray, List.set_cons_zero, List.set_cons_succ]
            go_big_quiet_want
            refine q_val (.bool false) (fun w' hw' => by go_simp) ?_
            go_big_quiet_on
            simp only [Act.put, List.setIfInBounds_toArray, List.set_cons_zero, List.set_cons_succ]
            go_big_quiet_want
            refine q_val (.bool false) (fun w' hw' => by go_simp) ?_
            go_big_quiet_on
            simp only [Act.put, List.setIfInBounds_toArray, List.set_cons_zero, List.set_cons_succ]
            go_big_quiet_want
            refine q_val (.bool false) (fun w' hw' => by go_simp) ?_
            go_big_quiet_on
            simp only [Act.put, List.setIfInBounds_toArray, List.set_cons_zero, List.set_cons_succ]
            refine wpQuiet_nil ?_
            intro w1 hcw
            have B1 : Hid (Below w.heap.size w w1) := B0.out.trans (hcw.out.mono B0.out.size)
            clear hcw
            clear hit hah hp0 hp1 hp2
            go_wp2_with fail
            go_roundw
            case rel => exact ⟨k + 1, by omega, by go_num, HN.out, B1.out⟩
            case measure => simp [intOf]; omega
    · go_wp2_with fail
      go_ret
      exact ⟨by rw [rd_end hst.out (by omega) hn hm]; rfl, hb.out⟩
end Go.Proofs.Ytlfgglmgajcpoaa
