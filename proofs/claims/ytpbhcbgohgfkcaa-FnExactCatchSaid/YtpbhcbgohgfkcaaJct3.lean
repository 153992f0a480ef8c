/- Joined texts: J2 J3 J4 Sl. -/
import Derived.Test.YtpbhcbgohgfkcaaJct1
import Derived.Test.YtpbhcbgohgfkcaaJct2
import Derived.Deep.RegionWith
import Derived.BigQuiet
import Derived.Laws.MakeOwn
import Derived.Laws.OwnMore
import Derived.Deep.AppendSrc
/- The walk over the specification's ItemsOk. -/
namespace Go.Proofs.Ytpbhcbgohgfkcaa
open Go.RowKit Pl
set_option linter.unusedVariables false

theorem quietC {P : Program} {C : World → Prop} {id : Nat} {Q : Exit → Act → World → Prop} {a : Act} {w : World} {l : List Oper} (hm : P.follows .mixedOrders = true) (hB : Region.lexB .any l.toArray = true) (hC : C { w with drawn := w.drawn + 1 })
    (h : wpQuiet P l.toArray C (fun a' => ∀ w', C w' → Q .normal a' w') l a) : (Code.region id l.toArray true).wp P Q a w :=
  wp_region_quiet (C := C) hm hB hC (by simpa using h)
theorem q_val {P : Program} {C : World → Prop} {o : Oper} {a : Act} {K : Act → Prop} (v : Value) (h : ∀ w, C w → (execOp a.eval o).run P w = .ok (.value v) w) (hk : K (a.put o.dst v)) : o.quiet P a C K :=
  ⟨v, fun w hw => by unfold Oper.quietAt; rw [h w hw]; exact ⟨rfl, rfl⟩, hk⟩
theorem q_call {P : Program} {C : World → Prop} {o : Oper} {a : Act} {K : Act → Prop} (v : Value) (f : FuncId) (args : Array Value) (h : ∀ w, C w → (execOp a.eval o).run P w = .ok (.enter f args) w) (hc : ∀ w, C w → Calls P f args w fun e w' => e = .returned v ∧ C w') (hk : K (a.put o.dst v)) : o.quiet P a C K :=
  ⟨v, fun w hw => by unfold Oper.quietAt; rw [h w hw]; exact ⟨rfl, hc w hw⟩, hk⟩

theorem cells4_step {W w w' : World} {b o0 o1 o2 o3 : Nat} {v0 v1 v2 v3 : Value} (hbb : b < W.heap.size) (h : (w.cell? ⟨b, o0, none⟩ = some v0 ∧ w.cell? ⟨b, o1, none⟩ = some v1 ∧ w.cell? ⟨b, o2, none⟩ = some v2 ∧ w.cell? ⟨b, o3, none⟩ = some v3) ∧ Hid (Below W.heap.size W w)) (hb : Below w.heap.size w w') :
    (w'.cell? ⟨b, o0, none⟩ = some v0 ∧ w'.cell? ⟨b, o1, none⟩ = some v1 ∧ w'.cell? ⟨b, o2, none⟩ = some v2 ∧ w'.cell? ⟨b, o3, none⟩ = some v3) ∧ Hid (Below W.heap.size W w') := by
  obtain ⟨⟨h0, h1, h2, h3⟩, h4⟩ := h
  have hlt : b < w.heap.size := Nat.lt_of_lt_of_le hbb h4.out.size
  exact ⟨⟨(hb.cell (p := ⟨b, o0, none⟩) hlt).trans h0, (hb.cell (p := ⟨b, o1, none⟩) hlt).trans h1, (hb.cell (p := ⟨b, o2, none⟩) hlt).trans h2, (hb.cell (p := ⟨b, o3, none⟩) hlt).trans h3⟩, h4.out.trans (hb.mono h4.out.size)⟩

set_option maxRecDepth 100000 in
set_option maxHeartbeats 1000000 in
theorem spItemsOk_any (ao : Option Addr) (cap : Nat) (ts : List It) (w : World) (hx : Hid (ItemsAt w ao ts)) (hl : ts.length ≤ 1048576) :
    Calls Try.prog 97 #[.slice ao ts.length cap] w fun e w' => e = .returned (.bool (iGo 0 ts)) ∧ Below w.heap.size w w' := by
  go_enter Try.func97, Try.ntmps97
  go_wp2
  go_loopw [3] (fun i wr => ∃ (k : Nat) (l : Int), k ≤ ts.length ∧ i = .int .i64 k ∧ Hid (ISt ts k l) ∧ Hid (Below w.heap.size w wr)) (fun i _ => ts.length - (intOf i).toNat)
  case atStart => exact ⟨0, 0, Nat.zero_le _, rfl, iSt_start ts, Below.refl _ _⟩
  case round =>
    obtain ⟨k, l, hk, rfl, hst, hb⟩ := hrel
    by_cases hlt : k < ts.length
    · have XR := hx.out.stays hb.out
      obtain ⟨b, off, hao, hbb, h0, h1, h2, h3⟩ := XR k hlt
      have HP : Hid (∃ x : It, x = ts[k]) := ⟨_, rfl⟩
      obtain ⟨⟨q, f, lv, tx⟩, hp⟩ := HP.out
      rw [← hp] at h0 h1 h2 h3
      have HQ : Hid ((q, f, lv, tx) = ts[k]) := hp
      clear hp HP
      dsimp only at h0 h1 h2 h3
      have i0 : (0 : Int) ≤ (k : Int) := by omega
      have i1 : (k : Int) < (ts.length : Int) := by omega
      cases hit : itB q f lv tx with
      | false =>
        have HBAD : Hid (iGo 0 ts = false) := iSt_bad hst.out hlt (.inl (by rw [← HQ.out]; exact hit))
        subst hao
        clear XR
        go_wp2_with fail
        refine quietC (C := (fun w' => (w'.cell? ⟨b, off + k * 4, none⟩ = some (.int .i64 q) ∧ w'.cell? ⟨b, off + k * 4 + 1, none⟩ = some (.int .i64 f) ∧ w'.cell? ⟨b, off + k * 4 + 2, none⟩ = some (.int .i64 lv) ∧ w'.cell? ⟨b, off + k * 4 + 3, none⟩ = some (.string tx)) ∧ Hid (Below wr.heap.size wr w'))) (by kernel_rfl) (by kernel_rfl) ⟨⟨h0, h1, h2, h3⟩, (Below.refl _ _).drew⟩ ?_
        go_big_quiet_want
        go_big_quiet_op
        go_big_quiet_on
        go_big_quiet_want
        go_big_quiet_op
        go_big_quiet_on
        go_big_quiet_want
        refine q_val (.pointer (some ⟨b, off + k * 4, none⟩)) (fun w' hw' => by go_simp) ?_
        go_big_quiet_on
        simp only [Act.put, List.setIfInBounds_toArray, List.set_cons_zero, List.set_cons_succ]
        go_big_quiet_want
        refine q_val (.agg #[.int .i64 q, .int .i64 f, .int .i64 lv, .string tx]) (fun w' hw' => by obtain ⟨⟨g0, g1, g2, g3⟩, _⟩ := hw'; go_simp) ?_
        go_big_quiet_on
        simp only [Act.put, List.setIfInBounds_toArray, List.set_cons_zero, List.set_cons_succ]
        go_big_quiet_want
        refine q_call (.bool false) 26 #[.agg #[.int .i64 q, .int .i64 f, .int .i64 lv, .string tx]] (fun w' hw' => by go_simp) (fun w' hw' => (spItB_is _ hit).mono fun e w'' ⟨he, hb1⟩ => ⟨he, cells4_step hbb hw' hb1⟩) ?_
        go_big_quiet_on
        simp only [Act.put, List.setIfInBounds_toArray, List.set_cons_zero, List.set_cons_succ]
        go_big_quiet_want
        refine q_val (.bool true) (fun w' hw' => by go_simp) ?_
        go_big_quiet_on
        simp only [Act.put, List.setIfInBounds_toArray, List.set_cons_zero, List.set_cons_succ]
        go_big_quiet_want
        go_big_quiet_op
        go_big_quiet_on
        go_big_quiet_skip
        go_big_quiet_skip
        go_big_quiet_skip
        go_big_quiet_skip
        go_big_quiet_skip
        go_big_quiet_skip
        go_big_quiet_skip
        go_big_quiet_skip
        go_big_quiet_skip
        go_big_quiet_skip
        go_big_quiet_skip
        go_big_quiet_skip
        go_big_quiet_skip
        go_big_quiet_skip
        go_big_quiet_skip
        go_big_quiet_skip
        go_big_quiet_want
        refine q_val (.bool true) (fun w' hw' => by go_simp) ?_
        go_big_quiet_on
        simp only [Act.put, List.setIfInBounds_toArray, List.set_cons_zero, List.set_cons_succ]
        refine wpQuiet_nil ?_
        intro w1 hcw
        have B1 : Hid (Below w.heap.size w w1) := hb.out.trans (hcw.2.out.mono hb.out.size)
        clear hcw h0 h1 h2 h3 hit
        go_wp2_with fail
        go_ret
        exact ⟨by rw [HBAD.out]; rfl, B1.out⟩
      | true =>
        have hq1 : 1 ≤ q := by
          have := itB_true.1 hit
          unfold ItOk at this
          omega
        by_cases k0 : k = 0
        · have hl0 : l = 0 := hst.out.2.2.1 k0
          have HN : Hid (ISt ts (k + 1) q) := by
            have := iSt_next hst.out hlt (by rw [← HQ.out]; exact hit) (by rw [← HQ.out]; show l < q; omega)
            rw [← HQ.out] at this
            exact this
          have hk0 : ¬ 0 < k := by omega
          subst hao
          clear XR k0 hl0
          go_wp2_with fail
          refine quietC (C := (fun w' => (w'.cell? ⟨b, off + k * 4, none⟩ = some (.int .i64 q) ∧ w'.cell? ⟨b, off + k * 4 + 1, none⟩ = some (.int .i64 f) ∧ w'.cell? ⟨b, off + k * 4 + 2, none⟩ = some (.int .i64 lv) ∧ w'.cell? ⟨b, off + k * 4 + 3, none⟩ = some (.string tx)) ∧ Hid (Below wr.heap.size wr w'))) (by kernel_rfl) (by kernel_rfl) ⟨⟨h0, h1, h2, h3⟩, (Below.refl _ _).drew⟩ ?_
          go_big_quiet_want
          go_big_quiet_op
          go_big_quiet_on
          go_big_quiet_want
          go_big_quiet_op
          go_big_quiet_on
          go_big_quiet_want
          refine q_val (.pointer (some ⟨b, off + k * 4, none⟩)) (fun w' hw' => by go_simp) ?_
          go_big_quiet_on
          simp only [Act.put, List.setIfInBounds_toArray, List.set_cons_zero, List.set_cons_succ]
          go_big_quiet_want
          refine q_val (.agg #[.int .i64 q, .int .i64 f, .int .i64 lv, .string tx]) (fun w' hw' => by obtain ⟨⟨g0, g1, g2, g3⟩, _⟩ := hw'; go_simp) ?_
          go_big_quiet_on
          simp only [Act.put, List.setIfInBounds_toArray, List.set_cons_zero, List.set_cons_succ]
          go_big_quiet_want
          refine q_call (.bool true) 26 #[.agg #[.int .i64 q, .int .i64 f, .int .i64 lv, .string tx]] (fun w' hw' => by go_simp) (fun w' hw' => (spItB_is _ hit).mono fun e w'' ⟨he, hb1⟩ => ⟨he, cells4_step hbb hw' hb1⟩) ?_
          go_big_quiet_on
          simp only [Act.put, List.setIfInBounds_toArray, List.set_cons_zero, List.set_cons_succ]
          go_big_quiet_want
          refine q_val (.bool false) (fun w' hw' => by go_simp) ?_
          go_big_quiet_on
          simp only [Act.put, List.setIfInBounds_toArray, List.set_cons_zero, List.set_cons_succ]
          go_big_quiet_want
          go_big_quiet_op
          go_big_quiet_on
          go_big_quiet_want
          go_big_quiet_op
          go_big_quiet_on
          go_big_quiet_want
          refine q_val (.bool false) (fun w' hw' => by go_simp) ?_
          go_big_quiet_on
          simp only [Act.put, List.setIfInBounds_toArray, List.set_cons_zero, List.set_cons_succ]
          go_big_quiet_want
          go_big_quiet_op
          go_big_quiet_on
          go_big_quiet_skip
          go_big_quiet_skip
          go_big_quiet_skip
          go_big_quiet_skip
          go_big_quiet_skip
          go_big_quiet_skip
          go_big_quiet_skip
          go_big_quiet_skip
          go_big_quiet_skip
          go_big_quiet_skip
          go_big_quiet_skip
          go_big_quiet_skip
          go_big_quiet_want
          refine q_val (.bool false) (fun w' hw' => by go_simp) ?_
          go_big_quiet_on
          simp only [Act.put, List.setIfInBounds_toArray, List.set_cons_zero, List.set_cons_succ]
          go_big_quiet_want
          refine q_val (.bool false) (fun w' hw' => by go_simp) ?_
          go_big_quiet_on
          simp only [Act.put, List.setIfInBounds_toArray, List.set_cons_zero, List.set_cons_succ]
          refine wpQuiet_nil ?_
          intro w1 hcw
          have B1 : Hid (Below w.heap.size w w1) := hb.out.trans (hcw.2.out.mono hb.out.size)
          clear hcw h0 h1 h2 h3 hit
          go_wp2_with fail
          go_roundw
          case rel => exact ⟨k + 1, q, by omega, by go_num, HN.out, B1.out⟩
          case measure => simp [intOf]; omega
        · obtain ⟨j, hj⟩ : ∃ j, k = j + 1 := ⟨k - 1, by omega⟩
          have hlj : j < ts.length := by omega
          have hlv : l = ts[j].1 := hst.out.2.2.2 j hlj hj
          obtain ⟨b2, off2, hao2, _, hpv, _, _, _⟩ := XR j hlj
          obtain ⟨rfl, rfl⟩ : b2 = b ∧ off2 = off := by rw [hao] at hao2; simp at hao2; exact ⟨hao2.1.symm, hao2.2.symm⟩
          rw [← hlv] at hpv
          have hk0 : 0 < k := by omega
          have hw1 : IntKind.i64.wrap ((k : Int) - 1) = (j : Int) := by rw [IntKind.wrap_i64]; omega
          have i2 : (0 : Int) ≤ (j : Int) := by omega
          have i3 : (j : Int) < (ts.length : Int) := by omega
          by_cases hle : q ≤ l
          · have HBAD : Hid (iGo 0 ts = false) := iSt_bad hst.out hlt (.inr (by rw [← HQ.out]; exact hle))
            subst hao
            clear XR hao2 hj hlv
            go_wp2_with fail
            refine quietC (C := (fun w' => (w'.cell? ⟨b2, off2 + k * 4, none⟩ = some (.int .i64 q) ∧ w'.cell? ⟨b2, off2 + k * 4 + 1, none⟩ = some (.int .i64 f) ∧ w'.cell? ⟨b2, off2 + k * 4 + 2, none⟩ = some (.int .i64 lv) ∧ w'.cell? ⟨b2, off2 + k * 4 + 3, none⟩ = some (.string tx)) ∧ Hid (Below wr.heap.size wr w'))) (by kernel_rfl) (by kernel_rfl) ⟨⟨h0, h1, h2, h3⟩, (Below.refl _ _).drew⟩ ?_
            go_big_quiet_want
            go_big_quiet_op
            go_big_quiet_on
            go_big_quiet_want
            go_big_quiet_op
            go_big_quiet_on
            go_big_quiet_want
            refine q_val (.pointer (some ⟨b2, off2 + k * 4, none⟩)) (fun w' hw' => by go_simp) ?_
            go_big_quiet_on
            simp only [Act.put, List.setIfInBounds_toArray, List.set_cons_zero, List.set_cons_succ]
            go_big_quiet_want
            refine q_val (.agg #[.int .i64 q, .int .i64 f, .int .i64 lv, .string tx]) (fun w' hw' => by obtain ⟨⟨g0, g1, g2, g3⟩, _⟩ := hw'; go_simp) ?_
            go_big_quiet_on
            simp only [Act.put, List.setIfInBounds_toArray, List.set_cons_zero, List.set_cons_succ]
            go_big_quiet_want
            refine q_call (.bool true) 26 #[.agg #[.int .i64 q, .int .i64 f, .int .i64 lv, .string tx]] (fun w' hw' => by go_simp) (fun w' hw' => (spItB_is _ hit).mono fun e w'' ⟨he, hb1⟩ => ⟨he, cells4_step hbb hw' hb1⟩) ?_
            go_big_quiet_on
            simp only [Act.put, List.setIfInBounds_toArray, List.set_cons_zero, List.set_cons_succ]
            go_big_quiet_want
            refine q_val (.bool false) (fun w' hw' => by go_simp) ?_
            go_big_quiet_on
            simp only [Act.put, List.setIfInBounds_toArray, List.set_cons_zero, List.set_cons_succ]
            go_big_quiet_want
            go_big_quiet_op
            go_big_quiet_on
            go_big_quiet_want
            go_big_quiet_op
            go_big_quiet_on
            go_big_quiet_want
            refine q_val (.bool true) (fun w' hw' => by go_simp) ?_
            go_big_quiet_on
            simp only [Act.put, List.setIfInBounds_toArray, List.set_cons_zero, List.set_cons_succ]
            go_big_quiet_want
            go_big_quiet_op
            go_big_quiet_on
            go_big_quiet_want
            go_big_quiet_op
            go_big_quiet_on
            go_big_quiet_want
            go_big_quiet_op
            go_big_quiet_on
            go_big_quiet_want
            refine q_val (.int .i64 (j : Int)) (fun w' hw' => by go_simp) ?_
            go_big_quiet_on
            simp only [Act.put, List.setIfInBounds_toArray, List.set_cons_zero, List.set_cons_succ]
            go_big_quiet_want
            refine q_val (.pointer (some ⟨b2, off2 + j * 4, none⟩)) (fun w' hw' => by go_simp) ?_
            go_big_quiet_on
            simp only [Act.put, List.setIfInBounds_toArray, List.set_cons_zero, List.set_cons_succ]
            go_big_quiet_want
            refine q_val (.pointer (some ⟨b2, off2 + j * 4, none⟩)) (fun w' hw' => by go_simp) ?_
            go_big_quiet_on
            simp only [Act.put, List.setIfInBounds_toArray, List.set_cons_zero, List.set_cons_succ]
            go_big_quiet_want
            refine q_val (.int .i64 l) (fun w' hw' => by have g4 := (hw'.2.out.cell (p := ⟨b2, off2 + j * 4, none⟩) hbb).trans hpv; go_simp) ?_
            go_big_quiet_on
            simp only [Act.put, List.setIfInBounds_toArray, List.set_cons_zero, List.set_cons_succ]
            go_big_quiet_want
            go_big_quiet_op
            go_big_quiet_on
            go_big_quiet_want
            go_big_quiet_op
            go_big_quiet_on
            go_big_quiet_want
            refine q_val (.pointer (some ⟨b2, off2 + k * 4, none⟩)) (fun w' hw' => by go_simp) ?_
            go_big_quiet_on
            simp only [Act.put, List.setIfInBounds_toArray, List.set_cons_zero, List.set_cons_succ]
            go_big_quiet_want
            refine q_val (.pointer (some ⟨b2, off2 + k * 4, none⟩)) (fun w' hw' => by go_simp) ?_
            go_big_quiet_on
            simp only [Act.put, List.setIfInBounds_toArray, List.set_cons_zero, List.set_cons_succ]
            go_big_quiet_want
            refine q_val (.int .i64 q) (fun w' hw' => by obtain ⟨⟨g0, g1, g2, g3⟩, _⟩ := hw'; go_simp) ?_
            go_big_quiet_on
            simp only [Act.put, List.setIfInBounds_toArray, List.set_cons_zero, List.set_cons_succ]
            go_big_quiet_want
            refine q_val (.bool true) (fun w' hw' => by go_simp) ?_
            go_big_quiet_on
            simp only [Act.put, List.setIfInBounds_toArray, List.set_cons_zero, List.set_cons_succ]
            go_big_quiet_want
            refine q_val (.bool true) (fun w' hw' => by go_simp) ?_
            go_big_quiet_on
            simp only [Act.put, List.setIfInBounds_toArray, List.set_cons_zero, List.set_cons_succ]
            go_big_quiet_want
            refine q_val (.bool true) (fun w' hw' => by go_simp) ?_
            go_big_quiet_on
            simp only [Act.put, List.setIfInBounds_toArray, List.set_cons_zero, List.set_cons_succ]
            refine wpQuiet_nil ?_
            intro w1 hcw
            have B1 : Hid (Below w.heap.size w w1) := hb.out.trans (hcw.2.out.mono hb.out.size)
            clear hpv hcw h0 h1 h2 h3 hit
            go_wp2_with fail
            go_ret
            exact ⟨by rw [HBAD.out]; rfl, B1.out⟩
          · 
            have HN : Hid (ISt ts (k + 1) q) := by
              have := iSt_next hst.out hlt (by rw [← HQ.out]; exact hit) (by rw [← HQ.out]; show l < q; omega)
              rw [← HQ.out] at this
              exact this
            subst hao
            clear XR hao2 hj hlv
            go_wp2_with fail
            refine quietC (C := (fun w' => (w'.cell? ⟨b2, off2 + k * 4, none⟩ = some (.int .i64 q) ∧ w'.cell? ⟨b2, off2 + k * 4 + 1, none⟩ = some (.int .i64 f) ∧ w'.cell? ⟨b2, off2 + k * 4 + 2, none⟩ = some (.int .i64 lv) ∧ w'.cell? ⟨b2, off2 + k * 4 + 3, none⟩ = some (.string tx)) ∧ Hid (Below wr.heap.size wr w'))) (by kernel_rfl) (by kernel_rfl) ⟨⟨h0, h1, h2, h3⟩, (Below.refl _ _).drew⟩ ?_
            go_big_quiet_want
            go_big_quiet_op
            go_big_quiet_on
            go_big_quiet_want
            go_big_quiet_op
            go_big_quiet_on
            go_big_quiet_want
            refine q_val (.pointer (some ⟨b2, off2 + k * 4, none⟩)) (fun w' hw' => by go_simp) ?_
            go_big_quiet_on
            simp only [Act.put, List.setIfInBounds_toArray, List.set_cons_zero, List.set_cons_succ]
            go_big_quiet_want
            refine q_val (.agg #[.int .i64 q, .int .i64 f, .int .i64 lv, .string tx]) (fun w' hw' => by obtain ⟨⟨g0, g1, g2, g3⟩, _⟩ := hw'; go_simp) ?_
            go_big_quiet_on
            simp only [Act.put, List.setIfInBounds_toArray, List.set_cons_zero, List.set_cons_succ]
            go_big_quiet_want
            refine q_call (.bool true) 26 #[.agg #[.int .i64 q, .int .i64 f, .int .i64 lv, .string tx]] (fun w' hw' => by go_simp) (fun w' hw' => (spItB_is _ hit).mono fun e w'' ⟨he, hb1⟩ => ⟨he, cells4_step hbb hw' hb1⟩) ?_
            go_big_quiet_on
            simp only [Act.put, List.setIfInBounds_toArray, List.set_cons_zero, List.set_cons_succ]
            go_big_quiet_want
            refine q_val (.bool false) (fun w' hw' => by go_simp) ?_
            go_big_quiet_on
            simp only [Act.put, List.setIfInBounds_toArray, List.set_cons_zero, List.set_cons_succ]
            go_big_quiet_want
            go_big_quiet_op
            go_big_quiet_on
            go_big_quiet_want
            go_big_quiet_op
            go_big_quiet_on
            go_big_quiet_want
            refine q_val (.bool true) (fun w' hw' => by go_simp) ?_
            go_big_quiet_on
            simp only [Act.put, List.setIfInBounds_toArray, List.set_cons_zero, List.set_cons_succ]
            go_big_quiet_want
            go_big_quiet_op
            go_big_quiet_on
            go_big_quiet_want
            go_big_quiet_op
            go_big_quiet_on
            go_big_quiet_want
            go_big_quiet_op
            go_big_quiet_on
            go_big_quiet_want
            refine q_val (.int .i64 (j : Int)) (fun w' hw' => by go_simp) ?_
            go_big_quiet_on
            simp only [Act.put, List.setIfInBounds_toArray, List.set_cons_zero, List.set_cons_succ]
            go_big_quiet_want
            refine q_val (.pointer (some ⟨b2, off2 + j * 4, none⟩)) (fun w' hw' => by go_simp) ?_
            go_big_quiet_on
            simp only [Act.put, List.setIfInBounds_toArray, List.set_cons_zero, List.set_cons_succ]
            go_big_quiet_want
            refine q_val (.pointer (some ⟨b2, off2 + j * 4, none⟩)) (fun w' hw' => by go_simp) ?_
            go_big_quiet_on
            simp only [Act.put, List.setIfInBounds_toArray, List.set_cons_zero, List.set_cons_succ]
            go_big_quiet_want
            refine q_val (.int .i64 l) (fun w' hw' => by have g4 := (hw'.2.out.cell (p := ⟨b2, off2 + j * 4, none⟩) hbb).trans hpv; go_simp) ?_
            go_big_quiet_on
            simp only [Act.put, List.setIfInBounds_toArray, List.set_cons_zero, List.set_cons_succ]
            go_big_quiet_want
            go_big_quiet_op
            go_big_quiet_on
            go_big_quiet_want
            go_big_quiet_op
            go_big_quiet_on
            go_big_quiet_want
            refine q_val (.pointer (some ⟨b2, off2 + k * 4, none⟩)) (fun w' hw' => by go_simp) ?_
            go_big_quiet_on
            simp only [Act.put, List.setIfInBounds_toArray, List.set_cons_zero, List.set_cons_succ]
            go_big_quiet_want
            refine q_val (.pointer (some ⟨b2, off2 + k * 4, none⟩)) (fun w' hw' => by go_simp) ?_
            go_big_quiet_on
            simp only [Act.put, List.setIfInBounds_toArray, List.set_cons_zero, List.set_cons_succ]
            go_big_quiet_want
            refine q_val (.int .i64 q) (fun w' hw' => by obtain ⟨⟨g0, g1, g2, g3⟩, _⟩ := hw'; go_simp) ?_
            go_big_quiet_on
            simp only [Act.put, List.setIfInBounds_toArray, List.set_cons_zero, List.set_cons_succ]
            go_big_quiet_want
            refine q_val (.bool false) (fun w' hw' => by go_simp) ?_
            go_big_quiet_on
            simp only [Act.put, List.setIfInBounds_toArray, List.set_cons_zero, List.set_cons_succ]
            go_big_quiet_want
            refine q_val (.bool false) (fun w' hw' => by go_simp) ?_
            go_big_quiet_on
            simp only [Act.put, List.setIfInBounds_toArray, List.set_cons_zero, List.set_cons_succ]
            go_big_quiet_want
            refine q_val (.bool false) (fun w' hw' => by go_simp) ?_
            go_big_quiet_on
            simp only [Act.put, List.setIfInBounds_toArray, List.set_cons_zero, List.set_cons_succ]
            refine wpQuiet_nil ?_
            intro w1 hcw
            have B1 : Hid (Below w.heap.size w w1) := hb.out.trans (hcw.2.out.mono hb.out.size)
            clear hpv hcw h0 h1 h2 h3 hit
            go_wp2_with fail
            go_roundw
            case rel => exact ⟨k + 1, q, by omega, by go_num, HN.out, B1.out⟩
            case measure => simp [intOf]; omega
    · go_wp2_with fail
      go_ret
      exact ⟨by rw [iSt_end hst.out (by omega)]; rfl, hb.out⟩
end Go.Proofs.Ytpbhcbgohgfkcaa

/- The walks over lists of items that a law copies, sizes and compares. -/
namespace Go.Proofs.Ytpbhcbgohgfkcaa
open Go.RowKit Pl
set_option linter.unusedVariables false

set_option maxRecDepth 100000 in
set_option maxHeartbeats 1000000 in
theorem szItems_any (ao : Option Addr) (cap : Nat) (ts : List It) (w : World) (hx : Hid (ItemsAt w ao ts)) (hl : ts.length ≤ 9223372036854775807) (hs : Hid (∀ x ∈ ts, x.2.2.2.size ≤ 9223372036854775807)) :
    Calls Try.prog 94 #[.slice ao ts.length cap, .int .i64 1048576] w fun e w' => (e = .returned (.int .i64 (-1)) ∨ (∃ z : Nat, e = .returned (.int .i64 z) ∧ ts.length ≤ 1048576)) ∧ Below w.heap.size w w' := by
  by_cases h1 : 1048576 < ts.length
  · have hd : decide ((1048576 : Int) - (ts.length : Int) < 0) = true := by simp; omega
    go_enter Try.func94, Try.ntmps94
    go_wp2
    go_ret
    exact ⟨.inl rfl, Below.refl _ _⟩
  have hl2 : ts.length ≤ 1048576 := by omega
  have hd : decide ((1048576 : Int) - (ts.length : Int) < 0) = false := by simp; omega
  go_enter Try.func94, Try.ntmps94
  go_wp2
  clear hd
  go_loopw [1, 5] (fun lf i wr => ∃ (k z : Nat), k ≤ ts.length ∧ z ≤ 1048576 ∧ lf = .int .i64 z ∧ i = .int .i64 k ∧ Hid (Below w.heap.size w wr)) (fun _ i _ => ts.length - (intOf i).toNat)
  case atStart => exact ⟨0, 1048576 - ts.length, Nat.zero_le _, by omega, by congr 1; omega, rfl, Below.refl _ _⟩
  case round =>
    obtain ⟨k, z, hk, hz, rfl, rfl, hb⟩ := hrel
    by_cases hlt : k < ts.length
    · obtain ⟨b, off, rfl, hbb, c0, c1, c2, c3⟩ := hx.out.stays hb.out k hlt
      have hsz := hs.out _ (List.getElem_mem hlt)
      have HP : Hid (∃ x : It, x = ts[k]) := ⟨_, rfl⟩
      obtain ⟨⟨q, f, lv, tx⟩, hp⟩ := HP.out
      rw [← hp] at c0 c1 c2 c3 hsz
      clear hp HP
      dsimp only at c0 c1 c2 c3 hsz
      go_wp2_with fail
      by_cases hlong : z < tx.size
      · refine (szItem_long q f lv tx z _ hlong hsz hz).mono ?_
        rintro e w1 ⟨rfl, hb1⟩
        go_wp2_with fail
        go_ret
        exact ⟨.inl rfl, hb.out.trans (hb1.mono hb.out.size)⟩
      · refine (szItem_any q f lv tx z _ (by omega) hz).mono ?_
        rintro e w1 ⟨rfl, hb1⟩
        have B1 : Hid (Below w.heap.size w w1) := hb.out.trans (hb1.mono hb.out.size)
        have hzz : z - tx.size ≤ 1048576 := by omega
        generalize z - tx.size = zz at *
        have hd : decide ((zz : Int) < 0) = false := by simp
        clear hb1 c0 c1 c2 c3
        go_wp2_with fail
        go_roundw
        case rel => exact ⟨k + 1, zz, by omega, hzz, rfl, by go_num, B1.out⟩
        case measure => simp [intOf]; omega
    · go_wp2_with fail
      go_ret
      exact ⟨.inr ⟨z, rfl, hl2⟩, hb.out⟩

theorem Try.infoI : (Try.prog.info? 38).map (fun i => (i.zero, i.size, i.bytes)) = some (some (.agg #[.int .i64 0, .int .i64 0, .int .i64 0, .string ⟨#[]⟩]), 4, 40) := by kernel_rfl

/-- the first k items of a row. -/
def RowIt (w : World) (g n : Nat) (ts : List It) (k : Nat) : Prop :=
  ∃ arr : Array Value, w.heap[g]? = some (.cells arr 38 (0, 0)) ∧ arr.size = n * 4 ∧ ∀ i (h : i < ts.length), i < k → arr[i * 4]? = some (.int .i64 ts[i].1) ∧ arr[i * 4 + 1]? = some (.int .i64 ts[i].2.1) ∧ arr[i * 4 + 2]? = some (.int .i64 ts[i].2.2.1) ∧ arr[i * 4 + 3]? = some (.string ts[i].2.2.2)
theorem RowIt.stays {w w' : World} {B g n k : Nat} {ts : List It} (h : RowIt w g n ts k) (hb : Below B w w') (hg : g < B) : RowIt w' g n ts k := by
  obtain ⟨arr, h1, h2⟩ := h
  exact ⟨arr, (hb.block g hg).trans h1, h2⟩
theorem RowIt.lt {w : World} {g n k : Nat} {ts : List It} (h : RowIt w g n ts k) : g < w.heap.size := by
  obtain ⟨arr, h1, _⟩ := h
  exact (Array.getElem?_eq_some_iff.1 h1).1
theorem RowIt.cell {w : World} {g n k : Nat} {ts : List It} (h : RowIt w g n ts k) (i : Nat) (hi : i < n * 4) : ∃ v, w.cell? ⟨g, i, none⟩ = some v := by
  obtain ⟨arr, h1, h2, _⟩ := h
  refine ⟨arr[i]'(by omega), ?_⟩
  rw [cell_of_row w g i _ 38 (0, 0) h1]
  simp [h2, hi]
theorem RowIt.frozen {w : World} {g n k : Nat} {ts : List It} (h : RowIt w g n ts k) (i : Nat) : w.frozen? ⟨g, i, none⟩ = false := by
  obtain ⟨arr, h1, _⟩ := h
  exact frozen_of_row w g i _ 38 h1
theorem RowIt.set {w : World} {g k : Nat} {ts : List It} (h : RowIt w g ts.length ts k) (hk : k < ts.length) :
    RowIt ((((w.setCell ⟨g, k * 4, none⟩ (.int .i64 ts[k].1)).setCell ⟨g, k * 4 + 1, none⟩ (.int .i64 ts[k].2.1)).setCell ⟨g, k * 4 + 2, none⟩ (.int .i64 ts[k].2.2.1)).setCell ⟨g, k * 4 + 3, none⟩ (.string ts[k].2.2.2)) g ts.length ts (k + 1) := by
  obtain ⟨arr, h1, h2, h3⟩ := h
  have e0 := heap_setCell_same w g (k * 4) _ 38 (.int .i64 ts[k].1) h1
  have e1 := heap_setCell_same _ g (k * 4 + 1) _ 38 (.int .i64 ts[k].2.1) e0
  have e2 := heap_setCell_same _ g (k * 4 + 2) _ 38 (.int .i64 ts[k].2.2.1) e1
  have e3 := heap_setCell_same _ g (k * 4 + 3) _ 38 (.string ts[k].2.2.2) e2
  refine ⟨_, e3, by simp [h2], fun i hi hik => ?_⟩
  by_cases hik2 : i = k
  · subst hik2
    refine ⟨?_, ?_, ?_, ?_⟩ <;> simp [Array.getElem?_setIfInBounds, h2] <;> omega
  · obtain ⟨x0, x1, x2, x3⟩ := h3 i hi (by omega)
    have n0 : ∀ a c, a < 4 → c < 4 → ¬ k * 4 + a = i * 4 + c := fun a c _ _ => by omega
    refine ⟨?_, ?_, ?_, ?_⟩
    · rw [Array.getElem?_setIfInBounds_ne (by omega), Array.getElem?_setIfInBounds_ne (by omega), Array.getElem?_setIfInBounds_ne (by omega), Array.getElem?_setIfInBounds_ne (by omega)]; exact x0
    · rw [Array.getElem?_setIfInBounds_ne (by omega), Array.getElem?_setIfInBounds_ne (by omega), Array.getElem?_setIfInBounds_ne (by omega), Array.getElem?_setIfInBounds_ne (by omega)]; exact x1
    · rw [Array.getElem?_setIfInBounds_ne (by omega), Array.getElem?_setIfInBounds_ne (by omega), Array.getElem?_setIfInBounds_ne (by omega), Array.getElem?_setIfInBounds_ne (by omega)]; exact x2
    · rw [Array.getElem?_setIfInBounds_ne (by omega), Array.getElem?_setIfInBounds_ne (by omega), Array.getElem?_setIfInBounds_ne (by omega), Array.getElem?_setIfInBounds_ne (by omega)]; exact x3
theorem RowIt.items {w : World} {g n : Nat} {ts : List It} (h : RowIt w g n ts ts.length) : ItemsAt w (some ⟨g, 0, none⟩) ts := by
  have hlt := h.lt
  obtain ⟨arr, h1, h2, h3⟩ := h
  intro i hi
  obtain ⟨x0, x1, x2, x3⟩ := h3 i hi hi
  refine ⟨g, 0, rfl, hlt, ?_, ?_, ?_, ?_⟩
  · rw [Nat.zero_add, cell_of_row w g _ _ 38 (0, 0) h1]; exact x0
  · rw [Nat.zero_add, cell_of_row w g _ _ 38 (0, 0) h1]; exact x1
  · rw [Nat.zero_add, cell_of_row w g _ _ 38 (0, 0) h1]; exact x2
  · rw [Nat.zero_add, cell_of_row w g _ _ 38 (0, 0) h1]; exact x3
end Go.Proofs.Ytpbhcbgohgfkcaa

/- Lists of items copied and compared. -/
namespace Go.Proofs.Ytpbhcbgohgfkcaa
open Go.RowKit Pl
set_option linter.unusedVariables false

set_option maxRecDepth 100000 in
set_option maxHeartbeats 1000000 in
theorem toItems_any (w : World) (ao : Option Addr) (cap : Nat) (ts : List It) (hx : Hid (ItemsAt w ao ts)) (hl : ts.length ≤ 1048576) :
    Calls Try.prog 101 #[.slice ao ts.length cap] w fun e w' => ∃ g, e = .returned (.slice (some ⟨g, 0, none⟩) ts.length ts.length) ∧ ItemsAt w' (some ⟨g, 0, none⟩) ts ∧ Below w.heap.size w w' := by
  obtain ⟨i0, hi, hz0, hz1, hz2⟩ := info_parts Try.infoI
  obtain ⟨A, hA, hAs⟩ : ∃ A : Array Value, A = madeCells (Value.agg #[.int .i64 0, .int .i64 0, .int .i64 0, .string ⟨#[]⟩]).cells (ts.length * 4) ∧ A.size = ts.length * 4 := ⟨_, rfl, size_madeCells _ _⟩
  have hmk : ∀ W : World, (Instr.makeSlice 27 (.int .i64 (ts.length : Int)) (.int .i64 (ts.length : Int))).run Try.prog W = .ok (.slice (some ⟨W.heap.size, 0, none⟩) ts.length ts.length) (W.alloc (.cells A 38)) := fun W => by
    have h := run_make (P := Try.prog) W 27 38 i0 _ Try.underlying27 hi hz0 .i64 .i64 (ts.length : Int) (ts.length : Int) (by omega) (by omega) (by rw [hz2]; omega) (by omega)
    rw [hz1, Int.toNat_natCast, ← hA] at h
    simpa using h
  clear hA
  have H0 : Hid (RowIt (w.alloc (.cells A 38)) w.heap.size ts.length ts 0) := ⟨A, heap_alloc_new w _, hAs, fun i _ h => absurd h (by omega)⟩
  clear hAs
  go_enter Try.func101, Try.ntmps101
  go_wp2
  go_loopw [4] (fun i wr => ∃ (k : Nat), k ≤ ts.length ∧ i = .int .i64 k ∧ Hid (RowIt wr w.heap.size ts.length ts k) ∧ Below w.heap.size w wr) (fun i _ => ts.length - (intOf i).toNat)
  case atStart => exact ⟨0, by omega, rfl, H0.out, (Below.refl _ _).alloc (Nat.le_refl _) _⟩
  case round =>
    obtain ⟨k, hk, rfl, hrow, hb⟩ := hrel
    clear H0 hmk hi hz0 hz1 hz2
    by_cases hlt : k < ts.length
    · obtain ⟨b, off, rfl, hbb, h0, h1, h2, h3⟩ := hx.out.stays hb k hlt
      have HP : Hid (∃ x : It, x = ts[k]) := ⟨_, rfl⟩
      obtain ⟨⟨q, f, lv, tx⟩, hp⟩ := HP.out
      rw [← hp] at h0 h1 h2 h3
      have HQ : Hid ((q, f, lv, tx) = ts[k]) := hp
      clear hp HP
      dsimp only at h0 h1 h2 h3
      go_wp2_with fail
      refine (toItem_any q f lv tx _).mono ?_
      rintro e w1 ⟨rfl, hb1⟩
      have R1 : Hid (RowIt w1 w.heap.size ts.length ts k) := hrow.out.stays hb1 hrow.out.lt
      have B1 : Hid (Below w.heap.size w w1) := hb.trans (hb1.mono hb.size)
      obtain ⟨v0, z0⟩ := R1.out.cell (k * 4) (by omega)
      obtain ⟨v1, z1⟩ := R1.out.cell (k * 4 + 1) (by omega)
      obtain ⟨v2, z2⟩ := R1.out.cell (k * 4 + 2) (by omega)
      obtain ⟨v3, z3⟩ := R1.out.cell (k * 4 + 3) (by omega)
      have f0 := R1.out.frozen (k * 4)
      have f1 := R1.out.frozen (k * 4 + 1)
      have f2 := R1.out.frozen (k * 4 + 2)
      have f3 := R1.out.frozen (k * 4 + 3)
      clear hb1 h0 h1 h2 h3 hrow hb
      go_wp2_with fail
      go_roundw
      case rel =>
        have := R1.out.set hlt
        rw [← HQ.out] at this
        exact ⟨k + 1, by omega, by go_num, this, (((B1.out.setCell (Nat.le_refl _) _).setCell (Nat.le_refl _) _).setCell (Nat.le_refl _) _).setCell (Nat.le_refl _) _⟩
      case measure => simp [intOf]; omega
    · obtain rfl : k = ts.length := by omega
      go_wp2_with fail
      go_ret
      exact ⟨_, rfl, hrow.out.items, hb⟩

theorem cells8_step {W w w' : World} {b1 b2 o0 o1 o2 o3 p0 p1 p2 p3 : Nat} {v0 v1 v2 v3 : Value} (h1 : b1 < W.heap.size) (h2 : b2 < W.heap.size)
    (h : ((w.cell? ⟨b1, o0, none⟩ = some v0 ∧ w.cell? ⟨b1, o1, none⟩ = some v1 ∧ w.cell? ⟨b1, o2, none⟩ = some v2 ∧ w.cell? ⟨b1, o3, none⟩ = some v3) ∧ w.cell? ⟨b2, p0, none⟩ = some v0 ∧ w.cell? ⟨b2, p1, none⟩ = some v1 ∧ w.cell? ⟨b2, p2, none⟩ = some v2 ∧ w.cell? ⟨b2, p3, none⟩ = some v3) ∧ Hid (Below W.heap.size W w)) (hb : Below w.heap.size w w') :
    ((w'.cell? ⟨b1, o0, none⟩ = some v0 ∧ w'.cell? ⟨b1, o1, none⟩ = some v1 ∧ w'.cell? ⟨b1, o2, none⟩ = some v2 ∧ w'.cell? ⟨b1, o3, none⟩ = some v3) ∧ w'.cell? ⟨b2, p0, none⟩ = some v0 ∧ w'.cell? ⟨b2, p1, none⟩ = some v1 ∧ w'.cell? ⟨b2, p2, none⟩ = some v2 ∧ w'.cell? ⟨b2, p3, none⟩ = some v3) ∧ Hid (Below W.heap.size W w') := by
  obtain ⟨⟨ha, hc⟩, h4⟩ := h
  have A := cells4_step h1 ⟨ha, h4⟩ hb
  have C := cells4_step h2 ⟨hc, h4⟩ hb
  exact ⟨⟨A.1, C.1⟩, A.2⟩

set_option maxRecDepth 100000 in
set_option maxHeartbeats 1000000 in
theorem eqItems_same (a1 a2 : Option Addr) (c1 c2 : Nat) (ts : List It) (w : World) (hx1 : Hid (ItemsAt w a1 ts)) (hx2 : Hid (ItemsAt w a2 ts)) (hl : ts.length ≤ 1048576) :
    Calls Try.prog 81 #[.slice a1 ts.length c1, .slice a2 ts.length c2] w fun e w' => e = .returned (.bool true) ∧ Below w.heap.size w w' := by
  go_enter Try.func81, Try.ntmps81
  go_wp2
  go_loopw [5] (fun i wr => ∃ k : Nat, k ≤ ts.length ∧ i = .int .i64 k ∧ Hid (Below w.heap.size w wr)) (fun i _ => ts.length - (intOf i).toNat)
  case atStart => exact ⟨0, by omega, rfl, Below.refl _ _⟩
  case round =>
    obtain ⟨k, hk, rfl, hb⟩ := hrel
    by_cases hlt : k < ts.length
    · obtain ⟨b1, off1, rfl, hbb1, h0, h1, h2, h3⟩ := hx1.out.stays hb.out k hlt
      obtain ⟨b2, off2, rfl, hbb2, g0, g1, g2, g3⟩ := hx2.out.stays hb.out k hlt
      have HP : Hid (∃ x : It, x = ts[k]) := ⟨_, rfl⟩
      obtain ⟨⟨q, f, lv, tx⟩, hp⟩ := HP.out
      rw [← hp] at h0 h1 h2 h3 g0 g1 g2 g3
      clear hp HP
      dsimp only at h0 h1 h2 h3 g0 g1 g2 g3
      have i0 : (0 : Int) ≤ (k : Int) := by omega
      have i1 : (k : Int) < (ts.length : Int) := by omega
      go_wp2_with fail
      refine quietC (C := (fun w' => ((w'.cell? ⟨b1, off1 + k * 4, none⟩ = some (.int .i64 q) ∧ w'.cell? ⟨b1, off1 + k * 4 + 1, none⟩ = some (.int .i64 f) ∧ w'.cell? ⟨b1, off1 + k * 4 + 2, none⟩ = some (.int .i64 lv) ∧ w'.cell? ⟨b1, off1 + k * 4 + 3, none⟩ = some (.string tx)) ∧ w'.cell? ⟨b2, off2 + k * 4, none⟩ = some (.int .i64 q) ∧ w'.cell? ⟨b2, off2 + k * 4 + 1, none⟩ = some (.int .i64 f) ∧ w'.cell? ⟨b2, off2 + k * 4 + 2, none⟩ = some (.int .i64 lv) ∧ w'.cell? ⟨b2, off2 + k * 4 + 3, none⟩ = some (.string tx)) ∧ Hid (Below wr.heap.size wr w'))) (by kernel_rfl) (by kernel_rfl) ⟨⟨⟨h0, h1, h2, h3⟩, g0, g1, g2, g3⟩, (Below.refl _ _).drew⟩ ?_
      go_big_quiet_want
      go_big_quiet_op
      go_big_quiet_on
      go_big_quiet_want
      go_big_quiet_op
      go_big_quiet_on
      go_big_quiet_want
      refine q_val (.pointer (some ⟨b1, off1 + k * 4, none⟩)) (fun w' hw' => by go_simp) ?_
      go_big_quiet_on
      simp only [Act.put, List.setIfInBounds_toArray, List.set_cons_zero, List.set_cons_succ]
      go_big_quiet_want
      refine q_val (.agg #[.int .i64 q, .int .i64 f, .int .i64 lv, .string tx]) (fun w' hw' => by obtain ⟨⟨⟨j0, j1, j2, j3⟩, _⟩, _⟩ := hw'; go_simp) ?_
      go_big_quiet_on
      simp only [Act.put, List.setIfInBounds_toArray, List.set_cons_zero, List.set_cons_succ]
      go_big_quiet_want
      go_big_quiet_op
      go_big_quiet_on
      go_big_quiet_want
      go_big_quiet_op
      go_big_quiet_on
      go_big_quiet_want
      refine q_val (.pointer (some ⟨b2, off2 + k * 4, none⟩)) (fun w' hw' => by go_simp) ?_
      go_big_quiet_on
      simp only [Act.put, List.setIfInBounds_toArray, List.set_cons_zero, List.set_cons_succ]
      go_big_quiet_want
      refine q_val (.agg #[.int .i64 q, .int .i64 f, .int .i64 lv, .string tx]) (fun w' hw' => by obtain ⟨⟨_, j0, j1, j2, j3⟩, _⟩ := hw'; go_simp) ?_
      go_big_quiet_on
      simp only [Act.put, List.setIfInBounds_toArray, List.set_cons_zero, List.set_cons_succ]
      go_big_quiet_want
      refine q_call (.bool true) 134 #[.agg #[.int .i64 q, .int .i64 f, .int .i64 lv, .string tx], .agg #[.int .i64 q, .int .i64 f, .int .i64 lv, .string tx]] (fun w' hw' => by go_simp) (fun w' hw' => (eqItem_same q f lv tx _).mono fun e w'' ⟨he, hb1⟩ => ⟨he, cells8_step hbb1 hbb2 hw' hb1⟩) ?_
      go_big_quiet_on
      simp only [Act.put, List.setIfInBounds_toArray, List.set_cons_zero, List.set_cons_succ]
      go_big_quiet_want
      refine q_val (.bool false) (fun w' hw' => by go_simp) ?_
      go_big_quiet_on
      simp only [Act.put, List.setIfInBounds_toArray, List.set_cons_zero, List.set_cons_succ]
      refine wpQuiet_nil ?_
      intro w1 hcw
      have B1 : Hid (Below w.heap.size w w1) := hb.out.trans (hcw.2.out.mono hb.out.size)
      clear hcw h0 h1 h2 h3 g0 g1 g2 g3
      go_wp2_with fail
      go_roundw
      case rel => exact ⟨k + 1, by omega, by go_num, B1.out⟩
      case measure => simp [intOf]; omega
    · go_wp2_with fail
      go_ret
      exact ⟨rfl, hb.out⟩

end Go.Proofs.Ytpbhcbgohgfkcaa

/- Slices, wherever in their block they begin: read, written, cut, appended to. No program is named here. -/
namespace Go.Proofs.Ytpbhcbgohgfkcaa.Pl
open Go Go.RowKit
set_option linter.unusedVariables false

/-- the slice v, of n elements of size cells each, lies in a block from B on and holds the cells xs. -/
def Sl (w : World) (e : TypeId) (size B : Nat) (v : Value) (n : Nat) (xs : List Value) : Prop :=
  xs.length = n * size ∧ ((v = .slice none 0 0 ∧ n = 0) ∨
    ∃ g off cap cur, v = .slice (some ⟨g, off, none⟩) n cap ∧ B ≤ g ∧ w.heap[g]? = some (.cells cur e (0, 0)) ∧ n ≤ cap ∧ cap ≤ maxLen ∧ off + cap * size ≤ cur.size ∧ ∀ j, j < n * size → cur[off + j]? = xs[j]?)

section
variable {w w' : World} {e : TypeId} {size B n : Nat} {v : Value} {xs : List Value}

theorem Sl.form (h : Sl w e size B v n xs) : ∃ ao cap, v = .slice ao n cap := by
  rcases h.2 with ⟨rfl, hn⟩ | ⟨g, off, cap, cur, rfl, _⟩
  · exact ⟨none, 0, by rw [hn]⟩
  · exact ⟨_, cap, rfl⟩
theorem Sl.lt (h : Sl w e size B v n xs) : ∀ k, v.ownBlock = some k → B ≤ k ∧ k < w.heap.size := by
  intro k hk
  rcases h.2 with ⟨rfl, _⟩ | ⟨g, off, cap, cur, rfl, hb, hg, _⟩
  · simp [Value.ownBlock] at hk
  · simp [Value.ownBlock] at hk
    subst hk
    exact ⟨hb, (Array.getElem?_eq_some_iff.1 hg).1⟩
theorem Sl.keep (h : Sl w e size B v n xs) (hk : ∀ k, v.ownBlock = some k → k < w.heap.size → w'.heap[k]? = w.heap[k]?) : Sl w' e size B v n xs := by
  refine ⟨h.1, ?_⟩
  rcases h.2 with hn | ⟨g, off, cap, cur, rfl, hb, hg, rest⟩
  · exact .inl hn
  · exact .inr ⟨g, off, cap, cur, rfl, hb, (hk g rfl (Array.getElem?_eq_some_iff.1 hg).1).trans hg, rest⟩
theorem Sl.stays {B' : Nat} (h : Sl w e size B v n xs) (hb : Below B' w w') (hlt : ∀ k, v.ownBlock = some k → k < B') : Sl w' e size B v n xs :=
  h.keep fun k hk _ => hb.block k (hlt k hk)
theorem Sl.below (h : Sl w e size B v n xs) (hb : Below w.heap.size w w') : Sl w' e size B v n xs := h.stays hb fun k hk => (h.lt k hk).2
theorem Sl.alloc (h : Sl w e size B v n xs) (o : Obj) : Sl (w.alloc o) e size B v n xs := h.below ((Below.refl _ _).alloc (Nat.le_refl _) _)
theorem Sl.down {B' : Nat} (h : Sl w e size B v n xs) (hB : B' ≤ B) : Sl w e size B' v n xs := by
  refine ⟨h.1, ?_⟩
  rcases h.2 with hn | ⟨g, off, cap, cur, rfl, hb, rest⟩
  · exact .inl hn
  · exact .inr ⟨g, off, cap, cur, rfl, by omega, rest⟩
theorem Sl.up (h : Sl w e size B v n xs) {B' : Nat} (hB : ∀ k, v.ownBlock = some k → B' ≤ k) : Sl w e size B' v n xs := by
  refine ⟨h.1, ?_⟩
  rcases h.2 with hn | ⟨g, off, cap, cur, rfl, hb, rest⟩
  · exact .inl hn
  · exact .inr ⟨g, off, cap, cur, rfl, hB g rfl, rest⟩
theorem Sl.kept {row : Option Nat} (h : Sl w e size B v n xs) (hg : w.grownBy w' row) (hne : ∀ k, v.ownBlock = some k → some k ≠ row) : Sl w' e size B v n xs :=
  h.keep fun k hk hlt => hg.block k hlt (hne k hk)
theorem Sl.zero (w : World) (e : TypeId) (size B : Nat) : Sl w e size B (.slice none 0 0) 0 [] := ⟨by simp, .inl ⟨rfl, rfl⟩⟩
theorem Sl.ofOwn (h : w.ownsRow B e size v n xs) : Sl w e size B v n xs := by
  refine ⟨h.1, ?_⟩
  rcases h.2 with hn | ⟨g, cap, cur, rfl, hb, hg, hc, hm, hs, ht⟩
  · exact .inl hn
  · refine .inr ⟨g, 0, cap, cur, rfl, hb, hg, hc, hm, by omega, fun j hj => ?_⟩
    rw [← ht, List.getElem?_take, if_pos hj]
    simp
theorem Sl.made (w : World) (e : TypeId) (size B : Nat) (hb : B ≤ w.heap.size) : Sl (w.alloc (.cells #[] e)) e size B (.slice (some ⟨w.heap.size, 0, none⟩) 0 0) 0 [] :=
  ⟨by simp, .inr ⟨w.heap.size, 0, 0, #[], rfl, hb, heap_alloc_new w _, Nat.le_refl _, by unfold maxLen; omega, by simp, fun j hj => by omega⟩⟩

/-- what it holds, cell by cell. -/
theorem Sl.read (h : Sl w e size B v n xs) (h0 : 0 < n) :
    ∃ g off cap, v = .slice (some ⟨g, off, none⟩) n cap ∧ B ≤ g ∧ g < w.heap.size ∧ (∀ j u, xs[j]? = some u → w.cell? ⟨g, off + j, none⟩ = some u) ∧ ∀ j, w.frozen? ⟨g, j, none⟩ = false := by
  rcases h.2 with ⟨rfl, hn⟩ | ⟨g, off, cap, cur, rfl, hb, hg, hc, hm, hs, ht⟩
  · omega
  · refine ⟨g, off, cap, rfl, hb, (Array.getElem?_eq_some_iff.1 hg).1, fun j u hu => ?_, fun j => frozen_of_row w g j _ e hg⟩
    rw [cell_of_row w g (off + j) _ e (0, 0) hg]
    have hj : j < n * size := by
      rw [← h.1]
      exact (List.getElem?_eq_some_iff.1 hu).1
    rw [ht j hj, hu]

theorem grown_cell (w : World) (g j : Nat) (x : Value) : w.grownBy (w.setCell ⟨g, j, none⟩ x) (some g) :=
  ⟨rfl, rfl, rfl, by simp [World.setCell], fun k _ hk => Below.heap_setCell w ⟨g, j, none⟩ x k (fun he => hk (by rw [he]))⟩

theorem Sl.put {g off cap : Nat} (h : Sl w e size B (.slice (some ⟨g, off, none⟩) n cap) n xs) (j : Nat) (x : Value) :
    Sl (w.setCell ⟨g, off + j, none⟩ x) e size B (.slice (some ⟨g, off, none⟩) n cap) n (xs.set j x) := by
  refine ⟨by rw [List.length_set]; exact h.1, ?_⟩
  rcases h.2 with ⟨hv, _⟩ | ⟨g', off', cap', cur, hv, hb, hg, hc, hm, hs, ht⟩
  · simp at hv
  · simp at hv
    obtain ⟨⟨rfl, rfl⟩, rfl⟩ := hv
    refine .inr ⟨g, off, cap, cur.setIfInBounds (off + j) x, rfl, hb, heap_setCell_same w g (off + j) _ e x hg, hc, hm, by simpa using hs, fun i hi => ?_⟩
    rw [List.getElem?_set, Array.getElem?_setIfInBounds]
    have hsz : i < xs.length := by rw [h.1]; exact hi
    have hcs : off + i < cur.size := by
      have : (n * size) ≤ cap * size := Nat.mul_le_mul_right _ hc
      omega
    by_cases hij : i = j
    · subst hij
      simp [hsz, hcs]
    · have : ¬ (off + j = off + i) := by omega
      have h2 : ¬ (j = i) := fun h => hij h.symm
      simp [h2, ht i hi]

/-- cut in front. -/
theorem Sl.cut {g off cap k : Nat} (h : Sl w e size B (.slice (some ⟨g, off, none⟩) n cap) n xs) (hk : k ≤ n) :
    Sl w e size B (.slice (some ⟨g, off + k * size, none⟩) (n - k) (cap - k)) (n - k) (xs.drop (k * size)) := by
  refine ⟨by rw [List.length_drop, h.1, Nat.sub_mul], ?_⟩
  rcases h.2 with ⟨hv, _⟩ | ⟨g', off', cap', cur, hv, hb, hg, hc, hm, hs, ht⟩
  · simp at hv
  · simp at hv
    obtain ⟨⟨rfl, rfl⟩, rfl⟩ := hv
    have hks : k * size ≤ cap * size := Nat.mul_le_mul_right _ (by omega)
    refine .inr ⟨g, off + k * size, cap - k, cur, rfl, hb, hg, by omega, by omega, ?_, fun j hj => ?_⟩
    · rw [Nat.sub_mul]; omega
    · rw [Nat.sub_mul] at hj
      rw [List.getElem?_drop, ← ht (k * size + j) (by omega), Nat.add_assoc]
theorem Sl.cutAll {g off cap : Nat} (h : Sl w e size B (.slice (some ⟨g, off, none⟩) n cap) n xs) (k : Nat) :
    Sl w e size B (.slice (some ⟨g, off, none⟩) 0 k) 0 [] ∨ cap < k := by
  rcases h.2 with ⟨hv, _⟩ | ⟨g', off', cap', cur, hv, hb, hg, hc, hm, hs, ht⟩
  · simp at hv
  · simp at hv
    obtain ⟨⟨rfl, rfl⟩, rfl⟩ := hv
    by_cases hk : cap < k
    · exact .inr hk
    · have hks : k * size ≤ cap * size := Nat.mul_le_mul_right _ (by omega)
      exact .inl ⟨by simp, .inr ⟨g, off, k, cur, rfl, hb, hg, by omega, by omega, by omega, fun j hj => by omega⟩⟩

/-- what a cut leaves, as the model spells it. -/
theorem Sl.sliced {ao : Option Addr} {cap k : Nat} (h : Sl w e size B (.slice ao n cap) n xs) (hk : k ≤ n) :
    Sl w e size B (.slice (if cap = k then ao else ao.map (·.add (k * size))) (n - k) (cap - k)) (n - k) (xs.drop (k * size)) := by
  rcases h.2 with ⟨hv, hn⟩ | ⟨g', off', cap', cur, hv, hb, hg, hc, hm, hs, ht⟩
  · simp at hv
    obtain ⟨rfl, rfl, rfl⟩ := hv
    obtain rfl : k = 0 := by omega
    have : xs = [] := List.eq_nil_of_length_eq_zero (by simpa using h.1)
    subst this
    simpa using Sl.zero w e size B
  · simp at hv
    obtain ⟨rfl, rfl⟩ := hv
    by_cases hck : cap = k
    · subst hck
      have hn : n = cap := by omega
      subst hn
      rw [if_pos rfl]
      have h0 := (h.cutAll (k := 0)).resolve_right (by omega)
      have hx : xs.drop (n * size) = [] := List.drop_eq_nil_of_le (by rw [h.1]; exact Nat.le_refl _)
      rw [hx]
      simpa using h0
    · rw [if_neg hck]
      have := h.cut hk
      have ha : (⟨g', off', none⟩ : Addr).add (k * size) = ⟨g', off' + k * size, none⟩ := by unfold Addr.add; split <;> simp_all
      simpa [ha] using this
end

/-! ### append -/
theorem setCells_heap : ∀ (vs : List Value) (w : World) (g o : Nat) (cur : Array Value) (e : TypeId), w.heap[g]? = some (.cells cur e (0, 0)) → o + vs.length ≤ cur.size →
    ∃ cur' : Array Value, (w.setCells g o vs).heap[g]? = some (.cells cur' e (0, 0)) ∧ cur'.size = cur.size ∧ (∀ j, j < o → cur'[j]? = cur[j]?) ∧ (∀ j, j < vs.length → cur'[o + j]? = vs[j]?) := by
  intro vs
  induction vs with
  | nil => intro w g o cur e hg _; exact ⟨cur, hg, rfl, fun _ _ => rfl, fun j hj => by simp at hj⟩
  | cons x vs ih =>
    intro w g o cur e hg hs
    simp only [List.length_cons] at hs
    have h1 := heap_setCell_same w g o _ e x hg
    obtain ⟨cur', h2, h3, h4, h5⟩ := ih (w.setCell ⟨g, o, none⟩ x) g (o + 1) _ e h1 (by simp; omega)
    refine ⟨cur', h2, by simpa using h3, fun j hj => ?_, fun j hj => ?_⟩
    · rw [h4 j (by omega), Array.getElem?_setIfInBounds_ne (by omega)]
    · cases j with
      | zero =>
        rw [h4 (o + 0) (by omega)]
        have : o < cur.size := by omega
        simp [this]
      | succ j =>
        simp only [List.length_cons] at hj
        have := h5 j (by omega)
        rw [show o + (j + 1) = o + 1 + j by omega, this]
        simp
theorem setCells_grown : ∀ (vs : List Value) (w : World) (g o : Nat), w.grownBy (w.setCells g o vs) (some g) := by
  intro vs
  induction vs with
  | nil => intro w g o; exact World.grownBy.refl _ _
  | cons x vs ih =>
    intro w g o
    have h1 := grown_cell w g o x
    have h2 := ih (w.setCell ⟨g, o, none⟩ x) g (o + 1)
    exact ⟨h2.os.trans h1.os, h2.tape.trans h1.tape, h2.output.trans h1.output, Nat.le_trans h1.size h2.size, fun k hk hne => (h2.block k (Nat.lt_of_lt_of_le hk h1.size) hne).trans (h1.block k hk hne)⟩

theorem Sl.old {P : Program} {w : World} {e : TypeId} {size B n : Nat} {ao : Option Addr} {cap : Nat} {xs : List Value} (h : Sl w e size B (.slice ao n cap) n xs) :
    (Builtin.firstCells size n (.slice ao n cap)).run P w = .ok xs.toArray w := by
  rcases h.2 with ⟨hv, hn⟩ | ⟨g, off, cap', cur, hv, hb, hg, hc, hm, hs, ht⟩
  · simp at hv
    obtain ⟨rfl, rfl, rfl⟩ := hv
    have : xs = [] := List.eq_nil_of_length_eq_zero (by simpa using h.1)
    subst this
    exact run_firstCells_none w size 0 0 0
  · simp at hv
    obtain ⟨rfl, rfl⟩ := hv
    refine run_firstCells_some w size n ⟨g, off, none⟩ n cap xs h.1 (fun j u hu => ?_)
    have ha : (⟨g, off, none⟩ : Addr).add j = ⟨g, off + j, none⟩ := by unfold Addr.add; split <;> simp_all
    rw [ha, cell_of_row w g (off + j) _ e (0, 0) hg, ht j (by rw [← h.1]; exact (List.getElem?_eq_some_iff.1 hu).1), hu]

/-- the slice as a source of what is appended. -/
theorem Sl.src {P : Program} {w : World} {e e' tx : TypeId} {size B n : Nat} {v : Value} {xs : List Value} (h : Sl w e size B v n xs) (hk : P.underlying tx = some (.slice e')) (h1 : ∀ u ∈ xs, u.oneCell' = true) : Src P size tx v n xs w := by
  obtain ⟨ao, cap, rfl⟩ := h.form
  have hd : Sl w.drew e size B (.slice ao n cap) n xs := h.keep fun _ _ _ => rfl
  exact ⟨.inl ⟨e', hk⟩, fun _ => rfl, h.old, hd.old, h.1, h1⟩

theorem run_appendS {P : Program} {w : World} {e : TypeId} {size B n : Nat} {v : Value} {xs : List Value} (t tx ty : TypeId) (i : TypeInfo) (z : Value) (bytes : Nat) (ht : P.underlying t = some (.slice e)) (hi : P.info? e = some i) (hz : i.zero = some z)
    (hsize : i.size = size) (hby : i.bytes = bytes) (hzs : z.cells.size = size) (h : Sl w e size B v n xs) (x : Value) (m : Nat) (news : List Value) (hs : Src P size tx x m news w)
    (h63 : n + m ≤ maxLen) (hbytes : (n + m) * bytes ≤ 140737488355328) (hB : B ≤ w.heap.size) :
    ∃ v' w', (Builtin.append_ #[t, tx] ty #[v, x]).run P w = .ok v' w' ∧ Sl w' e size B v' (n + m) (xs ++ news) ∧ w.grownBy w' v.ownBlock ∧ (v'.ownBlock = v.ownBlock ∨ v'.ownBlock = some w.heap.size) := by
  subst hsize
  subst hby
  obtain ⟨ao, cap, rfl⟩ := h.form
  have hlen : (xs ++ news).length = (n + m) * i.size := by rw [List.length_append, h.1, hs.newsLen, Nat.add_mul]
  by_cases hroom : n + m ≤ cap
  · rcases h.2 with ⟨hv, hn⟩ | ⟨g, off, cap', cur, hv, hb, hg, hc, hm, hcs, htk⟩
    · simp at hv
      obtain ⟨rfl, rfl, rfl⟩ := hv
      have hm0 : m = 0 := by omega
      subst hm0
      have hx : xs = [] := List.eq_nil_of_length_eq_zero (by simpa using h.1)
      have hnw : news = [] := List.eq_nil_of_length_eq_zero (by simpa using hs.newsLen)
      subst hx hnw
      refine ⟨.slice none 0 0, w, ?_, by simpa using Sl.zero w e i.size B, World.grownBy.refl _ _, .inl rfl⟩
      have hcl := hs.cells
      rcases hs.kind with ⟨e', hk⟩ | hk <;> simp [Builtin.append_, run_underlying ht, run_underlying hk, sizeOf, typeInfo, hi, hs.len, hcl]
    · simp at hv
      obtain ⟨rfl, rfl⟩ := hv
      have hnm : n * i.size + news.length ≤ cap * i.size := by rw [hs.newsLen, ← Nat.add_mul]; exact Nat.mul_le_mul_right _ hroom
      have hr := run_append_room_src (P := P) w t tx ty e i ht hi g off n cap x m news hs hroom
        (fun j hj => by rw [cell_of_row w g _ _ e (0, 0) hg]; have : off + n * i.size + j < cur.size := by omega
                        rw [Array.getElem?_eq_getElem this]; rfl)
        (fun j hj => frozen_of_row w g _ _ e hg)
      obtain ⟨cur', q1, q2, q3, q4⟩ := setCells_heap news w g (off + n * i.size) cur e hg (by omega)
      refine ⟨_, _, hr, ⟨hlen, .inr ⟨g, off, cap, cur', rfl, hb, q1, hroom, hm, by omega, fun j hj => ?_⟩⟩, setCells_grown news w g _, .inl rfl⟩
      rw [List.getElem?_append]
      by_cases hj1 : j < n * i.size
      · rw [if_pos (by rw [h.1]; exact hj1), q3 _ (by omega), htk j hj1]
      · rw [if_neg (by rw [h.1]; exact hj1), h.1]
        have := q4 (j - n * i.size) (by rw [hs.newsLen]; rw [Nat.add_mul] at hj; omega)
        rw [show off + n * i.size + (j - n * i.size) = off + j by omega] at this
        exact this
  · have hd : Sl w.drew e i.size B (.slice ao n cap) n xs := h.keep fun _ _ _ => rfl
    have hm' : n + m ≤ 9223372036854775807 := by simp only [maxLen] at h63; omega
    have hnc : n ≤ cap := by
      rcases h.2 with ⟨hv, hn⟩ | ⟨g, off, cap', cur, hv, hb, hg, hc, _⟩
      · omega
      · simp at hv; omega
    have hr := run_append_grow_src (P := P) w t tx ty e i z ht hi hz ao n cap xs hd.old x m news hs (by omega) (by omega) (growslice_fits (by omega) hbytes)
    have hge := grownCap_ge w (n + m) cap e
    have hcm : grownCap w (n + m) cap e ≤ maxLen := grownCap_le_maxLen w (n + m) cap e h63
    refine ⟨_, _, hr, ⟨hlen, .inr ⟨w.heap.size, 0, _, _, rfl, hB, heap_alloc_new w.drew _, hge, hcm, ?_, fun j hj => ?_⟩⟩, ⟨rfl, rfl, rfl, by simp, fun k hk _ => by rw [heap_alloc_old w.drew _ (show k < w.drew.heap.size from hk)]; rfl⟩, .inr rfl⟩
    · simp only [Array.size_append, List.size_toArray, size_zeroCells, hzs, hlen, Nat.zero_add]
      rw [← Nat.add_mul]
      exact Nat.le_of_eq (by congr 1; omega)
    · rw [Nat.zero_add, Array.getElem?_append_left (by simpa [hlen] using hj)]
      simp

theorem wp_appendS {P : Program} {w : World} {e : TypeId} {size B n : Nat} {v : Value} {xs : List Value} {o : Oper} {a : Act} {K : Act → World → Prop} {Q : Exit → Act → World → Prop} (s x : Operand) (t : TypeId)
    (ho : o.op = .call { callee := .builtin .append, args := #[s, x], argTypes := #[t, t] }) (z : Value) (bytes : Nat) (ht : P.underlying t = some (.slice e)) (hinfo : (P.info? e).map (fun i => (i.zero, i.size, i.bytes)) = some (some z, size, bytes))
    (hzs : z.cells.size = size) (hs : a.eval s = v) (h : Sl w e size B v n xs) (u : Value) (m : Nat) (news : List Value) (hx : a.eval x = u) (hsrc : Src P size t u m news w)
    (h63 : n + m ≤ maxLen) (hbytes : (n + m) * bytes ≤ 140737488355328) (hB : B ≤ w.heap.size)
    (hh : ∀ v' w', Sl w' e size B v' (n + m) (xs ++ news) → w.grownBy w' v.ownBlock → (v'.ownBlock = v.ownBlock ∨ v'.ownBlock = some w.heap.size) → K (a.put o.dst v') w') : o.wp P a w K Q := by
  obtain ⟨i0, hi, hz0, hz1, hz2⟩ := info_parts hinfo
  obtain ⟨v', w', hr, h2, h3, h4⟩ := run_appendS (P := P) t t o.type i0 z bytes ht hi hz0 hz1 hz2 hzs h u m news hsrc h63 hbytes hB
  unfold Oper.wp execOp
  simp only [ho, resolve, invoke, builtin, Sem.run_bind, Sem.run_pure, Result.andThen_ok, List.map_toArray, List.map_cons, List.map_nil, hs, hx, hr]
  exact hh v' w' h2 h3 h4

theorem wpList_appendS {P : Program} {w : World} {e : TypeId} {size B n : Nat} {v : Value} {xs : List Value} {ops : Array Oper} {rest : List Oper} {o : Oper} {a : Act} {Q : Exit → Act → World → Prop} (hgd : o.guard = none) (s x : Operand) (t : TypeId)
    (ho : o.op = .call { callee := .builtin .append, args := #[s, x], argTypes := #[t, t] }) (z : Value) (bytes : Nat) (ht : P.underlying t = some (.slice e)) (hinfo : (P.info? e).map (fun i => (i.zero, i.size, i.bytes)) = some (some z, size, bytes))
    (hzs : z.cells.size = size) (hs : a.eval s = v) (h : Sl w e size B v n xs) (u : Value) (m : Nat) (news : List Value) (hx : a.eval x = u) (hsrc : Src P size t u m news w)
    (h63 : n + m ≤ maxLen) (hbytes : (n + m) * bytes ≤ 140737488355328) (hB : B ≤ w.heap.size)
    (hh : ∀ v' w', Sl w' e size B v' (n + m) (xs ++ news) → w.grownBy w' v.ownBlock → (v'.ownBlock = v.ownBlock ∨ v'.ownBlock = some w.heap.size) → wpList P ops Q rest (a.put o.dst v') w') : wpList P ops Q (o :: rest) a w :=
  wpList_plain hgd fun _ hK => wp_appendS s x t ho z bytes ht hinfo hzs hs h u m news hx hsrc h63 hbytes hB fun v' w' h2 h3 h4 => hK _ _ (hh v' w' h2 h3 h4)
end Go.Proofs.Ytpbhcbgohgfkcaa.Pl

