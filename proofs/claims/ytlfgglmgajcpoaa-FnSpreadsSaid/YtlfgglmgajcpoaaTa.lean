/- The walk over the program's siteAhead and TreeOf. -/
import Derived.Test.YtlfgglmgajcpoaaDi
import Derived.Test.YtlfgglmgajcpoaaDq
import Derived.Test.YtlfgglmgajcpoaaTr
import Derived.ScopeJumps
import Derived.WalkMore
namespace Go.Proofs.Ytlfgglmgajcpoaa
open Go.RowKit Pl
set_option linter.unusedVariables false

theorem relax1_top {o : Int → Int} {u v c b : Int} (hc : c ≤ 100) (hb : 0 ≤ b) (h : ∀ x, o x ≤ b) : ∀ x, relax1 u v c o x ≤ b + 100 := by
  intro x
  unfold relax1
  split
  · by_cases hx : x = v
    · simp [hx]; have := h u; omega
    · simp [hx]; have := h x; omega
  · have := h x; omega
theorem fold_top {n : Int} {ts : List Rd} (hf : Fits n ts) : ∀ (l : List Rd) (o : Int → Int) (b : Int), (∀ r ∈ l, r ∈ ts) → 0 ≤ b → (∀ x, o x ≤ b) → ∀ x, l.foldl (fun o r => relax r o) o x ≤ b + 200 * (l.length : Int)
  | [], o, b, _, _, h => by intro x; simp; exact h x
  | r :: l, o, b, hm, hb, h => by
    intro x
    have hc := (hf r (hm r (by simp))).2.2.2.2
    have h1 := relax1_top (u := r.a) (v := r.b) hc hb h
    have h2 := relax1_top (u := r.b) (v := r.a) hc (by omega) h1
    have := fold_top hf l (relax r o) (b + 200) (fun y hy => hm y (by simp [hy])) (by omega) (fun y => by have := h2 y; unfold relax; omega) x
    simp only [List.foldl_cons, List.length_cons]
    omega
theorem rounds_top {n s : Int} {ts : List Rd} (hf : Fits n ts) (hl : ts.length ≤ 12) : ∀ (k : Nat) (x : Int), rounds ts k (fun x => if x = s then 0 else -1) x ≤ 2400 * (k : Int)
  | 0, x => by show (if x = s then (0 : Int) else -1) ≤ _; split <;> simp
  | k + 1, x => by
    have := fold_top hf ts (rounds ts k (fun x => if x = s then 0 else -1)) (2400 * (k : Int)) (fun _ h => h) (by omega) (rounds_top hf hl k) x
    show ts.foldl (fun o r => relax r o) _ x ≤ _
    omega
theorem dists_bd {n s : Int} {ts : List Rd} (v : Nat) : -1 ≤ fn (dists n ts s) v ∧ fn (dists n ts s) v ≤ 20000 := by
  by_cases h : RoadsP n ts ∧ 0 ≤ s ∧ s ≤ n - 1
  · refine ⟨(least_dists h.1 h.2.1 h.2.2).ge _, ?_⟩
    rw [dists_yes h.1 h.2.1 h.2.2]
    unfold fn
    split
    · rename_i hv
      rw [distL_length] at hv
      have hlt : v < (distL n.toNat ts s).length := by rw [distL_length]; omega
      simp only [Int.toNat_natCast, List.getD, List.getElem?_eq_getElem hlt, Option.getD_some]
      simp only [distL, List.getElem_map, List.getElem_range]
      have := rounds_top (s := s) h.1.fits h.1.2.2.1 n.toNat (v : Int)
      have := h.1.2.1
      omega
    · omega
  · rw [dists_no h]
    unfold fn
    simp

set_option maxRecDepth 100000 in
set_option maxHeartbeats 2000000 in
theorem site_any (v N g cap cap2 B : Nat) (fl : List Int) (ao : Option Addr) (ts : List Rd) (w : World) (hO : Hid (OwnI w B (.slice (some ⟨g, 0, none⟩) N cap) fl)) (hN : fl.length = N) (hN6 : N ≤ 6) (hv : v < N) (hbd : Hid (∀ x : Nat, -1 ≤ fn fl x ∧ fn fl x ≤ 20000)) (hx : Hid (RoadsAt w ao ts)) (hl : ts.length ≤ 12) (hf : Hid (Fits 6 ts)) :
    Calls Try.prog 41 #[.int .i64 v, .slice (some ⟨g, 0, none⟩) N cap, .slice ao ts.length cap2] w fun e w' => e = .returned (.int .i64 (ahd fl ts v)) ∧ Below w.heap.size w w' := by
  have HNL : Hid (fl.length = N) := hN
  clear hN
  have hgw : g < w.heap.size := (hO.out.lt g rfl).2
  go_enter Try.func41, Try.ntmps41
  go_wp2_with fail
  refine wp_scope_jumps 0 (fun a' w' => ∃ (x0 x1 x2 x3 x4 x5 x6 x7 x8 x9 x10 x11 x12 x13 x14 x15 x16 x17 x18 x19 x20 x21 x22 x23 x24 x25 x26 x27 x28 x29 x30 x31 x32 x33 x34 x35 x36 x37 x38 x39 x40 x41 x42 : Value), a' = { tmps := #[x0, x1, x2, x3, x4, x5, x6, x7, x8, x9, x10, x11, x12, x13, x14, x15, x16, x17, x18, x19, x20, x21, x22, x23, x24, x25, x26, x27, x28, x29, x30, x31, x32, x33, x34, x35, x36, x37, x38, x39, x40, x41, x42], defers := [] } ∧ x7 = .int .i64 (ahd fl ts v) ∧ Below w.heap.size w w') (fun _ _ => 0) rfl ?_ ?_
  case refine_2 =>
    rintro a' w' ⟨x0, x1, x2, x3, x4, x5, x6, x7, x8, x9, x10, x11, x12, x13, x14, x15, x16, x17, x18, x19, x20, x21, x22, x23, x24, x25, x26, x27, x28, x29, x30, x31, x32, x33, x34, x35, x36, x37, x38, x39, x40, x41, x42, rfl, rfl, hb⟩
    go_wp2_with fail
    simp only [Exit.jump]
    go_ret
    exact ⟨rfl, hb⟩
  go_wp2_with fail
  go_loopw [7] (fun i wr => ∃ (u : Nat), u ≤ N ∧ i = .int .i64 u ∧ Hid (∀ x, x < u → ¬ Lead fl ts x v) ∧ Hid (Below w.heap.size w wr)) (fun i _ => N - (intOf i).toNat)
  case atStart => exact ⟨0, Nat.zero_le _, rfl, (fun x hx => absurd hx (by omega)), Below.refl _ _⟩
  case round =>
    obtain ⟨u, hu, rfl, hnl, hb⟩ := hrel
    by_cases hlt : u < N
    · go_wp2_with fail
      go_loopw [18] (fun i wr => ∃ (k : Nat), k ≤ ts.length ∧ i = .int .i64 k ∧ Hid (∀ i (h : i < ts.length), i < k → ¬ (endI ts[i] (u : Int) = (v : Int) ∧ fn fl (u : Int) + ts[i].c = fn fl (v : Int))) ∧ Hid (Below w.heap.size w wr)) (fun i _ => ts.length - (intOf i).toNat)
      case atStart => exact ⟨0, Nat.zero_le _, rfl, (fun i _ hi => absurd hi (by omega)), hb⟩
      case round =>
        obtain ⟨k, hk, rfl, hno, hb2⟩ := hrel
        clear hb
        by_cases hkl : k < ts.length
        · have XR := hx.out.stays hb2.out
          obtain ⟨b, off, hao, hbb, h0, h1, h2⟩ := XR k hkl
          have HP : Hid (∃ x : Rd, x = ts[k]) := ⟨_, rfl⟩
          obtain ⟨⟨q, f, t⟩, hp⟩ := HP.out
          rw [← hp] at h0 h1 h2
          have HQ : Hid ((⟨q, f, t⟩ : Rd) = ts[k]) := hp
          have htc : 1 ≤ t ∧ t ≤ 100 := by have := hf.out ts[k] (List.getElem_mem hkl); rw [← hp] at this; exact this.2.2.2
          clear hp HP
          dsimp only at h0 h1 h2
          have I0 : Hid (BoxRd (wr.alloc (.cells #[.int .i64 q, .int .i64 f, .int .i64 t] 31)) wr.heap.size ⟨q, f, t⟩) := heap_alloc_new wr _
          have B0 : Hid (Below w.heap.size w (wr.alloc (.cells #[.int .i64 q, .int .i64 f, .int .i64 t] 31))) := hb2.out.alloc hb2.out.size _
          have i0 : (0 : Int) ≤ (k : Int) := by omega
          have i1 : (k : Int) < (ts.length : Int) := by omega
          subst hao
          obtain ⟨rb, hrb⟩ : ∃ rb, rb = wr.heap.size := ⟨_, rfl⟩
          go_wp2_with fail
          rw [← hrb] at I0 ⊢
          clear h0 h1 h2 XR hrb hbb
          generalize wr.alloc (.cells #[.int .i64 q, .int .i64 f, .int .i64 t] 31) = W0 at *
          have O0 : Hid (OwnI W0 B (.slice (some ⟨g, 0, none⟩) N cap) fl) := hO.out.stays B0.out (fun k hk => (hO.out.lt k hk).2)
          obtain ⟨zu, hzu⟩ : ∃ z, fn fl (u : Int) = z := ⟨_, rfl⟩
          obtain ⟨zv, hzv⟩ : ∃ z, fn fl (v : Int) = z := ⟨_, rfl⟩
          have cu := (own_cell O0.out HNL.out u zu (by rw [← hzu, fn_nat (by have := HNL.out; omega)]; exact List.getElem?_eq_getElem _)).1
          have cv := (own_cell O0.out HNL.out v zv (by rw [← hzv, fn_nat (by have := HNL.out; omega)]; exact List.getElem?_eq_getElem _)).1
          have bu := hbd.out u
          rw [hzu] at bu
          have HZU : Hid (fn fl (u : Int) = zu) := hzu
          have HZV : Hid (fn fl (v : Int) = zv) := hzv
          have hgb : g < W0.heap.size := (O0.out.lt g rfl).2
          have hw1 : IntKind.i64.wrap (zu + t) = zu + t := by rw [IntKind.wrap_i64]; omega
          have u0 : (0 : Int) ≤ (u : Int) := by omega
          have u1 : (u : Int) < (N : Int) := by omega
          have v0 : (0 : Int) ≤ (v : Int) := by omega
          have v1 : (v : Int) < (N : Int) := by omega
          obtain ⟨oo, hto⟩ : ∃ oo, endI ⟨q, f, t⟩ (u : Int) = oo := ⟨_, rfl⟩
          have HTO : Hid (endI ⟨q, f, t⟩ (u : Int) = oo) := hto
          clear hzu hzv O0
          by_cases e1 : oo = (v : Int)
          · subst e1
            have he1 : ((v : Int) == (v : Int)) = true := by simp
            by_cases e2 : zu + t = zv
            · have he2 : (zu + t == zv) = true := by simp [e2]
              have HA : Hid (ahd fl ts v = (u : Int)) := ahd_yes (by have := HNL.out; omega) ⟨k, hkl, by rw [← HQ.out]; exact HTO.out, by rw [← HQ.out, HZU.out, HZV.out]; exact e2⟩ hnl.out
              clear e2
              refine quietC (C := fun w' => Hid (Below W0.heap.size W0 w')) (by kernel_rfl) (by kernel_rfl) (Below.refl _ _).drew ?_
              go_big_quiet_want
              refine q_val (.agg #[.int .i64 q, .int .i64 f, .int .i64 t]) (fun w' hw' => by obtain ⟨g0, g1, g2⟩ := (I0.out.stays hw'.out I0.out.lt).cells; go_simp) ?_
              go_big_quiet_on
              simp only [Act.put, List.setIfInBounds_toArray, List.set_cons_zero, List.set_cons_succ]
              go_big_quiet_want
              go_big_quiet_op
              go_big_quiet_on
              go_big_quiet_want
              refine q_call (.int .i64 (v : Int)) 59 #[.agg #[.int .i64 q, .int .i64 f, .int .i64 t], .int .i64 (u : Int)] (fun w' hw' => by go_simp) (fun w' hw' => (end_is _ hto).mono fun e w'' ⟨he, hb1⟩ => ⟨he, hw'.out.trans (hb1.mono hw'.out.size)⟩) ?_
              go_big_quiet_on
              simp only [Act.put, List.setIfInBounds_toArray, List.set_cons_zero, List.set_cons_succ]
              go_big_quiet_want
              go_big_quiet_op
              go_big_quiet_on
              go_big_quiet_want
              refine q_val (.bool true) (fun w' hw' => by go_simp) ?_
              go_big_quiet_on
              simp only [Act.put, List.setIfInBounds_toArray, List.set_cons_zero, List.set_cons_succ]
              go_big_quiet_want
              go_big_quiet_op
              go_big_quiet_on
              go_big_quiet_want
              go_big_quiet_op
              go_big_quiet_on
              go_big_quiet_want
              go_big_quiet_op
              go_big_quiet_on
              go_big_quiet_want
              refine q_val (.pointer (some ⟨g, u, none⟩)) (fun w' hw' => by go_simp) ?_
              go_big_quiet_on
              simp only [Act.put, List.setIfInBounds_toArray, List.set_cons_zero, List.set_cons_succ]
              go_big_quiet_want
              refine q_val (.int .i64 zu) (fun w' hw' => by have p0 := (hw'.out.cell (p := ⟨g, u, none⟩) hgb).trans cu; go_simp) ?_
              go_big_quiet_on
              simp only [Act.put, List.setIfInBounds_toArray, List.set_cons_zero, List.set_cons_succ]
              go_big_quiet_want
              refine q_val (.pointer (some ⟨rb, 2, none⟩)) (fun w' hw' => by go_simp) ?_
              go_big_quiet_on
              simp only [Act.put, List.setIfInBounds_toArray, List.set_cons_zero, List.set_cons_succ]
              go_big_quiet_want
              refine q_val (.int .i64 t) (fun w' hw' => by obtain ⟨g0, g1, g2⟩ := (I0.out.stays hw'.out I0.out.lt).cells; go_simp) ?_
              go_big_quiet_on
              simp only [Act.put, List.setIfInBounds_toArray, List.set_cons_zero, List.set_cons_succ]
              go_big_quiet_want
              refine q_val (.int .i64 (zu + t)) (fun w' hw' => by go_simp) ?_
              go_big_quiet_on
              simp only [Act.put, List.setIfInBounds_toArray, List.set_cons_zero, List.set_cons_succ]
              go_big_quiet_want
              go_big_quiet_op
              go_big_quiet_on
              go_big_quiet_want
              go_big_quiet_op
              go_big_quiet_on
              go_big_quiet_want
              refine q_val (.pointer (some ⟨g, v, none⟩)) (fun w' hw' => by go_simp) ?_
              go_big_quiet_on
              simp only [Act.put, List.setIfInBounds_toArray, List.set_cons_zero, List.set_cons_succ]
              go_big_quiet_want
              refine q_val (.int .i64 zv) (fun w' hw' => by have p1 := (hw'.out.cell (p := ⟨g, v, none⟩) hgb).trans cv; go_simp) ?_
              go_big_quiet_on
              simp only [Act.put, List.setIfInBounds_toArray, List.set_cons_zero, List.set_cons_succ]
              go_big_quiet_want
              refine q_val (.bool true) (fun w' hw' => by go_simp) ?_
              go_big_quiet_on
              simp only [Act.put, List.setIfInBounds_toArray, List.set_cons_zero, List.set_cons_succ]
              go_big_quiet_want
              refine q_val (.bool true) (fun w' hw' => by go_simp) ?_
              go_big_quiet_on
              simp only [Act.put, List.setIfInBounds_toArray, List.set_cons_zero, List.set_cons_succ]
              refine wpQuiet_nil ?_
              intro w1 hcw
              have B1 : Hid (Below w.heap.size w w1) := B0.out.trans (hcw.out.mono B0.out.size)
              clear hcw
              clear hto cu cv he1 he2
              go_wp2_with fail
              go_step3
              refine And.intro rfl ?_
              exact ⟨_, _, _, _, _, _, _, _, _, _, _, _, _, _, _, _, _, _, _, _, _, _, _, _, _, _, _, _, _, _, _, _, _, _, _, _, _, _, _, _, _, _, _, rfl, by rw [HA.out], B1.out⟩
            · have he2 : (zu + t == zv) = false := by simp [e2]
              have HN : Hid (∀ i (h : i < ts.length), i < k + 1 → ¬ (endI ts[i] (u : Int) = (v : Int) ∧ fn fl (u : Int) + ts[i].c = fn fl (v : Int))) := fun i h hi => by
                by_cases e : i = k
                · subst e; rw [← HQ.out]; intro hh; rw [HZU.out, HZV.out] at hh; exact e2 hh.2
                · exact hno.out i h (by omega)
              refine quietC (C := fun w' => Hid (Below W0.heap.size W0 w')) (by kernel_rfl) (by kernel_rfl) (Below.refl _ _).drew ?_
              go_big_quiet_want
              refine q_val (.agg #[.int .i64 q, .int .i64 f, .int .i64 t]) (fun w' hw' => by obtain ⟨g0, g1, g2⟩ := (I0.out.stays hw'.out I0.out.lt).cells; go_simp) ?_
              go_big_quiet_on
              simp only [Act.put, List.setIfInBounds_toArray, List.set_cons_zero, List.set_cons_succ]
              go_big_quiet_want
              go_big_quiet_op
              go_big_quiet_on
              go_big_quiet_want
              refine q_call (.int .i64 (v : Int)) 59 #[.agg #[.int .i64 q, .int .i64 f, .int .i64 t], .int .i64 (u : Int)] (fun w' hw' => by go_simp) (fun w' hw' => (end_is _ hto).mono fun e w'' ⟨he, hb1⟩ => ⟨he, hw'.out.trans (hb1.mono hw'.out.size)⟩) ?_
              go_big_quiet_on
              simp only [Act.put, List.setIfInBounds_toArray, List.set_cons_zero, List.set_cons_succ]
              go_big_quiet_want
              go_big_quiet_op
              go_big_quiet_on
              go_big_quiet_want
              refine q_val (.bool true) (fun w' hw' => by go_simp) ?_
              go_big_quiet_on
              simp only [Act.put, List.setIfInBounds_toArray, List.set_cons_zero, List.set_cons_succ]
              go_big_quiet_want
              go_big_quiet_op
              go_big_quiet_on
              go_big_quiet_want
              go_big_quiet_op
              go_big_quiet_on
              go_big_quiet_want
              go_big_quiet_op
              go_big_quiet_on
              go_big_quiet_want
              refine q_val (.pointer (some ⟨g, u, none⟩)) (fun w' hw' => by go_simp) ?_
              go_big_quiet_on
              simp only [Act.put, List.setIfInBounds_toArray, List.set_cons_zero, List.set_cons_succ]
              go_big_quiet_want
              refine q_val (.int .i64 zu) (fun w' hw' => by have p0 := (hw'.out.cell (p := ⟨g, u, none⟩) hgb).trans cu; go_simp) ?_
              go_big_quiet_on
              simp only [Act.put, List.setIfInBounds_toArray, List.set_cons_zero, List.set_cons_succ]
              go_big_quiet_want
              refine q_val (.pointer (some ⟨rb, 2, none⟩)) (fun w' hw' => by go_simp) ?_
              go_big_quiet_on
              simp only [Act.put, List.setIfInBounds_toArray, List.set_cons_zero, List.set_cons_succ]
              go_big_quiet_want
              refine q_val (.int .i64 t) (fun w' hw' => by obtain ⟨g0, g1, g2⟩ := (I0.out.stays hw'.out I0.out.lt).cells; go_simp) ?_
              go_big_quiet_on
              simp only [Act.put, List.setIfInBounds_toArray, List.set_cons_zero, List.set_cons_succ]
              go_big_quiet_want
              refine q_val (.int .i64 (zu + t)) (fun w' hw' => by go_simp) ?_
              go_big_quiet_on
              simp only [Act.put, List.setIfInBounds_toArray, List.set_cons_zero, List.set_cons_succ]
              go_big_quiet_want
              go_big_quiet_op
              go_big_quiet_on
              go_big_quiet_want
              go_big_quiet_op
              go_big_quiet_on
              go_big_quiet_want
              refine q_val (.pointer (some ⟨g, v, none⟩)) (fun w' hw' => by go_simp) ?_
              go_big_quiet_on
              simp only [Act.put, List.setIfInBounds_toArray, List.set_cons_zero, List.set_cons_succ]
              go_big_quiet_want
              refine q_val (.int .i64 zv) (fun w' hw' => by have p1 := (hw'.out.cell (p := ⟨g, v, none⟩) hgb).trans cv; go_simp) ?_
              go_big_quiet_on
              simp only [Act.put, List.setIfInBounds_toArray, List.set_cons_zero, List.set_cons_succ]
              go_big_quiet_want
              refine q_val (.bool false) (fun w' hw' => by go_simp) ?_
              go_big_quiet_on
              simp only [Act.put, List.setIfInBounds_toArray, List.set_cons_zero, List.set_cons_succ]
              go_big_quiet_want
              refine q_val (.bool false) (fun w' hw' => by go_simp) ?_
              go_big_quiet_on
              simp only [Act.put, List.setIfInBounds_toArray, List.set_cons_zero, List.set_cons_succ]
              refine wpQuiet_nil ?_
              intro w1 hcw
              have B1 : Hid (Below w.heap.size w w1) := B0.out.trans (hcw.out.mono B0.out.size)
              clear hcw
              clear hto cu cv e2 he1 he2
              go_wp2_with fail
              go_roundw
              case rel => exact ⟨k + 1, by omega, by go_num, HN, B1⟩
              case measure => simp [intOf]; omega
          · have he1 : (oo == (v : Int)) = false := by simp [e1]
            have HN : Hid (∀ i (h : i < ts.length), i < k + 1 → ¬ (endI ts[i] (u : Int) = (v : Int) ∧ fn fl (u : Int) + ts[i].c = fn fl (v : Int))) := fun i h hi => by
              by_cases e : i = k
              · subst e; rw [← HQ.out]; intro hh; rw [HTO.out] at hh; exact e1 hh.1
              · exact hno.out i h (by omega)
            refine quietC (C := fun w' => Hid (Below W0.heap.size W0 w')) (by kernel_rfl) (by kernel_rfl) (Below.refl _ _).drew ?_
            go_big_quiet_want
            refine q_val (.agg #[.int .i64 q, .int .i64 f, .int .i64 t]) (fun w' hw' => by obtain ⟨g0, g1, g2⟩ := (I0.out.stays hw'.out I0.out.lt).cells; go_simp) ?_
            go_big_quiet_on
            simp only [Act.put, List.setIfInBounds_toArray, List.set_cons_zero, List.set_cons_succ]
            go_big_quiet_want
            go_big_quiet_op
            go_big_quiet_on
            go_big_quiet_want
            refine q_call (.int .i64 oo) 59 #[.agg #[.int .i64 q, .int .i64 f, .int .i64 t], .int .i64 (u : Int)] (fun w' hw' => by go_simp) (fun w' hw' => (end_is _ hto).mono fun e w'' ⟨he, hb1⟩ => ⟨he, hw'.out.trans (hb1.mono hw'.out.size)⟩) ?_
            go_big_quiet_on
            simp only [Act.put, List.setIfInBounds_toArray, List.set_cons_zero, List.set_cons_succ]
            go_big_quiet_want
            go_big_quiet_op
            go_big_quiet_on
            go_big_quiet_want
            refine q_val (.bool false) (fun w' hw' => by go_simp) ?_
            go_big_quiet_on
            simp only [Act.put, List.setIfInBounds_toArray, List.set_cons_zero, List.set_cons_succ]
            go_big_quiet_want
            go_big_quiet_op
            go_big_quiet_on
            go_big_quiet_skip
            go_big_quiet_skip
            go_big_quiet_skip
            go_big_quiet_skip
            go_big_quiet_skip
            go_big_quiet_skip
            go_big_quiet_skip
            go_big_quiet_skip
            go_big_quiet_skip
            go_big_quiet_skip
            go_big_quiet_skip
            go_big_quiet_skip
            go_big_quiet_want
            refine q_val (.bool false) (fun w' hw' => by go_simp) ?_
            go_big_quiet_on
            simp only [Act.put, List.setIfInBounds_toArray, List.set_cons_zero, List.set_cons_succ]
            refine wpQuiet_nil ?_
            intro w1 hcw
            have B1 : Hid (Below w.heap.size w w1) := B0.out.trans (hcw.out.mono B0.out.size)
            clear hcw
            clear hto cu cv e1 he1
            go_wp2_with fail
            go_roundw
            case rel => exact ⟨k + 1, by omega, by go_num, HN, B1⟩
            case measure => simp [intOf]; omega
        · have HNL2 : Hid (∀ x, x < u + 1 → ¬ Lead fl ts x v) := fun x hx => by
            by_cases e : x = u
            · subst e; rintro ⟨i, h, h1, h2⟩; exact hno.out i h (by omega) ⟨h1, h2⟩
            · exact hnl.out x (by omega)
          go_wp2_with fail
          go_roundw
          case rel => exact ⟨u + 1, by omega, by go_num, HNL2, hb2⟩
          case measure => simp [intOf]; omega
    · have HA : Hid (ahd fl ts v = -1) := ahd_no (fun x hx => hnl.out x (by have := HNL.out; omega))
      go_wp2_with fail
      simp only [Exit.jump]
      go_ret
      exact ⟨by rw [HA.out]; rfl, hb.out⟩
end Go.Proofs.Ytlfgglmgajcpoaa
