/- Contracts over lists that are read; what is appended is read. -/
import Derived.Test.YthdjkkiegecgnaaMt
import Derived.Test.YthdjkkiegecgnaaA3
import Derived.Test.YthdjkkiegecgnaaRh
import Derived.Test.YthdjkkiegecgnaaCa
namespace Go.Proofs.Ythdjkkiegecgnaa
open Go.RowKit Pl
set_option linter.unusedVariables false

theorem same_below {w w' : World} (h : w' = w) : Below w.heap.size w w' := by subst h; exact Below.refl _ _
section
variable {w : World} {v : Value}
theorem ringOk_r (i : Int) (ms : List Int) (h : Hid (RI w v ms)) (hl : ms.length ≤ 1048576) : Calls Try.prog 68 #[.agg #[.int .i64 i, v]] w fun e w' => e = .returned (.bool (ringB i ms)) ∧ Below w.heap.size w w' := by
  obtain ⟨ao, cap, rfl, hx⟩ := h.out; exact ringOk_any i ao cap ms w hx hl
theorem spRingOk_r (i : Int) (ms : List Int) (h : Hid (RI w v ms)) (hl : ms.length ≤ 1048576) : Calls Try.prog 78 #[.agg #[.int .i64 i, v]] w fun e w' => e = .returned (.bool (ringB i ms)) ∧ Below w.heap.size w w' := by
  obtain ⟨ao, cap, rfl, hx⟩ := h.out; exact spRingOk_any i ao cap ms w hx hl
theorem contains_r (ms : List Int) (d : Int) (h : Hid (RI w v ms)) (hl : ms.length ≤ 1048576) : Calls Try.prog 121 #[v, .int .i64 d] w fun e w' => e = .returned (.bool (inB ms d)) ∧ Below w.heap.size w w' := by
  obtain ⟨ao, cap, rfl, hx⟩ := h.out; exact (contains_any ao cap ms d w hx hl).mono fun e w' ⟨a, b⟩ => ⟨a, same_below b⟩
theorem lin_r (ms : List Int) (d : Int) (h : Hid (RI w v ms)) (hl : ms.length ≤ 1048576) : Calls Try.prog 80 #[v, .int .i64 d] w fun e w' => e = .returned (.bool (inB ms d)) ∧ Below w.heap.size w w' := by
  obtain ⟨ao, cap, rfl, hx⟩ := h.out; exact (lin_any ao cap ms d w hx hl).mono fun e w' ⟨a, b⟩ => ⟨a, same_below b⟩
theorem tokenOk_r (c r q a b : Int) (ws : List Int) (h : Hid (RI w v ws)) (hl : ws.length ≤ 1048576) : Calls Try.prog 62 #[.agg #[.int .i64 c, .int .i64 r, .int .i64 q, .int .i64 a, .int .i64 b, v]] w fun e w' => e = .returned (.bool (tkB c r q a b ws)) ∧ Below w.heap.size w w' := by
  obtain ⟨ao, cap, rfl, hx⟩ := h.out; exact tokenOk_any c r q a b ao cap ws w hx hl
theorem spTokenOk_r (c r q a b : Int) (ws : List Int) (h : Hid (RI w v ws)) (hl : ws.length ≤ 1048576) : Calls Try.prog 120 #[.agg #[.int .i64 c, .int .i64 r, .int .i64 q, .int .i64 a, .int .i64 b, v]] w fun e w' => e = .returned (.bool (tkB c r q a b ws)) ∧ Below w.heap.size w w' := by
  obtain ⟨ao, cap, rfl, hx⟩ := h.out; exact spTokenOk_any c r q a b ao cap ws w hx hl
theorem itemsOk_r (ts : List It) (h : Hid (RIt w v ts)) (hl : ts.length ≤ 1048576) : Calls Try.prog 58 #[v] w fun e w' => e = .returned (.bool (iGo 0 ts)) ∧ Below w.heap.size w w' := by
  obtain ⟨ao, cap, rfl, hx⟩ := h.out; exact itemsOk_any ao cap ts w hx hl
theorem spItemsOk_r (ts : List It) (h : Hid (RIt w v ts)) (hl : ts.length ≤ 1048576) : Calls Try.prog 117 #[v] w fun e w' => e = .returned (.bool (iGo 0 ts)) ∧ Below w.heap.size w w' := by
  obtain ⟨ao, cap, rfl, hx⟩ := h.out; exact spItemsOk_any ao cap ts w hx hl
theorem aru_r (ts : List It) (h : Hid (RIt w v ts)) (hl : ts.length ≤ 1048576) : Calls Try.prog 75 #[v] w fun e w' => e = .returned (.int .i64 (aruP ts : Nat)) ∧ Below w.heap.size w w' := by
  obtain ⟨ao, cap, rfl, hx⟩ := h.out; exact aru_any ao cap ts w hx hl
theorem aruOf_r (ts : List It) (h : Hid (RIt w v ts)) (hl : ts.length ≤ 1048576) : Calls Try.prog 56 #[v] w fun e w' => e = .returned (.int .i64 (aruP ts : Nat)) ∧ Below w.heap.size w w' := by
  obtain ⟨ao, cap, rfl, hx⟩ := h.out; exact aruOf_any ao cap ts w hx hl
theorem spAru_r (ts : List It) (h : Hid (RIt w v ts)) (hl : ts.length ≤ 1048576) : Calls Try.prog 54 #[v] w fun e w' => e = .returned (.int .i64 (aruP ts : Nat)) ∧ Below w.heap.size w w' := by
  obtain ⟨ao, cap, rfl, hx⟩ := h.out; exact spAru_any ao cap ts w hx hl
theorem within_b (n a b : Int) (w : World) : Calls Try.prog 60 #[.int .i64 n, .int .i64 a, .int .i64 b] w fun e w' => e = .returned (.bool (decide (a ≤ n ∧ n ≤ b))) ∧ Below w.heap.size w w' := (within_any n a b w).mono fun e w' ⟨x, y⟩ => ⟨x, same_below y⟩
theorem in_b (n a b : Int) (w : World) : Calls Try.prog 79 #[.int .i64 n, .int .i64 a, .int .i64 b] w fun e w' => e = .returned (.bool (decide (a ≤ n ∧ n ≤ b))) ∧ Below w.heap.size w w' := (in_any n a b w).mono fun e w' ⟨x, y⟩ => ⟨x, same_below y⟩
end

theorem wp_catR {P : Program} {w : World} {o : Oper} {a : Act} {K : Act → World → Prop} {Q : Exit → Act → World → Prop}
    (s x : Operand) (t : TypeId) (ho : o.op = .call { callee := .builtin .append, args := #[s, x], argTypes := #[t, t] })
    (ht : P.underlying t = some (.slice 3)) (hinfo : (P.info? 3).map (fun i => (i.zero, i.size, i.bytes)) = some (some (.int .i64 0), 1, 8))
    (B : Nat) (v : Value) (xs : List Int) (hs : a.eval s = v) (hown : OwnI w B v xs)
    (u : Value) (ys : List Int) (hx : a.eval x = u) (hu : RI w u ys) (hn : xs.length + ys.length < 4000000) (hB : B ≤ w.heap.size) (hv : v ≠ .slice none 0 0)
    (h : ∀ v' w', OwnI w' B v' (xs ++ ys) → w.grownBy w' v.ownBlock → K (a.put o.dst v') w') : o.wp P a w K Q := by
  obtain ⟨i0, hi, hz0, hz1, hz2⟩ := info_parts hinfo
  obtain ⟨ao, cap, rfl, hr⟩ := hu
  have hcat : ∀ (ad : Addr), ao = some ad → (∀ j u, (ys.map (Value.int .i64))[j]? = some u → w.cell? (ad.add j) = some u) → o.wp P a w K Q := by
    intro ad had hcell
    subst had
    refine wp_append_own w s x t ho B 3 i0 (.int .i64 0) 1 8 ht hi hz0 hz1 hz2 rfl (by decide) v xs.length (xs.map (Value.int .i64)) hs hown ad ys.length cap (ys.map (Value.int .i64)) hx (by simp) hcell ?_ (by unfold maxLen; omega) (by omega) hB ?_
    · intro u hu'
      obtain ⟨y, _, rfl⟩ := List.mem_map.1 hu'
      rfl
    · intro v' w' hown' hg _
      exact h v' w' (by simpa [OwnI] using hown') hg
  by_cases h0 : 0 < ys.length
  · obtain ⟨b, off, rfl, _, _⟩ := hr 0 h0
    refine hcat ⟨b, off, none⟩ rfl fun j u hj => ?_
    have hjl : j < ys.length := by have := (List.getElem?_eq_some_iff.1 hj).1; simpa using this
    obtain ⟨b', off', e, _, hc⟩ := hr j hjl
    simp at e
    obtain ⟨rfl, rfl⟩ := e
    rw [Addr.add_lit, hc]
    simp [hjl] at hj
    rw [hj]
  · have e : ys = [] := List.eq_nil_of_length_eq_zero (by omega)
    subst e
    cases ao with
    | some ad => exact hcat ad rfl fun j u hj => by simp at hj
    | none =>
      have hc0 := h v w (by rw [List.append_nil]; exact hown) (World.grownBy.refl _ _)
      rcases hown.2 with ⟨hv0, _⟩ | ⟨g, cp, cur, hvv, _⟩
      · exact absurd hv0 hv
      · have hs' : Sl w 3 1 B v xs.length (xs.map (Value.int .i64)) := Sl.ofOwn hown
        have hsrc : Src P i0.size t (.slice none 0 cap) 0 [] w := Src.ofNil _ ht cap
        subst hvv
        have hroom : xs.length + 0 ≤ cp := by
          rcases hs'.2 with ⟨h1, _⟩ | ⟨g', off', cap', cur', h1, _, _, hle, _⟩
          · cases h1
          · simp at h1; omega
        unfold Oper.wp execOp
        have hr := run_append_room_src (P := P) w t t o.type 3 i0 ht hi g 0 xs.length cp (.slice none 0 cap) 0 [] hsrc hroom (fun j hj => by simp at hj) (fun j hj => by simp at hj)
        simp only [ho, resolve, invoke, builtin, Sem.run_bind, Sem.run_pure, Result.andThen_ok, List.map_toArray, List.map_cons, List.map_nil, hs, hx, List.length_nil, hr]
        exact hc0
theorem wpList_catR {P : Program} {w : World} {ops : Array Oper} {rest : List Oper} {o : Oper} {a : Act} {Q : Exit → Act → World → Prop}
    (hgd : o.guard = none) (s x : Operand) (t : TypeId) (ho : o.op = .call { callee := .builtin .append, args := #[s, x], argTypes := #[t, t] })
    (ht : P.underlying t = some (.slice 3)) (hinfo : (P.info? 3).map (fun i => (i.zero, i.size, i.bytes)) = some (some (.int .i64 0), 1, 8))
    (B : Nat) (v : Value) (xs : List Int) (hs : a.eval s = v) (hown : OwnI w B v xs)
    (u : Value) (ys : List Int) (hx : a.eval x = u) (hu : RI w u ys) (hn : xs.length + ys.length < 4000000) (hB : B ≤ w.heap.size) (hv : v ≠ .slice none 0 0)
    (h : ∀ v' w', OwnI w' B v' (xs ++ ys) → w.grownBy w' v.ownBlock → wpList P ops Q rest (a.put o.dst v') w') :
    wpList P ops Q (o :: rest) a w :=
  wpList_plain hgd fun _ hK => wp_catR s x t ho ht hinfo B v xs hs hown u ys hx hu hn hB hv fun v' w' h1 h2 => hK _ _ (h v' w' h1 h2)
theorem step_catR {P : Program} {w : World} {ops : Array Oper} {o : Oper} {a : Act} {K : Act → World → Prop} {Q : Exit → Act → World → Prop} {E : Prop}
    (hgd : o.guard = none) (s x : Operand) (t : TypeId) (ho : o.op = .call { callee := .builtin .append, args := #[s, x], argTypes := #[t, t] })
    (ht : P.underlying t = some (.slice 3)) (hinfo : (P.info? 3).map (fun i => (i.zero, i.size, i.bytes)) = some (some (.int .i64 0), 1, 8))
    (B : Nat) (v : Value) (xs : List Int) (hs : a.eval s = v) (hown : OwnI w B v xs)
    (u : Value) (ys : List Int) (hx : a.eval x = u) (hu : RI w u ys) (hn : xs.length + ys.length < 4000000) (hB : B ≤ w.heap.size) (hv : v ≠ .slice none 0 0)
    (h : ∀ v' w', OwnI w' B v' (xs ++ ys) → w.grownBy w' v.ownBlock → K (a.put o.dst v') w') :
    if Region.wanted o (yielded ops a.tmps) = true then Oper.wp P o a w K Q else E := by
  rw [if_pos (by simp [Region.wanted, hgd])]
  exact wp_catR s x t ho ht hinfo B v xs hs hown u ys hx hu hn hB hv h
end Go.Proofs.Ythdjkkiegecgnaa
