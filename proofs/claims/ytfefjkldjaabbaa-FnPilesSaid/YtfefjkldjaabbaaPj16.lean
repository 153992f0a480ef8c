/- Joined texts: Wt. -/
import Derived.Test.YtfefjkldjaabbaaPj14
import Derived.Laws.AppendOwnNone
/- Texts that are read put behind a slice of texts of the call's own. -/
namespace Go.Proofs.Ytfefjkldjaabbaa
open Go.RowKit Pl
set_option linter.unusedVariables false

theorem wp_catT {P : Program} {w : World} {o : Oper} {a : Act} {K : Act → World → Prop} {Q : Exit → Act → World → Prop}
    (s x : Operand) (t : TypeId) (ho : o.op = .call { callee := .builtin .append, args := #[s, x], argTypes := #[t, t] })
    (ht : P.underlying t = some (.slice 9)) (hinfo : (P.info? 9).map (fun i => (i.zero, i.size, i.bytes)) = some (some (.string ⟨#[]⟩), 1, 16))
    (B : Nat) (v : Value) (xs : List ByteArray) (hs : a.eval s = v) (hown : OwnS w B v xs)
    (u : Value) (ys : List ByteArray) (hx : a.eval x = u) (hu : RT w u ys) (hn : xs.length + ys.length < 4000000) (hB : B ≤ w.heap.size) (hv : v ≠ .slice none 0 0)
    (h : ∀ v' w', OwnS w' B v' (xs ++ ys) → w.grownBy w' v.ownBlock → K (a.put o.dst v') w') : o.wp P a w K Q := by
  obtain ⟨i0, hi, hz0, hz1, hz2⟩ := info_parts hinfo
  obtain ⟨ao, cap, rfl, hr⟩ := hu
  have hcat : ∀ (ad : Addr), ao = some ad → (∀ j u, (ys.map Value.string)[j]? = some u → w.cell? (ad.add j) = some u) → o.wp P a w K Q := by
    intro ad had hcell
    subst had
    refine wp_append_own w s x t ho B 9 i0 (.string ⟨#[]⟩) 1 16 ht hi hz0 hz1 hz2 rfl (by decide) v xs.length (xs.map Value.string) hs hown ad ys.length cap (ys.map Value.string) hx (by simp) hcell ?_ (by unfold maxLen; omega) (by omega) hB ?_
    · intro u hu'
      obtain ⟨y, _, rfl⟩ := List.mem_map.1 hu'
      rfl
    · intro v' w' hown' hg _
      exact h v' w' (by simpa [OwnS] using hown') hg
  by_cases h0 : 0 < ys.length
  · obtain ⟨b, off, rfl, _, _⟩ := hr 0 h0
    refine hcat ⟨b, off, none⟩ rfl fun j u hj => ?_
    have hjl : j < ys.length := by have := (List.getElem?_eq_some_iff.1 hj).1; simpa using this
    obtain ⟨b', off', e, _, hc⟩ := hr j hjl
    simp at e
    obtain ⟨rfl, rfl⟩ := e
    rw [Addr.add_lit, hc]
    simp [hjl] at hj
    rw [hj]
  · have e : ys = [] := List.eq_nil_of_length_eq_zero (by omega)
    subst e
    cases ao with
    | some ad => exact hcat ad rfl fun j u hj => by simp at hj
    | none =>
      have hc0 := h v w (by rw [List.append_nil]; exact hown) (World.grownBy.refl _ _)
      rcases hown.2 with ⟨hv0, _⟩ | ⟨g, cp, cur, hvv, _⟩
      · exact absurd hv0 hv
      · have hs' : Sl w 9 1 B v xs.length (xs.map Value.string) := Sl.ofOwn hown
        have hsrc : Src P i0.size t (.slice none 0 cap) 0 [] w := Src.ofNil _ ht cap
        subst hvv
        have hroom : xs.length + 0 ≤ cp := by
          rcases hs'.2 with ⟨h1, _⟩ | ⟨g', off', cap', cur', h1, _, _, hle, _⟩
          · cases h1
          · simp at h1; omega
        unfold Oper.wp execOp
        have hr := run_append_room_src (P := P) w t t o.type 9 i0 ht hi g 0 xs.length cp (.slice none 0 cap) 0 [] hsrc hroom (fun j hj => by simp at hj) (fun j hj => by simp at hj)
        simp only [ho, resolve, invoke, builtin, Sem.run_bind, Sem.run_pure, Result.andThen_ok, List.map_toArray, List.map_cons, List.map_nil, hs, hx, List.length_nil, hr]
        exact hc0

theorem step_catT {P : Program} {w W : World} {ops : Array Oper} {o : Oper} {a : Act} {K : Act → World → Prop} {Q : Exit → Act → World → Prop} {E : Prop}
    (hg : o.guard = none) (s x : Operand) (t : TypeId) (ho : o.op = .call { callee := .builtin .append, args := #[s, x], argTypes := #[t, t] })
    (ht : P.underlying t = some (.slice 9)) (hinfo : (P.info? 9).map (fun i => (i.zero, i.size, i.bytes)) = some (some (.string ⟨#[]⟩), 1, 16))
    (B : Nat) (v : Value) (xs : List ByteArray) (hs : a.eval s = v) (hW : W = w) (hown : OwnS w B v xs)
    (u : Value) (ys : List ByteArray) (hx : a.eval x = u) (hu : RT w u ys) (hn : xs.length + ys.length < 4000000) (hB : B ≤ w.heap.size) (hv : v ≠ .slice none 0 0)
    (h : ∀ v' w', OwnS w' B v' (xs ++ ys) → w.grownBy w' v.ownBlock → K (a.put o.dst v') w') :
    if Region.wanted o (yielded ops a.tmps) = true then Oper.wp P o a W K Q else E := by
  have hw : Region.wanted o (yielded ops a.tmps) = true := by simp [Region.wanted, hg]
  rw [if_pos hw, hW]
  exact wp_catT s x t ho ht hinfo B v xs hs hown u ys hx hu hn hB hv h
end Go.Proofs.Ytfefjkldjaabbaa

