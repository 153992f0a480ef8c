/- The law on drawn rings. -/
import Derived.Test.YtnhnpneedcjcfaaRd
import Derived.Test.YtnhnpneedcjcfaaRx
import Derived.Test.YtnhnpneedcjcfaaFt
import Derived.Test.YtnhnpneedcjcfaaLb
namespace Go.Proofs.Ytnhnpneedcjcfaa
open Go.RowKit Pl
set_option linter.unusedVariables false

theorem code_upR {w : World} {B B' n : Nat} {ao : Option Addr} (h : CodeAt w B ao n) (hB : B ≤ B') : Hid (CodeAt w B' ao n) := by
  intro i hi
  obtain ⟨b, off, z, h1, h2, h3⟩ := h i hi
  exact ⟨b, off, z, h1, Nat.lt_of_lt_of_le h2 hB, h3⟩
theorem own_laterR {w w' : World} {B : Nat} {v : Value} {ss : List Int} (h : OwnI w B v ss) (hb : Below w.heap.size w w') : OwnI w' B v ss := h.stays hb (fun k hk => (h.lt k hk).2)

set_option maxRecDepth 100000 in
set_option maxHeartbeats 2000000 in
theorem drawRing_any (w : World) (n cap : Nat) (ao : Option Addr) (hn : n ≤ 1048576) (hk : Hid (CodeAt w w.heap.size ao n)) :
    Calls Try.prog 13 #[.slice ao n cap] w fun e w' => ∃ (i : Int) (ms : List Int) (v : Value), Hid (ringB i ms = true) ∧ Hid (OwnI w' w.heap.size v ms) ∧ e = .returned (.agg #[.int .i64 i, v]) ∧ Below w.heap.size w w' := by
  have HB0 : Hid (Below w.heap.size w (w.alloc (.cells #[.int .i64 0, .slice none 0 0] 26))) := (Below.refl _ _).alloc (Nat.le_refl _) _
  have R0 : Hid (RgAt (w.alloc (.cells #[.int .i64 0, .slice none 0 0] 26)) w.heap.size 0 (.slice none 0 0)) := heap_alloc_new w _
  go_enter Try.func13, Try.ntmps13
  go_wp2_with fail
  generalize w.alloc (.cells #[.int .i64 0, .slice none 0 0] 26) = W0 at *
  have hW0 := R0.out.lt
  have K0 : Hid (CodeAt W0 w.heap.size ao n) := hk.out.stays HB0.out (Nat.le_refl _)
  refine (new_any W0 n cap ao hn (code_upR K0.out (Nat.le_of_lt hW0))).mono ?_
  rintro e w1 ⟨rfl, hc1, hb1, hs1⟩
  have R1 : Hid (RgAt w1 w.heap.size 0 (.slice none 0 0)) := R0.out.stays hb1 hW0
  have D1 : Hid (Drw w1 w1 w.heap.size W0.heap.size ao n cap) := Drw.start hc1.out (K0.out.stays hb1 (Nat.le_of_lt hW0))
  have B1 : Hid (Below w.heap.size w w1) := HB0.out.trans (hb1.mono HB0.out.size)
  clear hc1 hb1 R0 K0 HB0 hk
  go_wp2_with fail
  generalize W0.heap.size = gc at *
  refine (ring_any w1 w1 w.heap.size gc n cap ao hn (by omega) D1).mono ?_
  rintro e w2 ⟨⟨i, ms, v, hr, hv, rfl⟩, hd2⟩
  have R2 : Hid (RgAt w2 w.heap.size 0 (.slice none 0 0)) := R1.out.keep hd2.out.2.2 (by omega)
  have B2 : Hid (Below w.heap.size w w2) := B1.out.trans (hd2.out.2.2.below (by omega) B1.out.size)
  have V2 : Hid (OwnI w2 w.heap.size v ms) := hv.down B1.out.size
  have HRG : Hid (ringB i ms = true) := hr
  obtain ⟨aov, capv, hvf⟩ := hv.form
  subst hvf
  clear hd2 D1 R1 B1 hv hr
  obtain ⟨c0, c1⟩ := R2.out.cells
  have z0 := R2.out.frozen 0
  have z1 := R2.out.frozen 1
  have G9 : Hid _ := And.intro (R2.out.agg i (.slice aov ms.length capv)) (And.intro (own_ring V2.out R2.out (ring_turn i (.slice aov ms.length capv))) (B2.out.trans ((ring_turn (w := w2) (g := w.heap.size) i (.slice aov ms.length capv)).below (Nat.le_refl _))))
  go_wp2_with fail
  obtain ⟨R9, O9, B9⟩ := G9.out
  clear G9
  generalize ((w2.setCell ⟨w.heap.size, 0, none⟩ (.int .i64 i)).setCell ⟨w.heap.size, 1, none⟩ (.slice aov ms.length capv)) = W9 at *
  obtain ⟨q0, q1⟩ := R9.cells
  refine bodyPost_ret (v := .agg #[.int .i64 i, .slice aov ms.length capv]) (by simp [results, Try.results13, go_sem, q0, q1]) rfl ?_
  exact ⟨i, ms, _, HRG, O9, rfl, B9⟩

/-- what an ascending list is. -/
theorem wGo_pw : ∀ (ms : List Int) (l q : Int), wGo l q ms = true → (∀ x ∈ ms, l < x ∧ x ≤ q) ∧ ms.Pairwise (· < ·) := by
  intro ms
  induction ms with
  | nil => intro l q _; exact ⟨by simp, List.Pairwise.nil⟩
  | cons x xs ih =>
    intro l q h
    by_cases hx : l < x ∧ x ≤ q
    · rw [wGo_step hx.1 hx.2] at h
      obtain ⟨h1, h2⟩ := ih x q h
      refine ⟨fun y hy => ?_, List.Pairwise.cons (fun y hy => (h1 y hy).1) h2⟩
      rcases List.mem_cons.1 hy with rfl | hy
      · exact hx
      · have := h1 y hy; omega
    · rw [wGo_bad (by omega)] at h; cases h
theorem ring_len {i : Int} {ms : List Int} (h : ringB i ms = true) : 0 < ms.length ∧ ms.length ≤ 5 ∧ (1 ≤ i ∧ i ≤ 9) ∧ wGo 0 5 ms = true := by
  unfold ringB at h
  simp only [Bool.and_eq_true, decide_eq_true_eq] at h
  have := wGo_len ms 0 h.2.2 (by omega)
  exact ⟨h.2.1, by omega, h.1, h.2.2⟩
theorem ring_first {i : Int} {ms : List Int} (h : ringB i ms = true) {k : Nat} (hk : k < ms.length) : FirstAt ms ms[k] k := by
  refine ⟨hk, rfl, fun j hj e => ?_⟩
  have h2 := (wGo_pw ms 0 5 (ring_len h).2.2.2).2
  have := List.pairwise_iff_getElem.1 h2 j k (by omega) hk hj
  omega
theorem ring_next {i : Int} {ms : List Int} (h : ringB i ms = true) {k : Nat} (hk : k < ms.length) : nextP i ms ms[k] = ms[(k + 1) % ms.length]'(Nat.mod_lt _ (by omega)) := nextP_at (ring_first h hk) h
theorem ring_nine {i : Int} {ms : List Int} (h : ringB i ms = true) : nextP i ms 9 = 0 := by
  refine nextP_none fun j hj _ e => ?_
  have := ((wGo_pw ms 0 5 (ring_len h).2.2.2).1 ms[j] (List.getElem_mem hj)).2
  omega
theorem first_tok {i : Int} {ms : List Int} (h : ringB i ms = true) : tkB i 1 0 0 0 [] = true := by
  have := (ring_len h).2.2.1
  unfold tkB
  rw [decide_eq_true this]
  rfl
end Go.Proofs.Ytnhnpneedcjcfaa
