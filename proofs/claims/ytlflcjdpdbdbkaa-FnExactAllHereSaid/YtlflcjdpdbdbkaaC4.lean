/- Slices of ints compared, written over and looked at again. -/
import Derived.Test.YtlflcjdpdbdbkaaT3
import Derived.Deep.RegionHeld3
import Derived.Deep.QuietTactic
import Derived.BigQuiet
namespace Go.Proofs.Ytlflcjdpdbdbkaa
open Go.RowKit Pl
set_option linter.unusedVariables false

theorem ret_intC {a b : Int} (h : a = b) : Ending.returned (.int .i64 a) = .returned (.int .i64 b) := by rw [h]
theorem grown_transC {a b c : World} {row : Option Nat} (h : a.grownBy b row) (k : b.grownBy c row) : a.grownBy c row :=
  ⟨k.os.trans h.os, k.tape.trans h.tape, k.output.trans h.output, Nat.le_trans h.size k.size, fun x hx hne => (k.block x (Nat.lt_of_lt_of_le hx h.size) hne).trans (h.block x hx hne)⟩
theorem grown_bl {a b : World} {row : Option Nat} (h : Below a.heap.size a b) : a.grownBy b row := ⟨h.os, h.tape, h.output, h.size, fun k hk _ => h.block k hk⟩
/-- what markIntS writes. -/
def marks (K n : Nat) : List Int := (List.range n).map fun (j : Nat) => ((K + j : Nat) : Int)
theorem marks_length (K n : Nat) : (marks K n).length = n := by simp [marks]
theorem marks_eq {xs : List Int} {K n : Nat} (hl : xs.length = n) (h : ∀ t, t < n → xs[t]? = some ((K + t : Nat) : Int)) : xs = marks K n := by
  apply List.ext_getElem (by rw [hl, marks_length])
  intro i h1 h2
  have := h i (by omega)
  rw [List.getElem?_eq_getElem h1] at this
  simp at this
  simp [marks, this]

set_option maxRecDepth 100000 in
set_option maxHeartbeats 1000000 in
theorem markI_any (v : Value) (ss : List Int) (B K : Nat) (w : World) (h1 : OwnI w B v ss) (hl : K + ss.length ≤ 4999990) (hK : 0 < K) :
    Calls Try.prog 47 #[v, .int .i64 K] w fun e w' => e = .returned (.int .i64 ((K + ss.length : Nat) : Int)) ∧ OwnI w' B v (marks K ss.length) ∧ w.grownBy w' v.ownBlock := by
  by_cases h0 : ss.length = 0
  · have HN : Hid (OwnI w B v (marks K ss.length)) := by
      have e : ss = [] := List.eq_nil_of_length_eq_zero h0
      subst e
      exact h1
    obtain ⟨ao1, cap1, rfl⟩ := h1.form
    clear h1
    rw [h0] at HN ⊢
    go_enter Try.func47, Try.ntmps47
    go_wp2
    refine wp_loop_rounds 1 ?_
    rw [rounds_succ]
    go_wp2
    go_ret
    exact ⟨rfl, HN.out, World.grownBy.refl _ _⟩
  · obtain ⟨g, cap, rfl, hB, hg, hc, hf⟩ := h1.some (by omega)
    clear hc hf
    have HOWN : Hid (OwnI w B (.slice (some ⟨g, 0, none⟩) ss.length cap) ss) := h1
    clear h1
    go_enter Try.func47, Try.ntmps47
    go_wp2
    go_loopw [1, 5] (fun kk i wr => ∃ (j : Nat) (xs : List Int), j ≤ ss.length ∧ i = .int .i64 j ∧ kk = .int .i64 ((K + j : Nat) : Int) ∧ Hid (xs.length = ss.length) ∧ Hid (∀ t, t < j → xs[t]? = some ((K + t : Nat) : Int)) ∧ OwnI wr B (.slice (some ⟨g, 0, none⟩) ss.length cap) xs ∧ Hid (w.grownBy wr (some g))) (fun _ i _ => ss.length - (intOf i).toNat)
    case atStart => exact ⟨0, ss, by omega, rfl, rfl, rfl, (fun t ht => absurd ht (by omega)), HOWN.out, World.grownBy.refl _ _⟩
    case round =>
      obtain ⟨j, xs, hj, rfl, rfl, hxl, hmk, hown, hgr⟩ := hrel
      by_cases hlt : j < ss.length
      · have hxl' := hxl.out
        have hown' : OwnI wr B (.slice (some ⟨g, 0, none⟩) xs.length cap) xs := by rw [hxl']; exact hown
        have hjx : j < xs.length := by omega
        obtain ⟨x, hce⟩ : ∃ x, wr.cell? ⟨g, j, none⟩ = some (.int .i64 x) := ⟨xs[j], by
          have := World.ownsRow.cellAt hown' j (by omega)
          rw [this]
          simp [hjx]⟩
        have hfz : wr.frozen? ⟨g, j, none⟩ = false := World.ownsRow.frozenAt hown' j
        have HO : Hid _ := hown'.store j (K + j : Nat)
        clear hxl' hown'
        go_wp2
        go_roundw
        case rel =>
          have hs1 := HO.out.1
          rw [hxl.out] at hs1
          exact ⟨j + 1, xs.set j (K + j : Nat), by omega, by go_num, by go_num, (show (xs.set j _).length = ss.length by rw [List.length_set]; exact hxl.out), (fun t ht => by
            by_cases e : t = j
            · subst e; rw [List.getElem?_set_self (by have := hxl.out; omega)]
            · rw [List.getElem?_set_ne (fun h => e h.symm)]; exact hmk.out t (by omega)), hs1, grown_transC hgr.out HO.out.2⟩
        case measure => simp [intOf]; omega
      · obtain rfl : j = ss.length := by omega
        go_wp2
        go_ret
        exact ⟨ret_intC (by omega), (by rw [← marks_eq hxl.out hmk.out, ← hxl.out] at *; rw [hxl.out]; exact hown), hgr.out⟩

theorem Pl.OwnI.keep {w w' : World} {B : Nat} {v : Value} {ss : List Int} (h : OwnI w B v ss) (hk : ∀ k, v.ownBlock = Option.some k → k < w.heap.size → w'.heap[k]? = w.heap[k]?) : OwnI w' B v ss := by
  refine ⟨h.1, ?_⟩
  rcases h.2 with hn | ⟨g, cap, cur, rfl, hbg, hg, rest⟩
  · exact .inl hn
  · exact .inr ⟨g, cap, cur, rfl, hbg, (hk g rfl (Array.getElem?_eq_some_iff.1 hg).1).trans hg, rest⟩
theorem Pl.OwnI.under {w w' : World} {B : Nat} {v : Value} {ss : List Int} (h : OwnI w B v ss) (hb : Below w.heap.size w w') : OwnI w' B v ss := h.keep fun k _ hk => hb.block k hk
theorem Pl.OwnI.kept {w w' : World} {row : Option Nat} {B : Nat} {v : Value} {ss : List Int} (h : OwnI w B v ss) (hg : w.grownBy w' row) (hne : ∀ k, v.ownBlock = Option.some k → Option.some k ≠ row) : OwnI w' B v ss := h.keep fun k hk hl => hg.block k hl (hne k hk)
theorem Pl.OwnI.drewn {w : World} {B : Nat} {v : Value} {ss : List Int} (h : OwnI w B v ss) (m : Nat) : OwnI (w.drewN m) B v ss := h.keep fun k _ _ => by rw [World.heap_drewN]

end Go.Proofs.Ytlflcjdpdbdbkaa
