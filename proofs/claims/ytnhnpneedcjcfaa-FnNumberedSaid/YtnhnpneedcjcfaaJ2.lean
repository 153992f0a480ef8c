/- The walk over the specification's ItemsOk. -/
import Derived.Test.YtnhnpneedcjcfaaJ1
import Derived.Deep.RegionWith
import Derived.BigQuiet
namespace Go.Proofs.Ytnhnpneedcjcfaa
open Go.RowKit Pl
set_option linter.unusedVariables false

theorem quietC {P : Program} {C : World → Prop} {id : Nat} {Q : Exit → Act → World → Prop} {a : Act} {w : World} {l : List Oper} (hm : P.follows .mixedOrders = true) (hB : Region.lexB .any l.toArray = true) (hC : C { w with drawn := w.drawn + 1 })
    (h : wpQuiet P l.toArray C (fun a' => ∀ w', C w' → Q .normal a' w') l a) : (Code.region id l.toArray true).wp P Q a w :=
  wp_region_quiet (C := C) hm hB hC (by simpa using h)
theorem q_val {P : Program} {C : World → Prop} {o : Oper} {a : Act} {K : Act → Prop} (v : Value) (h : ∀ w, C w → (execOp a.eval o).run P w = .ok (.value v) w) (hk : K (a.put o.dst v)) : o.quiet P a C K :=
  ⟨v, fun w hw => by unfold Oper.quietAt; rw [h w hw]; exact ⟨rfl, rfl⟩, hk⟩
theorem q_call {P : Program} {C : World → Prop} {o : Oper} {a : Act} {K : Act → Prop} (v : Value) (f : FuncId) (args : Array Value) (h : ∀ w, C w → (execOp a.eval o).run P w = .ok (.enter f args) w) (hc : ∀ w, C w → Calls P f args w fun e w' => e = .returned v ∧ C w') (hk : K (a.put o.dst v)) : o.quiet P a C K :=
  ⟨v, fun w hw => by unfold Oper.quietAt; rw [h w hw]; exact ⟨rfl, hc w hw⟩, hk⟩

theorem cells4_step {W w w' : World} {b o0 o1 o2 o3 : Nat} {v0 v1 v2 v3 : Value} (hbb : b < W.heap.size) (h : (w.cell? ⟨b, o0, none⟩ = some v0 ∧ w.cell? ⟨b, o1, none⟩ = some v1 ∧ w.cell? ⟨b, o2, none⟩ = some v2 ∧ w.cell? ⟨b, o3, none⟩ = some v3) ∧ Hid (Below W.heap.size W w)) (hb : Below w.heap.size w w') :
    (w'.cell? ⟨b, o0, none⟩ = some v0 ∧ w'.cell? ⟨b, o1, none⟩ = some v1 ∧ w'.cell? ⟨b, o2, none⟩ = some v2 ∧ w'.cell? ⟨b, o3, none⟩ = some v3) ∧ Hid (Below W.heap.size W w') := by
  obtain ⟨⟨h0, h1, h2, h3⟩, h4⟩ := h
  have hlt : b < w.heap.size := Nat.lt_of_lt_of_le hbb h4.out.size
  exact ⟨⟨(hb.cell (p := ⟨b, o0, none⟩) hlt).trans h0, (hb.cell (p := ⟨b, o1, none⟩) hlt).trans h1, (hb.cell (p := ⟨b, o2, none⟩) hlt).trans h2, (hb.cell (p := ⟨b, o3, none⟩) hlt).trans h3⟩, h4.out.trans (hb.mono h4.out.size)⟩

end Go.Proofs.Ytnhnpneedcjcfaa
