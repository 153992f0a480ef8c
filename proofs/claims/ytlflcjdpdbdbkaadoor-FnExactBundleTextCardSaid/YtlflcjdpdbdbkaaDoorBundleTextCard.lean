/- At every bundle the law on BundleText answers true: the program's BundleText answers as the specification's, and writes into no argument; the table that the program reads is tied to its text. -/
import Derived.Test.YtlflcjdpdbdbkaaDoorCards
import Derived.Test.YtlflcjdpdbdbkaaDoorTie
import Derived.Test.YtlflcjdpdbdbkaaDoorLbt
import Derived.Test.YtlflcjdpdbdbkaaDoorOp
import Derived.WalkKit
import Derived.ProofKit
import Derived.OpenShut
import Derived.Below
import Derived.OpenVars
import Derived.Deep.DeepHandedRow
import Derived.Lib.LaidTab
import Derived.Lib.SmallJoins
import Derived.Deep.Slices
import Derived.Deep.Fields
import Derived.Stop.LaidErr
namespace Go.Proofs.YtlflcjdpdbdbkaaDoor.fnExactBundleText
open Go.ChangeShapes Go.WideShapes Go.ChangeAt Go.RowKit Go.Deep Pl
open Go.ChangeMaps (open_string shut_string)
open Go.Joins (slice_form open_agg4)
set_option linter.unusedVariables false

theorem own : ownKnob Tryd.prog.godebug = none := by kernel_rfl
theorem gTabType : (Tryd.prog.globals[0]?).map (·.type) = some 115 := by kernel_rfl
theorem cellsA : Tryd.prog.cellsOf 115 = 16 := by kernel_rfl
theorem cellsB : Tryd.prog.cellsOf 84 = 1 := by kernel_rfl
theorem cellsL : Tryd.prog.cellsOf 37 = 4 := by kernel_rfl
theorem cells3 : Tryd.prog.cellsOf 3 = 1 := by kernel_rfl
theorem laidOut : laidOutB Tryd.prog = true := by kernel_rfl

theorem table {W : World} (h : laidMetH Tryd.prog Rows.fnExactBundleTextRow.laid W) : TabV W := by
  have h1 : laidMet Tryd.prog Rows.fnExactBundleTextRow.laid W := h
  have h2 : laidMet Tryd.prog [("loop.example/g00183/impl.halvedFour", Lib.tabData .u32 (tab4.map fun n : Nat => (n : Int)))] W := h1
  exact Lib.tabIs_of_head (rest := []) gTab gTabType Tryd.underlying115 Tryd.underlying84 cellsB cellsA h2

set_option maxRecDepth 100000 in
theorem contract (H : Type) (enc : TypeId × Value → H) (W : World) (base : Nat) (args : Array Value) (ds gs : List (DataW H)) (before : List MemPlace)
    (hval : ∀ (j : Nat) t v, Tryd.f4.params[j]? = some t → args[j]? = some v → Value.okWide Tryd.prog W .any base t v)
    (hW : DataW.Whole enc Tryd.prog Tryd.f4.params.toList Rows.fnExactBundleTextSpec.vars false W args.toList ds gs before) (hL : laidMetH Tryd.prog Rows.fnExactBundleTextRow.laid W) :
    Calls Tryd.prog 4 args W fun e W' => ∃ v, e = .returned v ∧ Rows.fnExactBundleTextSpec.post enc Tryd.prog Tryd.f4 false true false false W args v W' := by
  have hW' := hW
  obtain ⟨p, q, hA0, hV0, rfl, hfz, hnd⟩ := hW
  have hA : DataW.TrodAll enc Tryd.prog W 0 (fun _ => true) true Tryd.f4.params.toList args.toList ds p := hA0
  have hV : DataW.TrodVars enc Tryd.prog W (fun _ => true) ["loop.example/g00183/impl.halvedFour"] gs q := hV0
  rw [Tryd.params4] at hA hval
  obtain ⟨v0, vs0, d0, ds0, p0, q0, hargs0, rfl, rfl, h0, r0⟩ := trodAll_cons hA
  obtain ⟨hn, rfl, rfl⟩ := trodAll_nil r0
  obtain rfl : args = #[v0] := by cases args; simp_all
  have h0k := h0
  have hlt : ∀ x ∈ p0, x.block < W.heap.size := fun x hx => by simpa using hW'.lt x (by simp [hx])
  have hargs : ∀ (W' : World), Below W.heap.size W W' → DataW.Trod enc Tryd.prog W' 0 (fun b => decide (b < W.heap.size)) true 37 v0 d0 p0 :=
    fun W' hn => Below.trod laidOut (by kernel_rfl) (of_decide_eq_true (by kernel_rfl)) h0k hn hlt
  obtain ⟨c0, c1, c2, c3, y0, y1, y2, y3, k, rfl, _, _, hy0, hy1, hy2, hy3⟩ := open_agg4 Tryd.underlying37 (by kernel_rfl) cellsL (hval 0 37 v0 rfl rfl) h0
  obtain ⟨x0, e0, ey0, _⟩ := DataW.trod_int Tryd.underlying3 hy0
  obtain ⟨x1, e1, ey1, _⟩ := DataW.trod_int Tryd.underlying3 hy1
  obtain ⟨x2, e2, ey2, _⟩ := DataW.trod_int Tryd.underlying3 hy2
  obtain ⟨ao, len, cap, e3⟩ := slice_form Tryd.underlying35 hy3
  simp at e0 e1 e2 e3
  subst e0 e1 e2 e3
  obtain ⟨ts, htl, htx, hlm, hts⟩ := open_items Tryd.underlying35 Tryd.underlying98 (by kernel_rfl) cellsI Tryd.underlying3 Tryd.underlying3 Tryd.underlying3 Tryd.underlying9 hy3
  subst htl
  have hlm' : ts.length ≤ 9223372036854775807 := by unfold maxLen at hlm; omega
  have hts' : ∀ y ∈ ts, y.2.2.2.size ≤ 9223372036854775807 := fun y hy => by have := hts y hy; unfold maxLen at this; omega
  clear hA0 hV0
  have hvars : ∀ W', Below W.heap.size W W' → DataW.TrodVars enc Tryd.prog W' (fun b => decide (b < W.heap.size)) ["loop.example/g00183/impl.halvedFour"] gs q := fun W' hb => Below.trodVars laidOut hb (by kernel_rfl) hV
  obtain ⟨g, t, cs, fuel, d, p', rfl, _, _, _, _, _⟩ := trodVars_one hV
  have htab : Hid (Tab W) := (table hL).tab
  refine (lawBundleText x0 x1 x2 ⟨ao, ts.length, cap⟩ ts W (show Hid (RIt W ⟨ao, ts.length, cap⟩ ts) from ⟨rfl, htx⟩) hlm' hts' htab).mono fun e W' ⟨he, hg⟩ => ?_
  subst he
  exact ⟨_, rfl, _, _, _, [], _, q, hW', trodAll_mk1 (shut_bool Tryd.underlying4 _), trodAll_mk1 (hargs W' hg), hvars W' hg, hg.frame _, fun h => by cases h⟩

/-- what a listed table's cells hold. -/
def cellsOf : DataW Unit → Array Value
  | .agg l => (l.map fun | .lit (.int k z) => Value.int k z | _ => undef).toArray
  | _ => #[]
/-- a world in which the table holds what its initialiser lays. -/
def laidIn (w : World) : World :=
  { w with heap := w.heap.modify 0 fun
      | .cells _ t f => .cells (cellsOf Rows.laid_loop_example_g00183_impl_halvedFour) t f
      | o => o }

set_option maxRecDepth 100000 in
theorem laid_met (os : Os) : laidMet Tryd.prog Rows.fnExactBundleTextRow.laid ((laidIn (World.holding Tryd.prog os ⟨#[], #[], []⟩)).forCall (fun _ _ => 0) ⟨#[], #[.agg #[.int .i64 0, .int .i64 0, .int .i64 0, .slice none 0 0]], []⟩).memory :=
  laidMet_of_run' 8 (by kernel_rfl) (by kernel_rfl)
set_option maxRecDepth 100000 in
theorem reads (os : Os) {H : Type} (enc : TypeId × Value → H) : ∃ places, DataW.whole enc Tryd.prog ((laidIn (World.holding Tryd.prog os ⟨#[], #[], []⟩)).forCall (fun _ _ => 0) ⟨#[], #[.agg #[.int .i64 0, .int .i64 0, .int .i64 0, .slice none 0 0]], []⟩).memory Tryd.f4.params.toList Rows.fnExactBundleTextSpec.vars false (#[.agg #[.int .i64 0, .int .i64 0, .int .i64 0, .slice none 0 0]] : Array Value).toList 8 = some ([.agg [.lit (.int .i64 0), .lit (.int .i64 0), .lit (.int .i64 0), .nil]], [Lib.tabData .u32 (tab4.map fun n : Nat => (n : Int))], places) :=
  ⟨MemPlace.row ⟨0, 0, Option.none⟩ 16, by kernel_rfl⟩

set_option maxRecDepth 100000 in
theorem lifted (os : Os) (started : os.Started) (H : Type) (enc : TypeId × Value → H) (F : Stop.Interp) :
    ReturnsInHanded {} Tryd.checked os 4 .any ((OpenSpec.ofChange Rows.fnExactBundleTextSpec).preRow enc Tryd.prog Tryd.f4 Rows.fnExactBundleTextRow.domain false Rows.fnExactBundleTextRow.laid) (((OpenSpec.ofChange Rows.fnExactBundleTextSpec).at F).post enc Tryd.prog Tryd.f4 false true false false) := by
  obtain ⟨places, hx⟩ := reads os enc
  refine returnsInHanded_of_row (C := Tryd.checked) (s := OpenSpec.ofChange Rows.fnExactBundleTextSpec) own started (by kernel_rfl) Tryd.func4
    (witness_row_at (enc := enc) (C := Tryd.checked) false (laidIn (World.holding Tryd.prog os ⟨#[], #[], []⟩)) #[.agg #[.int .i64 0, .int .i64 0, .int .i64 0, .slice none 0 0]] rfl (by kernel_rfl) (by kernel_rfl) (by kernel_rfl)
      (OpenSpec.preRow_of_cond 8 hx (by kernel_rfl) (fun k hk => by cases hk) (by kernel_rfl) (laid_met os))) ?_
  intro W base args ds gs before hval hW _ _ _ hL _ _
  exact contract H enc W base args ds gs before hval hW hL

theorem said : Rows.FnExactBundleTextSaid :=
  OpenClaim.holds_of_cond 4 Tryd.f4 rfl rfl rfl rfl rfl rfl rfl ⟨rfl, rfl, rfl, rfl, rfl⟩ rfl rfl rfl rfl rfl (by kernel_rfl) Tryd.func4 (by kernel_rfl)
    (of_decide_eq_true (by kernel_rfl)) (by unfold Func.isWrapper; first | (rw [if_pos (by decide +kernel)]; kernel_rfl) | (rw [if_neg (by decide +kernel)]; exact ⟨rfl, rfl⟩))
    (fun os started H enc _ F => by rw [OpenClaim.pre_eq_preRow]; exact lifted os started H enc F)

theorem plain (f : FuncId) (fn : Func) (hf : Tryd.pinned.checked.prog.funcNamed Rows.fnExactBundleTextRow.func = some f) (hfn : Tryd.pinned.checked.prog.funcs[f]? = some fn) :
    false = Tryd.pinned.checked.prog.looks [] ∧ ∀ (j : Nat) t, fn.params[j]? = some t → Tryd.pinned.checked.prog.wantsStandIn t = false := by
  obtain rfl : f = 4 := Option.some.inj ((show Tryd.prog.funcNamed Rows.fnExactBundleTextRow.func = some 4 by kernel_rfl).symm.trans hf) |>.symm
  obtain rfl : fn = Tryd.f4 := (Option.some.inj (Tryd.func4.symm.trans hfn)).symm
  refine ⟨by kernel_rfl, fun j t ht => ?_⟩
  rw [Tryd.params4] at ht
  have hm := Array.mem_of_getElem? ht
  have hm2 : t = 37 := by simpa using hm
  subst hm2
  exact (show Tryd.prog.wantsStandIn 37 = false by kernel_rfl)
end Go.Proofs.YtlflcjdpdbdbkaaDoor.fnExactBundleText
namespace Go.Proofs.YtlflcjdpdbdbkaaDoor
theorem fnExactBundleText_holds : Rows.FnExactBundleTextCardSaid :=
  Claim7.holds_tied_plain_at .later [] _ _ _ _ fnExactBundleText.said (fun _ h => by cases h) (by kernel_rfl) (fun _ h => by cases h) fnExactBundleText_row_tie rfl ⟨rfl, rfl⟩ (by kernel_rfl) rfl fnExactBundleText.plain (by kernel_rfl)
end Go.Proofs.YtlflcjdpdbdbkaaDoor
