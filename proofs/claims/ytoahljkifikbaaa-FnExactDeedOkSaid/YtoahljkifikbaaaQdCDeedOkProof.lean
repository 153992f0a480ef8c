/- At every argument the law on DeedOk answers true, and the arguments read as they did: the program's DeedOk answers as the specification's, writes into no argument, and its answer owns its memory. -/
import Derived.Test.YtoahljkifikbaaaRows
import Derived.Test.YtoahljkifikbaaaQd13
import Derived.Test.YtoahljkifikbaaaQd14
import Derived.Below
import Derived.WalkKit
import Derived.ProofKit
import Derived.OpenShut
import Derived.ChangeSlices
import Derived.ChangeBears2
import Derived.ShutString
import Derived.Lib.SmallJoins
import Derived.Deep.Slices
import Derived.Deep.Fields
namespace Go.Proofs.Ytoahljkifikbaaa.fnExactDeedOk
open Go.ChangeShapes Go.WideShapes Go.ChangeAt Go.RowKit Go.Deep Pl
open Go.Joins (slice_form open_agg2 open_agg3 open_agg4)
open Go.ChangeMaps (open_string shut_string)
set_option linter.unusedVariables false

theorem own : ownKnob Try.prog.godebug = none := by kernel_rfl
theorem laidOut : laidOutB Try.prog = true := by kernel_rfl

set_option maxRecDepth 100000 in
theorem lifted (os : Os) (started : os.Started) (H : Type) (enc : TypeId × Value → H) :
    ReturnsInHanded {} Try.checked os 4 .any (Rows.fnExactDeedOkSpec.pre6 enc Try.prog Try.f4 Rows.fnExactDeedOkRow.domain false) (Rows.fnExactDeedOkSpec.post enc Try.prog Try.f4 false true false false) := by
  refine returnsInHanded_of_change (C := Try.checked) own started (by kernel_rfl) Try.func4
    (ChangeSpec.witness6 (enc := enc) (C := Try.checked) false ⟨#[], #[.agg #[.int .i64 0, .int .i64 0, .int .i64 0, .int .i64 0, .string ByteArray.empty]], []⟩ 8 (by kernel_rfl) (by kernel_rfl) (by kernel_rfl) (by kernel_rfl)) ?_
  intro W base args ds gs before hval0 hW hcnd _
  have hval : ∀ (j : Nat) t v, Try.f4.params[j]? = some t → args[j]? = some v → Value.okWide Try.prog W .any base t v := hval0
  have hW' := hW
  obtain ⟨p, q, hA0, hV, rfl, hfz, hnd⟩ := hW
  have hA : DataW.TrodAll enc Try.prog W 0 (fun _ => true) true Try.f4.params.toList args.toList ds p := hA0
  rw [Try.params4] at hA hval
  obtain ⟨v0, vs0, d0, ds0, p0, q0, hargs0, rfl, rfl, h0, r0⟩ := trodAll_cons hA
  obtain ⟨hn, rfl, rfl⟩ := trodAll_nil r0
  obtain rfl : args = #[v0] := by cases args; simp_all
  obtain ⟨rfl, rfl⟩ := trodVars_none hV
  have h0k := h0
  have hlt0 : ∀ x ∈ p0, x.block < W.heap.size := fun x hx => by simpa using hW'.lt x (by simp [hx])
  have hargs0' : ∀ (W' : World), Below W.heap.size W W' → DataW.Trod enc Try.prog W' 0 (fun b => decide (b < W.heap.size)) true 30 v0 d0 p0 :=
    fun W' hn => Below.trod laidOut (by kernel_rfl) (of_decide_eq_true (by kernel_rfl)) h0k hn hlt0
  obtain ⟨c00, c01, c02, c03, c04, y00, y01, y02, y03, y04, k0, rfl, hy00, hy01, hy02, hy03, hy04⟩ := open_agg5 Try.underlying30 (by kernel_rfl) (show Try.prog.cellsOf 30 = 5 by kernel_rfl) (hval 0 30 v0 rfl rfl) h0
  obtain ⟨x00, e00, _, _⟩ := DataW.trod_int Try.underlying3 hy00
  obtain ⟨x01, e01, _, _⟩ := DataW.trod_int Try.underlying3 hy01
  obtain ⟨x02, e02, _, _⟩ := DataW.trod_int Try.underlying3 hy02
  obtain ⟨x03, e03, _, _⟩ := DataW.trod_int Try.underlying3 hy03
  obtain ⟨x04, e04, _, w04⟩ := DataW.trod_string Try.underlying9 hy04
  simp at e00 e01 e02 e03 e04
  subst e00 e01 e02 e03 e04
  clear hA0 hval0
  simp only [List.append_nil] at hW'
  refine (lawDeedOk x00 x01 x02 x03 x04 W w04).mono fun e W' ⟨he, hg⟩ => ?_
  subst he
  exact ⟨_, rfl, _, _, _, [], _, [], hW', trodAll_mk1 (shut_bool Try.underlying4 _), (trodAll_mk1 (hargs0' W' hg)), rfl, hg.frame _, fun h => by cases h⟩

theorem over : Rows.fnExactDeedOkRow.holds Try.pinned (OpenSpec.ofChange Rows.fnExactDeedOkSpec) :=
  OpenClaim.holds_of_wide 4 Try.f4 rfl rfl rfl rfl rfl rfl rfl ⟨rfl, rfl, rfl, rfl, rfl⟩ rfl rfl rfl rfl rfl (by kernel_rfl) Try.func4 (by kernel_rfl)
    (of_decide_eq_true (by kernel_rfl)) (by unfold Func.isWrapper; first | (rw [if_pos (by decide +kernel)]; kernel_rfl) | (rw [if_neg (by decide +kernel)]; exact ⟨rfl, rfl⟩))
    (fun os started H enc _ => lifted os started H enc)

end Go.Proofs.Ytoahljkifikbaaa.fnExactDeedOk
namespace Go.Proofs.Ytoahljkifikbaaa
theorem fnExactDeedOk_holds : Rows.FnExactDeedOkSaid := fnExactDeedOk.over
end Go.Proofs.Ytoahljkifikbaaa

