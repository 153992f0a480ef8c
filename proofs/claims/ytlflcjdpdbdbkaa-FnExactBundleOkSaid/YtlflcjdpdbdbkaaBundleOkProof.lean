/- At every argument the law on BundleOk answers true, and the arguments read as they did: the program's BundleOk answers as the specification's, writes into no argument, and its answer owns its memory. -/
import Derived.Test.YtlflcjdpdbdbkaaRows
import Derived.Test.YtlflcjdpdbdbkaaLbo
import Derived.Test.YtlflcjdpdbdbkaaOp
import Derived.Below
import Derived.WalkKit
import Derived.ProofKit
import Derived.OpenShut
import Derived.ChangeSlices
import Derived.ChangeBears2
import Derived.ShutString
import Derived.Lib.SmallJoins
import Derived.Deep.Slices
import Derived.Deep.Fields
namespace Go.Proofs.Ytlflcjdpdbdbkaa.fnExactBundleOk
open Go.ChangeShapes Go.WideShapes Go.ChangeAt Go.RowKit Go.Deep Pl
open Go.Joins (slice_form open_agg2 open_agg3 open_agg4)
open Go.ChangeMaps (open_string shut_string)
set_option linter.unusedVariables false

theorem own : ownKnob Try.prog.godebug = none := by kernel_rfl
theorem laidOut : laidOutB Try.prog = true := by kernel_rfl

set_option maxRecDepth 100000 in
theorem lifted (os : Os) (started : os.Started) (H : Type) (enc : TypeId × Value → H) :
    ReturnsInHanded {} Try.checked os 3 .any (Rows.fnExactBundleOkSpec.pre6 enc Try.prog Try.f3 Rows.fnExactBundleOkRow.domain false) (Rows.fnExactBundleOkSpec.post enc Try.prog Try.f3 false true false false) := by
  refine returnsInHanded_of_change (C := Try.checked) own started (by kernel_rfl) Try.func3
    (ChangeSpec.witness6 (enc := enc) (C := Try.checked) false ⟨#[], #[.agg #[.int .i64 0, .int .i64 0, .int .i64 0, .slice none 0 0]], []⟩ 8 (by kernel_rfl) (by kernel_rfl) (by kernel_rfl) (by kernel_rfl)) ?_
  intro W base args ds gs before hval0 hW hcnd _
  have hval : ∀ (j : Nat) t v, Try.f3.params[j]? = some t → args[j]? = some v → Value.okWide Try.prog W .any base t v := hval0
  have hW' := hW
  obtain ⟨p, q, hA0, hV, rfl, hfz, hnd⟩ := hW
  have hA : DataW.TrodAll enc Try.prog W 0 (fun _ => true) true Try.f3.params.toList args.toList ds p := hA0
  rw [Try.params3] at hA hval
  obtain ⟨v0, vs0, d0, ds0, p0, q0, hargs0, rfl, rfl, h0, r0⟩ := trodAll_cons hA
  obtain ⟨hn, rfl, rfl⟩ := trodAll_nil r0
  obtain rfl : args = #[v0] := by cases args; simp_all
  obtain ⟨rfl, rfl⟩ := trodVars_none hV
  have h0k := h0
  have hlt0 : ∀ x ∈ p0, x.block < W.heap.size := fun x hx => by simpa using hW'.lt x (by simp [hx])
  have hargs0' : ∀ (W' : World), Below W.heap.size W W' → DataW.Trod enc Try.prog W' 0 (fun b => decide (b < W.heap.size)) true 24 v0 d0 p0 :=
    fun W' hn => Below.trod laidOut (by kernel_rfl) (of_decide_eq_true (by kernel_rfl)) h0k hn hlt0
  obtain ⟨c00, c01, c02, c03, y00, y01, y02, y03, k0, rfl, _, _, hy00, hy01, hy02, hy03⟩ := open_agg4 Try.underlying24 (by kernel_rfl) (show Try.prog.cellsOf 24 = 4 by kernel_rfl) (hval 0 24 v0 rfl rfl) h0
  obtain ⟨x00, e00, _, _⟩ := DataW.trod_int Try.underlying3 hy00
  obtain ⟨x01, e01, _, _⟩ := DataW.trod_int Try.underlying3 hy01
  obtain ⟨x02, e02, _, _⟩ := DataW.trod_int Try.underlying3 hy02
  obtain ⟨ao0, len0, cap0, e03⟩ := slice_form Try.underlying22 hy03
  simp at e00 e01 e02 e03
  subst e00 e01 e02 e03
  obtain ⟨ts0, htl0, htx0, hlm0, hts0⟩ := open_items Try.underlying22 Try.underlying77 (by kernel_rfl) cellsI Try.underlying3 Try.underlying3 Try.underlying3 Try.underlying9 hy03
  subst htl0
  have hlm0' : ts0.length ≤ 9223372036854775807 := by unfold maxLen at hlm0; omega
  have hts0' : ∀ y ∈ ts0, y.2.2.2.size ≤ 9223372036854775807 := fun y hy => by have := hts0 y hy; unfold maxLen at this; omega
  clear hA0 hval0
  simp only [List.append_nil] at hW'
  refine (lawBundleOk x00 x01 x02 ⟨ao0, ts0.length, cap0⟩ ts0 W (show Hid (RIt W ⟨ao0, ts0.length, cap0⟩ ts0) from ⟨rfl, htx0⟩) hlm0' hts0').mono fun e W' ⟨he, hg⟩ => ?_
  subst he
  exact ⟨_, rfl, _, _, _, [], _, [], hW', trodAll_mk1 (shut_bool Try.underlying4 _), (trodAll_mk1 (hargs0' W' hg)), rfl, hg.frame _, fun h => by cases h⟩

theorem over : Rows.fnExactBundleOkRow.holds Try.pinned (OpenSpec.ofChange Rows.fnExactBundleOkSpec) :=
  OpenClaim.holds_of_wide 3 Try.f3 rfl rfl rfl rfl rfl rfl rfl ⟨rfl, rfl, rfl, rfl, rfl⟩ rfl rfl rfl rfl rfl (by kernel_rfl) Try.func3 (by kernel_rfl)
    (of_decide_eq_true (by kernel_rfl)) (by unfold Func.isWrapper; first | (rw [if_pos (by decide +kernel)]; kernel_rfl) | (rw [if_neg (by decide +kernel)]; exact ⟨rfl, rfl⟩))
    (fun os started H enc _ => lifted os started H enc)

end Go.Proofs.Ytlflcjdpdbdbkaa.fnExactBundleOk
namespace Go.Proofs.Ytlflcjdpdbdbkaa
theorem fnExactBundleOk_holds : Rows.FnExactBundleOkSaid := fnExactBundleOk.over
end Go.Proofs.Ytlflcjdpdbdbkaa
