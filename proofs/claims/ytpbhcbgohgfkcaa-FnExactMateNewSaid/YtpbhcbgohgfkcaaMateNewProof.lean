/- At every argument the law on MateNew answers true, and the arguments read as they did: the program's MateNew answers as the specification's, writes into no argument, and its answer owns its memory. -/
import Derived.Test.YtpbhcbgohgfkcaaRows
import Derived.Test.YtpbhcbgohgfkcaaLmn
import Derived.Test.YtpbhcbgohgfkcaaAg
import Derived.Below
import Derived.WalkKit
import Derived.ProofKit
import Derived.OpenShut
import Derived.ChangeSlices
import Derived.ChangeBears2
import Derived.ShutString
import Derived.Lib.SmallJoins
import Derived.Deep.Slices
import Derived.Deep.Fields
namespace Go.Proofs.Ytpbhcbgohgfkcaa.fnExactMateNew
open Go.ChangeShapes Go.WideShapes Go.ChangeAt Go.RowKit Go.Deep Pl
open Go.Joins (slice_form open_agg2 open_agg4)
set_option linter.unusedVariables false

theorem own : ownKnob Try.prog.godebug = none := by kernel_rfl
theorem laidOut : laidOutB Try.prog = true := by kernel_rfl

set_option maxRecDepth 100000 in
theorem lifted (os : Os) (started : os.Started) (H : Type) (enc : TypeId × Value → H) :
    ReturnsInHanded {} Try.checked os 6 .any (Rows.fnExactMateNewSpec.pre6 enc Try.prog Try.f6 Rows.fnExactMateNewRow.domain false) (Rows.fnExactMateNewSpec.post enc Try.prog Try.f6 false true false false) := by
  refine returnsInHanded_of_change (C := Try.checked) own started (by kernel_rfl) Try.func6
    (ChangeSpec.witness6 (enc := enc) (C := Try.checked) false ⟨#[], #[.int .i64 0, .agg #[.int .i64 0, .slice none 0 0]], []⟩ 8 (by kernel_rfl) (by kernel_rfl) (by kernel_rfl) (by kernel_rfl)) ?_
  intro W base args ds gs before hval0 hW hcnd _
  have hval : ∀ (j : Nat) t v, Try.f6.params[j]? = some t → args[j]? = some v → Value.okWide Try.prog W .any base t v := hval0
  have hW' := hW
  obtain ⟨p, q, hA0, hV, rfl, hfz, hnd⟩ := hW
  have hA : DataW.TrodAll enc Try.prog W 0 (fun _ => true) true Try.f6.params.toList args.toList ds p := hA0
  rw [Try.params6] at hA hval
  obtain ⟨v0, vs0, d0, ds0, p0, q0, hargs0, rfl, rfl, h0, r0⟩ := trodAll_cons hA
  obtain ⟨v1, vs1, d1, ds1, p1, q1, hargs1, rfl, rfl, h1, r1⟩ := trodAll_cons r0
  obtain ⟨hn, rfl, rfl⟩ := trodAll_nil r1
  obtain rfl : args = #[v0, v1] := by cases args; simp_all
  obtain ⟨rfl, rfl⟩ := trodVars_none hV
  obtain ⟨a0, rfl, rfl, rfl, w0⟩ := open_int Try.underlying3 (hval 0 3 v0 rfl rfl) h0
  have h1k := h1
  have hlt1 : ∀ x ∈ p1, x.block < W.heap.size := fun x hx => by simpa using hW'.lt x (by simp [hx])
  have hargs1' : ∀ (W' : World), Below W.heap.size W W' → DataW.Trod enc Try.prog W' 0 (fun b => decide (b < W.heap.size)) true 56 v1 d1 p1 :=
    fun W' hn => Below.trod laidOut (by kernel_rfl) (of_decide_eq_true (by kernel_rfl)) h1k hn hlt1
  obtain ⟨c10, c11, y10, y11, k1, rfl, _, _, hy10, hy11⟩ := open_agg2 Try.underlying56 (by kernel_rfl) (show Try.prog.cellsOf 56 = 2 by kernel_rfl) (hval 1 56 v1 rfl rfl) h1
  obtain ⟨x10, e10, _, _⟩ := DataW.trod_int Try.underlying3 hy10
  obtain ⟨ao1, len1, cap1, e11⟩ := slice_form Try.underlying24 hy11
  simp at e10 e11
  subst e10 e11
  obtain ⟨ts1, htl1, htx1, hlm1⟩ := open_intsAt Try.underlying24 Try.underlying3 (show Try.prog.cellsOf 3 = 1 by kernel_rfl) hy11
  subst htl1
  clear hA0 hval0
  simp only [List.append_nil] at hW'
  refine (lawMateNew a0 x10 ao1 cap1 ts1 W htx1 hlm1).mono fun e W' ⟨he, hg⟩ => ?_
  subst he
  exact ⟨_, rfl, _, _, _, [], _, [], hW', trodAll_mk1 (shut_bool Try.underlying4 _), (trodAll_cons_mk (shut_int Try.underlying3 w0) (trodAll_mk1 (hargs1' W' hg))), rfl, hg.frame _, fun h => by cases h⟩

theorem over : Rows.fnExactMateNewRow.holds Try.pinned (OpenSpec.ofChange Rows.fnExactMateNewSpec) :=
  OpenClaim.holds_of_wide 6 Try.f6 rfl rfl rfl rfl rfl rfl rfl ⟨rfl, rfl, rfl, rfl, rfl⟩ rfl rfl rfl rfl rfl (by kernel_rfl) Try.func6 (by kernel_rfl)
    (of_decide_eq_true (by kernel_rfl)) (by unfold Func.isWrapper; first | (rw [if_pos (by decide +kernel)]; kernel_rfl) | (rw [if_neg (by decide +kernel)]; exact ⟨rfl, rfl⟩))
    (fun os started H enc _ => lifted os started H enc)

end Go.Proofs.Ytpbhcbgohgfkcaa.fnExactMateNew
namespace Go.Proofs.Ytpbhcbgohgfkcaa
theorem fnExactMateNew_holds : Rows.FnExactMateNewSaid := fnExactMateNew.over
end Go.Proofs.Ytpbhcbgohgfkcaa
