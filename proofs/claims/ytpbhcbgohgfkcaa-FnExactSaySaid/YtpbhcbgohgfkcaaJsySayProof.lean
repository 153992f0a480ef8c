/- At every argument the law on Say answers true, and the arguments read as they did: the program's Say answers as the specification's, writes into no argument, and its answer owns its memory. -/
import Derived.Test.YtpbhcbgohgfkcaaRows
import Derived.Test.YtpbhcbgohgfkcaaJsy1
import Derived.Test.YtpbhcbgohgfkcaaJsy2
import Derived.Test.YtpbhcbgohgfkcaaJsy3
import Derived.Test.YtpbhcbgohgfkcaaJsy4
import Derived.Test.YtpbhcbgohgfkcaaJsy5
import Derived.Test.YtpbhcbgohgfkcaaJsy6
import Derived.Test.YtpbhcbgohgfkcaaJsy7
import Derived.Test.YtpbhcbgohgfkcaaJsy8
import Derived.Test.YtpbhcbgohgfkcaaJsy9
import Derived.Test.YtpbhcbgohgfkcaaJsy10
import Derived.Test.YtpbhcbgohgfkcaaJsy11
import Derived.Test.YtpbhcbgohgfkcaaJsy12
import Derived.Test.YtpbhcbgohgfkcaaJsy13
import Derived.Test.YtpbhcbgohgfkcaaJsy14
import Derived.Test.YtpbhcbgohgfkcaaJsy15
import Derived.Test.YtpbhcbgohgfkcaaJsy16
import Derived.Test.YtpbhcbgohgfkcaaJsy17
import Derived.Test.YtpbhcbgohgfkcaaJsy18
import Derived.Below
import Derived.WalkKit
import Derived.ProofKit
import Derived.OpenShut
import Derived.ChangeSlices
import Derived.ChangeBears2
import Derived.ShutString
import Derived.Lib.SmallJoins
import Derived.Deep.Slices
import Derived.Deep.Fields
namespace Go.Proofs.Ytpbhcbgohgfkcaa.fnExactSay
open Go.ChangeShapes Go.WideShapes Go.ChangeAt Go.RowKit Go.Deep Pl
open Go.Joins (slice_form open_agg2 open_agg4)
open Go.ChangeMaps (open_string shut_string)
set_option linter.unusedVariables false

theorem own : ownKnob Try.prog.godebug = none := by kernel_rfl
theorem laidOut : laidOutB Try.prog = true := by kernel_rfl

set_option maxRecDepth 100000 in
theorem lifted (os : Os) (started : os.Started) (H : Type) (enc : TypeId × Value → H) :
    ReturnsInHanded {} Try.checked os 8 .any (Rows.fnExactSaySpec.pre6 enc Try.prog Try.f8 Rows.fnExactSayRow.domain false) (Rows.fnExactSaySpec.post enc Try.prog Try.f8 false true false false) := by
  refine returnsInHanded_of_change (C := Try.checked) own started (by kernel_rfl) Try.func8
    (ChangeSpec.witness6 (enc := enc) (C := Try.checked) false ⟨#[], #[.agg #[.int .i64 0, .int .i64 0, .slice none 0 0, .slice none 0 0, .slice none 0 0, .slice none 0 0, .int .i64 0, .int .i64 0, .int .i64 0, .int .i64 0, .int .i64 0, .int .i64 0, .int .i64 0, .int .i64 0, .int .i64 0, .slice none 0 0], .int .i64 0, .string ByteArray.empty], []⟩ 8 (by kernel_rfl) (by kernel_rfl) (by kernel_rfl) (by kernel_rfl)) ?_
  intro W base args ds gs before hval0 hW hcnd _
  have hval : ∀ (j : Nat) t v, Try.f8.params[j]? = some t → args[j]? = some v → Value.okWide Try.prog W .any base t v := hval0
  have hW' := hW
  obtain ⟨p, q, hA0, hV, rfl, hfz, hnd⟩ := hW
  have hA : DataW.TrodAll enc Try.prog W 0 (fun _ => true) true Try.f8.params.toList args.toList ds p := hA0
  rw [Try.params8] at hA hval
  obtain ⟨v0, vs0, d0, ds0, p0, q0, hargs0, rfl, rfl, h0, r0⟩ := trodAll_cons hA
  obtain ⟨v1, vs1, d1, ds1, p1, q1, hargs1, rfl, rfl, h1, r1⟩ := trodAll_cons r0
  obtain ⟨v2, vs2, d2, ds2, p2, q2, hargs2, rfl, rfl, h2, r2⟩ := trodAll_cons r1
  obtain ⟨hn, rfl, rfl⟩ := trodAll_nil r2
  obtain rfl : args = #[v0, v1, v2] := by cases args; simp_all
  obtain ⟨rfl, rfl⟩ := trodVars_none hV
  obtain ⟨a1, rfl, rfl, rfl, w1⟩ := open_int Try.underlying3 (hval 1 3 v1 rfl rfl) h1
  obtain ⟨a2, rfl, rfl, rfl, w2⟩ := open_string Try.underlying9 (hval 2 9 v2 rfl rfl) h2
  have h0k := h0
  have hlt0 : ∀ x ∈ p0, x.block < W.heap.size := fun x hx => by simpa using hW'.lt x (by simp [hx])
  have hargs0' : ∀ (W' : World), Below W.heap.size W W' → DataW.Trod enc Try.prog W' 0 (fun b => decide (b < W.heap.size)) true 67 v0 d0 p0 :=
    fun W' hn => Below.trod laidOut (by kernel_rfl) (of_decide_eq_true (by kernel_rfl)) h0k hn hlt0
  obtain ⟨m0, u0, rfl, hr0, hl0⟩ := open_mate (hval 0 67 v0 rfl rfl) h0
  clear hA0 hval0
  simp only [List.append_nil] at hW'
  refine (lawSay m0 u0 a1 a2 W hr0 hl0 w2).mono fun e W' ⟨he, hg⟩ => ?_
  subst he
  exact ⟨_, rfl, _, _, _, [], _, [], hW', trodAll_mk1 (shut_bool Try.underlying4 _), (trodAll_cons_mk (hargs0' W' hg) (trodAll_cons_mk (shut_int Try.underlying3 w1) (trodAll_mk1 (shut_string Try.underlying9 w2)))), rfl, hg.frame _, fun h => by cases h⟩

theorem over : Rows.fnExactSayRow.holds Try.pinned (OpenSpec.ofChange Rows.fnExactSaySpec) :=
  OpenClaim.holds_of_wide 8 Try.f8 rfl rfl rfl rfl rfl rfl rfl ⟨rfl, rfl, rfl, rfl, rfl⟩ rfl rfl rfl rfl rfl (by kernel_rfl) Try.func8 (by kernel_rfl)
    (of_decide_eq_true (by kernel_rfl)) (by unfold Func.isWrapper; first | (rw [if_pos (by decide +kernel)]; kernel_rfl) | (rw [if_neg (by decide +kernel)]; exact ⟨rfl, rfl⟩))
    (fun os started H enc _ => lifted os started H enc)

end Go.Proofs.Ytpbhcbgohgfkcaa.fnExactSay
namespace Go.Proofs.Ytpbhcbgohgfkcaa
theorem fnExactSay_holds : Rows.FnExactSaySaid := fnExactSay.over
end Go.Proofs.Ytpbhcbgohgfkcaa
