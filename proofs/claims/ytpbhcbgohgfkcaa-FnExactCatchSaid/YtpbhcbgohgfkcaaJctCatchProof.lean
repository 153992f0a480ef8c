/- At every argument the law on Catch answers true, and the arguments read as they did: the program's Catch answers as the specification's, writes into no argument, and its answer owns its memory. -/
import Derived.Test.YtpbhcbgohgfkcaaRows
import Derived.Test.YtpbhcbgohgfkcaaJct1
import Derived.Test.YtpbhcbgohgfkcaaJct2
import Derived.Test.YtpbhcbgohgfkcaaJct3
import Derived.Test.YtpbhcbgohgfkcaaJct4
import Derived.Test.YtpbhcbgohgfkcaaJct5
import Derived.Test.YtpbhcbgohgfkcaaJct6
import Derived.Test.YtpbhcbgohgfkcaaJct7
import Derived.Test.YtpbhcbgohgfkcaaJct8
import Derived.Test.YtpbhcbgohgfkcaaJct9
import Derived.Test.YtpbhcbgohgfkcaaJct10
import Derived.Test.YtpbhcbgohgfkcaaJct11
import Derived.Test.YtpbhcbgohgfkcaaJct12
import Derived.Test.YtpbhcbgohgfkcaaJct13
import Derived.Test.YtpbhcbgohgfkcaaJct14
import Derived.Test.YtpbhcbgohgfkcaaJct15
import Derived.Test.YtpbhcbgohgfkcaaJct16
import Derived.Test.YtpbhcbgohgfkcaaJct17
import Derived.Test.YtpbhcbgohgfkcaaJct18
import Derived.Test.YtpbhcbgohgfkcaaJct19
import Derived.Test.YtpbhcbgohgfkcaaJct20
import Derived.Test.YtpbhcbgohgfkcaaJct21
import Derived.Below
import Derived.WalkKit
import Derived.ProofKit
import Derived.OpenShut
import Derived.ChangeSlices
import Derived.ChangeBears2
import Derived.ShutString
import Derived.Lib.SmallJoins
import Derived.Deep.Slices
import Derived.Deep.Fields
namespace Go.Proofs.Ytpbhcbgohgfkcaa.fnExactCatch
open Go.ChangeShapes Go.WideShapes Go.ChangeAt Go.RowKit Go.Deep Pl
open Go.Joins (slice_form open_agg2 open_agg4)
open Go.ChangeMaps (open_string shut_string)
set_option linter.unusedVariables false

theorem own : ownKnob Try.prog.godebug = none := by kernel_rfl
theorem laidOut : laidOutB Try.prog = true := by kernel_rfl

set_option maxRecDepth 100000 in
theorem lifted (os : Os) (started : os.Started) (H : Type) (enc : TypeId × Value → H) :
    ReturnsInHanded {} Try.checked os 9 .any (Rows.fnExactCatchSpec.pre6 enc Try.prog Try.f9 Rows.fnExactCatchRow.domain false) (Rows.fnExactCatchSpec.post enc Try.prog Try.f9 false true false false) := by
  refine returnsInHanded_of_change (C := Try.checked) own started (by kernel_rfl) Try.func9
    (ChangeSpec.witness6 (enc := enc) (C := Try.checked) false ⟨#[], #[.agg #[.int .i64 0, .int .i64 0, .slice none 0 0, .slice none 0 0, .slice none 0 0, .slice none 0 0, .int .i64 0, .int .i64 0, .int .i64 0, .int .i64 0, .int .i64 0, .int .i64 0, .int .i64 0, .int .i64 0, .int .i64 0, .slice none 0 0], .agg #[.int .i64 0, .int .i64 0, .int .i64 0, .string ByteArray.empty]], []⟩ 8 (by kernel_rfl) (by kernel_rfl) (by kernel_rfl) (by kernel_rfl)) ?_
  intro W base args ds gs before hval0 hW hcnd _
  have hval : ∀ (j : Nat) t v, Try.f9.params[j]? = some t → args[j]? = some v → Value.okWide Try.prog W .any base t v := hval0
  have hW' := hW
  obtain ⟨p, q, hA0, hV, rfl, hfz, hnd⟩ := hW
  have hA : DataW.TrodAll enc Try.prog W 0 (fun _ => true) true Try.f9.params.toList args.toList ds p := hA0
  rw [Try.params9] at hA hval
  obtain ⟨v0, vs0, d0, ds0, p0, q0, hargs0, rfl, rfl, h0, r0⟩ := trodAll_cons hA
  obtain ⟨v1, vs1, d1, ds1, p1, q1, hargs1, rfl, rfl, h1, r1⟩ := trodAll_cons r0
  obtain ⟨hn, rfl, rfl⟩ := trodAll_nil r1
  obtain rfl : args = #[v0, v1] := by cases args; simp_all
  obtain ⟨rfl, rfl⟩ := trodVars_none hV
  have h0k := h0
  have hlt0 : ∀ x ∈ p0, x.block < W.heap.size := fun x hx => by simpa using hW'.lt x (by simp [hx])
  have hargs0' : ∀ (W' : World), Below W.heap.size W W' → DataW.Trod enc Try.prog W' 0 (fun b => decide (b < W.heap.size)) true 67 v0 d0 p0 :=
    fun W' hn => Below.trod laidOut (by kernel_rfl) (of_decide_eq_true (by kernel_rfl)) h0k hn hlt0
  obtain ⟨m0, u0, rfl, hr0, hl0⟩ := open_mate (hval 0 67 v0 rfl rfl) h0
  have h1k := h1
  have hlt1 : ∀ x ∈ p1, x.block < W.heap.size := fun x hx => by simpa using hW'.lt x (by simp [hx])
  have hargs1' : ∀ (W' : World), Below W.heap.size W W' → DataW.Trod enc Try.prog W' 0 (fun b => decide (b < W.heap.size)) true 72 v1 d1 p1 :=
    fun W' hn => Below.trod laidOut (by kernel_rfl) (of_decide_eq_true (by kernel_rfl)) h1k hn hlt1
  obtain ⟨c10, c11, c12, c13, y10, y11, y12, y13, k1, rfl, rfl, rfl, hy10, hy11, hy12, hy13⟩ := open_agg4 Try.underlying72 (by kernel_rfl) cellsI (hval 1 72 v1 rfl rfl) h1
  obtain ⟨x10, e10, _, _⟩ := DataW.trod_int Try.underlying3 hy10
  obtain ⟨x11, e11, _, _⟩ := DataW.trod_int Try.underlying3 hy11
  obtain ⟨x12, e12, _, _⟩ := DataW.trod_int Try.underlying3 hy12
  obtain ⟨x13, e13, _, w13⟩ := DataW.trod_string Try.underlying9 hy13
  simp at e10 e11 e12 e13
  subst e10 e11 e12 e13
  clear hA0 hval0
  simp only [List.append_nil] at hW'
  refine (lawCatch m0 u0 x10 x11 x12 x13 W hr0 hl0 w13).mono fun e W' ⟨he, hg⟩ => ?_
  subst he
  exact ⟨_, rfl, _, _, _, [], _, [], hW', trodAll_mk1 (shut_bool Try.underlying4 _), (trodAll_cons_mk (hargs0' W' hg) (trodAll_mk1 (hargs1' W' hg))), rfl, hg.frame _, fun h => by cases h⟩

theorem over : Rows.fnExactCatchRow.holds Try.pinned (OpenSpec.ofChange Rows.fnExactCatchSpec) :=
  OpenClaim.holds_of_wide 9 Try.f9 rfl rfl rfl rfl rfl rfl rfl ⟨rfl, rfl, rfl, rfl, rfl⟩ rfl rfl rfl rfl rfl (by kernel_rfl) Try.func9 (by kernel_rfl)
    (of_decide_eq_true (by kernel_rfl)) (by unfold Func.isWrapper; first | (rw [if_pos (by decide +kernel)]; kernel_rfl) | (rw [if_neg (by decide +kernel)]; exact ⟨rfl, rfl⟩))
    (fun os started H enc _ => lifted os started H enc)

end Go.Proofs.Ytpbhcbgohgfkcaa.fnExactCatch
namespace Go.Proofs.Ytpbhcbgohgfkcaa
theorem fnExactCatch_holds : Rows.FnExactCatchSaid := fnExactCatch.over
end Go.Proofs.Ytpbhcbgohgfkcaa
