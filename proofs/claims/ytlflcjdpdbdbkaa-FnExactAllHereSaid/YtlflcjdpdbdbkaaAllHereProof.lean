/- At every argument the law on AllHere answers true, and the arguments read as they did: the program's AllHere answers as the specification's, writes into no argument, and its answer owns its memory. -/
import Derived.Test.YtlflcjdpdbdbkaaRows
import Derived.Test.YtlflcjdpdbdbkaaLah
import Derived.Test.YtlflcjdpdbdbkaaOpb
import Derived.Test.YtlflcjdpdbdbkaaAg
import Derived.Below
import Derived.WalkKit
import Derived.ProofKit
import Derived.OpenShut
import Derived.ChangeSlices
import Derived.ChangeBears2
import Derived.ShutString
import Derived.Lib.SmallJoins
import Derived.Deep.Slices
import Derived.Deep.Fields
namespace Go.Proofs.Ytlflcjdpdbdbkaa.fnExactAllHere
open Go.ChangeShapes Go.WideShapes Go.ChangeAt Go.RowKit Go.Deep Pl
open Go.Joins (slice_form open_agg2 open_agg3 open_agg4)
open Go.ChangeMaps (open_string shut_string)
set_option linter.unusedVariables false

theorem own : ownKnob Try.prog.godebug = none := by kernel_rfl
theorem laidOut : laidOutB Try.prog = true := by kernel_rfl

set_option maxRecDepth 100000 in
theorem lifted (os : Os) (started : os.Started) (H : Type) (enc : TypeId × Value → H) :
    ReturnsInHanded {} Try.checked os 4 .any (Rows.fnExactAllHereSpec.pre6 enc Try.prog Try.f4 Rows.fnExactAllHereRow.domain false) (Rows.fnExactAllHereSpec.post enc Try.prog Try.f4 false true false false) := by
  refine returnsInHanded_of_change (C := Try.checked) own started (by kernel_rfl) Try.func4
    (ChangeSpec.witness6 (enc := enc) (C := Try.checked) false ⟨#[], #[.agg #[.int .i64 0, .slice none 0 0], .slice none 0 0], []⟩ 8 (by kernel_rfl) (by kernel_rfl) (by kernel_rfl) (by kernel_rfl)) ?_
  intro W base args ds gs before hval0 hW hcnd _
  have hval : ∀ (j : Nat) t v, Try.f4.params[j]? = some t → args[j]? = some v → Value.okWide Try.prog W .any base t v := hval0
  have hW' := hW
  obtain ⟨p, q, hA0, hV, rfl, hfz, hnd⟩ := hW
  have hA : DataW.TrodAll enc Try.prog W 0 (fun _ => true) true Try.f4.params.toList args.toList ds p := hA0
  rw [Try.params4] at hA hval
  obtain ⟨v0, vs0, d0, ds0, p0, q0, hargs0, rfl, rfl, h0, r0⟩ := trodAll_cons hA
  obtain ⟨v1, vs1, d1, ds1, p1, q1, hargs1, rfl, rfl, h1, r1⟩ := trodAll_cons r0
  obtain ⟨hn, rfl, rfl⟩ := trodAll_nil r1
  obtain rfl : args = #[v0, v1] := by cases args; simp_all
  obtain ⟨rfl, rfl⟩ := trodVars_none hV
  have h0k := h0
  have hlt0 : ∀ x ∈ p0, x.block < W.heap.size := fun x hx => by simpa using hW'.lt x (by simp [hx])
  have hargs0' : ∀ (W' : World), Below W.heap.size W W' → DataW.Trod enc Try.prog W' 0 (fun b => decide (b < W.heap.size)) true 35 v0 d0 p0 :=
    fun W' hn => Below.trod laidOut (by kernel_rfl) (of_decide_eq_true (by kernel_rfl)) h0k hn hlt0
  obtain ⟨c00, c01, y00, y01, k0, rfl, _, _, hy00, hy01⟩ := open_agg2 Try.underlying35 (by kernel_rfl) (show Try.prog.cellsOf 35 = 2 by kernel_rfl) (hval 0 35 v0 rfl rfl) h0
  obtain ⟨x00, e00, _, _⟩ := DataW.trod_int Try.underlying3 hy00
  obtain ⟨ao0, len0, cap0, e01⟩ := slice_form Try.underlying33 hy01
  simp at e00 e01
  subst e00 e01
  obtain ⟨ts0, htl0, htx0, hlm0⟩ := open_intsAt Try.underlying33 Try.underlying3 (show Try.prog.cellsOf 3 = 1 by kernel_rfl) hy01
  subst htl0
  obtain ⟨ao1, len1, cap1, rfl⟩ := okWide_slice Try.underlying36 (hval 1 36 v1 rfl rfl)
  have h1k := h1
  have hlt1 : ∀ x ∈ p1, x.block < W.heap.size := fun x hx => by simpa using hW'.lt x (by simp [hx])
  have hargs1' : ∀ (W' : World), Below W.heap.size W W' → DataW.Trod enc Try.prog W' 0 (fun b => decide (b < W.heap.size)) true 36 (.slice ao1 len1 cap1) d1 p1 :=
    fun W' hn => Below.trod laidOut (by kernel_rfl) (of_decide_eq_true (by kernel_rfl)) h1k hn hlt1
  obtain ⟨fuel1, hf1⟩ := h1
  obtain ⟨bs1, htl1, htx1, hlm1, hts1⟩ := open_bundles hf1
  subst htl1
  clear hA0 hval0
  simp only [List.append_nil] at hW'
  refine (lawAllHere x00 ao0 cap0 ts0 ao1 cap1 bs1 W htx0 hlm0 htx1 hlm1 hts1).mono fun e W' ⟨he, hg⟩ => ?_
  subst he
  exact ⟨_, rfl, _, _, _, [], _, [], hW', trodAll_mk1 (shut_bool Try.underlying4 _), (trodAll_cons_mk (hargs0' W' hg) (trodAll_mk1 (hargs1' W' hg))), rfl, hg.frame _, fun h => by cases h⟩

theorem over : Rows.fnExactAllHereRow.holds Try.pinned (OpenSpec.ofChange Rows.fnExactAllHereSpec) :=
  OpenClaim.holds_of_wide 4 Try.f4 rfl rfl rfl rfl rfl rfl rfl ⟨rfl, rfl, rfl, rfl, rfl⟩ rfl rfl rfl rfl rfl (by kernel_rfl) Try.func4 (by kernel_rfl)
    (of_decide_eq_true (by kernel_rfl)) (by unfold Func.isWrapper; first | (rw [if_pos (by decide +kernel)]; kernel_rfl) | (rw [if_neg (by decide +kernel)]; exact ⟨rfl, rfl⟩))
    (fun os started H enc _ => lifted os started H enc)

end Go.Proofs.Ytlflcjdpdbdbkaa.fnExactAllHere
namespace Go.Proofs.Ytlflcjdpdbdbkaa
theorem fnExactAllHere_holds : Rows.FnExactAllHereSaid := fnExactAllHere.over
end Go.Proofs.Ytlflcjdpdbdbkaa
