/- At every end and parcel the law on Receive answers true, and the arguments read as they did: the program's Receive answers as the specification's, writes into no argument and keeps nothing of one; its answer owns its memory. -/
import Derived.Test.YtohagaelenhebaaRows
import Derived.Test.YtohagaelenhebaaL5
import Derived.Test.YtohagaelenhebaaAg
import Derived.Below
import Derived.WalkKit
import Derived.ProofKit
import Derived.OpenShut
import Derived.ChangeSlices
import Derived.ChangeBears2
import Derived.ShutString
import Derived.Lib.SmallJoins
namespace Go.Proofs.Ytohagaelenhebaa.fnExactReceive
open Go.ChangeShapes Go.WideShapes Go.ChangeAt Go.RowKit Pl
open Go.Joins (slice_form)
open Go.ChangeMaps (open_string shut_string)
set_option linter.unusedVariables false

theorem own : ownKnob Try.prog.godebug = none := by kernel_rfl
theorem laidOut : laidOutB Try.prog = true := by kernel_rfl
theorem cells9 : Try.prog.cellsOf 9 = 1 := by kernel_rfl
theorem cellsE : Try.prog.cellsOf 45 = 5 := by kernel_rfl
theorem cellsP : Try.prog.cellsOf 54 = 3 := by kernel_rfl
set_option maxRecDepth 100000 in
theorem lifted (os : Os) (started : os.Started) (H : Type) (enc : TypeId × Value → H) :
    ReturnsInHanded {} Try.checked os 10 .any (Rows.fnExactReceiveSpec.pre6 enc Try.prog Try.f10 Rows.fnExactReceiveRow.domain false) (Rows.fnExactReceiveSpec.post enc Try.prog Try.f10 false true false false) := by
  refine returnsInHanded_of_change (C := Try.checked) own started (by kernel_rfl) Try.func10
    (ChangeSpec.witness6 (enc := enc) (C := Try.checked) false ⟨#[], #[.agg #[.int .i64 0, .int .i64 0, .slice none 0 0, .int .i64 0, .slice none 0 0], .agg #[.int .i64 0, .int .i64 0, .string ByteArray.empty]], []⟩ 8 (by kernel_rfl) (by kernel_rfl) (by kernel_rfl) (by kernel_rfl)) ?_
  intro W base args ds gs before hval0 hW hcnd _
  have hval : ∀ (j : Nat) t v, Try.f10.params[j]? = some t → args[j]? = some v → Value.okWide Try.prog W .any base t v := hval0
  have hW' := hW
  obtain ⟨p, q, hA0, hV, rfl, hfz, hnd⟩ := hW
  have hA : DataW.TrodAll enc Try.prog W 0 (fun _ => true) true Try.f10.params.toList args.toList ds p := hA0
  rw [Try.params10] at hA hval
  obtain ⟨v0, vs0, d0, ds0, p0, q0, hargs0, rfl, rfl, h0, r0⟩ := trodAll_cons hA
  obtain ⟨v1, vs1, d1, ds1, p1, q1, hargs1, rfl, rfl, h1, r1⟩ := trodAll_cons r0
  obtain ⟨hn, rfl, rfl⟩ := trodAll_nil r1
  obtain rfl : args = #[v0, v1] := by cases args; simp_all
  obtain ⟨rfl, rfl⟩ := trodVars_none hV
  have h0k := h0
  have hlt : ∀ x ∈ p0, x.block < W.heap.size := fun x hx => by simpa using hW'.lt x (by simp [hx])
  have hargs : ∀ (W' : World), Below W.heap.size W W' → DataW.Trod enc Try.prog W' 0 (fun b => decide (b < W.heap.size)) true 45 v0 d0 p0 :=
    fun W' hn => Below.trod laidOut (by kernel_rfl) (of_decide_eq_true (by kernel_rfl)) h0k hn hlt
  have h1k := h1
  have hlt1 : ∀ x ∈ p1, x.block < W.heap.size := fun x hx => by simpa using hW'.lt x (by simp [hx])
  have hargs1 : ∀ (W' : World), Below W.heap.size W W' → DataW.Trod enc Try.prog W' 0 (fun b => decide (b < W.heap.size)) true 54 v1 d1 p1 :=
    fun W' hn => Below.trod laidOut (by kernel_rfl) (of_decide_eq_true (by kernel_rfl)) h1k hn hlt1
  obtain ⟨b0, b1, b2, z0, z1, z2, k2, rfl, hz0, hz1, hz2⟩ := open_agg3 Try.underlying54 (by kernel_rfl) cellsP (hval 1 54 v1 rfl rfl) h1
  obtain ⟨t0, g0, _, _⟩ := DataW.trod_int Try.underlying3 hz0
  obtain ⟨t1, g1, _, _⟩ := DataW.trod_int Try.underlying3 hz1
  obtain ⟨t2, g2, _, w2⟩ := DataW.trod_string Try.underlying9 hz2
  simp at g0 g1 g2
  subst g0 g1 g2
  obtain ⟨c0, c1, c2, c3, c4, y0, y1, y2, y3, y4, k, rfl, hy0, hy1, hy2, hy3, hy4⟩ := open_agg5 Try.underlying45 (by kernel_rfl) cellsE (hval 0 45 v0 rfl rfl) h0
  obtain ⟨x0, e0, ey0, _⟩ := DataW.trod_int Try.underlying3 hy0
  obtain ⟨x1, e1, ey1, _⟩ := DataW.trod_int Try.underlying3 hy1
  obtain ⟨qa, ql, qc, e2⟩ := slice_form Try.underlying24 hy2
  obtain ⟨x3, e3, ey3, _⟩ := DataW.trod_int Try.underlying3 hy3
  obtain ⟨oa, ol, oc, e4⟩ := slice_form Try.underlying24 hy4
  simp at e0 e1 e2 e3 e4
  subst e0 e1 e2 e3 e4
  obtain ⟨qs, hql, hqt, hqm, hqz⟩ := open_textsAt Try.underlying24 Try.underlying9 cells9 hy2
  obtain ⟨os', hol, hot, hom, hoz⟩ := open_textsAt Try.underlying24 Try.underlying9 cells9 hy4
  subst hql hol
  clear hA0 hval0
  simp only [List.append_nil] at hW'
  refine (lawReceive ⟨x0, x1, qs, x3, os'⟩ qa oa qc oc t0 t1 t2 W (show Given _ _ _ _ _ from ⟨hqt, hot, hqm, hom, hqz, hoz⟩) w2).mono fun e W' ⟨he, hg⟩ => ?_
  subst he
  exact ⟨_, rfl, _, _, _, [], _, [], hW', trodAll_mk1 (shut_bool Try.underlying4 _), (trodAll_cons_mk (hargs W' hg) (trodAll_mk1 (hargs1 W' hg))), rfl, hg.frame _, fun h => by cases h⟩

theorem over : Rows.fnExactReceiveRow.holds Try.pinned (OpenSpec.ofChange Rows.fnExactReceiveSpec) :=
  OpenClaim.holds_of_wide 10 Try.f10 rfl rfl rfl rfl rfl rfl rfl ⟨rfl, rfl, rfl, rfl, rfl⟩ rfl rfl rfl rfl rfl (by kernel_rfl) Try.func10 (by kernel_rfl)
    (of_decide_eq_true (by kernel_rfl)) (by unfold Func.isWrapper; first | (rw [if_pos (by decide +kernel)]; kernel_rfl) | (rw [if_neg (by decide +kernel)]; exact ⟨rfl, rfl⟩))
    (fun os started H enc _ => lifted os started H enc)

end Go.Proofs.Ytohagaelenhebaa.fnExactReceive
namespace Go.Proofs.Ytohagaelenhebaa
theorem fnExactReceive_holds : Rows.FnExactReceiveSaid := fnExactReceive.over
end Go.Proofs.Ytohagaelenhebaa
