/- A parameter that is a member, opened. -/
import Derived.Test.YtpbhcbgohgfkcaaSm
import Derived.Test.YtpbhcbgohgfkcaaOp
import Derived.Test.YtpbhcbgohgfkcaaAt
namespace Go.Proofs.Ytpbhcbgohgfkcaa
open Go.RowKit Go.ChangeShapes Go.WideShapes Go.Deep Go.WideElems Pl
open Go.Joins (slice_form)
set_option linter.unusedVariables false
set_option linter.unusedSimpArgs false

theorem array16 {α : Type} {cs : Array α} (h : cs.size = 16) : ∃ c0 c1 c2 c3 c4 c5 c6 c7 c8 c9 c10 c11 c12 c13 c14 c15, cs = #[c0, c1, c2, c3, c4, c5, c6, c7, c8, c9, c10, c11, c12, c13, c14, c15] := by
  obtain ⟨l⟩ := cs
  match l, h with
  | [c0, c1, c2, c3, c4, c5, c6, c7, c8, c9, c10, c11, c12, c13, c14, c15], _ => exact ⟨c0, c1, c2, c3, c4, c5, c6, c7, c8, c9, c10, c11, c12, c13, c14, c15, rfl⟩
theorem co3 : Try.prog.cellsOf 3 = 1 := by kernel_rfl
theorem coR : Try.prog.cellsOf 56 = 2 := by kernel_rfl
theorem coIs : Try.prog.cellsOf 64 = 1 := by kernel_rfl
theorem coI : Try.prog.cellsOf 24 = 1 := by kernel_rfl
theorem coS : Try.prog.cellsOf 28 = 1 := by kernel_rfl
theorem coT : Try.prog.cellsOf 65 = 6 := by kernel_rfl
theorem coM : Try.prog.cellsOf 67 = 16 := by kernel_rfl

set_option maxRecDepth 100000 in
theorem open_mate {H : Type} {enc : TypeId × Value → H} {w : World} {b0 : Nat} {v : Value} {d : DataW H} {p : List MemPlace} (hv : Value.okWide Try.prog w .any b0 67 v) (h : DataW.Trod enc Try.prog w 0 (fun _ => true) true 67 v d p) :
    ∃ (m : Mt) (u : Mv), v = .agg #[.int .i64 m.id, .int .i64 m.rid, .slice u.ms.a u.ms.n u.ms.c, .slice u.its.a u.its.n u.its.c, .slice u.lv.a u.lv.n u.lv.c, .slice u.tx.a u.tx.n u.tx.c, .int .i64 m.rd, .int .i64 m.se, .int .i64 m.li, .int .i64 m.he, .int .i64 m.la.c, .int .i64 m.la.r, .int .i64 m.la.q, .int .i64 m.la.a, .int .i64 m.la.b, .slice u.ws.a u.ws.n u.ws.c] ∧ MtR w m u ∧ MtL m := by
  obtain ⟨cs, rfl, hsz⟩ := okWide_struct Try.underlying67 hv
  obtain ⟨c0, c1, c2, c3, c4, c5, c6, c7, c8, c9, c10, c11, c12, c13, c14, c15, rfl⟩ := array16 (hsz.trans coM)
  obtain ⟨fuel, hf⟩ := h
  obtain ⟨xs, n, _, _, hl, hlen, hff⟩ := DataW.trod_struct Try.underlying67 hf
  match xs, hlen with
  | [y0, y1, y2, y3, y4, y5, y6, y7, y8, y9], _ =>
    have e0 := hff 0 _ rfl
    have e1 := hff 1 _ rfl
    have e2 := hff 2 _ rfl
    have e3 := hff 3 _ rfl
    have e4 := hff 4 _ rfl
    have e5 := hff 5 _ rfl
    have e6 := hff 6 _ rfl
    have e7 := hff 7 _ rfl
    have e8 := hff 8 _ rfl
    have e9 := hff 9 _ rfl
    simp [Value.cells, co3, coR, coIs, coI, coS, coT] at e0 e1 e2 e3 e4 e5 e6 e7 e8 e9
    obtain ⟨x0, q0, _, _⟩ := DataW.trod_int Try.underlying3 e0
    obtain ⟨x5, q5, _, _⟩ := DataW.trod_int Try.underlying3 e5
    obtain ⟨x6, q6, _, _⟩ := DataW.trod_int Try.underlying3 e6
    obtain ⟨x7, q7, _, _⟩ := DataW.trod_int Try.underlying3 e7
    obtain ⟨x8, q8, _, _⟩ := DataW.trod_int Try.underlying3 e8
    obtain ⟨ai, li, ci, q2⟩ := slice_form Try.underlying64 e2
    obtain ⟨al, ll, cl, q3⟩ := slice_form Try.underlying24 e3
    obtain ⟨at_, lt, ct, q4⟩ := slice_form Try.underlying28 e4
    simp at q0 q5 q6 q7 q8 q2 q3 q4
    subst q0 q5 q6 q7 q8 q2 q3 q4
    obtain ⟨its, hi1, hi2, hi3, hi4⟩ := open_items Try.underlying64 Try.underlying72 (by kernel_rfl) cellsI Try.underlying3 Try.underlying3 Try.underlying3 Try.underlying9 e2
    obtain ⟨lv, hv1, hv2, hv3⟩ := open_intsAt Try.underlying24 Try.underlying3 co3 e3
    obtain ⟨tx, ht1, ht2, ht3, ht4⟩ := open_textsAt Try.underlying28 Try.underlying9 (show Try.prog.cellsOf 9 = 1 by kernel_rfl) e4
    -- the ring
    obtain ⟨rs, n1, _, _, _, hrl, hrf⟩ := DataW.trod_struct Try.underlying56 e1
    -- the token
    obtain ⟨ts, n2, _, _, _, htl, htf⟩ := DataW.trod_struct Try.underlying65 e9
    match rs, hrl, ts, htl with
    | [r0, r1], _, [t0, t1, t2, t3, t4, t5], _ =>
      have f0 := hrf 0 _ rfl
      have f1 := hrf 1 _ rfl
      have g0 := htf 0 _ rfl
      have g1 := htf 1 _ rfl
      have g2 := htf 2 _ rfl
      have g3 := htf 3 _ rfl
      have g4 := htf 4 _ rfl
      have g5 := htf 5 _ rfl
      simp [co3, coI] at f0 f1 g0 g1 g2 g3 g4 g5
      obtain ⟨z0, k0, _, _⟩ := DataW.trod_int Try.underlying3 f0
      obtain ⟨am, lm, cm, k1⟩ := slice_form Try.underlying24 f1
      obtain ⟨u0, j0, _, _⟩ := DataW.trod_int Try.underlying3 g0
      obtain ⟨u1, j1, _, _⟩ := DataW.trod_int Try.underlying3 g1
      obtain ⟨u2, j2, _, _⟩ := DataW.trod_int Try.underlying3 g2
      obtain ⟨u3, j3, _, _⟩ := DataW.trod_int Try.underlying3 g3
      obtain ⟨u4, j4, _, _⟩ := DataW.trod_int Try.underlying3 g4
      obtain ⟨aw, lw, cw, j5⟩ := slice_form Try.underlying24 g5
      simp at k0 k1 j0 j1 j2 j3 j4 j5
      subst k0 k1 j0 j1 j2 j3 j4 j5
      obtain ⟨ms, hm1, hm2, hm3⟩ := open_intsAt Try.underlying24 Try.underlying3 co3 f1
      obtain ⟨ws, hw1, hw2, hw3⟩ := open_intsAt Try.underlying24 Try.underlying3 co3 g5
      subst hi1 hv1 ht1 hm1 hw1
      unfold maxLen at hi3 hi4 hv3 ht3 ht4 hm3 hw3
      exact ⟨⟨x0, z0, ms, its, lv, tx, x5, x6, x7, x8, ⟨u0, u1, u2, u3, u4, ws⟩⟩, ⟨⟨am, ms.length, cm⟩, ⟨ai, its.length, ci⟩, ⟨al, lv.length, cl⟩, ⟨at_, tx.length, ct⟩, ⟨aw, ws.length, cw⟩⟩, rfl,
        ⟨⟨am, cm, rfl, hm2⟩, ⟨ai, ci, rfl, hi2⟩, ⟨al, cl, rfl, hv2⟩, ⟨at_, ct, rfl, ht2⟩, ⟨aw, cw, rfl, hw2⟩⟩, ⟨hm3, hi3, hv3, ht3, hw3, hi4, ht4⟩⟩
end Go.Proofs.Ytpbhcbgohgfkcaa
