/- Joined texts: COdm COrg COwo. -/
import Derived.Test.YtdodeillifoibaaSq23
import Derived.Test.YtdodeillifoibaaSq17
import Derived.Test.YtdodeillifoibaaSq19
/- A parameter that is a daemon, opened. -/
namespace Go.Proofs.Ytdodeillifoibaa
open Go.RowKit Go.ChangeShapes Go.WideShapes Go.Deep Go.WideElems Pl
open Go.Joins (slice_form)
set_option linter.unusedVariables false
set_option linter.unusedSimpArgs false

theorem co4 : Try.prog.cellsOf 4 = 1 := by kernel_rfl
theorem coBs : Try.prog.cellsOf 105 = 1 := by kernel_rfl
theorem coLs : Try.prog.cellsOf 22 = 1 := by kernel_rfl
theorem coB : Try.prog.cellsOf 110 = 4 := by kernel_rfl
theorem coE : Try.prog.cellsOf 55 = 8 := by kernel_rfl
theorem coD : Try.prog.cellsOf 107 = 24 := by kernel_rfl
theorem coIt : Try.prog.cellsOf 53 = 4 := by kernel_rfl
set_option maxRecDepth 100000 in
theorem open_mateC {H : Type} {enc : TypeId × Value → H} {w : World} {fuel : Nat} {c0 c1 c2 c3 c4 c5 c6 c7 c8 c9 c10 c11 c12 c13 c14 c15 : Value} {x : DataW H × List MemPlace} (hf : DataW.trod enc Try.prog w 0 (fun _ => true) true fuel 104 [c0, c1, c2, c3, c4, c5, c6, c7, c8, c9, c10, c11, c12, c13, c14, c15] = some x) :
    ∃ (m : Mt) (u : Mv), [c0, c1, c2, c3, c4, c5, c6, c7, c8, c9, c10, c11, c12, c13, c14, c15] = [.int .i64 m.id, .int .i64 m.rid, .slice u.ms.a u.ms.n u.ms.c, .slice u.its.a u.its.n u.its.c, .slice u.lv.a u.lv.n u.lv.c, .slice u.tx.a u.tx.n u.tx.c, .int .i64 m.rd, .int .i64 m.se, .int .i64 m.li, .int .i64 m.he, .int .i64 m.la.c, .int .i64 m.la.r, .int .i64 m.la.q, .int .i64 m.la.a, .int .i64 m.la.b, .slice u.ws.a u.ws.n u.ws.c] ∧ MtR w m u ∧ MtL m := by
  obtain ⟨xs, n, _, _, hl, hlen, hff⟩ := DataW.trod_struct Try.underlying104 hf
  match xs, hlen with
  | [y0, y1, y2, y3, y4, y5, y6, y7, y8, y9], _ =>
    have e0 := hff 0 _ rfl
    have e1 := hff 1 _ rfl
    have e2 := hff 2 _ rfl
    have e3 := hff 3 _ rfl
    have e4 := hff 4 _ rfl
    have e5 := hff 5 _ rfl
    have e6 := hff 6 _ rfl
    have e7 := hff 7 _ rfl
    have e8 := hff 8 _ rfl
    have e9 := hff 9 _ rfl
    simp [Value.cells, co3, coR, coIs, coI, coS, coT] at e0 e1 e2 e3 e4 e5 e6 e7 e8 e9
    obtain ⟨x0, q0, _, _⟩ := DataW.trod_int Try.underlying3 e0
    obtain ⟨x5, q5, _, _⟩ := DataW.trod_int Try.underlying3 e5
    obtain ⟨x6, q6, _, _⟩ := DataW.trod_int Try.underlying3 e6
    obtain ⟨x7, q7, _, _⟩ := DataW.trod_int Try.underlying3 e7
    obtain ⟨x8, q8, _, _⟩ := DataW.trod_int Try.underlying3 e8
    obtain ⟨ai, li, ci, q2⟩ := slice_form Try.underlying101 e2
    obtain ⟨al, ll, cl, q3⟩ := slice_form Try.underlying49 e3
    obtain ⟨at_, lt, ct, q4⟩ := slice_form Try.underlying70 e4
    simp at q0 q5 q6 q7 q8 q2 q3 q4
    subst q0 q5 q6 q7 q8 q2 q3 q4
    obtain ⟨its, hi1, hi2, hi3, hi4⟩ := open_items Try.underlying101 Try.underlying53 (by kernel_rfl) cellsI Try.underlying3 Try.underlying3 Try.underlying3 Try.underlying9 e2
    obtain ⟨lv, hv1, hv2, hv3⟩ := open_intsAt Try.underlying49 Try.underlying3 co3 e3
    obtain ⟨tx, ht1, ht2, ht3, ht4⟩ := open_textsAt Try.underlying70 Try.underlying9 (show Try.prog.cellsOf 9 = 1 by kernel_rfl) e4
    -- the ring
    obtain ⟨rs, n1, _, _, _, hrl, hrf⟩ := DataW.trod_struct Try.underlying51 e1
    -- the token
    obtain ⟨ts, n2, _, _, _, htl, htf⟩ := DataW.trod_struct Try.underlying102 e9
    match rs, hrl, ts, htl with
    | [r0, r1], _, [t0, t1, t2, t3, t4, t5], _ =>
      have f0 := hrf 0 _ rfl
      have f1 := hrf 1 _ rfl
      have g0 := htf 0 _ rfl
      have g1 := htf 1 _ rfl
      have g2 := htf 2 _ rfl
      have g3 := htf 3 _ rfl
      have g4 := htf 4 _ rfl
      have g5 := htf 5 _ rfl
      simp [co3, coI] at f0 f1 g0 g1 g2 g3 g4 g5
      obtain ⟨z0, k0, _, _⟩ := DataW.trod_int Try.underlying3 f0
      obtain ⟨am, lm, cm, k1⟩ := slice_form Try.underlying49 f1
      obtain ⟨u0, j0, _, _⟩ := DataW.trod_int Try.underlying3 g0
      obtain ⟨u1, j1, _, _⟩ := DataW.trod_int Try.underlying3 g1
      obtain ⟨u2, j2, _, _⟩ := DataW.trod_int Try.underlying3 g2
      obtain ⟨u3, j3, _, _⟩ := DataW.trod_int Try.underlying3 g3
      obtain ⟨u4, j4, _, _⟩ := DataW.trod_int Try.underlying3 g4
      obtain ⟨aw, lw, cw, j5⟩ := slice_form Try.underlying49 g5
      simp at k0 k1 j0 j1 j2 j3 j4 j5
      subst k0 k1 j0 j1 j2 j3 j4 j5
      obtain ⟨ms, hm1, hm2, hm3⟩ := open_intsAt Try.underlying49 Try.underlying3 co3 f1
      obtain ⟨ws, hw1, hw2, hw3⟩ := open_intsAt Try.underlying49 Try.underlying3 co3 g5
      subst hi1 hv1 ht1 hm1 hw1
      unfold maxLen at hi3 hi4 hv3 ht3 ht4 hm3 hw3
      exact ⟨⟨x0, z0, ms, its, lv, tx, x5, x6, x7, x8, ⟨u0, u1, u2, u3, u4, ws⟩⟩, ⟨⟨am, ms.length, cm⟩, ⟨ai, its.length, ci⟩, ⟨al, lv.length, cl⟩, ⟨at_, tx.length, ct⟩, ⟨aw, ws.length, cw⟩⟩, rfl,
        ⟨⟨am, cm, rfl, hm2⟩, ⟨ai, ci, rfl, hi2⟩, ⟨al, cl, rfl, hv2⟩, ⟨at_, ct, rfl, ht2⟩, ⟨aw, cw, rfl, hw2⟩⟩, ⟨hm3, hi3, hv3, ht3, hw3, hi4, ht4⟩⟩

/-- a slice of structs that was handed in. -/
theorem open_rows {H : Type} {enc : TypeId × Value → H} {P : Program} {w : World} {E : Type} (z : E) (row : E → List Value) (size : Nat) (h0 : 0 < size) (Pr : E → Prop) {tS tE : TypeId} (hu : P.underlying tS = some (.slice tE)) (hC : P.cellsOf tE = size) (hl : ∀ y, (row y).length = size)
    (hel : ∀ n cs x, DataW.trod enc P w 0 (fun _ => true) true n tE cs = some x → ∃ y : E, cs = row y ∧ Pr y)
    {fuel : Nat} {ao : Option Addr} {len cap : Nat} {x : DataW H × List MemPlace} (h : DataW.trod enc P w 0 (fun _ => true) true fuel tS [.slice ao len cap] = some x) :
    ∃ es : List E, es.length = len ∧ RwA w ao size (es.map row) ∧ len ≤ 9223372036854775807 ∧ ∀ e ∈ es, Pr e := by
  rcases open_slice hu h with ⟨hcs, _⟩ | ⟨a, len', cap', m, n, D, Pl, hcs, _, hl1, hm, hmm, _, hx⟩
  · simp at hcs
    obtain ⟨rfl, rfl, rfl⟩ := hcs
    exact ⟨[], rfl, fun i hi => absurd hi (by simp), Nat.zero_le _, fun y hy => by cases hy⟩
  · simp at hcs
    obtain ⟨rfl, rfl, rfl⟩ := hcs
    simp only [if_true] at hmm
    rw [hC] at hx
    haveI : Inhabited E := ⟨z⟩
    obtain ⟨f, hf⟩ := choose_lt (α := E) (n := len) (p := fun i y => (∀ j, j < size → w.cell? ((a.add (i * size)).add j) = (row y)[j]?) ∧ Pr y) (fun i hi => by
      obtain ⟨cs', h1, h2⟩ := hx i (by omega)
      obtain ⟨y, rfl, hy⟩ := hel _ _ _ h2
      exact ⟨y, (World.cells?_some h1).2.2, hy⟩)
    refine ⟨(List.range len).map f, by simp, ?_, by have := Nat.le_trans hl1 hm; unfold maxLen at this; omega, fun y hy => ?_⟩
    · intro i hi
      have hi' : i < len := by simpa using hi
      obtain ⟨b, off, spot⟩ := a
      have hc := (hf i hi').1
      have hr0 : ∃ u, (row (f 0))[0]? = some u := ⟨_, List.getElem?_eq_getElem (by rw [hl]; exact h0)⟩
      have hspot : spot = none := by
        obtain ⟨u, hu0⟩ := hr0
        have := World.cell?_spot (((hf 0 (by omega)).1 0 h0).trans hu0)
        simpa [Addr.add] using this
      subst hspot
      have hadd : ∀ j, ((⟨b, off, none⟩ : Addr).add (i * size)).add j = ⟨b, off + (i * size + j), none⟩ := fun j => by
        rw [add_add]
        unfold Addr.add
        split <;> simp_all
      have hget : (((List.range len).map f).map row)[i] = row (f i) := by simp
      rw [hget]
      refine ⟨b, off, rfl, ?_, hl _, fun j v hv => ?_⟩
      · obtain ⟨u, hu1⟩ : ∃ u, (row (f i))[0]? = some u := ⟨_, List.getElem?_eq_getElem (by rw [hl]; exact h0)⟩
        have hc0 := hc 0 h0
        rw [hadd, hu1] at hc0
        have hb : w.cell? ⟨b, off + (i * size + 0), none⟩ ≠ none := by rw [hc0]; simp
        rcases Nat.lt_or_ge b w.heap.size with h | h
        · exact h
        · exact absurd (by simp [World.cell?, Array.getElem?_eq_none h]) hb
      · have hj : j < size := by rw [← hl (f i)]; exact (List.getElem?_eq_some_iff.1 hv).1
        have hcj := hc j hj
        rw [hadd, hv] at hcj
        rw [Nat.add_assoc]
        exact hcj
    · obtain ⟨i, hi, rfl⟩ := List.mem_map.1 hy
      exact (hf i (by simpa using hi)).2
set_option maxRecDepth 100000 in
theorem open_bundleE {H : Type} {enc : TypeId × Value → H} {w : World} (n : Nat) (cs : List Value) (x : DataW H × List MemPlace) (h : DataW.trod enc Try.prog w 0 (fun _ => true) true n 110 cs = some x) : ∃ y : Bu, cs = y.row ∧ y.R w ∧ y.L := by
  obtain ⟨xs, n, _, _, hl, hlen, hff⟩ := DataW.trod_struct Try.underlying110 h
  rw [coB] at hl
  match xs, hlen, cs, hl with
  | [y0, y1, y2, y3], _, [c0, c1, c2, c3], _ =>
    have e0 := hff 0 _ rfl
    have e1 := hff 1 _ rfl
    have e2 := hff 2 _ rfl
    have e3 := hff 3 _ rfl
    simp [co3, coIs] at e0 e1 e2 e3
    obtain ⟨x0, q0, _, _⟩ := DataW.trod_int Try.underlying3 e0
    obtain ⟨x1, q1, _, _⟩ := DataW.trod_int Try.underlying3 e1
    obtain ⟨x2, q2, _, _⟩ := DataW.trod_int Try.underlying3 e2
    obtain ⟨ia, il, ic, q3⟩ := slice_form Try.underlying101 e3
    simp at q0 q1 q2 q3
    subst q0 q1 q2 q3
    obtain ⟨l, hll, hia, hlm, hty⟩ := open_items Try.underlying101 Try.underlying53 (by kernel_rfl) cellsI Try.underlying3 Try.underlying3 Try.underlying3 Try.underlying9 e3
    subst hll
    unfold maxLen at hlm hty
    exact ⟨⟨x0, x1, x2, l, ⟨ia, l.length, ic⟩⟩, rfl, ⟨rfl, hia⟩, hlm, hty⟩
set_option maxRecDepth 100000 in
theorem open_eventE {H : Type} {enc : TypeId × Value → H} {w : World} (n : Nat) (cs : List Value) (x : DataW H × List MemPlace) (h : DataW.trod enc Try.prog w 0 (fun _ => true) true n 55 cs = some x) : ∃ y : Ev, cs = y.row ∧ y.R w ∧ y.L := by
  obtain ⟨xs, n, _, _, hl, hlen, hff⟩ := DataW.trod_struct Try.underlying55 h
  rw [coE] at hl
  match xs, hlen, cs, hl with
  | [y0, y1, y2, y3], _, [c0, c1, c2, c3, c4, c5, c6, c7], _ =>
    have e0 := hff 0 _ rfl
    have e1 := hff 1 _ rfl
    have e2 := hff 2 _ rfl
    have e3 := hff 3 _ rfl
    simp [co3, coR, coIt, coI] at e0 e1 e2 e3
    obtain ⟨x0, q0, _, _⟩ := DataW.trod_int Try.underlying3 e0
    obtain ⟨wa, wl, wc, q3⟩ := slice_form Try.underlying49 e3
    obtain ⟨it, qi, hit⟩ := open_item Try.underlying53 (by kernel_rfl) cellsI Try.underlying3 Try.underlying3 Try.underlying3 Try.underlying9 e2
    obtain ⟨rs, n1, _, _, _, hrl, hrf⟩ := DataW.trod_struct Try.underlying51 e1
    match rs, hrl with
    | [r0, r1], _ =>
      have f0 := hrf 0 _ rfl
      have f1 := hrf 1 _ rfl
      simp [co3, coI] at f0 f1
      obtain ⟨z0, k0, _, _⟩ := DataW.trod_int Try.underlying3 f0
      obtain ⟨am, lm, cm, k1⟩ := slice_form Try.underlying49 f1
      obtain ⟨q, f, l, t⟩ := it
      simp at q0 q3 k0 k1 qi
      obtain ⟨rfl, rfl, rfl, rfl⟩ := qi
      subst q0 q3 k0 k1
      obtain ⟨ms, hm1, hm2, hm3⟩ := open_intsAt Try.underlying49 Try.underlying3 co3 f1
      obtain ⟨wi, hw1, hw2, hw3⟩ := open_intsAt Try.underlying49 Try.underlying3 co3 e3
      subst hm1 hw1
      unfold maxLen at hm3 hw3 hit
      exact ⟨⟨x0, z0, ms, q, f, l, t, wi, ⟨am, ms.length, cm⟩, ⟨wa, wi.length, wc⟩⟩, rfl, ⟨⟨am, cm, rfl, hm2⟩, ⟨wa, wc, rfl, hw2⟩⟩, hm3, hw3, hit⟩
end Go.Proofs.Ytdodeillifoibaa


/- A slice of rings that was handed in, opened. -/
namespace Go.Proofs.Ytdodeillifoibaa
open Go.RowKit Go.ChangeShapes Go.WideShapes Go.Deep Go.WideElems Pl
open Go.Joins (slice_form)
set_option linter.unusedVariables false
set_option linter.unusedSimpArgs false

theorem coRn : Try.prog.cellsOf 51 = 2 := by kernel_rfl
set_option maxRecDepth 100000 in
theorem open_ringE {H : Type} {enc : TypeId × Value → H} {w : World} (n : Nat) (cs : List Value) (x : DataW H × List MemPlace) (h : DataW.trod enc Try.prog w 0 (fun _ => true) true n 51 cs = some x) : ∃ y : Rn, cs = y.row ∧ y.R w ∧ y.L := by
  obtain ⟨xs, n, _, _, hl, hlen, hff⟩ := DataW.trod_struct Try.underlying51 h
  rw [coRn] at hl
  match xs, hlen, cs, hl with
  | [y0, y1], _, [c0, c1], _ =>
    have e0 := hff 0 _ rfl
    have e1 := hff 1 _ rfl
    simp [co3, coI] at e0 e1
    obtain ⟨x0, q0, _, _⟩ := DataW.trod_int Try.underlying3 e0
    obtain ⟨am, lm, cm, q1⟩ := slice_form Try.underlying49 e1
    simp at q0 q1
    subst q0 q1
    obtain ⟨ms, hm1, hm2, hm3⟩ := open_intsAt Try.underlying49 Try.underlying3 co3 e1
    subst hm1
    unfold maxLen at hm3
    exact ⟨⟨x0, ms, ⟨am, ms.length, cm⟩⟩, rfl, ⟨am, cm, rfl, hm2⟩, hm3⟩
theorem open_rings {H : Type} {enc : TypeId × Value → H} {w : World} {fuel : Nat} {ao : Option Addr} {len cap : Nat} {x : DataW H × List MemPlace} (h : DataW.trod enc Try.prog w 0 (fun _ => true) true fuel 33 [.slice ao len cap] = some x) :
    ∃ es : List Rn, es.length = len ∧ RwA w ao 2 (es.map Rn.row) ∧ len ≤ 9223372036854775807 ∧ ∀ e ∈ es, e.R w ∧ e.L :=
  open_rows ⟨0, [], zSv⟩ Rn.row 2 (by decide) (fun y => y.R w ∧ y.L) Try.underlying33 coRn (fun _ => rfl) open_ringE h
end Go.Proofs.Ytdodeillifoibaa


/- A parameter that is a world, opened. Written by gen_sw.py. -/
namespace Go.Proofs.Ytdodeillifoibaa
open Go.RowKit Go.ChangeShapes Go.WideShapes Go.Deep Go.WideElems Pl
open Go.Joins (slice_form open_agg4)
set_option linter.unusedVariables false
set_option linter.unusedSimpArgs false

theorem coL6 : Try.prog.cellsOf 112 = 17 := by kernel_rfl
theorem coW6 : Try.prog.cellsOf 37 = 4 := by kernel_rfl
theorem list24 {α : Type} {cs : List α} (h : cs.length = 24) : ∃ c0 c1 c2 c3 c4 c5 c6 c7 c8 c9 c10 c11 c12 c13 c14 c15 c16 c17 c18 c19 c20 c21 c22 c23, cs = [c0, c1, c2, c3, c4, c5, c6, c7, c8, c9, c10, c11, c12, c13, c14, c15, c16, c17, c18, c19, c20, c21, c22, c23] := by
  match cs, h with
  | [c0, c1, c2, c3, c4, c5, c6, c7, c8, c9, c10, c11, c12, c13, c14, c15, c16, c17, c18, c19, c20, c21, c22, c23], _ => exact ⟨c0, c1, c2, c3, c4, c5, c6, c7, c8, c9, c10, c11, c12, c13, c14, c15, c16, c17, c18, c19, c20, c21, c22, c23, rfl⟩
theorem list17 {α : Type} {cs : List α} (h : cs.length = 17) : ∃ c0 c1 c2 c3 c4 c5 c6 c7 c8 c9 c10 c11 c12 c13 c14 c15 c16, cs = [c0, c1, c2, c3, c4, c5, c6, c7, c8, c9, c10, c11, c12, c13, c14, c15, c16] := by
  match cs, h with
  | [c0, c1, c2, c3, c4, c5, c6, c7, c8, c9, c10, c11, c12, c13, c14, c15, c16], _ => exact ⟨c0, c1, c2, c3, c4, c5, c6, c7, c8, c9, c10, c11, c12, c13, c14, c15, c16, rfl⟩
set_option maxRecDepth 100000 in
theorem open_daemonE {H : Type} {enc : TypeId × Value → H} {w : World} (n : Nat) (cs : List Value) (x : DataW H × List MemPlace) (h : DataW.trod enc Try.prog w 0 (fun _ => true) true n 107 cs = some x) : ∃ y : Dm, cs = y.row ∧ y.R w ∧ y.L := by
  obtain ⟨xs, n, _, _, hl, hlen, hff⟩ := DataW.trod_struct Try.underlying107 h
  rw [coD] at hl
  obtain ⟨c0, c1, c2, c3, c4, c5, c6, c7, c8, c9, c10, c11, c12, c13, c14, c15, c16, c17, c18, c19, c20, c21, c22, c23, rfl⟩ := list24 hl
  match xs, hlen with
  | [y0, y1, y2, y3, y4, y5, y6, y7], _ =>
    have e0 := hff 0 _ rfl
    have e1 := hff 1 _ rfl
    have e2 := hff 2 _ rfl
    have e3 := hff 3 _ rfl
    have e4 := hff 4 _ rfl
    have e5 := hff 5 _ rfl
    have e6 := hff 6 _ rfl
    have e7 := hff 7 _ rfl
    simp [Value.cells, co3, co4, coM, coR, coBs, coLs] at e0 e1 e2 e3 e4 e5 e6 e7
    obtain ⟨x0, q0, _, _⟩ := DataW.trod_int Try.underlying3 e0
    obtain ⟨x1, q1, _⟩ := DataW.trod_bool Try.underlying4 e1
    obtain ⟨m, u, q2, hm, hml⟩ := open_mateC e2
    obtain ⟨x3, q3, _, _⟩ := DataW.trod_int Try.underlying3 e3
    obtain ⟨x4, q4, _, _⟩ := DataW.trod_int Try.underlying3 e4
    obtain ⟨ba, bl, bc, q6⟩ := slice_form Try.underlying105 e6
    obtain ⟨la, ll, lc, q7⟩ := slice_form Try.underlying22 e7
    obtain ⟨rs, n1, _, _, _, hrl, hrf⟩ := DataW.trod_struct Try.underlying51 e5
    match rs, hrl with
    | [r0, r1], _ =>
      have f0 := hrf 0 _ rfl
      have f1 := hrf 1 _ rfl
      simp [co3, coI] at f0 f1
      obtain ⟨z0, k0, _, _⟩ := DataW.trod_int Try.underlying3 f0
      obtain ⟨am, lm, cm, k1⟩ := slice_form Try.underlying49 f1
      simp at q0 q1 q2 q3 q4 q6 q7 k0 k1
      obtain ⟨rfl, rfl, rfl, rfl, rfl, rfl, rfl, rfl, rfl, rfl, rfl, rfl, rfl, rfl, rfl, rfl⟩ := q2
      subst q0 q1 q3 q4 q6 q7 k0 k1
      obtain ⟨ms, hm1, hm2, hm3⟩ := open_intsAt Try.underlying49 Try.underlying3 co3 f1
      obtain ⟨bs, hb1, hb2, hb3, hb4⟩ := open_rows ⟨0, 0, 0, [], zSv⟩ Bu.row 4 (by decide) (fun y => y.R w ∧ y.L) Try.underlying105 coB (fun _ => rfl) open_bundleE e6
      obtain ⟨es, hl1, hl2, hl3, hl4⟩ := open_rows ⟨0, 0, [], 0, 0, 0, ⟨#[]⟩, [], zSv, zSv⟩ Ev.row 8 (by decide) (fun y => y.R w ∧ y.L) Try.underlying22 coE (fun _ => rfl) open_eventE e7
      subst hm1 hb1 hl1
      unfold maxLen at hm3
      exact ⟨⟨x0, x1, m, u, x3, x4, z0, ms, ⟨am, ms.length, cm⟩, bs, ⟨ba, bs.length, bc⟩, es, ⟨la, es.length, lc⟩⟩, rfl, ⟨hm, ⟨am, cm, rfl, hm2⟩, ⟨rfl, hb2, fun b hb => (hb4 b hb).1⟩, ⟨rfl, hl2, fun e he => (hl4 e he).1⟩⟩, ⟨hml, hm3, ⟨hb3, fun b hb => (hb4 b hb).2⟩, ⟨hl3, fun e he => (hl4 e he).2⟩⟩⟩
set_option maxRecDepth 100000 in
theorem open_letterE {H : Type} {enc : TypeId × Value → H} {w : World} (n : Nat) (cs : List Value) (x : DataW H × List MemPlace) (h : DataW.trod enc Try.prog w 0 (fun _ => true) true n 112 cs = some x) : ∃ y : Lt, cs = y.row ∧ y.R w ∧ y.L := by
  obtain ⟨xs, n, _, _, hl, hlen, hff⟩ := DataW.trod_struct Try.underlying112 h
  rw [coL6] at hl
  obtain ⟨c0, c1, c2, c3, c4, c5, c6, c7, c8, c9, c10, c11, c12, c13, c14, c15, c16, rfl⟩ := list17 hl
  match xs, hlen with
  | [y0, y1, y2, y3, y4, y5], _ =>
    have e0 := hff 0 _ rfl
    have e1 := hff 1 _ rfl
    have e2 := hff 2 _ rfl
    have e3 := hff 3 _ rfl
    have e4 := hff 4 _ rfl
    have e5 := hff 5 _ rfl
    simp [co3, coIt, coT, coB] at e0 e1 e2 e3 e4 e5
    obtain ⟨x0, q0, _, _⟩ := DataW.trod_int Try.underlying3 e0
    obtain ⟨x1, q1, _, _⟩ := DataW.trod_int Try.underlying3 e1
    obtain ⟨x2, q2, _, _⟩ := DataW.trod_int Try.underlying3 e2
    obtain ⟨it, qi, hit⟩ := open_item Try.underlying53 (by kernel_rfl) cellsI Try.underlying3 Try.underlying3 Try.underlying3 Try.underlying9 e3
    obtain ⟨bu, qb, hbr, hbl⟩ := open_bundleE _ _ _ e5
    obtain ⟨ts, n2, _, _, _, htl, htf⟩ := DataW.trod_struct Try.underlying102 e4
    match ts, htl with
    | [t0, t1, t2, t3, t4, t5], _ =>
      have g0 := htf 0 _ rfl
      have g1 := htf 1 _ rfl
      have g2 := htf 2 _ rfl
      have g3 := htf 3 _ rfl
      have g4 := htf 4 _ rfl
      have g5 := htf 5 _ rfl
      simp [co3, coI] at g0 g1 g2 g3 g4 g5
      obtain ⟨u0, j0, _, _⟩ := DataW.trod_int Try.underlying3 g0
      obtain ⟨u1, j1, _, _⟩ := DataW.trod_int Try.underlying3 g1
      obtain ⟨u2, j2, _, _⟩ := DataW.trod_int Try.underlying3 g2
      obtain ⟨u3, j3, _, _⟩ := DataW.trod_int Try.underlying3 g3
      obtain ⟨u4, j4, _, _⟩ := DataW.trod_int Try.underlying3 g4
      obtain ⟨aw, lw, cw, j5⟩ := slice_form Try.underlying49 g5
      obtain ⟨q, f, l, t⟩ := it
      obtain ⟨bf, bn, bo, bts, bs⟩ := bu
      simp [Bu.row] at q0 q1 q2 qi qb j0 j1 j2 j3 j4 j5
      obtain ⟨rfl, rfl, rfl, rfl⟩ := qi
      obtain ⟨rfl, rfl, rfl, rfl⟩ := qb
      subst q0 q1 q2 j0 j1 j2 j3 j4 j5
      obtain ⟨ws, hw1, hw2, hw3⟩ := open_intsAt Try.underlying49 Try.underlying3 co3 g5
      subst hw1
      unfold maxLen at hw3 hit
      exact ⟨⟨x0, x1, x2, q, f, l, t, u0, u1, u2, u3, u4, ws, bf, bn, bo, bts, ⟨aw, ws.length, cw⟩, bs⟩, rfl, ⟨⟨aw, cw, rfl, hw2⟩, hbr⟩, hit, hw3, hbl.1, hbl.2⟩
set_option maxRecDepth 100000 in
theorem open_world {H : Type} {enc : TypeId × Value → H} {w : World} {b0 : Nat} {v : Value} {d : DataW H} {p : List MemPlace} (hv : Value.okWide Try.prog w .any b0 37 v) (h : DataW.Trod enc Try.prog w 0 (fun _ => true) true 37 v d p) :
    ∃ x : Wo, v = .agg #[.slice x.rs.a x.rs.n x.rs.c, .slice x.ds.a x.ds.n x.ds.c, .slice x.ls.a x.ls.n x.ls.c, .slice x.ns.a x.ns.n x.ns.c] ∧ WoR w x ∧ WoL x := by
  obtain ⟨c0, c1, c2, c3, y0, y1, y2, y3, k, rfl, _, _, e0, e1, e2, e3⟩ := open_agg4 Try.underlying37 (by kernel_rfl) coW6 hv h
  obtain ⟨ra, rn, rc, q0⟩ := slice_form Try.underlying33 e0
  obtain ⟨da, dn, dc, q1⟩ := slice_form Try.underlying34 e1
  obtain ⟨la, ln, lc, q2⟩ := slice_form Try.underlying35 e2
  obtain ⟨na, nn, nc, q3⟩ := slice_form Try.underlying22 e3
  simp at q0 q1 q2 q3
  subst q0 q1 q2 q3
  obtain ⟨rs, hr1, hr2, hr3, hr4⟩ := open_rings e0
  obtain ⟨ds, hd1, hd2, hd3, hd4⟩ := open_rows ⟨0, false, ⟨0, 0, [], [], [], [], 0, 0, 0, 0, ⟨0, 0, 0, 0, 0, []⟩⟩, ⟨zSv, zSv, zSv, zSv, zSv⟩, 0, 0, 0, [], zSv, [], zSv, [], zSv⟩ Dm.row 24 (by decide) (fun y => y.R w ∧ y.L) Try.underlying34 coD (fun _ => rfl) open_daemonE e1
  obtain ⟨ls, hl1, hl2, hl3, hl4⟩ := open_rows ⟨0, 0, 0, 0, 0, 0, ⟨#[]⟩, 0, 0, 0, 0, 0, [], 0, 0, 0, [], zSv, zSv⟩ Lt.row 17 (by decide) (fun y => y.R w ∧ y.L) Try.underlying35 coL6 (fun _ => rfl) open_letterE e2
  obtain ⟨es, hn1, hn2, hn3, hn4⟩ := open_rows ⟨0, 0, [], 0, 0, 0, ⟨#[]⟩, [], zSv, zSv⟩ Ev.row 8 (by decide) (fun y => y.R w ∧ y.L) Try.underlying22 coE (fun _ => rfl) open_eventE e3
  subst hr1 hd1 hl1 hn1
  exact ⟨⟨⟨ra, rs.length, rc⟩, rs, ⟨da, ds.length, dc⟩, ds, ⟨la, ls.length, lc⟩, ls, ⟨na, es.length, nc⟩, es⟩, rfl, ⟨⟨rfl, hr2, fun e he => (hr4 e he).1⟩, ⟨rfl, hd2, fun e he => (hd4 e he).1⟩, ⟨rfl, hl2, fun e he => (hl4 e he).1⟩, ⟨rfl, hn2, fun e he => (hn4 e he).1⟩⟩, ⟨hr3, fun e he => (hr4 e he).2, hd3, fun e he => (hd4 e he).2, hl3, fun e he => (hl4 e he).2, hn3, fun e he => (hn4 e he).2⟩⟩
end Go.Proofs.Ytdodeillifoibaa


