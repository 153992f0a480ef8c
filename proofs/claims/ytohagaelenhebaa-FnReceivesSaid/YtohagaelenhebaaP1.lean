/- The walks over the program's copies of texts and of an end. -/
import Derived.Test.YtohagaelenhebaaE1
import Derived.Test.YtohagaelenhebaaE3
import Derived.Test.YtohagaelenhebaaPs
import Derived.Test.YtohagaelenhebaaS1
import Derived.Test.YtohagaelenhebaaCl
import Derived.Deep.RegionHeld3
import Derived.Laws.MakeOwn
namespace Go.Proofs.Ytohagaelenhebaa
open Go.RowKit Pl
set_option linter.unusedVariables false

theorem take_more {ts : List ByteArray} {k : Nat} (h : k < ts.length) : ts.take k ++ [ts[k]] = ts.take (k + 1) := (List.take_succ_eq_append_getElem h).symm

set_option maxRecDepth 100000 in
set_option maxHeartbeats 2000000 in
theorem copyT_any (ao : Option Addr) (cap : Nat) (ts : List ByteArray) (w : World) (hx : Hid (TextsAt w ao ts)) (hl : ts.length ≤ 1048576) (hs : Hid (∀ t ∈ ts, t.size ≤ 1048576)) :
    Calls Try.prog 73 #[.slice ao ts.length cap] w fun r w' => ∃ v, r = .returned v ∧ SlT w' w.heap.size v ts ∧ Below w.heap.size w w' := by
  obtain ⟨i0, hi, hz0, hz1, hz2⟩ := info_parts Try.info9
  have hmk : ∀ W : World, ∃ cur : Array Value, cur.size = ts.length ∧ (Instr.makeSlice 24 (.int .i64 0) (.int .i64 (ts.length : Int))).run Try.prog W = .ok (.slice (some ⟨W.heap.size, 0, none⟩) 0 ts.length) (W.alloc (.cells cur 9)) := fun W => by
    have h := run_make (P := Try.prog) W 24 9 i0 (.string ⟨#[]⟩) Try.underlying24 hi hz0 .i64 .i64 0 (ts.length : Int) (by omega) (by omega) (by rw [hz2]; omega) (by omega)
    refine ⟨_, ?_, by simpa using h⟩
    simp only [hz1, Nat.mul_one]
    rw [← Array.length_toList, show (Value.string ⟨#[]⟩).cells = #[Value.string ⟨#[]⟩] from rfl, toList_madeCells_one]
    simp
  obtain ⟨cur, hcs, hmk0⟩ := hmk w
  clear hmk
  have S0 : SlT (w.alloc (.cells cur 9)) w.heap.size (.slice (some ⟨w.heap.size, 0, none⟩) 0 ts.length) (ts.take 0) := by
    refine ⟨by simp, .inr ⟨w.heap.size, 0, ts.length, cur, by simp, Nat.le_refl _, heap_alloc_new w _, by simp, by unfold maxLen; omega, by omega, fun j hj => by simp at hj⟩⟩
  go_enter Try.func73, Try.ntmps73
  go_wp2_with fail
  go_loopw [3, 11] (fun v i wr => ∃ k : Nat, k ≤ ts.length ∧ i = .int .i64 k ∧ Hid (SlT wr w.heap.size v (ts.take k)) ∧ Hid (Below w.heap.size w wr)) (fun _ i _ => ts.length - (intOf i).toNat)
  case atStart => exact ⟨0, Nat.zero_le _, rfl, S0, (Below.refl _ _).alloc (Nat.le_refl _) _⟩
  case round =>
    obtain ⟨k, hk, rfl, hS, hB⟩ := hrel
    clear S0 hmk0
    by_cases hlt : k < ts.length
    · obtain ⟨b, off, rfl, hbb, hc⟩ := hx.out.stays hB.out k hlt
      have hsz := hs.out _ (List.getElem_mem hlt)
      obtain ⟨x, ht⟩ : ∃ x, x = ts[k] := ⟨_, rfl⟩
      rw [← ht] at hc hsz
      have HT : Hid (x = ts[k]) := ht
      clear ht
      go_wp2_with (first | (go_at_call 74; refine Stop.mk ?_) | (at_builtin; refine Stop.mk ?_))
      refine Stop.go ?_
      refine (clone_any x _ (by omega)).mono ?_
      rintro e w1 ⟨rfl, hb1⟩
      go_wp2_with (first | (at_builtin; refine Stop.mk ?_))
      refine Stop.go ?_
      refine wpList_pushT rfl _ _ 24 rfl Try.underlying24 Try.info9 (by rfl) (show SlT w1 _ _ _ from Sl.below hS.out hb1) x rfl (by rfl) (by rw [List.length_take]; omega) (by have := hB.out.size; have := hb1.size; omega) ?_
      intro v2 w2 S2 G2 Z2 L2
      have HB2 : Hid (Below w.heap.size w w2) := by
        have h1 := hB.out.trans (hb1.mono hB.out.size)
        refine h1.trans ⟨G2.os, G2.tape, G2.output, G2.size, fun j hj => G2.block j (by have := h1.size; omega) (fun he => ?_)⟩
        have := (Sl.lt hS.out _ he.symm).1
        omega
      have HS2 : Hid (SlT w2 w.heap.size v2 (ts.take (k + 1))) := by
        rw [← take_more hlt, ← HT.out]
        exact S2
      clear S2 G2 Z2 L2 hb1
      go_wp2_with fail
      go_roundw
      case rel => exact ⟨k + 1, by omega, by go_num, HS2.out, HB2.out⟩
      case measure => simp [intOf]; omega
    · go_wp2_with fail
      go_ret
      refine ⟨_, rfl, ?_, hB.out⟩
      have := hS.out
      rw [List.take_of_length_le (by omega)] at this
      exact this

/-- the end e lies behind p; it and its lists lie from B on. -/
def EndP (w : World) (B p : Nat) (e : En) : Prop := ∃ qv ov, EndC w 32 p e.nx e.ak qv e.gt ov ∧ SlT w B qv e.q ∧ SlT w B ov e.o ∧ Dj qv ov ∧ B ≤ p ∧ qv.ownBlock ≠ some p ∧ ov.ownBlock ≠ some p
theorem EndP.below {w w' : World} {B p : Nat} {e : En} (h : EndP w B p e) (hb : Below w.heap.size w w') : EndP w' B p e := by
  obtain ⟨qv, ov, h1, h2, h3, h4⟩ := h
  exact ⟨qv, ov, h1.below hb, Sl.below h2 hb, Sl.below h3 hb, h4⟩
theorem EndP.lt {w : World} {B p : Nat} {e : En} (h : EndP w B p e) : p < w.heap.size := by
  obtain ⟨qv, ov, h1, _⟩ := h
  exact h1.lt

theorem copyDone {w w0 w1 : World} {nx ak gt : Int} {v u : Value} {q o : List ByteArray} {B : Nat} (hw : w.heap.size ≤ B) (hb : Below w.heap.size w w1) (hq : SlT w1 B v q) (ho : SlT w1 B u o) (hd : Dj v u) :
    EndP (w1.alloc (.cells #[.int .i64 nx, .int .i64 ak, v, .int .i64 gt, u] 32)) w.heap.size w1.heap.size ⟨nx, ak, q, gt, o⟩ ∧ Below w.heap.size w (w1.alloc (.cells #[.int .i64 nx, .int .i64 ak, v, .int .i64 gt, u] 32)) :=
  ⟨⟨v, u, EndC.new w1 32 nx ak gt v u, Sl.down (Sl.alloc hq _) hw, Sl.down (Sl.alloc ho _) hw, hd, hb.size, ne_high hq (Nat.le_refl _), ne_high ho (Nat.le_refl _)⟩, hb.alloc hb.size _⟩

set_option maxRecDepth 100000 in
set_option maxHeartbeats 4000000 in
theorem copyEnd_any {v : Value} {e : En} (w : World) (h : EndR w v e) (lq : e.q.length ≤ 1048576) (lo : e.o.length ≤ 1048576) (sq : Hid (∀ t ∈ e.q, t.size ≤ 1048576)) (so : Hid (∀ t ∈ e.o, t.size ≤ 1048576)) :
    Calls Try.prog 55 #[v] w fun r w' => ∃ p, r = .returned (.pointer (some ⟨p, 0, none⟩)) ∧ EndP w' w.heap.size p e ∧ Below w.heap.size w w' := by
  obtain ⟨nx, ak, q, gt, o⟩ := e
  obtain ⟨qa, qc, oa, oc, rfl, hq, ho⟩ := h
  dsimp only at *
  have HQ : Hid (TextsAt w qa q) := hq
  have HO : Hid (TextsAt w oa o) := ho
  clear hq ho
  go_enter Try.func55, Try.ntmps55
  go_wp2_with fail
  have B0 : Hid (Below w.heap.size w (w.alloc (Obj.cells #[Value.int IntKind.i64 nx, Value.int IntKind.i64 ak, Value.slice qa q.length qc, Value.int IntKind.i64 gt, Value.slice oa o.length oc] 32))) := (Below.refl _ _).alloc (Nat.le_refl _) _
  have E0 : Hid (EndC (w.alloc (Obj.cells #[Value.int IntKind.i64 nx, Value.int IntKind.i64 ak, Value.slice qa q.length qc, Value.int IntKind.i64 gt, Value.slice oa o.length oc] 32)) 32 w.heap.size nx ak (.slice qa q.length qc) gt (.slice oa o.length oc)) := EndC.new w 32 nx ak gt _ _
  have Z0 : (w.alloc (Obj.cells #[Value.int IntKind.i64 nx, Value.int IntKind.i64 ak, Value.slice qa q.length qc, Value.int IntKind.i64 gt, Value.slice oa o.length oc] 32)).heap.size = w.heap.size + 1 := by simp
  generalize (w.alloc (Obj.cells #[Value.int IntKind.i64 nx, Value.int IntKind.i64 ak, Value.slice qa q.length qc, Value.int IntKind.i64 gt, Value.slice oa o.length oc] 32)) = W at *
  have TQ0 : Hid (TextsAt W.drew qa q) := HQ.out.stays B0.out.drew
  have TO0 : Hid (TextsAt W.drew oa o) := HO.out.stays B0.out.drew
  go_region_held3 (fun w' => w'.cell? ⟨w.heap.size, 0, none⟩ = some (.int .i64 nx) ∧ w'.cell? ⟨w.heap.size, 1, none⟩ = some (.int .i64 ak) ∧ w'.cell? ⟨w.heap.size, 2, none⟩ = some (.slice qa q.length qc) ∧ w'.cell? ⟨w.heap.size, 3, none⟩ = some (.int .i64 gt) ∧ w'.cell? ⟨w.heap.size, 4, none⟩ = some (.slice oa o.length oc)) (first | exact E3.cells | exact E2.cells | exact E0.out.cells | exact (EndC.below E3 ((Below.refl _ _).alloc (Nat.le_refl _) _)).cells)
    (first
      | (go_at_call 73; (with_reducible show Calls _ _ #[Value.slice qa q.length qc] W.drew _); refine (copyT_any qa qc q W.drew TQ0 lq sq).mono ?_; rintro e w2 ⟨v1, rfl, S1, hb2⟩; obtain ⟨va, vc, rfl⟩ := Sl.form S1; have TO1 : Hid (TextsAt w2 oa o) := TO0.out.stays hb2; have E2 := EndC.below (show EndC W.drew _ _ _ _ _ _ _ from E0.out) hb2)
      | (go_at_call 73; (with_reducible show Calls _ _ #[Value.slice oa o.length oc] w2 _); refine (copyT_any oa oc o w2 TO1 lo so).mono ?_; rintro e w3 ⟨v2, rfl, S2, hb3⟩; obtain ⟨ua, uc, rfl⟩ := Sl.form S2; have S3 := Sl.below S1 hb3; have dj := dj_order S1 S2; have E3 := EndC.below E2 hb3))
  · have hb : Below w.heap.size w w3 := (B0.out.drew.trans (hb2.mono B0.out.size)).trans (hb3.mono (by have := hb2.size; have := B0.out.size; simp at *; omega))
    have hfin := copyDone (nx := nx) (ak := ak) (gt := gt) (B := W.heap.size) (w0 := w) B0.out.size hb (show SlT w3 W.heap.size _ q from S3) (show SlT w3 W.heap.size _ o from Sl.down S2 (by have := hb2.size; simpa using this)) dj
    clear E2 E3 S1 S2 S3 dj hb2 hb3
    go_wp2_with fail
    go_ret
    exact ⟨_, rfl, hfin.1, hfin.2⟩
end Go.Proofs.Ytohagaelenhebaa
