/- The walks over the closure that reads a piece, over the reading of its packet, over a piece that is right and over the program's readPiece. -/
import Derived.Test.YtfefjkldjaabbaaRp1
namespace Go.Proofs.Ytfefjkldjaabbaa
open Go.RowKit Pl
set_option linter.unusedVariables false

/-- the block g is a piece. -/
def PeAt (w : World) (g : Nat) (q f l : Int) (t : ByteArray) : Prop := w.heap[g]? = some (.cells #[.int .i64 q, .int .i64 f, .int .i64 l, .string t] 62 (0, 0))
theorem PeAt.cells {w : World} {g : Nat} {q f l : Int} {t : ByteArray} (h : PeAt w g q f l t) : w.cell? ⟨g, 0, none⟩ = some (.int .i64 q) ∧ w.cell? ⟨g, 1, none⟩ = some (.int .i64 f) ∧ w.cell? ⟨g, 2, none⟩ = some (.int .i64 l) ∧ w.cell? ⟨g, 3, none⟩ = some (.string t) :=
  ⟨by rw [cell_of_row w g 0 _ 62 (0, 0) h]; rfl, by rw [cell_of_row w g 1 _ 62 (0, 0) h]; rfl, by rw [cell_of_row w g 2 _ 62 (0, 0) h]; rfl, by rw [cell_of_row w g 3 _ 62 (0, 0) h]; rfl⟩
theorem PeAt.stays {w w' : World} {B g : Nat} {q f l : Int} {t : ByteArray} (h : PeAt w g q f l t) (hb : Below B w w') (hg : g < B) : PeAt w' g q f l t := (hb.block g hg).trans h
theorem PeAt.lt {w : World} {g : Nat} {q f l : Int} {t : ByteArray} (h : PeAt w g q f l t) : g < w.heap.size := (Array.getElem?_eq_some_iff.1 h).1
theorem PeAt.frozen {w : World} {g : Nat} {q f l : Int} {t : ByteArray} (h : PeAt w g q f l t) (i : Nat) : w.frozen? ⟨g, i, none⟩ = false := frozen_of_row w g i _ 62 h
theorem PeAt.set0 {w : World} {g : Nat} {q f l : Int} {t : ByteArray} (h : PeAt w g q f l t) (x : Int) : PeAt (w.setCell ⟨g, 0, none⟩ (.int .i64 x)) g x f l t := by
  have := heap_setCell_same w g 0 _ 62 (.int .i64 x) h
  unfold PeAt; rw [this]; rfl
theorem PeAt.set1 {w : World} {g : Nat} {q f l : Int} {t : ByteArray} (h : PeAt w g q f l t) (x : Int) : PeAt (w.setCell ⟨g, 1, none⟩ (.int .i64 x)) g q x l t := by
  have := heap_setCell_same w g 1 _ 62 (.int .i64 x) h
  unfold PeAt; rw [this]; rfl
theorem PeAt.set2 {w : World} {g : Nat} {q f l : Int} {t : ByteArray} (h : PeAt w g q f l t) (x : Int) : PeAt (w.setCell ⟨g, 2, none⟩ (.int .i64 x)) g q f x t := by
  have := heap_setCell_same w g 2 _ 62 (.int .i64 x) h
  unfold PeAt; rw [this]; rfl
theorem PeAt.set3 {w : World} {g : Nat} {q f l : Int} {t : ByteArray} (h : PeAt w g q f l t) (x : ByteArray) : PeAt (w.setCell ⟨g, 3, none⟩ (.string x)) g q f l x := by
  have := heap_setCell_same w g 3 _ 62 (.string x) h
  unfold PeAt; rw [this]; rfl
theorem PeAt.keep {w w' : World} {g k : Nat} {q f l : Int} {t : ByteArray} (h : PeAt w g q f l t) (hk : KeepBut k w w') (hg : g ≠ k) : PeAt w' g q f l t := (hk.block g h.lt hg).trans h

theorem PeAt.agg {w : World} {g : Nat} {q f l : Int} {t : ByteArray} (h : PeAt w g q f l t) (q' f' l' : Int) (t' : ByteArray) :
    PeAt ((((w.setCell ⟨g, 0, none⟩ (.int .i64 q')).setCell ⟨g, 1, none⟩ (.int .i64 f')).setCell ⟨g, 2, none⟩ (.int .i64 l')).setCell ⟨g, 3, none⟩ (.string t')) g q' f' l' t' :=
  (((h.set0 q').set1 f').set2 l').set3 t'


/-- what the closure answers. -/
def ClAns (s : ByteArray) (gm gr : Nat) (w : World) (e : Ending) (w' : World) : Prop :=
  (e = .panicked noPk ∧ rawP s = none ∧ Keep2 gm gr w w') ∨
  ∃ (q f l : Nat) (t : ByteArray), e = .returned (.tuple #[]) ∧ rawP s = some (q, f, l, t) ∧ PeAt w' gm q f l t ∧ PrAt w' gr s s.size ∧ Keep2 gm gr w w'

set_option maxRecDepth 100000 in
set_option maxHeartbeats 4000000 in
theorem clPiece_any (s : ByteArray) (gm gr : Nat) (w : World) (hm : Hid (PeAt w gm 0 0 0 ByteArray.empty)) (hp : Hid (PrAt w gr s 0)) (hne : gm < gr) (hs : s.size ≤ 1048576) :
    Calls Try.prog 53 #[.pointer (some ⟨gr, 0, none⟩), .pointer (some ⟨gm, 0, none⟩)] w fun e w' => ClAns s gm gr w e w' := by
  go_enter Try.func53, Try.ntmps53
  go_wp2_with fail
  rcases h0 : rv s 0 with _ | ⟨q, i⟩
  · refine (number_none s gr 0 _ hp hs (Nat.zero_le _) h0).mono ?_
    rintro e v1 ⟨rfl, ht1⟩
    exact ⟨rfl, .inl ⟨rfl, rawP_n0  h0, ht1.keep.right⟩⟩
  have H0 : Hid (rv s 0 = some (q, i)) := h0
  obtain ⟨u0, _⟩ := (upto_start s).rv h0
  have hi := u0.le
  have U0 : Hid (Upto s i ([] ++ varL q)) := u0
  clear h0 u0
  refine (number_some s gr 0 q i _ hp hs (Nat.zero_le _) H0).mono ?_
  rintro e w1 ⟨rfl, hp1, ht1⟩
  have K1 : Hid (Keep2 gm gr w w1) := ht1.keep.right
  have I1 : Hid (PeAt w1 gm 0 0 0 ByteArray.empty) := hm.out.keep ht1.keep (by omega)
  have P1 : Hid (PrAt w1 gr s i) := hp1
  have c0 := I1.out.cells.1
  have f0 := I1.out.frozen 0
  clear hm hp hp1 ht1
  go_wp2_with fail
  have I2 : Hid (PeAt (w1.setCell ⟨gm, 0, none⟩ (.int .i64 q)) gm q 0 0 ByteArray.empty) := I1.out.set0 q
  have P2 : Hid (PrAt (w1.setCell ⟨gm, 0, none⟩ (.int .i64 q)) gr s i) := P1.out.turn ((TurnAt.refl gm w1).setCell 0 _) (by omega)
  have K2 : Hid (Keep2 gm gr w (w1.setCell ⟨gm, 0, none⟩ (.int .i64 q))) := K1.out.trans ((TurnAt.refl gm w1).setCell 0 _).keep.left
  generalize w1.setCell ⟨gm, 0, none⟩ (.int .i64 q) = W1 at *
  clear I1 P1 K1 c0 f0
  rcases h1 : rv s i with _ | ⟨f, j⟩
  · refine (number_none s gr i _ P2 hs hi h1).mono ?_
    rintro e v1 ⟨rfl, ht1⟩
    exact ⟨rfl, .inl ⟨rfl, rawP_n1 H0.out h1, K2.out.trans ht1.keep.right⟩⟩
  have H1 : Hid (rv s i = some (f, j)) := h1
  obtain ⟨u1, _⟩ := U0.out.rv h1
  have hj := u1.le
  have U1 : Hid (Upto s j ([] ++ varL q ++ varL f)) := u1
  clear h1 u1
  refine (number_some s gr i f j _ P2 hs hi H1).mono ?_
  rintro e w2 ⟨rfl, hp1, ht1⟩
  have K3 : Hid (Keep2 gm gr w w2) := K2.out.trans ht1.keep.right
  have I3 : Hid (PeAt w2 gm q 0 0 ByteArray.empty) := I2.out.keep ht1.keep (by omega)
  have P3 : Hid (PrAt w2 gr s j) := hp1
  have c0 := I3.out.cells.2.1
  have f0 := I3.out.frozen 1
  clear I2 P2 hp1 ht1
  go_wp2_with fail
  have I4 : Hid (PeAt (w2.setCell ⟨gm, 1, none⟩ (.int .i64 f)) gm q f 0 ByteArray.empty) := I3.out.set1 f
  have P4 : Hid (PrAt (w2.setCell ⟨gm, 1, none⟩ (.int .i64 f)) gr s j) := P3.out.turn ((TurnAt.refl gm w2).setCell 1 _) (by omega)
  have K4 : Hid (Keep2 gm gr w (w2.setCell ⟨gm, 1, none⟩ (.int .i64 f))) := K3.out.trans ((TurnAt.refl gm w2).setCell 1 _).keep.left
  generalize w2.setCell ⟨gm, 1, none⟩ (.int .i64 f) = W2 at *
  clear I3 P3 K3 c0 f0
  rcases h2 : rv s j with _ | ⟨l, k⟩
  · refine (number_none s gr j _ P4 hs hj h2).mono ?_
    rintro e v1 ⟨rfl, ht1⟩
    exact ⟨rfl, .inl ⟨rfl, rawP_n2 H0.out H1.out h2, K4.out.trans ht1.keep.right⟩⟩
  have H2 : Hid (rv s j = some (l, k)) := h2
  obtain ⟨u2, _⟩ := U1.out.rv h2
  have hk := u2.le
  have U2 : Hid (Upto s k ([] ++ varL q ++ varL f ++ varL l)) := u2
  clear h2 u2
  refine (number_some s gr j l k _ P4 hs hj H2).mono ?_
  rintro e w3 ⟨rfl, hp1, ht1⟩
  have K5 : Hid (Keep2 gm gr w w3) := K4.out.trans ht1.keep.right
  have I5 : Hid (PeAt w3 gm q f 0 ByteArray.empty) := I4.out.keep ht1.keep (by omega)
  have P5 : Hid (PrAt w3 gr s k) := hp1
  have c0 := I5.out.cells.2.2.1
  have f0 := I5.out.frozen 2
  clear I4 P4 hp1 ht1
  go_wp2_with fail
  have I6 : Hid (PeAt (w3.setCell ⟨gm, 2, none⟩ (.int .i64 l)) gm q f l ByteArray.empty) := I5.out.set2 l
  have P6 : Hid (PrAt (w3.setCell ⟨gm, 2, none⟩ (.int .i64 l)) gr s k) := P5.out.turn ((TurnAt.refl gm w3).setCell 2 _) (by omega)
  have K6 : Hid (Keep2 gm gr w (w3.setCell ⟨gm, 2, none⟩ (.int .i64 l))) := K5.out.trans ((TurnAt.refl gm w3).setCell 2 _).keep.left
  generalize w3.setCell ⟨gm, 2, none⟩ (.int .i64 l) = W3 at *
  clear I5 P5 K5 c0 f0
  refine (rest_any s gr k _ P6 hs hk).mono ?_
  rintro e w4 ⟨rfl, hp4, ht4⟩
  have K7 : Hid (Keep2 gm gr w w4) := K6.out.trans ht4.right
  have I7 : Hid (PeAt w4 gm q f l ByteArray.empty) := I6.out.keep ht4 (by omega)
  have P7 : Hid (PrAt w4 gr s s.size) := hp4
  have c0 := I7.out.cells.2.2.2
  have f0 := I7.out.frozen 3
  clear I6 P6 K6 hp4 ht4
  go_wp2_with fail
  go_end0
  exact .inr ⟨q, f, l, _, rfl, rawP_some H0.out H1.out H2.out, I7.out.set3 _, P7.out.turn ((TurnAt.refl gm w4).setCell 3 _) (by omega), K7.out.trans ((TurnAt.refl gm w4).setCell 3 _).keep.left⟩

theorem keep_out {w W w1 w2 : World} {gm : Nat} (h : Below w.heap.size w W) (hk : Keep2 gm (w.heap.size + 1) W w1) (ht : TurnAt w.heap.size w1 w2) : KeepBut gm w w2 :=
  ⟨ht.os.trans (hk.os.trans h.os), ht.tape.trans (hk.tape.trans h.tape), ht.output.trans (hk.output.trans h.output), by have := h.size; have := hk.size; have := ht.size; omega,
    fun k h1 h2 => (ht.block k (by omega)).trans ((hk.block k (Nat.lt_of_lt_of_le h1 h.size) h2 (by omega)).trans (h.block k h1))⟩

/-- what the reading of an item's packet answers. -/
def RpAns (s : ByteArray) (gm : Nat) (w : World) (e : Ending) (w' : World) : Prop :=
  (e = .returned (.bool false) ∧ rawP s = none ∧ KeepBut gm w w') ∨
  ∃ (q f l : Nat) (t : ByteArray), e = .returned (.bool true) ∧ rawP s = some (q, f, l, t) ∧ PeAt w' gm q f l t ∧ KeepBut gm w w'

set_option maxRecDepth 100000 in
set_option maxHeartbeats 4000000 in
theorem readP_any (s : ByteArray) (gm : Nat) (w : World) (hm : Hid (PeAt w gm 0 0 0 ByteArray.empty)) (hs : s.size ≤ 1048576) :
    Calls Try.prog 52 #[.string s, .func (.func 53) #[] #[.pointer (some ⟨gm, 0, none⟩)]] w fun e w' => RpAns s gm w e w' := by
  have hmf : ∀ (fn : Fn) (first cap : Array Value) (w : World), (Instr.makeFunc fn first cap).run Try.prog w = .ok (.func fn first cap) w := fun _ _ _ _ => rfl
  have hlt := hm.out.lt
  have H1 : Hid (PeAt ((w.alloc (.cells #[.bool false] 4)).alloc (.cells #[.string s, .int .i64 0] 92)) gm 0 0 0 ByteArray.empty) := (hm.out.stays ((Below.refl w.heap.size w).alloc (Nat.le_refl _) _) hlt).stays ((Below.refl (w.heap.size + 1) _).alloc (by simp) _) (by omega)
  have H2 : Hid (PrAt ((w.alloc (.cells #[.bool false] 4)).alloc (.cells #[.string s, .int .i64 0] 92)) (w.heap.size + 1) s 0) := by
    have := heap_alloc_new (w.alloc (.cells #[.bool false] 4)) (.cells #[.string s, .int .i64 0] 92)
    show PrAt _ _ _ _
    simpa [PrAt] using this
  have H3 : Hid (((w.alloc (.cells #[.bool false] 4)).alloc (.cells #[.string s, .int .i64 0] 92)).heap[w.heap.size]? = some (.cells #[.bool false] 4 (0, 0))) :=
    (((Below.refl (w.heap.size + 1) (w.alloc (.cells #[.bool false] 4))).alloc (by simp) _).block w.heap.size (by omega)).trans (heap_alloc_new w _)
  have H4 : Hid (Below w.heap.size w ((w.alloc (.cells #[.bool false] 4)).alloc (.cells #[.string s, .int .i64 0] 92))) := ((Below.refl _ _).alloc (Nat.le_refl _) _).alloc (by simp) _
  have H5 : Hid (((w.alloc (.cells #[.bool false] 4)).alloc (.cells #[.string s, .int .i64 0] 92)).heap.size = w.heap.size + 2) := by show _ = _; simp
  go_enter_defers Try.func52, Try.ntmps52
  go_wp2_with fail
  generalize (w.alloc (.cells #[.bool false] 4)).alloc (.cells #[.string s, .int .i64 0] 92) = W at *
  refine (clPiece_any s gm (w.heap.size + 1) W H1 H2 (by omega) hs).mono ?_
  rintro e w1 (⟨rfl, hn, hk⟩ | ⟨q, f, l, t, rfl, hq, hi, hp, hk⟩)
  · have hb : w1.heap[w.heap.size]? = some (.cells #[.bool false] 4 (0, 0)) := (hk.block w.heap.size (by have := H5.out; omega) (by omega) (by omega)).trans H3.out
    have hc : w1.cell? ⟨w.heap.size, 0, none⟩ = some (.bool false) := by rw [cell_of_row w1 w.heap.size 0 _ 4 (0, 0) hb]; rfl
    have hf := frozen_of_row w1 w.heap.size 0 _ 4 hb
    refine leaves_cons (f := 63) (args := #[.pointer (some ⟨w.heap.size, 0, none⟩)]) (by simp) (by simp [go_sem]) ?_
    refine (catch_panicking ⟨w.heap.size, 0, none⟩ false _ hc hf).mono ?_
    rintro e u' w'' ⟨rfl, rfl, rfl⟩
    have hsame : (w1.setCell ⟨w.heap.size, 0, none⟩ (.bool false)).cell? ⟨w.heap.size, 0, none⟩ = some (.bool false) := by
      rw [cell_of_row _ w.heap.size 0 _ 4 (0, 0) (heap_setCell_same w1 w.heap.size 0 _ 4 (.bool false) hb)]; rfl
    simp [Leaves, settle, results, Try.results52, go_sem, hsame]
    exact .inl ⟨rfl, hn, keep_out H4.out hk ((TurnAt.refl _ _).setCell 0 _)⟩
  · have hb : w1.heap[w.heap.size]? = some (.cells #[.bool false] 4 (0, 0)) := (hk.block w.heap.size (by have := H5.out; omega) (by omega) (by omega)).trans H3.out
    have hc : w1.cell? ⟨w.heap.size, 0, none⟩ = some (.bool false) := by rw [cell_of_row w1 w.heap.size 0 _ 4 (0, 0) hb]; rfl
    have hf := frozen_of_row w1 w.heap.size 0 _ 4 hb
    obtain ⟨c0, c1, _, _⟩ := hp.cells
    have HB : Hid (w1.heap[w.heap.size]? = some (.cells #[.bool false] 4 (0, 0))) := hb
    have HI : Hid (PeAt w1 gm q f l t) := hi
    have HK : Hid (Keep2 gm (w.heap.size + 1) W w1) := hk
    have HQ : Hid (rawP s = some (q, f, l, t)) := hq
    clear hb hi hp hk hq H1 H2 H3 H5
    go_wp2_with fail
    have hsame : (w1.setCell ⟨w.heap.size, 0, none⟩ (.bool true)).cell? ⟨w.heap.size, 0, none⟩ = some (.bool true) := by
      rw [cell_of_row _ w.heap.size 0 _ 4 (0, 0) (heap_setCell_same w1 w.heap.size 0 _ 4 _ HB.out)]; rfl
    refine leaves_cons (f := 63) (args := #[.pointer (some ⟨w.heap.size, 0, none⟩)]) (by simp) (by simp [go_sem]) ?_
    refine (catch_idle ⟨w.heap.size, 0, none⟩ _).mono ?_
    rintro e u' w'' ⟨rfl, rfl, rfl⟩
    simp [Leaves, settle, results, Try.results52, go_sem, hsame]
    exact .inr ⟨q, f, l, t, rfl, HQ.out, HI.out.keep ((TurnAt.refl w.heap.size w1).setCell 0 _).keep (by omega), keep_out H4.out HK.out ((TurnAt.refl _ _).setCell 0 _)⟩

end Go.Proofs.Ytfefjkldjaabbaa
