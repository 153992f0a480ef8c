/- Joined texts: Rp1 Rp2 Rp3 Rp4. -/
import Derived.Test.YtfefjkldjaabbaaPj5
import Derived.Test.YtfefjkldjaabbaaPj6
import Derived.Test.YtfefjkldjaabbaaPj2
import Derived.BigQuiet
import Derived.Test.YtfefjkldjaabbaaPj4
import Derived.Test.YtfefjkldjaabbaaPj3
/- The walks over the program's reader of pieces: what is left of a text, the closure, the reading of a packet, a piece that is right, readPiece. -/
namespace Go.Proofs.Ytfefjkldjaabbaa
open Go.RowKit Pl
set_option linter.unusedVariables false

theorem pr_step {W w w' : World} {g A : Nat} {s : ByteArray} (h : (w.cell? ⟨g, 0, none⟩ = some (.string s) ∧ w.cell? ⟨g, 1, none⟩ = some (.int .i64 A) ∧ w.frozen? ⟨g, 0, none⟩ = false ∧ w.frozen? ⟨g, 1, none⟩ = false) ∧ Hid (Below W.heap.size W w ∧ PrAt w g s A)) (hb : Below w.heap.size w w') :
    (w'.cell? ⟨g, 0, none⟩ = some (.string s) ∧ w'.cell? ⟨g, 1, none⟩ = some (.int .i64 A) ∧ w'.frozen? ⟨g, 0, none⟩ = false ∧ w'.frozen? ⟨g, 1, none⟩ = false) ∧ Hid (Below W.heap.size W w' ∧ PrAt w' g s A) := by
  obtain ⟨h1, h2⟩ := h
  obtain ⟨h3, h4⟩ := h2.out
  have h5 := h4.stays hb h4.lt
  exact ⟨h5.cells, ⟨h3.trans (hb.mono h3.size), h5⟩⟩

set_option maxRecDepth 100000 in
set_option maxHeartbeats 1000000 in
theorem rest_any (s : ByteArray) (g A : Nat) (w : World) (hp : Hid (PrAt w g s A)) (hs : s.size ≤ 1048576) (hA : A ≤ s.size) :
    Calls Try.prog 55 #[.pointer (some ⟨g, 0, none⟩)] w fun e w' => e = .returned (.string (s.extract A s.size)) ∧ PrAt w' g s s.size ∧ KeepBut g w w' := by
  have HI : (w.drew.cell? ⟨g, 0, none⟩ = some (.string s) ∧ w.drew.cell? ⟨g, 1, none⟩ = some (.int .i64 A) ∧ w.drew.frozen? ⟨g, 0, none⟩ = false ∧ w.drew.frozen? ⟨g, 1, none⟩ = false) ∧ Hid (Below w.heap.size w w.drew ∧ PrAt w.drew g s A) :=
    ⟨hp.out.cells, (Below.refl _ _).drew, hp.out⟩
  have hex : (s.extract A s.size).size ≤ 1048576 := by rw [ByteArray.size_extract]; omega
  have i0 : (0 : Int) ≤ (A : Int) := by omega
  have i1 : (A : Int) ≤ (s.size : Int) := by omega
  go_enter Try.func55, Try.ntmps55
  go_wp2
  go_region_held3 (fun w' => (w'.cell? ⟨g, 0, none⟩ = some (.string s) ∧ w'.cell? ⟨g, 1, none⟩ = some (.int .i64 A) ∧ w'.frozen? ⟨g, 0, none⟩ = false ∧ w'.frozen? ⟨g, 1, none⟩ = false) ∧ Hid (Below w.heap.size w w' ∧ PrAt w' g s A)) (first | exact HI | assumption) (first | (go_at_call 61; refine (clone_any (s.extract A s.size) _ hex).mono ?_; rintro e w3 ⟨rfl, hb3⟩; have hk3 := pr_step (W := w) (by assumption) hb3))
  obtain ⟨⟨c0, c1, f0, f1⟩, hk⟩ := hk3
  clear HI
  go_wp2
  go_ret
  exact ⟨rfl, hk.out.2.set s.size, (keep_of_below hk.out.1).trans ((TurnAt.refl g w3).setCell 1 _).keep⟩
end Go.Proofs.Ytfefjkldjaabbaa

/- The walks over the closure that reads a piece, over the reading of its packet, over a piece that is right and over the program's readPiece. -/
namespace Go.Proofs.Ytfefjkldjaabbaa
open Go.RowKit Pl
set_option linter.unusedVariables false

/-- the block g is a piece. -/
def PeAt (w : World) (g : Nat) (q f l : Int) (t : ByteArray) : Prop := w.heap[g]? = some (.cells #[.int .i64 q, .int .i64 f, .int .i64 l, .string t] 62 (0, 0))
theorem PeAt.cells {w : World} {g : Nat} {q f l : Int} {t : ByteArray} (h : PeAt w g q f l t) : w.cell? ⟨g, 0, none⟩ = some (.int .i64 q) ∧ w.cell? ⟨g, 1, none⟩ = some (.int .i64 f) ∧ w.cell? ⟨g, 2, none⟩ = some (.int .i64 l) ∧ w.cell? ⟨g, 3, none⟩ = some (.string t) :=
  ⟨by rw [cell_of_row w g 0 _ 62 (0, 0) h]; rfl, by rw [cell_of_row w g 1 _ 62 (0, 0) h]; rfl, by rw [cell_of_row w g 2 _ 62 (0, 0) h]; rfl, by rw [cell_of_row w g 3 _ 62 (0, 0) h]; rfl⟩
theorem PeAt.stays {w w' : World} {B g : Nat} {q f l : Int} {t : ByteArray} (h : PeAt w g q f l t) (hb : Below B w w') (hg : g < B) : PeAt w' g q f l t := (hb.block g hg).trans h
theorem PeAt.lt {w : World} {g : Nat} {q f l : Int} {t : ByteArray} (h : PeAt w g q f l t) : g < w.heap.size := (Array.getElem?_eq_some_iff.1 h).1
theorem PeAt.frozen {w : World} {g : Nat} {q f l : Int} {t : ByteArray} (h : PeAt w g q f l t) (i : Nat) : w.frozen? ⟨g, i, none⟩ = false := frozen_of_row w g i _ 62 h
theorem PeAt.set0 {w : World} {g : Nat} {q f l : Int} {t : ByteArray} (h : PeAt w g q f l t) (x : Int) : PeAt (w.setCell ⟨g, 0, none⟩ (.int .i64 x)) g x f l t := by
  have := heap_setCell_same w g 0 _ 62 (.int .i64 x) h
  unfold PeAt; rw [this]; rfl
theorem PeAt.set1 {w : World} {g : Nat} {q f l : Int} {t : ByteArray} (h : PeAt w g q f l t) (x : Int) : PeAt (w.setCell ⟨g, 1, none⟩ (.int .i64 x)) g q x l t := by
  have := heap_setCell_same w g 1 _ 62 (.int .i64 x) h
  unfold PeAt; rw [this]; rfl
theorem PeAt.set2 {w : World} {g : Nat} {q f l : Int} {t : ByteArray} (h : PeAt w g q f l t) (x : Int) : PeAt (w.setCell ⟨g, 2, none⟩ (.int .i64 x)) g q f x t := by
  have := heap_setCell_same w g 2 _ 62 (.int .i64 x) h
  unfold PeAt; rw [this]; rfl
theorem PeAt.set3 {w : World} {g : Nat} {q f l : Int} {t : ByteArray} (h : PeAt w g q f l t) (x : ByteArray) : PeAt (w.setCell ⟨g, 3, none⟩ (.string x)) g q f l x := by
  have := heap_setCell_same w g 3 _ 62 (.string x) h
  unfold PeAt; rw [this]; rfl
theorem PeAt.keep {w w' : World} {g k : Nat} {q f l : Int} {t : ByteArray} (h : PeAt w g q f l t) (hk : KeepBut k w w') (hg : g ≠ k) : PeAt w' g q f l t := (hk.block g h.lt hg).trans h

theorem PeAt.agg {w : World} {g : Nat} {q f l : Int} {t : ByteArray} (h : PeAt w g q f l t) (q' f' l' : Int) (t' : ByteArray) :
    PeAt ((((w.setCell ⟨g, 0, none⟩ (.int .i64 q')).setCell ⟨g, 1, none⟩ (.int .i64 f')).setCell ⟨g, 2, none⟩ (.int .i64 l')).setCell ⟨g, 3, none⟩ (.string t')) g q' f' l' t' :=
  (((h.set0 q').set1 f').set2 l').set3 t'


/-- what the closure answers. -/
def ClAns (s : ByteArray) (gm gr : Nat) (w : World) (e : Ending) (w' : World) : Prop :=
  (e = .panicked noPk ∧ rawP s = none ∧ Keep2 gm gr w w') ∨
  ∃ (q f l : Nat) (t : ByteArray), e = .returned (.tuple #[]) ∧ rawP s = some (q, f, l, t) ∧ PeAt w' gm q f l t ∧ PrAt w' gr s s.size ∧ Keep2 gm gr w w'

set_option maxRecDepth 100000 in
set_option maxHeartbeats 4000000 in
theorem clPiece_any (s : ByteArray) (gm gr : Nat) (w : World) (hm : Hid (PeAt w gm 0 0 0 ByteArray.empty)) (hp : Hid (PrAt w gr s 0)) (hne : gm < gr) (hs : s.size ≤ 1048576) :
    Calls Try.prog 53 #[.pointer (some ⟨gr, 0, none⟩), .pointer (some ⟨gm, 0, none⟩)] w fun e w' => ClAns s gm gr w e w' := by
  go_enter Try.func53, Try.ntmps53
  go_wp2_with fail
  rcases h0 : rv s 0 with _ | ⟨q, i⟩
  · refine (number_none s gr 0 _ hp hs (Nat.zero_le _) h0).mono ?_
    rintro e v1 ⟨rfl, ht1⟩
    exact ⟨rfl, .inl ⟨rfl, rawP_n0  h0, ht1.keep.right⟩⟩
  have H0 : Hid (rv s 0 = some (q, i)) := h0
  obtain ⟨u0, _⟩ := (upto_start s).rv h0
  have hi := u0.le
  have U0 : Hid (Upto s i ([] ++ varL q)) := u0
  clear h0 u0
  refine (number_some s gr 0 q i _ hp hs (Nat.zero_le _) H0).mono ?_
  rintro e w1 ⟨rfl, hp1, ht1⟩
  have K1 : Hid (Keep2 gm gr w w1) := ht1.keep.right
  have I1 : Hid (PeAt w1 gm 0 0 0 ByteArray.empty) := hm.out.keep ht1.keep (by omega)
  have P1 : Hid (PrAt w1 gr s i) := hp1
  have c0 := I1.out.cells.1
  have f0 := I1.out.frozen 0
  clear hm hp hp1 ht1
  go_wp2_with fail
  have I2 : Hid (PeAt (w1.setCell ⟨gm, 0, none⟩ (.int .i64 q)) gm q 0 0 ByteArray.empty) := I1.out.set0 q
  have P2 : Hid (PrAt (w1.setCell ⟨gm, 0, none⟩ (.int .i64 q)) gr s i) := P1.out.turn ((TurnAt.refl gm w1).setCell 0 _) (by omega)
  have K2 : Hid (Keep2 gm gr w (w1.setCell ⟨gm, 0, none⟩ (.int .i64 q))) := K1.out.trans ((TurnAt.refl gm w1).setCell 0 _).keep.left
  generalize w1.setCell ⟨gm, 0, none⟩ (.int .i64 q) = W1 at *
  clear I1 P1 K1 c0 f0
  rcases h1 : rv s i with _ | ⟨f, j⟩
  · refine (number_none s gr i _ P2 hs hi h1).mono ?_
    rintro e v1 ⟨rfl, ht1⟩
    exact ⟨rfl, .inl ⟨rfl, rawP_n1 H0.out h1, K2.out.trans ht1.keep.right⟩⟩
  have H1 : Hid (rv s i = some (f, j)) := h1
  obtain ⟨u1, _⟩ := U0.out.rv h1
  have hj := u1.le
  have U1 : Hid (Upto s j ([] ++ varL q ++ varL f)) := u1
  clear h1 u1
  refine (number_some s gr i f j _ P2 hs hi H1).mono ?_
  rintro e w2 ⟨rfl, hp1, ht1⟩
  have K3 : Hid (Keep2 gm gr w w2) := K2.out.trans ht1.keep.right
  have I3 : Hid (PeAt w2 gm q 0 0 ByteArray.empty) := I2.out.keep ht1.keep (by omega)
  have P3 : Hid (PrAt w2 gr s j) := hp1
  have c0 := I3.out.cells.2.1
  have f0 := I3.out.frozen 1
  clear I2 P2 hp1 ht1
  go_wp2_with fail
  have I4 : Hid (PeAt (w2.setCell ⟨gm, 1, none⟩ (.int .i64 f)) gm q f 0 ByteArray.empty) := I3.out.set1 f
  have P4 : Hid (PrAt (w2.setCell ⟨gm, 1, none⟩ (.int .i64 f)) gr s j) := P3.out.turn ((TurnAt.refl gm w2).setCell 1 _) (by omega)
  have K4 : Hid (Keep2 gm gr w (w2.setCell ⟨gm, 1, none⟩ (.int .i64 f))) := K3.out.trans ((TurnAt.refl gm w2).setCell 1 _).keep.left
  generalize w2.setCell ⟨gm, 1, none⟩ (.int .i64 f) = W2 at *
  clear I3 P3 K3 c0 f0
  rcases h2 : rv s j with _ | ⟨l, k⟩
  · refine (number_none s gr j _ P4 hs hj h2).mono ?_
    rintro e v1 ⟨rfl, ht1⟩
    exact ⟨rfl, .inl ⟨rfl, rawP_n2 H0.out H1.out h2, K4.out.trans ht1.keep.right⟩⟩
  have H2 : Hid (rv s j = some (l, k)) := h2
  obtain ⟨u2, _⟩ := U1.out.rv h2
  have hk := u2.le
  have U2 : Hid (Upto s k ([] ++ varL q ++ varL f ++ varL l)) := u2
  clear h2 u2
  refine (number_some s gr j l k _ P4 hs hj H2).mono ?_
  rintro e w3 ⟨rfl, hp1, ht1⟩
  have K5 : Hid (Keep2 gm gr w w3) := K4.out.trans ht1.keep.right
  have I5 : Hid (PeAt w3 gm q f 0 ByteArray.empty) := I4.out.keep ht1.keep (by omega)
  have P5 : Hid (PrAt w3 gr s k) := hp1
  have c0 := I5.out.cells.2.2.1
  have f0 := I5.out.frozen 2
  clear I4 P4 hp1 ht1
  go_wp2_with fail
  have I6 : Hid (PeAt (w3.setCell ⟨gm, 2, none⟩ (.int .i64 l)) gm q f l ByteArray.empty) := I5.out.set2 l
  have P6 : Hid (PrAt (w3.setCell ⟨gm, 2, none⟩ (.int .i64 l)) gr s k) := P5.out.turn ((TurnAt.refl gm w3).setCell 2 _) (by omega)
  have K6 : Hid (Keep2 gm gr w (w3.setCell ⟨gm, 2, none⟩ (.int .i64 l))) := K5.out.trans ((TurnAt.refl gm w3).setCell 2 _).keep.left
  generalize w3.setCell ⟨gm, 2, none⟩ (.int .i64 l) = W3 at *
  clear I5 P5 K5 c0 f0
  refine (rest_any s gr k _ P6 hs hk).mono ?_
  rintro e w4 ⟨rfl, hp4, ht4⟩
  have K7 : Hid (Keep2 gm gr w w4) := K6.out.trans ht4.right
  have I7 : Hid (PeAt w4 gm q f l ByteArray.empty) := I6.out.keep ht4 (by omega)
  have P7 : Hid (PrAt w4 gr s s.size) := hp4
  have c0 := I7.out.cells.2.2.2
  have f0 := I7.out.frozen 3
  clear I6 P6 K6 hp4 ht4
  go_wp2_with fail
  go_end0
  exact .inr ⟨q, f, l, _, rfl, rawP_some H0.out H1.out H2.out, I7.out.set3 _, P7.out.turn ((TurnAt.refl gm w4).setCell 3 _) (by omega), K7.out.trans ((TurnAt.refl gm w4).setCell 3 _).keep.left⟩

theorem keep_out {w W w1 w2 : World} {gm : Nat} (h : Below w.heap.size w W) (hk : Keep2 gm (w.heap.size + 1) W w1) (ht : TurnAt w.heap.size w1 w2) : KeepBut gm w w2 :=
  ⟨ht.os.trans (hk.os.trans h.os), ht.tape.trans (hk.tape.trans h.tape), ht.output.trans (hk.output.trans h.output), by have := h.size; have := hk.size; have := ht.size; omega,
    fun k h1 h2 => (ht.block k (by omega)).trans ((hk.block k (Nat.lt_of_lt_of_le h1 h.size) h2 (by omega)).trans (h.block k h1))⟩

/-- what the reading of an item's packet answers. -/
def RpAns (s : ByteArray) (gm : Nat) (w : World) (e : Ending) (w' : World) : Prop :=
  (e = .returned (.bool false) ∧ rawP s = none ∧ KeepBut gm w w') ∨
  ∃ (q f l : Nat) (t : ByteArray), e = .returned (.bool true) ∧ rawP s = some (q, f, l, t) ∧ PeAt w' gm q f l t ∧ KeepBut gm w w'

set_option maxRecDepth 100000 in
set_option maxHeartbeats 4000000 in
theorem readP_any (s : ByteArray) (gm : Nat) (w : World) (hm : Hid (PeAt w gm 0 0 0 ByteArray.empty)) (hs : s.size ≤ 1048576) :
    Calls Try.prog 52 #[.string s, .func (.func 53) #[] #[.pointer (some ⟨gm, 0, none⟩)]] w fun e w' => RpAns s gm w e w' := by
  have hmf : ∀ (fn : Fn) (first cap : Array Value) (w : World), (Instr.makeFunc fn first cap).run Try.prog w = .ok (.func fn first cap) w := fun _ _ _ _ => rfl
  have hlt := hm.out.lt
  have H1 : Hid (PeAt ((w.alloc (.cells #[.bool false] 4)).alloc (.cells #[.string s, .int .i64 0] 92)) gm 0 0 0 ByteArray.empty) := (hm.out.stays ((Below.refl w.heap.size w).alloc (Nat.le_refl _) _) hlt).stays ((Below.refl (w.heap.size + 1) _).alloc (by simp) _) (by omega)
  have H2 : Hid (PrAt ((w.alloc (.cells #[.bool false] 4)).alloc (.cells #[.string s, .int .i64 0] 92)) (w.heap.size + 1) s 0) := by
    have := heap_alloc_new (w.alloc (.cells #[.bool false] 4)) (.cells #[.string s, .int .i64 0] 92)
    show PrAt _ _ _ _
    simpa [PrAt] using this
  have H3 : Hid (((w.alloc (.cells #[.bool false] 4)).alloc (.cells #[.string s, .int .i64 0] 92)).heap[w.heap.size]? = some (.cells #[.bool false] 4 (0, 0))) :=
    (((Below.refl (w.heap.size + 1) (w.alloc (.cells #[.bool false] 4))).alloc (by simp) _).block w.heap.size (by omega)).trans (heap_alloc_new w _)
  have H4 : Hid (Below w.heap.size w ((w.alloc (.cells #[.bool false] 4)).alloc (.cells #[.string s, .int .i64 0] 92))) := ((Below.refl _ _).alloc (Nat.le_refl _) _).alloc (by simp) _
  have H5 : Hid (((w.alloc (.cells #[.bool false] 4)).alloc (.cells #[.string s, .int .i64 0] 92)).heap.size = w.heap.size + 2) := by show _ = _; simp
  go_enter_defers Try.func52, Try.ntmps52
  go_wp2_with fail
  generalize (w.alloc (.cells #[.bool false] 4)).alloc (.cells #[.string s, .int .i64 0] 92) = W at *
  refine (clPiece_any s gm (w.heap.size + 1) W H1 H2 (by omega) hs).mono ?_
  rintro e w1 (⟨rfl, hn, hk⟩ | ⟨q, f, l, t, rfl, hq, hi, hp, hk⟩)
  · have hb : w1.heap[w.heap.size]? = some (.cells #[.bool false] 4 (0, 0)) := (hk.block w.heap.size (by have := H5.out; omega) (by omega) (by omega)).trans H3.out
    have hc : w1.cell? ⟨w.heap.size, 0, none⟩ = some (.bool false) := by rw [cell_of_row w1 w.heap.size 0 _ 4 (0, 0) hb]; rfl
    have hf := frozen_of_row w1 w.heap.size 0 _ 4 hb
    refine leaves_cons (f := 63) (args := #[.pointer (some ⟨w.heap.size, 0, none⟩)]) (by simp) (by simp [go_sem]) ?_
    refine (catch_panicking ⟨w.heap.size, 0, none⟩ false _ hc hf).mono ?_
    rintro e u' w'' ⟨rfl, rfl, rfl⟩
    have hsame : (w1.setCell ⟨w.heap.size, 0, none⟩ (.bool false)).cell? ⟨w.heap.size, 0, none⟩ = some (.bool false) := by
      rw [cell_of_row _ w.heap.size 0 _ 4 (0, 0) (heap_setCell_same w1 w.heap.size 0 _ 4 (.bool false) hb)]; rfl
    simp [Leaves, settle, results, Try.results52, go_sem, hsame]
    exact .inl ⟨rfl, hn, keep_out H4.out hk ((TurnAt.refl _ _).setCell 0 _)⟩
  · have hb : w1.heap[w.heap.size]? = some (.cells #[.bool false] 4 (0, 0)) := (hk.block w.heap.size (by have := H5.out; omega) (by omega) (by omega)).trans H3.out
    have hc : w1.cell? ⟨w.heap.size, 0, none⟩ = some (.bool false) := by rw [cell_of_row w1 w.heap.size 0 _ 4 (0, 0) hb]; rfl
    have hf := frozen_of_row w1 w.heap.size 0 _ 4 hb
    obtain ⟨c0, c1, _, _⟩ := hp.cells
    have HB : Hid (w1.heap[w.heap.size]? = some (.cells #[.bool false] 4 (0, 0))) := hb
    have HI : Hid (PeAt w1 gm q f l t) := hi
    have HK : Hid (Keep2 gm (w.heap.size + 1) W w1) := hk
    have HQ : Hid (rawP s = some (q, f, l, t)) := hq
    clear hb hi hp hk hq H1 H2 H3 H5
    go_wp2_with fail
    have hsame : (w1.setCell ⟨w.heap.size, 0, none⟩ (.bool true)).cell? ⟨w.heap.size, 0, none⟩ = some (.bool true) := by
      rw [cell_of_row _ w.heap.size 0 _ 4 (0, 0) (heap_setCell_same w1 w.heap.size 0 _ 4 _ HB.out)]; rfl
    refine leaves_cons (f := 63) (args := #[.pointer (some ⟨w.heap.size, 0, none⟩)]) (by simp) (by simp [go_sem]) ?_
    refine (catch_idle ⟨w.heap.size, 0, none⟩ _).mono ?_
    rintro e u' w'' ⟨rfl, rfl, rfl⟩
    simp [Leaves, settle, results, Try.results52, go_sem, hsame]
    exact .inr ⟨q, f, l, t, rfl, HQ.out, HI.out.keep ((TurnAt.refl w.heap.size w1).setCell 0 _).keep (by omega), keep_out H4.out HK.out ((TurnAt.refl _ _).setCell 0 _)⟩

end Go.Proofs.Ytfefjkldjaabbaa

/- The walks over a piece that is right or not, over the program's readPiece and ReadPiece. -/
namespace Go.Proofs.Ytfefjkldjaabbaa
open Go.RowKit Pl
set_option linter.unusedVariables false

set_option maxRecDepth 100000 in
set_option maxHeartbeats 1000000 in
theorem isLast_any (n p c : Nat) (t : ByteArray) (w : World) (hp : p ≤ 1000000000) (hc : c ≤ 1000000000) :
    Calls Try.prog 58 #[.agg #[.int .i64 n, .int .i64 p, .int .i64 c, .string t]] w fun e w' => e = .returned (.bool (decide (p + 1 = c))) ∧ Below w.heap.size w w' := by
  by_cases h : p + 1 = c
  · have hd : decide (p + 1 = c) = true := decide_eq_true h
    subst h
    rw [hd]
    go_enter Try.func58, Try.ntmps58
    go_wp2
    go_ret
    exact ⟨rfl, (Below.refl _ _).alloc (Nat.le_refl _) _⟩
  · have hd : decide (p + 1 = c) = false := decide_eq_false h
    rw [hd]
    have h' : ((p : Int) == (c : Int) - 1) = false := by simp; omega
    go_enter Try.func58, Try.ntmps58
    go_wp2
    go_ret
    exact ⟨rfl, (Below.refl _ _).alloc (Nat.le_refl _) _⟩

set_option maxRecDepth 100000 in
set_option maxHeartbeats 2000000 in
theorem right_any (n p c : Nat) (t : ByteArray) (w : World) (hn : n ≤ 1000000000) (hp : p ≤ 1000000000) (hc : c ≤ 1000000000) (ht : t.size ≤ 1048576) :
    Calls Try.prog 56 #[.agg #[.int .i64 n, .int .i64 p, .int .i64 c, .string t]] w fun e w' => e = .returned (.bool (rightB n p c t)) ∧ Below w.heap.size w w' := by
  have B1 : Below w.heap.size w (w.alloc (.cells #[.int .i64 n, .int .i64 p, .int .i64 c, .string t] 62)) := (Below.refl _ _).alloc (Nat.le_refl _) _
  have P1 : Hid (PeAt (w.alloc (.cells #[.int .i64 n, .int .i64 p, .int .i64 c, .string t] 62)) w.heap.size n p c t) := heap_alloc_new w _
  generalize hr : rightB n p c t = r
  have HR : Hid (rightB n p c t = r) := hr
  clear hr
  unfold rightB at HR
  by_cases h1 : n ≤ 100000
  · by_cases h2 : c ≤ 10
    · by_cases h3 : p < c
      · by_cases h4 : t.size = 40
        · obtain rfl : true = r := by rw [← HR.out]; simp; omega
          have h4' : ((t.size : Int) == 40) = true := by simp; omega
          clear HR h4
          go_enter Try.func56, Try.ntmps56
          go_wp2
          go_ret
          exact ⟨rfl, B1⟩
        · have h4' : ((t.size : Int) == 40) = false := by simp; omega
          by_cases h5 : p + 1 = c
          · by_cases h6 : t.size < 40
            · obtain rfl : true = r := by rw [← HR.out]; simp; omega
              have hd : decide (p + 1 = c) = true := decide_eq_true h5
              have h6' : decide ((t.size : Int) < 40) = true := by simp; omega
              clear HR h4 h5
              go_enter Try.func56, Try.ntmps56
              go_wp2_with (first | (go_at_call 58; refine (isLast_any n p c t _ hp hc).mono ?_; rw [hd]; rintro e w1 ⟨rfl, hb1⟩; have c3 := (P1.out.stays hb1 (by simp)).cells.2.2.2))
              go_ret
              exact ⟨rfl, B1.trans (hb1.mono B1.size)⟩
            · obtain rfl : false = r := by rw [← HR.out]; simp; omega
              have hd : decide (p + 1 = c) = true := decide_eq_true h5
              have h6' : decide ((t.size : Int) < 40) = false := by simp; omega
              clear HR h4 h5
              go_enter Try.func56, Try.ntmps56
              go_wp2_with (first | (go_at_call 58; refine (isLast_any n p c t _ hp hc).mono ?_; rw [hd]; rintro e w1 ⟨rfl, hb1⟩; have c3 := (P1.out.stays hb1 (by simp)).cells.2.2.2))
              go_ret
              exact ⟨rfl, B1.trans (hb1.mono B1.size)⟩
          · obtain rfl : false = r := by rw [← HR.out]; simp; omega
            have hd : decide (p + 1 = c) = false := decide_eq_false h5
            clear HR h4 h5
            go_enter Try.func56, Try.ntmps56
            go_wp2_with (first | (go_at_call 58; refine (isLast_any n p c t _ hp hc).mono ?_; rw [hd]; rintro e w1 ⟨rfl, hb1⟩; have c3 := (P1.out.stays hb1 (by simp)).cells.2.2.2))
            go_ret
            exact ⟨rfl, B1.trans (hb1.mono B1.size)⟩
      · obtain rfl : false = r := by rw [← HR.out]; simp; omega
        clear HR
        go_enter Try.func56, Try.ntmps56
        go_wp2
        go_ret
        exact ⟨rfl, B1⟩
    · obtain rfl : false = r := by rw [← HR.out]; simp; omega
      clear HR
      go_enter Try.func56, Try.ntmps56
      go_wp2
      go_ret
      exact ⟨rfl, B1⟩
  · obtain rfl : false = r := by rw [← HR.out]; simp; omega
    clear HR
    go_enter Try.func56, Try.ntmps56
    go_wp2
    go_ret
    exact ⟨rfl, B1⟩

theorem rawP_le {s t : ByteArray} {q f l : Nat} (hs : s.size ≤ 1048576) (h : rawP s = some (q, f, l, t)) : q ≤ 1000000000 ∧ f ≤ 1000000000 ∧ l ≤ 1000000000 ∧ t.size ≤ 1048576 := by
  rcases h0 : rv s 0 with _ | ⟨n, i⟩
  · rw [rawP_n0 h0] at h; cases h
  obtain ⟨a0, b0⟩ := rv_le (Nat.zero_le _) h0
  rcases h1 : rv s i with _ | ⟨p, j⟩
  · rw [rawP_n1 h0 h1] at h; cases h
  obtain ⟨a1, b1⟩ := rv_le b0 h1
  rcases h2 : rv s j with _ | ⟨c, k⟩
  · rw [rawP_n2 h0 h1 h2] at h; cases h
  obtain ⟨a2, b2⟩ := rv_le b1 h2
  rw [rawP_some h0 h1 h2] at h
  simp only [Option.some.injEq, Prod.mk.injEq] at h
  obtain ⟨rfl, rfl, rfl, rfl⟩ := h
  exact ⟨a0, a1, a2, by rw [ByteArray.size_extract]; omega⟩

set_option maxRecDepth 100000 in
set_option maxHeartbeats 4000000 in
theorem readPiece_any (s : ByteArray) (w : World) (hs : s.size ≤ 1048576) :
    Calls Try.prog 43 #[.string s] w fun e w' => ∃ (q f l : Nat) (t : ByteArray) (r : Bool), e = .returned (.tuple #[.agg #[.int .i64 q, .int .i64 f, .int .i64 l, .string t], .bool r]) ∧ AnsP s q f l t r ∧ Below w.heap.size w w' := by
  have hmf : ∀ (fn : Fn) (first cap : Array Value) (w : World), (Instr.makeFunc fn first cap).run Try.prog w = .ok (.func fn first cap) w := fun _ _ _ _ => rfl
  have H1 : Hid (PeAt ((w.alloc (.cells #[.int .i64 0, .int .i64 0, .int .i64 0, .string ⟨#[]⟩] 62)).alloc (.cells #[.int .i64 0, .int .i64 0, .int .i64 0, .string ⟨#[]⟩] 62)) w.heap.size 0 0 0 ByteArray.empty) :=
    (((Below.refl (w.heap.size + 1) (w.alloc (.cells #[.int .i64 0, .int .i64 0, .int .i64 0, .string ⟨#[]⟩] 62))).alloc (by simp) _).block w.heap.size (by omega)).trans (heap_alloc_new w _)
  have H2 : Hid (PeAt ((w.alloc (.cells #[.int .i64 0, .int .i64 0, .int .i64 0, .string ⟨#[]⟩] 62)).alloc (.cells #[.int .i64 0, .int .i64 0, .int .i64 0, .string ⟨#[]⟩] 62)) (w.heap.size + 1) 0 0 0 ByteArray.empty) := by
    have := heap_alloc_new (w.alloc (.cells #[.int .i64 0, .int .i64 0, .int .i64 0, .string ⟨#[]⟩] 62)) (.cells #[.int .i64 0, .int .i64 0, .int .i64 0, .string ⟨#[]⟩] 62)
    rw [show (w.alloc (.cells #[.int .i64 0, .int .i64 0, .int .i64 0, .string ⟨#[]⟩] 62)).heap.size = w.heap.size + 1 by simp] at this
    exact this
  have H4 : Hid (Below w.heap.size w ((w.alloc (.cells #[.int .i64 0, .int .i64 0, .int .i64 0, .string ⟨#[]⟩] 62)).alloc (.cells #[.int .i64 0, .int .i64 0, .int .i64 0, .string ⟨#[]⟩] 62))) := ((Below.refl _ _).alloc (Nat.le_refl _) _).alloc (by simp) _
  go_enter Try.func43, Try.ntmps43
  go_wp2_with fail
  generalize (w.alloc (.cells #[.int .i64 0, .int .i64 0, .int .i64 0, .string ⟨#[]⟩] 62)).alloc (.cells #[.int .i64 0, .int .i64 0, .int .i64 0, .string ⟨#[]⟩] 62) = W at *
  refine (readP_any s (w.heap.size + 1) W H2 hs).mono ?_
  rintro e w1 (⟨rfl, hn, hk⟩ | ⟨q, f, l, t, rfl, hq, hi, hk⟩)
  · have R1 : Hid (PeAt w1 w.heap.size 0 0 0 ByteArray.empty) := H1.out.keep hk (by omega)
    have HN : Hid (rawP s = none) := hn
    have HB : Hid (Below w.heap.size w w1) := H4.out.trans (hk.below (by omega) H4.out.size)
    obtain ⟨c0, c1, c2, c3⟩ := R1.out.cells
    have z0 := R1.out.frozen 0
    have z1 := R1.out.frozen 1
    have z2 := R1.out.frozen 2
    have z3 := R1.out.frozen 3
    clear H1 H2 H4 hn hk
    have R2 : PeAt _ w.heap.size 0 0 0 ⟨#[]⟩ := R1.out.agg 0 0 0 ⟨#[]⟩
    have HB2 := (((HB.out.setCell (p := ⟨w.heap.size, 0, none⟩) (Nat.le_refl _) (.int .i64 0)).setCell (p := ⟨w.heap.size, 1, none⟩) (Nat.le_refl _) (.int .i64 0)).setCell (p := ⟨w.heap.size, 2, none⟩) (Nat.le_refl _) (.int .i64 0)).setCell (p := ⟨w.heap.size, 3, none⟩) (Nat.le_refl _) (.string ⟨#[]⟩)
    go_wp2_with fail
    generalize ((((w1.setCell ⟨w.heap.size, 0, none⟩ (.int .i64 0)).setCell ⟨w.heap.size, 1, none⟩ (.int .i64 0)).setCell ⟨w.heap.size, 2, none⟩ (.int .i64 0)).setCell ⟨w.heap.size, 3, none⟩ (.string ⟨#[]⟩)) = W2 at *
    obtain ⟨q0, q1, q2, q3⟩ := R2.cells
    clear c0 c1 c2 c3 z0 z1 z2 z3
    refine bodyPost_ret (v := .tuple #[.agg #[.int .i64 0, .int .i64 0, .int .i64 0, .string ⟨#[]⟩], .bool false]) (by simp [results, Try.results43, go_sem, q0, q1, q2, q3]) rfl ?_
    exact ⟨0, 0, 0, ByteArray.empty, false, rfl, .inr ⟨pcP_none HN.out, rfl, rfl, rfl, rfl, rfl⟩, HB2⟩
  · have R1 : Hid (PeAt w1 w.heap.size 0 0 0 ByteArray.empty) := H1.out.keep hk (by omega)
    have HQ : Hid (rawP s = some (q, f, l, t)) := hq
    have HB : Hid (Below w.heap.size w w1) := H4.out.trans (hk.below (by omega) H4.out.size)
    have HM : Hid (PeAt w1 (w.heap.size + 1) q f l t) := hi
    clear H1 H2 H4 hq hk hi
    obtain ⟨m0, m1, m2, m3⟩ := HM.out.cells
    have hql : q ≤ 1000000000 ∧ f ≤ 1000000000 ∧ l ≤ 1000000000 ∧ t.size ≤ 1048576 := rawP_le hs HQ.out
    go_wp2_with fail
    refine (right_any q f l t _ hql.1 hql.2.1 hql.2.2.1 hql.2.2.2).mono ?_
    rintro e w2 ⟨rfl, hb2⟩
    clear hql
    cases ho : rightB q f l t with
    | true =>
      have HO : Hid (rightB q f l t = true) := ho
      have R1 : Hid (PeAt w2 w.heap.size 0 0 0 ByteArray.empty) := R1.out.stays hb2 R1.out.lt
      have HM : Hid (PeAt w2 (w.heap.size + 1) q f l t) := HM.out.stays hb2 HM.out.lt
      have HB : Hid (Below w.heap.size w w2) := HB.out.trans (hb2.mono HB.out.size)
      clear ho hb2 m0 m1 m2 m3
      obtain ⟨m0, m1, m2, m3⟩ := HM.out.cells
      obtain ⟨c0, c1, c2, c3⟩ := R1.out.cells
      have z0 := R1.out.frozen 0
      have z1 := R1.out.frozen 1
      have z2 := R1.out.frozen 2
      have z3 := R1.out.frozen 3
      have R2 : PeAt _ w.heap.size q f l t := R1.out.agg q f l t
      have HB2 := (((HB.out.setCell (p := ⟨w.heap.size, 0, none⟩) (Nat.le_refl _) (.int .i64 q)).setCell (p := ⟨w.heap.size, 1, none⟩) (Nat.le_refl _) (.int .i64 f)).setCell (p := ⟨w.heap.size, 2, none⟩) (Nat.le_refl _) (.int .i64 l)).setCell (p := ⟨w.heap.size, 3, none⟩) (Nat.le_refl _) (.string t)
      go_wp2_with fail
      generalize ((((w2.setCell ⟨w.heap.size, 0, none⟩ (.int .i64 q)).setCell ⟨w.heap.size, 1, none⟩ (.int .i64 f)).setCell ⟨w.heap.size, 2, none⟩ (.int .i64 l)).setCell ⟨w.heap.size, 3, none⟩ (.string t)) = W2 at *
      obtain ⟨q0, q1, q2, q3⟩ := R2.cells
      clear c0 c1 c2 c3 z0 z1 z2 z3 m0 m1 m2 m3
      refine bodyPost_ret (v := .tuple #[.agg #[.int .i64 q, .int .i64 f, .int .i64 l, .string t], .bool true]) (by simp [results, Try.results43, go_sem, q0, q1, q2, q3]) rfl ?_
      exact ⟨q, f, l, t, true, rfl, .inl ⟨pcP_good HQ.out HO.out, rfl⟩, HB2⟩
    | false =>
      have HO : Hid (rightB q f l t = false) := ho
      have R1 : Hid (PeAt w2 w.heap.size 0 0 0 ByteArray.empty) := R1.out.stays hb2 R1.out.lt
      have HB : Hid (Below w.heap.size w w2) := HB.out.trans (hb2.mono HB.out.size)
      clear ho hb2 m0 m1 m2 m3
      obtain ⟨c0, c1, c2, c3⟩ := R1.out.cells
      have z0 := R1.out.frozen 0
      have z1 := R1.out.frozen 1
      have z2 := R1.out.frozen 2
      have z3 := R1.out.frozen 3
      have R2 : PeAt _ w.heap.size 0 0 0 ⟨#[]⟩ := R1.out.agg 0 0 0 ⟨#[]⟩
      have HB2 := (((HB.out.setCell (p := ⟨w.heap.size, 0, none⟩) (Nat.le_refl _) (.int .i64 0)).setCell (p := ⟨w.heap.size, 1, none⟩) (Nat.le_refl _) (.int .i64 0)).setCell (p := ⟨w.heap.size, 2, none⟩) (Nat.le_refl _) (.int .i64 0)).setCell (p := ⟨w.heap.size, 3, none⟩) (Nat.le_refl _) (.string ⟨#[]⟩)
      go_wp2_with fail
      generalize ((((w2.setCell ⟨w.heap.size, 0, none⟩ (.int .i64 0)).setCell ⟨w.heap.size, 1, none⟩ (.int .i64 0)).setCell ⟨w.heap.size, 2, none⟩ (.int .i64 0)).setCell ⟨w.heap.size, 3, none⟩ (.string ⟨#[]⟩)) = W2 at *
      obtain ⟨q0, q1, q2, q3⟩ := R2.cells
      clear c0 c1 c2 c3 z0 z1 z2 z3
      refine bodyPost_ret (v := .tuple #[.agg #[.int .i64 0, .int .i64 0, .int .i64 0, .string ⟨#[]⟩], .bool false]) (by simp [results, Try.results43, go_sem, q0, q1, q2, q3]) rfl ?_
      exact ⟨0, 0, 0, ByteArray.empty, false, rfl, .inr ⟨pcP_bad HQ.out HO.out, rfl, rfl, rfl, rfl, rfl⟩, HB2⟩

theorem readPiece_yes (s : ByteArray) (n p c : Nat) (t : ByteArray) (w : World) (hs : s.size ≤ 1048576) (h : Hid (pcP s = some (n, p, c, t))) :
    Calls Try.prog 43 #[.string s] w fun e w' => e = .returned (.tuple #[.agg #[.int .i64 n, .int .i64 p, .int .i64 c, .string t], .bool true]) ∧ Below w.heap.size w w' := by
  refine (readPiece_any s w hs).mono ?_
  rintro e w' ⟨q, f, l, x, r, rfl, ha, hb⟩
  rcases ha with ⟨h1, rfl⟩ | ⟨h1, _⟩
  · rw [h.out] at h1
    simp only [Option.some.injEq, Prod.mk.injEq] at h1
    obtain ⟨rfl, rfl, rfl, rfl⟩ := h1
    exact ⟨rfl, hb⟩
  · rw [h.out] at h1; cases h1
theorem readPiece_no (s : ByteArray) (w : World) (hs : s.size ≤ 1048576) (h : Hid (pcP s = none)) :
    Calls Try.prog 43 #[.string s] w fun e w' => e = .returned (.tuple #[.agg #[.int .i64 0, .int .i64 0, .int .i64 0, .string ByteArray.empty], .bool false]) ∧ Below w.heap.size w w' := by
  refine (readPiece_any s w hs).mono ?_
  rintro e w' ⟨q, f, l, x, r, rfl, ha, hb⟩
  rcases ha with ⟨h1, rfl⟩ | ⟨h1, rfl, rfl, rfl, rfl, rfl⟩
  · rw [h.out] at h1; cases h1
  · exact ⟨rfl, hb⟩

set_option maxRecDepth 100000 in
set_option maxHeartbeats 1000000 in
theorem ReadPiece_any (s : ByteArray) (w : World) (hs : s.size ≤ 1048576) :
    Calls Try.prog 13 #[.string s] w fun e w' => ∃ (q f l : Nat) (t : ByteArray) (r : Bool), e = .returned (.tuple #[.int .i64 q, .int .i64 f, .int .i64 l, .string t, .bool r]) ∧ AnsP s q f l t r ∧ Below w.heap.size w w' := by
  go_enter Try.func13, Try.ntmps13
  go_wp2_with fail
  refine (readPiece_any s w hs).mono ?_
  rintro e w1 ⟨q, f, l, t, r, rfl, ha, hb⟩
  have HA : Hid (AnsP s q f l t r) := ha
  have HB : Hid (Below w.heap.size w w1) := hb
  clear ha hb
  go_wp2_with fail
  go_quiet (fail)
  go_wp2_with fail
  refine bodyPost_ret (v := .tuple #[.int .i64 q, .int .i64 f, .int .i64 l, .string t, .bool r]) (by simp [results, Try.results13, go_sem]) rfl ?_
  exact ⟨q, f, l, t, r, rfl, HA.out, below_drewN (HB.out.alloc HB.out.size _) _⟩
end Go.Proofs.Ytfefjkldjaabbaa

/- The walks over the specification's ReadPiece and over the law on ReadPiece. -/
namespace Go.Proofs.Ytfefjkldjaabbaa
open Go.RowKit Pl
set_option linter.unusedVariables false

/-- what the specification's reader has found of a piece. -/
def FndP (s : ByteArray) (n p c k : Nat) (b : Bool) : Prop := ∃ i b1 j b2, VarF s 0 false n i b1 ∧ VarF s i b1 p j b2 ∧ VarF s j b2 c k b

theorem VarF.good {s : ByteArray} {A n i m j : Nat} {b : Bool} (h : VarF s A false n i b) (hr : rv s A = some (m, j)) : n = m ∧ i = j ∧ b = false := by
  rcases h with ⟨_, h1, h2⟩ | ⟨_, _, _, h4⟩
  · rw [hr] at h1
    simp only [Option.some.injEq, Prod.mk.injEq] at h1
    exact ⟨h1.1.symm, h1.2.symm, h2⟩
  · rcases h4 with h4 | h4
    · cases h4
    · rw [hr] at h4; cases h4
theorem VarF.none {s : ByteArray} {A n i : Nat} {b b' : Bool} (h : VarF s A b n i b') (hr : rv s A = none) : b' = true := by
  rcases h with ⟨_, h1, _⟩ | ⟨_, _, h3, _⟩
  · rw [hr] at h1; cases h1
  · exact h3
theorem VarF.bad {s : ByteArray} {A n i : Nat} {b' : Bool} (h : VarF s A true n i b') : b' = true := by
  rcases h with ⟨h1, _, _⟩ | ⟨_, _, h3, _⟩
  · cases h1
  · exact h3
theorem FndP.bad {s : ByteArray} {n p c k : Nat} (h : FndP s n p c k true) : rawP s = none := by
  obtain ⟨i, b1, j, b2, h1, h2, h3⟩ := h
  rcases e0 : rv s 0 with _ | ⟨n', i'⟩
  · exact rawP_n0 e0
  obtain ⟨rfl, rfl, rfl⟩ := h1.good e0
  rcases e1 : rv s i with _ | ⟨p', j'⟩
  · exact rawP_n1 e0 e1
  obtain ⟨rfl, rfl, rfl⟩ := h2.good e1
  rcases e2 : rv s j with _ | ⟨c', k'⟩
  · exact rawP_n2 e0 e1 e2
  obtain ⟨_, _, h⟩ := h3.good e2
  cases h
theorem FndP.good {s : ByteArray} {n p c k : Nat} (h : FndP s n p c k false) : rawP s = some (n, p, c, s.extract k s.size) := by
  obtain ⟨i, b1, j, b2, h1, h2, h3⟩ := h
  rcases e0 : rv s 0 with _ | ⟨n', i'⟩
  · cases h1.none e0
    cases h2.bad
    cases h3.bad
  obtain ⟨rfl, rfl, rfl⟩ := h1.good e0
  rcases e1 : rv s i with _ | ⟨p', j'⟩
  · cases h2.none e1
    cases h3.bad
  obtain ⟨rfl, rfl, rfl⟩ := h2.good e1
  rcases e2 : rv s j with _ | ⟨c', k'⟩
  · cases h3.none e2
  obtain ⟨rfl, rfl, _⟩ := h3.good e2
  exact rawP_some e0 e1 e2

theorem Pl.AnsP.one {s t t' : ByteArray} {n p c n' p' c' : Nat} {r r' : Bool} (h : AnsP s n p c t r) (h' : AnsP s n' p' c' t' r') : n = n' ∧ p = p' ∧ c = c' ∧ t = t' ∧ r = r' := by
  rcases h with ⟨h1, rfl⟩ | ⟨h1, rfl, rfl, rfl, rfl, rfl⟩ <;> rcases h' with ⟨h2, rfl⟩ | ⟨h2, rfl, rfl, rfl, rfl, rfl⟩
  · rw [h1] at h2
    simp only [Option.some.injEq, Prod.mk.injEq] at h2
    obtain ⟨rfl, rfl, rfl, rfl⟩ := h2
    exact ⟨rfl, rfl, rfl, rfl, rfl⟩
  · rw [h1] at h2; cases h2
  · rw [h1] at h2; cases h2
  · exact ⟨rfl, rfl, rfl, rfl, rfl⟩
theorem ansP_of {s : ByteArray} {n p c k : Nat} (h : FndP s n p c k false) (hr : rightB n p c (s.extract k s.size) = true) : AnsP s n p c (s.extract k s.size) true := .inl ⟨pcP_good h.good hr, rfl⟩
theorem ansP_no {s : ByteArray} {n p c k : Nat} (h : FndP s n p c k false) (hr : rightB n p c (s.extract k s.size) = false) : AnsP s 0 0 0 ByteArray.empty false := .inr ⟨pcP_bad h.good hr, rfl, rfl, rfl, rfl, rfl⟩
theorem ansP_bad {s : ByteArray} {n p c k : Nat} (h : FndP s n p c k true) : AnsP s 0 0 0 ByteArray.empty false := .inr ⟨pcP_none h.bad, rfl, rfl, rfl, rfl, rfl⟩

set_option maxRecDepth 100000 in
set_option maxHeartbeats 4000000 in
theorem spReadPiece_any (s : ByteArray) (w : World) (hs : s.size ≤ 1048576) :
    Calls Try.prog 22 #[.string s] w fun e w' => ∃ (q f l : Nat) (t : ByteArray) (r : Bool), e = .returned (.tuple #[.int .i64 q, .int .i64 f, .int .i64 l, .string t, .bool r]) ∧ AnsP s q f l t r ∧ Below w.heap.size w w' := by
  have H1 : Hid (PcAt (w.alloc (.cells #[.string s, .int .i64 0, .bool false] 70)) w.heap.size s 0 false) := heap_alloc_new w _
  have B1 : Hid (Below w.heap.size w (w.alloc (.cells #[.string s, .int .i64 0, .bool false] 70))) := (Below.refl _ _).alloc (Nat.le_refl _) _
  go_enter Try.func22, Try.ntmps22
  go_wp2_with fail
  generalize w.alloc (.cells #[.string s, .int .i64 0, .bool false] 70) = W at *
  refine (lvar_any s w.heap.size 0 false W H1 hs (Nat.zero_le _)).mono ?_
  rintro e w1 ⟨n, i, b1, rfl, hn, hi, hp1, hk1, hF1⟩
  have HP1 : Hid (PcAt w1 w.heap.size s i b1) := hp1
  have HB1 : Hid (Below w.heap.size w w1) := B1.out.trans (hk1.below (Nat.le_refl _) B1.out.size)
  have HF1 : Hid (VarF s 0 false n i b1) := hF1
  clear hp1 hk1 hF1 H1 B1
  go_wp2_with fail
  refine (lvar_any s w.heap.size i b1 w1 HP1 hs hi).mono ?_
  rintro e w2 ⟨p, j, b2, rfl, hp, hj, hp2, hk2, hF2⟩
  have HP2 : Hid (PcAt w2 w.heap.size s j b2) := hp2
  have HB2 : Hid (Below w.heap.size w w2) := HB1.out.trans (hk2.below (Nat.le_refl _) HB1.out.size)
  have HF2 : Hid (VarF s i b1 p j b2) := hF2
  clear hp2 hk2 hF2 HP1 HB1
  go_wp2_with fail
  refine (lvar_any s w.heap.size j b2 w2 HP2 hs hj).mono ?_
  rintro e w3 ⟨c, k, b3, rfl, hc, hk, hp3, hk3, hF3⟩
  have HP3 : Hid (PcAt w3 w.heap.size s k b3) := hp3
  have HB3 : Hid (Below w.heap.size w w3) := HB2.out.trans (hk3.below (Nat.le_refl _) HB2.out.size)
  have HF : Hid (FndP s n p c k b3) := ⟨i, b1, j, b2, HF1.out, HF2.out, hF3⟩
  clear hp3 hk3 hF3 HP2 HB2 HF1 HF2 hi hj
  obtain ⟨c0, c1, c2, f0, f1, f2⟩ := HP3.out.cells
  cases b3 with
  | true =>
    go_wp2_with fail
    refine bodyPost_ret (v := .tuple #[.int .i64 0, .int .i64 0, .int .i64 0, .string ⟨#[]⟩, .bool false]) (by simp [results, Try.results22, go_sem]) rfl ?_
    exact ⟨0, 0, 0, ByteArray.empty, false, rfl, ansP_bad HF.out, HB3.out⟩
  | false =>
    generalize hr : rightB n p c (s.extract k s.size) = r
    have HR : Hid (rightB n p c (s.extract k s.size) = r) := hr
    have hr' := hr
    clear hr
    unfold rightB at hr'
    rw [show (s.extract k s.size).size = s.size - k by rw [ByteArray.size_extract]; omega] at hr'
    by_cases h1 : n ≤ 100000
    · by_cases h2 : 1 ≤ c ∧ c ≤ 10
      · have hci : decide ((1 : Int) ≤ (c : Int) ∧ (c : Int) ≤ 10) = true := by simp; omega
        obtain ⟨h2a, h2b⟩ := h2
        by_cases h3 : p < c
        · by_cases h4 : 40 < s.size - k
          · obtain rfl : false = r := by rw [← hr']; simp; omega
            clear hr'
            go_wp2_with (first | (go_at_call 41; refine (in_any c 1 10 _).mono ?_; rw [hci]; rintro e w4 ⟨rfl, rfl⟩))
            all_goals refine bodyPost_ret (v := .tuple #[.int .i64 0, .int .i64 0, .int .i64 0, .string ⟨#[]⟩, .bool false]) (by simp [results, Try.results22, go_sem]) rfl ?_
            all_goals (first | exact ⟨0, 0, 0, ByteArray.empty, false, rfl, ansP_no HF.out HR.out, HB3.out⟩ | exact ⟨0, 0, 0, ByteArray.empty, .inl ⟨rfl, ansP_no HF.out HR.out, HB3.out⟩⟩)
          · by_cases h5 : p + 1 = c
            · obtain rfl : true = r := by rw [← hr']; simp; omega
              have h5' : ((p : Int) + 1 == (c : Int)) = true := by simp; omega
              clear h5
              clear hr'
              go_wp2_with (first | (go_at_call 41; refine (in_any c 1 10 _).mono ?_; rw [hci]; rintro e w4 ⟨rfl, rfl⟩))
              refine bodyPost_ret (v := .tuple #[.int .i64 n, .int .i64 p, .int .i64 c, .string (s.extract k s.size), .bool true]) (by simp [results, Try.results22, go_sem]) rfl ?_
              exact ⟨n, p, c, _, true, rfl, ansP_of HF.out HR.out, HB3.out⟩
            · have h5' : ((p : Int) + 1 == (c : Int)) = false := by simp; omega
              by_cases h6 : s.size - k = 40
              · obtain rfl : true = r := by rw [← hr']; simp; omega
                have h6' : (((s.size - k : Nat) : Int) == 40) = true := by simp; omega
                have h6'' : (((s.size - k : Nat) : Int) != 40) = false := by simp; omega
                clear h5 h6
                clear hr'
                go_wp2_with (first | (go_at_call 41; refine (in_any c 1 10 _).mono ?_; rw [hci]; rintro e w4 ⟨rfl, rfl⟩))
                refine bodyPost_ret (v := .tuple #[.int .i64 n, .int .i64 p, .int .i64 c, .string (s.extract k s.size), .bool true]) (by simp [results, Try.results22, go_sem]) rfl ?_
                exact ⟨n, p, c, _, true, rfl, ansP_of HF.out HR.out, HB3.out⟩
              · obtain rfl : false = r := by rw [← hr']; simp; omega
                have h6' : (((s.size - k : Nat) : Int) == 40) = false := by simp; omega
                have h6'' : (((s.size - k : Nat) : Int) != 40) = true := by simp; omega
                clear h5 h6
                clear hr'
                go_wp2_with (first | (go_at_call 41; refine (in_any c 1 10 _).mono ?_; rw [hci]; rintro e w4 ⟨rfl, rfl⟩))
                refine bodyPost_ret (v := .tuple #[.int .i64 0, .int .i64 0, .int .i64 0, .string ⟨#[]⟩, .bool false]) (by simp [results, Try.results22, go_sem]) rfl ?_
                (first | exact ⟨0, 0, 0, ByteArray.empty, false, rfl, ansP_no HF.out HR.out, HB3.out⟩ | exact ⟨0, 0, 0, ByteArray.empty, .inl ⟨rfl, ansP_no HF.out HR.out, HB3.out⟩⟩)
        · obtain rfl : false = r := by rw [← hr']; simp; omega
          clear hr'
          go_wp2_with (first | (go_at_call 41; refine (in_any c 1 10 _).mono ?_; rw [hci]; rintro e w4 ⟨rfl, rfl⟩))
          refine bodyPost_ret (v := .tuple #[.int .i64 0, .int .i64 0, .int .i64 0, .string ⟨#[]⟩, .bool false]) (by simp [results, Try.results22, go_sem]) rfl ?_
          (first | exact ⟨0, 0, 0, ByteArray.empty, false, rfl, ansP_no HF.out HR.out, HB3.out⟩ | exact ⟨0, 0, 0, ByteArray.empty, .inl ⟨rfl, ansP_no HF.out HR.out, HB3.out⟩⟩)
      · have hci : decide ((1 : Int) ≤ (c : Int) ∧ (c : Int) ≤ 10) = false := by simp; omega
        obtain rfl : false = r := by rw [← hr']; simp; omega
        clear h2
        clear hr'
        go_wp2_with (first | (go_at_call 41; refine (in_any c 1 10 _).mono ?_; rw [hci]; rintro e w4 ⟨rfl, rfl⟩))
        refine bodyPost_ret (v := .tuple #[.int .i64 0, .int .i64 0, .int .i64 0, .string ⟨#[]⟩, .bool false]) (by simp [results, Try.results22, go_sem]) rfl ?_
        (first | exact ⟨0, 0, 0, ByteArray.empty, false, rfl, ansP_no HF.out HR.out, HB3.out⟩ | exact ⟨0, 0, 0, ByteArray.empty, .inl ⟨rfl, ansP_no HF.out HR.out, HB3.out⟩⟩)
    · obtain rfl : false = r := by rw [← hr']; simp; omega
      clear hr'
      go_wp2_with (first | (go_at_call 41; refine (in_any c 1 10 _).mono ?_; rintro e w4 ⟨rfl, rfl⟩))
      refine bodyPost_ret (v := .tuple #[.int .i64 0, .int .i64 0, .int .i64 0, .string ⟨#[]⟩, .bool false]) (by simp [results, Try.results22, go_sem]) rfl ?_
      (first | exact ⟨0, 0, 0, ByteArray.empty, false, rfl, ansP_no HF.out HR.out, HB3.out⟩ | exact ⟨0, 0, 0, ByteArray.empty, .inl ⟨rfl, ansP_no HF.out HR.out, HB3.out⟩⟩)


set_option maxRecDepth 100000 in
set_option maxHeartbeats 2000000 in
theorem lawReadPiece (s : ByteArray) (w : World) (hm : s.size ≤ maxLen) :
    Calls Try.prog 6 #[.string s] w fun e w' => e = .returned (.bool true) ∧ Below w.heap.size w w' := by
  unfold maxLen at hm
  by_cases hs : s.size ≤ 1048576
  · go_enter Try.func6, Try.ntmps6
    go_wp2_with fail
    refine (spReadPiece_any s w hs).mono ?_
    rintro e w1 ⟨q, f, l, t, r, rfl, ha, hb⟩
    have HA : Hid (AnsP s q f l t r) := ha
    have HB : Hid (Below w.heap.size w w1) := hb
    clear ha hb
    go_wp2_with fail
    refine (ReadPiece_any s w1 hs).mono ?_
    rintro e w2 ⟨q', f', l', t', r', rfl, ha, hb⟩
    obtain ⟨rfl, rfl, rfl, rfl, rfl⟩ := HA.out.one ha
    have HB2 : Hid (Below w.heap.size w w2) := HB.out.trans (hb.mono HB.out.size)
    clear ha hb HA HB
    go_wp2_with fail
    go_ret
    exact ⟨rfl, HB2.out⟩
  · go_enter Try.func6, Try.ntmps6
    go_wp2
    go_ret
    exact ⟨rfl, Below.refl _ _⟩
end Go.Proofs.Ytfefjkldjaabbaa

