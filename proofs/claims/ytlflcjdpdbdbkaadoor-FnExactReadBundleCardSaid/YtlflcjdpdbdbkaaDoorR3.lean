/- The walks over the closure that reads an item, over the reading of a packet and over the program's ReadItem. -/
import Derived.Test.YtlflcjdpdbdbkaaDoorR2
namespace Go.Proofs.YtlflcjdpdbdbkaaDoor
open Go.RowKit Pl
set_option linter.unusedVariables false

theorem ItAt.frozen {w : World} {g : Nat} {q f l : Int} {t : ByteArray} (h : ItAt w g q f l t) (i : Nat) : w.frozen? ⟨g, i, none⟩ = false := frozen_of_row w g i _ 57 h
theorem ItAt.set0 {w : World} {g : Nat} {q f l : Int} {t : ByteArray} (h : ItAt w g q f l t) (x : Int) : ItAt (w.setCell ⟨g, 0, none⟩ (.int .i64 x)) g x f l t := by
  have := heap_setCell_same w g 0 _ 57 (.int .i64 x) h
  unfold ItAt; rw [this]; rfl
theorem ItAt.set1 {w : World} {g : Nat} {q f l : Int} {t : ByteArray} (h : ItAt w g q f l t) (x : Int) : ItAt (w.setCell ⟨g, 1, none⟩ (.int .i64 x)) g q x l t := by
  have := heap_setCell_same w g 1 _ 57 (.int .i64 x) h
  unfold ItAt; rw [this]; rfl
theorem ItAt.set2 {w : World} {g : Nat} {q f l : Int} {t : ByteArray} (h : ItAt w g q f l t) (x : Int) : ItAt (w.setCell ⟨g, 2, none⟩ (.int .i64 x)) g q f x t := by
  have := heap_setCell_same w g 2 _ 57 (.int .i64 x) h
  unfold ItAt; rw [this]; rfl
theorem ItAt.set3 {w : World} {g : Nat} {q f l : Int} {t : ByteArray} (h : ItAt w g q f l t) (x : ByteArray) : ItAt (w.setCell ⟨g, 3, none⟩ (.string x)) g q f l x := by
  have := heap_setCell_same w g 3 _ 57 (.string x) h
  unfold ItAt; rw [this]; rfl
theorem ItAt.keep {w w' : World} {g k : Nat} {q f l : Int} {t : ByteArray} (h : ItAt w g q f l t) (hk : KeepBut k w w') (hg : g ≠ k) : ItAt w' g q f l t := (hk.block g h.lt hg).trans h

theorem itemP_n0 {s : ByteArray} (h : rv s 0 = none) : itemP s = none := by simp [itemP, h]
theorem itemP_n1 {s : ByteArray} {q i : Nat} (h : rv s 0 = some (q, i)) (h1 : oneP s i = none) : itemP s = none := by simp [itemP, h, h1]
theorem itemP_n2 {s : ByteArray} {q i f j : Nat} (h : rv s 0 = some (q, i)) (h1 : oneP s i = some (f, j)) (h2 : oneP s j = none) : itemP s = none := by simp [itemP, h, h1, h2]
theorem itemP_n3 {s : ByteArray} {q i f j l k : Nat} (h : rv s 0 = some (q, i)) (h1 : oneP s i = some (f, j)) (h2 : oneP s j = some (l, k)) (h3 : shP s k = none) : itemP s = none := by simp [itemP, h, h1, h2, h3]

/-- what the closure answers. -/
def ClAns (s : ByteArray) (gm gr : Nat) (w : World) (e : Ending) (w' : World) : Prop :=
  (e = .panicked noPk ∧ itemP s = none ∧ Keep2 gm gr w w') ∨
  ∃ (q f l A : Nat) (t : ByteArray), e = .returned (.tuple #[]) ∧ itemP s = some (q, f, l, t, A) ∧ ItAt w' gm q f l t ∧ PrAt w' gr s A ∧ Keep2 gm gr w w'

set_option maxRecDepth 100000 in
set_option maxHeartbeats 4000000 in
theorem clItem_any (s : ByteArray) (gm gr : Nat) (w : World) (hm : Hid (ItAt w gm 0 0 0 ByteArray.empty)) (hp : Hid (PrAt w gr s 0)) (hne : gm < gr) (hs : s.size ≤ 1048576) :
    Calls Tryd.prog 86 #[.pointer (some ⟨gr, 0, none⟩), .pointer (some ⟨gm, 0, none⟩)] w fun e w' => ClAns s gm gr w e w' := by
  go_enter Tryd.func86, Tryd.ntmps86
  go_wp2_with fail
  rcases h0 : rv s 0 with _ | ⟨q, i⟩
  · refine (number_none s gr 0 _ hp hs (Nat.zero_le _) h0).mono ?_
    rintro e w1 ⟨rfl, ht1⟩
    exact ⟨rfl, .inl ⟨rfl, itemP_n0 h0, ht1.keep.right⟩⟩
  have H0 : Hid (rv s 0 = some (q, i)) := h0
  obtain ⟨u0, _⟩ := (upto_start s).rv h0
  have hi := u0.le
  have U0 : Hid (Upto s i ([] ++ varL q)) := u0
  clear h0 u0
  refine (number_some s gr 0 q i _ hp hs (Nat.zero_le _) H0).mono ?_
  rintro e w1 ⟨rfl, hp1, ht1⟩
  have K1 : Hid (Keep2 gm gr w w1) := ht1.keep.right
  have I1 : Hid (ItAt w1 gm 0 0 0 ByteArray.empty) := hm.out.keep ht1.keep (by omega)
  have P1 : Hid (PrAt w1 gr s i) := hp1
  have c0 := I1.out.cells.1
  have f0 := I1.out.frozen 0
  clear hm hp hp1 ht1
  go_wp2_with fail
  have I2 : Hid (ItAt (w1.setCell ⟨gm, 0, none⟩ (.int .i64 q)) gm q 0 0 ByteArray.empty) := I1.out.set0 q
  have P2 : Hid (PrAt (w1.setCell ⟨gm, 0, none⟩ (.int .i64 q)) gr s i) := P1.out.turn ((TurnAt.refl gm w1).setCell 0 _) (by omega)
  have K2 : Hid (Keep2 gm gr w (w1.setCell ⟨gm, 0, none⟩ (.int .i64 q))) := K1.out.trans ((TurnAt.refl gm w1).setCell 0 _).keep.left
  generalize w1.setCell ⟨gm, 0, none⟩ (.int .i64 q) = W1 at *
  clear I1 P1 K1 c0 f0
  rcases h1 : oneP s i with _ | ⟨f, j⟩
  · refine (oneB_no s gr i _ P2 hs hi h1).mono ?_
    rintro e w2 ⟨rfl, ht2⟩
    exact ⟨rfl, .inl ⟨rfl, itemP_n1 H0.out h1, K2.out.trans ht2.keep.right⟩⟩
  have H1 : Hid (oneP s i = some (f, j)) := h1
  obtain ⟨u1, _⟩ := U0.out.one h1
  have hj := u1.le
  have U1 : Hid (Upto s j ([] ++ varL q ++ [UInt8.ofNat f])) := u1
  clear h1 u1 U0
  refine (oneB_yes s gr i f j _ P2 hs H1).mono ?_
  rintro e w2 ⟨rfl, hp2, ht2⟩
  have K3 : Hid (Keep2 gm gr w w2) := K2.out.trans ht2.keep.right
  have I3 : Hid (ItAt w2 gm q 0 0 ByteArray.empty) := I2.out.keep ht2.keep (by omega)
  have P3 : Hid (PrAt w2 gr s j) := hp2
  have c0 := I3.out.cells.2.1
  have f0 := I3.out.frozen 1
  clear I2 P2 K2 hp2 ht2
  go_wp2_with fail
  have I4 : Hid (ItAt (w2.setCell ⟨gm, 1, none⟩ (.int .i64 f)) gm q f 0 ByteArray.empty) := I3.out.set1 f
  have P4 : Hid (PrAt (w2.setCell ⟨gm, 1, none⟩ (.int .i64 f)) gr s j) := P3.out.turn ((TurnAt.refl gm w2).setCell 1 _) (by omega)
  have K4 : Hid (Keep2 gm gr w (w2.setCell ⟨gm, 1, none⟩ (.int .i64 f))) := K3.out.trans ((TurnAt.refl gm w2).setCell 1 _).keep.left
  generalize w2.setCell ⟨gm, 1, none⟩ (.int .i64 f) = W2 at *
  clear I3 P3 K3 c0 f0
  rcases h2 : oneP s j with _ | ⟨l, k⟩
  · refine (oneB_no s gr j _ P4 hs hj h2).mono ?_
    rintro e w3 ⟨rfl, ht3⟩
    exact ⟨rfl, .inl ⟨rfl, itemP_n2 H0.out H1.out h2, K4.out.trans ht3.keep.right⟩⟩
  have H2 : Hid (oneP s j = some (l, k)) := h2
  obtain ⟨u2, _⟩ := U1.out.one h2
  have hk := u2.le
  clear h2 u2 U1
  refine (oneB_yes s gr j l k _ P4 hs H2).mono ?_
  rintro e w3 ⟨rfl, hp3, ht3⟩
  have K5 : Hid (Keep2 gm gr w w3) := K4.out.trans ht3.keep.right
  have I5 : Hid (ItAt w3 gm q f 0 ByteArray.empty) := I4.out.keep ht3.keep (by omega)
  have P5 : Hid (PrAt w3 gr s k) := hp3
  have c0 := I5.out.cells.2.2.1
  have f0 := I5.out.frozen 2
  clear I4 P4 K4 hp3 ht3
  go_wp2_with fail
  have I6 : Hid (ItAt (w3.setCell ⟨gm, 2, none⟩ (.int .i64 l)) gm q f l ByteArray.empty) := I5.out.set2 l
  have P6 : Hid (PrAt (w3.setCell ⟨gm, 2, none⟩ (.int .i64 l)) gr s k) := P5.out.turn ((TurnAt.refl gm w3).setCell 2 _) (by omega)
  have K6 : Hid (Keep2 gm gr w (w3.setCell ⟨gm, 2, none⟩ (.int .i64 l))) := K5.out.trans ((TurnAt.refl gm w3).setCell 2 _).keep.left
  generalize w3.setCell ⟨gm, 2, none⟩ (.int .i64 l) = W3 at *
  clear I5 P5 K5 c0 f0
  rcases h3 : shP s k with _ | ⟨t, A⟩
  · refine (short_none s gr k _ P6 hs hk h3).mono ?_
    rintro e w4 ⟨rfl, ht4⟩
    exact ⟨rfl, .inl ⟨rfl, itemP_n3 H0.out H1.out H2.out h3, K6.out.trans ht4.keep.right⟩⟩
  have H3 : Hid (shP s k = some (t, A)) := h3
  clear h3
  refine (short_some s t gr k A _ P6 hs hk H3).mono ?_
  rintro e w4 ⟨rfl, hp4, ht4⟩
  have K7 : Hid (Keep2 gm gr w w4) := K6.out.trans ht4.right
  have I7 : Hid (ItAt w4 gm q f l ByteArray.empty) := I6.out.keep ht4 (by omega)
  have P7 : Hid (PrAt w4 gr s A) := hp4
  have c0 := I7.out.cells.2.2.2
  have f0 := I7.out.frozen 3
  clear I6 P6 K6 hp4 ht4
  go_wp2_with fail
  go_end0
  exact .inr ⟨q, f, l, A, t, rfl, itemP_some H0.out H1.out H2.out H3.out, I7.out.set3 t, P7.out.turn ((TurnAt.refl gm w4).setCell 3 _) (by omega), K7.out.trans ((TurnAt.refl gm w4).setCell 3 _).keep.left⟩
end Go.Proofs.YtlflcjdpdbdbkaaDoor
