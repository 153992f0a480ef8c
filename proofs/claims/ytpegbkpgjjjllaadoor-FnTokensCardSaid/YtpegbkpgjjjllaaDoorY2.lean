/- The walks over the closure that reads a token and over the reading of its packet. -/
import Derived.Test.YtpegbkpgjjjllaaDoorY1
namespace Go.Proofs.YtpegbkpgjjjllaaDoor
open Go.RowKit Pl
set_option linter.unusedVariables false

theorem TokAt.keep {w w' : World} {g k : Nat} {c r q a b : Int} {v : Value} (h : TokAt w g c r q a b v) (hk : KeepBut k w w') (hg : g ≠ k) : TokAt w' g c r q a b v := (hk.block g h.lt hg).trans h
theorem TokAt.set0 {w : World} {g : Nat} {c r q a b : Int} {v : Value} (h : TokAt w g c r q a b v) (x : Int) : TokAt (w.setCell ⟨g, 0, none⟩ (.int .i64 x)) g x r q a b v := by
  have := heap_setCell_same w g 0 _ 26 (.int .i64 x) h
  unfold TokAt; rw [this]; rfl
theorem TokAt.set1 {w : World} {g : Nat} {c r q a b : Int} {v : Value} (h : TokAt w g c r q a b v) (x : Int) : TokAt (w.setCell ⟨g, 1, none⟩ (.int .i64 x)) g c x q a b v := by
  have := heap_setCell_same w g 1 _ 26 (.int .i64 x) h
  unfold TokAt; rw [this]; rfl
theorem TokAt.set2 {w : World} {g : Nat} {c r q a b : Int} {v : Value} (h : TokAt w g c r q a b v) (x : Int) : TokAt (w.setCell ⟨g, 2, none⟩ (.int .i64 x)) g c r x a b v := by
  have := heap_setCell_same w g 2 _ 26 (.int .i64 x) h
  unfold TokAt; rw [this]; rfl
theorem TokAt.set3 {w : World} {g : Nat} {c r q a b : Int} {v : Value} (h : TokAt w g c r q a b v) (x : Int) : TokAt (w.setCell ⟨g, 3, none⟩ (.int .i64 x)) g c r q x b v := by
  have := heap_setCell_same w g 3 _ 26 (.int .i64 x) h
  unfold TokAt; rw [this]; rfl
theorem TokAt.set4 {w : World} {g : Nat} {c r q a b : Int} {v : Value} (h : TokAt w g c r q a b v) (x : Int) : TokAt (w.setCell ⟨g, 4, none⟩ (.int .i64 x)) g c r q a x v := by
  have := heap_setCell_same w g 4 _ 26 (.int .i64 x) h
  unfold TokAt; rw [this]; rfl

theorem tokP_n0 {s : ByteArray} (h : oneP s 0 = none) : tokP s = none := by simp [tokP, h]
theorem tokP_n1 {s : ByteArray} {c i0 : Nat} (h0 : oneP s 0 = some (c, i0)) (h : rv s i0 = none) : tokP s = none := by simp [tokP, h0, h]
theorem tokP_n2 {s : ByteArray} {c i0 r i1 : Nat} (h0 : oneP s 0 = some (c, i0)) (h1 : rv s i0 = some (r, i1)) (h : rv s i1 = none) : tokP s = none := by simp [tokP, h0, h1, h]
theorem tokP_n3 {s : ByteArray} {c i0 r i1 q i2 : Nat} (h0 : oneP s 0 = some (c, i0)) (h1 : rv s i0 = some (r, i1)) (h2 : rv s i1 = some (q, i2)) (h : rv s i2 = none) : tokP s = none := by simp [tokP, h0, h1, h2, h]
theorem tokP_n4 {s : ByteArray} {c i0 r i1 q i2 a i3 : Nat} (h0 : oneP s 0 = some (c, i0)) (h1 : rv s i0 = some (r, i1)) (h2 : rv s i1 = some (q, i2)) (h3 : rv s i2 = some (a, i3)) (h : oneP s i3 = none) : tokP s = none := by simp [tokP, h0, h1, h2, h3, h]
theorem tokP_n5 {s : ByteArray} {c i0 r i1 q i2 a i3 b i4 : Nat} (h0 : oneP s 0 = some (c, i0)) (h1 : rv s i0 = some (r, i1)) (h2 : rv s i1 = some (q, i2)) (h3 : rv s i2 = some (a, i3)) (h4 : oneP s i3 = some (b, i4)) (h : numbersP s i4 = none) : tokP s = none := by
  unfold numbersP at h
  rcases h5 : rv s i4 with _ | ⟨k, i5⟩
  · simp [tokP, h0, h1, h2, h3, h4, h5]
  · rw [h5, Option.bind_some] at h
    simp [tokP, h0, h1, h2, h3, h4, h5, h]
theorem tokP_all {s : ByteArray} {c i0 r i1 q i2 a i3 b i4 A : Nat} {ns : List Nat} (h0 : oneP s 0 = some (c, i0)) (h1 : rv s i0 = some (r, i1)) (h2 : rv s i1 = some (q, i2)) (h3 : rv s i2 = some (a, i3)) (h4 : oneP s i3 = some (b, i4)) (h : numbersP s i4 = some (ns, A)) : tokP s = some ((c, r, q, a, b), ns, A) := by
  unfold numbersP at h
  rcases h5 : rv s i4 with _ | ⟨k, i5⟩
  · rw [h5] at h; cases h
  · rw [h5, Option.bind_some] at h
    exact tokP_some h0 h1 h2 h3 h4 h5 h

/-- what the closure answers. -/
def ClAnsT (s : ByteArray) (gm gr : Nat) (w : World) (e : Ending) (w' : World) : Prop :=
  (e = .panicked noPk ∧ tokP s = none ∧ Keep2 gm gr w w') ∨
  ∃ (c r q a b A : Nat) (ns : List Nat) (v : Value), e = .returned (.tuple #[]) ∧ tokP s = some ((c, r, q, a, b), ns, A) ∧ ns.length ≤ 1048576 ∧ TokAt w' gm c r q a b v ∧ OwnI w' w.heap.size v (ns.map fun n : Nat => (n : Int)) ∧ PrAt w' gr s A ∧ Keep2 gm gr w w'

set_option maxRecDepth 100000 in
set_option maxHeartbeats 4000000 in
theorem clToken_any (s : ByteArray) (gm gr : Nat) (w : World) (hm : Hid (TokAt w gm 0 0 0 0 0 (.slice none 0 0))) (hp : Hid (PrAt w gr s 0)) (hne : gm < gr) (hs : s.size ≤ 1048576) :
    Calls Tryd.prog 28 #[.pointer (some ⟨gr, 0, none⟩), .pointer (some ⟨gm, 0, none⟩)] w fun e w' => ClAnsT s gm gr w e w' := by
  have hgr := hp.out.lt
  have K0 : Hid (Keep2 gm gr w w) := (KeepBut.refl gm w).left
  have U0 : Hid (Upto s 0 []) := upto_start s
  go_enter Tryd.func28, Tryd.ntmps28
  go_wp2_with fail
  rcases h0 : oneP s 0 with _ | ⟨c, i0⟩
  · refine (oneB_no s gr 0 _ hp hs (Nat.zero_le _) h0).mono ?_
    rintro e w1 ⟨rfl, ht1⟩
    exact ⟨rfl, .inl ⟨rfl, tokP_n0  h0, K0.out.trans ht1.keep.right⟩⟩
  have H0 : Hid (oneP s 0 = some (c, i0)) := h0
  obtain ⟨u0, _⟩ := U0.out.one h0
  have hi0 := u0.le
  have V0 : Hid (Upto s i0 ([] ++ [UInt8.ofNat c])) := u0
  clear h0 u0 U0
  refine (oneB_yes s gr 0 c i0 _ hp hs H0).mono ?_
  rintro e w1 ⟨rfl, hp1, ht1⟩
  have KA0 : Hid (Keep2 gm gr w w1) := K0.out.trans ht1.keep.right
  have MA0 : Hid (TokAt w1 gm 0 0 0 0 0 (.slice none 0 0)) := hm.out.keep ht1.keep (by omega)
  have PA0 : Hid (PrAt w1 gr s i0) := hp1
  have c0 := MA0.out.cells.1
  have f0 := MA0.out.frozen 0
  clear hm hp K0 hp1 ht1
  have MB0 : Hid (TokAt (w1.setCell ⟨gm, 0, none⟩ (.int .i64 c)) gm c 0 0 0 0 (.slice none 0 0)) := MA0.out.set0 c
  have PB0 : Hid (PrAt (w1.setCell ⟨gm, 0, none⟩ (.int .i64 c)) gr s i0) := PA0.out.turn ((TurnAt.refl gm w1).setCell 0 _) (by omega)
  have KB0 : Hid (Keep2 gm gr w (w1.setCell ⟨gm, 0, none⟩ (.int .i64 c))) := KA0.out.trans ((TurnAt.refl gm w1).setCell 0 _).keep.left
  go_wp2_with fail
  generalize (w1.setCell ⟨gm, 0, none⟩ (.int .i64 c)) = W0 at *
  clear MA0 PA0 KA0 c0 f0
  rcases h1 : rv s i0 with _ | ⟨r, i1⟩
  · refine (number_none s gr i0 _ PB0 hs hi0 h1).mono ?_
    rintro e w2 ⟨rfl, ht2⟩
    exact ⟨rfl, .inl ⟨rfl, tokP_n1 H0.out h1, KB0.out.trans ht2.keep.right⟩⟩
  have H1 : Hid (rv s i0 = some (r, i1)) := h1
  obtain ⟨u1, _⟩ := V0.out.rv h1
  have hi1 := u1.le
  have V1 : Hid (Upto s i1 ([] ++ [UInt8.ofNat c] ++ varL r)) := u1
  clear h1 u1 V0
  refine (number_some s gr i0 r i1 _ PB0 hs hi0 H1).mono ?_
  rintro e w2 ⟨rfl, hp2, ht2⟩
  have KA1 : Hid (Keep2 gm gr w w2) := KB0.out.trans ht2.keep.right
  have MA1 : Hid (TokAt w2 gm c 0 0 0 0 (.slice none 0 0)) := MB0.out.keep ht2.keep (by omega)
  have PA1 : Hid (PrAt w2 gr s i1) := hp2
  have c0 := MA1.out.cells.2.1
  have f0 := MA1.out.frozen 1
  clear MB0 PB0 KB0 hp2 ht2
  have MB1 : Hid (TokAt (w2.setCell ⟨gm, 1, none⟩ (.int .i64 r)) gm c r 0 0 0 (.slice none 0 0)) := MA1.out.set1 r
  have PB1 : Hid (PrAt (w2.setCell ⟨gm, 1, none⟩ (.int .i64 r)) gr s i1) := PA1.out.turn ((TurnAt.refl gm w2).setCell 1 _) (by omega)
  have KB1 : Hid (Keep2 gm gr w (w2.setCell ⟨gm, 1, none⟩ (.int .i64 r))) := KA1.out.trans ((TurnAt.refl gm w2).setCell 1 _).keep.left
  go_wp2_with fail
  generalize (w2.setCell ⟨gm, 1, none⟩ (.int .i64 r)) = W1 at *
  clear MA1 PA1 KA1 c0 f0
  rcases h2 : rv s i1 with _ | ⟨q, i2⟩
  · refine (number_none s gr i1 _ PB1 hs hi1 h2).mono ?_
    rintro e w3 ⟨rfl, ht3⟩
    exact ⟨rfl, .inl ⟨rfl, tokP_n2 H0.out H1.out h2, KB1.out.trans ht3.keep.right⟩⟩
  have H2 : Hid (rv s i1 = some (q, i2)) := h2
  obtain ⟨u2, _⟩ := V1.out.rv h2
  have hi2 := u2.le
  have V2 : Hid (Upto s i2 ([] ++ [UInt8.ofNat c] ++ varL r ++ varL q)) := u2
  clear h2 u2 V1
  refine (number_some s gr i1 q i2 _ PB1 hs hi1 H2).mono ?_
  rintro e w3 ⟨rfl, hp3, ht3⟩
  have KA2 : Hid (Keep2 gm gr w w3) := KB1.out.trans ht3.keep.right
  have MA2 : Hid (TokAt w3 gm c r 0 0 0 (.slice none 0 0)) := MB1.out.keep ht3.keep (by omega)
  have PA2 : Hid (PrAt w3 gr s i2) := hp3
  have c0 := MA2.out.cells.2.2.1
  have f0 := MA2.out.frozen 2
  clear MB1 PB1 KB1 hp3 ht3
  have MB2 : Hid (TokAt (w3.setCell ⟨gm, 2, none⟩ (.int .i64 q)) gm c r q 0 0 (.slice none 0 0)) := MA2.out.set2 q
  have PB2 : Hid (PrAt (w3.setCell ⟨gm, 2, none⟩ (.int .i64 q)) gr s i2) := PA2.out.turn ((TurnAt.refl gm w3).setCell 2 _) (by omega)
  have KB2 : Hid (Keep2 gm gr w (w3.setCell ⟨gm, 2, none⟩ (.int .i64 q))) := KA2.out.trans ((TurnAt.refl gm w3).setCell 2 _).keep.left
  go_wp2_with fail
  generalize (w3.setCell ⟨gm, 2, none⟩ (.int .i64 q)) = W2 at *
  clear MA2 PA2 KA2 c0 f0
  rcases h3 : rv s i2 with _ | ⟨a, i3⟩
  · refine (number_none s gr i2 _ PB2 hs hi2 h3).mono ?_
    rintro e w4 ⟨rfl, ht4⟩
    exact ⟨rfl, .inl ⟨rfl, tokP_n3 H0.out H1.out H2.out h3, KB2.out.trans ht4.keep.right⟩⟩
  have H3 : Hid (rv s i2 = some (a, i3)) := h3
  obtain ⟨u3, _⟩ := V2.out.rv h3
  have hi3 := u3.le
  have V3 : Hid (Upto s i3 ([] ++ [UInt8.ofNat c] ++ varL r ++ varL q ++ varL a)) := u3
  clear h3 u3 V2
  refine (number_some s gr i2 a i3 _ PB2 hs hi2 H3).mono ?_
  rintro e w4 ⟨rfl, hp4, ht4⟩
  have KA3 : Hid (Keep2 gm gr w w4) := KB2.out.trans ht4.keep.right
  have MA3 : Hid (TokAt w4 gm c r q 0 0 (.slice none 0 0)) := MB2.out.keep ht4.keep (by omega)
  have PA3 : Hid (PrAt w4 gr s i3) := hp4
  have c0 := MA3.out.cells.2.2.2.1
  have f0 := MA3.out.frozen 3
  clear MB2 PB2 KB2 hp4 ht4
  have MB3 : Hid (TokAt (w4.setCell ⟨gm, 3, none⟩ (.int .i64 a)) gm c r q a 0 (.slice none 0 0)) := MA3.out.set3 a
  have PB3 : Hid (PrAt (w4.setCell ⟨gm, 3, none⟩ (.int .i64 a)) gr s i3) := PA3.out.turn ((TurnAt.refl gm w4).setCell 3 _) (by omega)
  have KB3 : Hid (Keep2 gm gr w (w4.setCell ⟨gm, 3, none⟩ (.int .i64 a))) := KA3.out.trans ((TurnAt.refl gm w4).setCell 3 _).keep.left
  go_wp2_with fail
  generalize (w4.setCell ⟨gm, 3, none⟩ (.int .i64 a)) = W3 at *
  clear MA3 PA3 KA3 c0 f0
  rcases h4 : oneP s i3 with _ | ⟨b, i4⟩
  · refine (oneB_no s gr i3 _ PB3 hs hi3 h4).mono ?_
    rintro e w5 ⟨rfl, ht5⟩
    exact ⟨rfl, .inl ⟨rfl, tokP_n4 H0.out H1.out H2.out H3.out h4, KB3.out.trans ht5.keep.right⟩⟩
  have H4 : Hid (oneP s i3 = some (b, i4)) := h4
  obtain ⟨u4, _⟩ := V3.out.one h4
  have hi4 := u4.le
  have V4 : Hid (Upto s i4 ([] ++ [UInt8.ofNat c] ++ varL r ++ varL q ++ varL a ++ [UInt8.ofNat b])) := u4
  clear h4 u4 V3
  refine (oneB_yes s gr i3 b i4 _ PB3 hs H4).mono ?_
  rintro e w5 ⟨rfl, hp5, ht5⟩
  have KA4 : Hid (Keep2 gm gr w w5) := KB3.out.trans ht5.keep.right
  have MA4 : Hid (TokAt w5 gm c r q a 0 (.slice none 0 0)) := MB3.out.keep ht5.keep (by omega)
  have PA4 : Hid (PrAt w5 gr s i4) := hp5
  have c0 := MA4.out.cells.2.2.2.2.1
  have f0 := MA4.out.frozen 4
  clear MB3 PB3 KB3 hp5 ht5
  have MB4 : Hid (TokAt (w5.setCell ⟨gm, 4, none⟩ (.int .i64 b)) gm c r q a b (.slice none 0 0)) := MA4.out.set4 b
  have PB4 : Hid (PrAt (w5.setCell ⟨gm, 4, none⟩ (.int .i64 b)) gr s i4) := PA4.out.turn ((TurnAt.refl gm w5).setCell 4 _) (by omega)
  have KB4 : Hid (Keep2 gm gr w (w5.setCell ⟨gm, 4, none⟩ (.int .i64 b))) := KA4.out.trans ((TurnAt.refl gm w5).setCell 4 _).keep.left
  go_wp2_with fail
  generalize (w5.setCell ⟨gm, 4, none⟩ (.int .i64 b)) = W4 at *
  clear MA4 PA4 KA4 c0 f0
  refine (numbers_any s gr i4 W4 PB4 hs hi4).mono ?_
  rintro e w6 (⟨rfl, hn6, hk6⟩ | ⟨ns, A, v, rfl, hn6, hl6, hv6, hp6, hk6⟩)
  · exact ⟨rfl, .inl ⟨rfl, tokP_n5 H0.out H1.out H2.out H3.out H4.out hn6, KB4.out.trans hk6.right⟩⟩
  have K6 : Hid (Keep2 gm gr w w6) := KB4.out.trans hk6.right
  have M6 : Hid (TokAt w6 gm c r q a b (.slice none 0 0)) := MB4.out.keep hk6 (by omega)
  have P6 : Hid (PrAt w6 gr s A) := hp6
  have V6 : Hid (OwnI w6 w.heap.size v (ns.map fun n : Nat => (n : Int))) := hv6.down KB4.out.size
  have HN : Hid (numbersP s i4 = some (ns, A)) := hn6
  obtain ⟨ao', cap', rfl⟩ := hv6.form
  have c0 := M6.out.cells.2.2.2.2.2
  have f0 := M6.out.frozen 5
  clear MB4 PB4 KB4 hn6 hv6 hp6 hk6
  go_wp2_with fail
  go_end0
  have V7 : OwnI w6 w.heap.size (.slice ao' ns.length cap') (ns.map fun n : Nat => (n : Int)) := by
    have h := V6.out
    rwa [List.length_map] at h
  have T7 := (TurnAt.refl gm w6).setCell 5 (.slice ao' ns.length cap')
  exact .inr ⟨c, r, q, a, b, A, ns, _, rfl, tokP_all H0.out H1.out H2.out H3.out H4.out HN.out, hl6, M6.out.set5 _, own_tok V7 M6.out T7, P6.out.turn T7 (by omega), K6.out.trans T7.keep.left⟩
end Go.Proofs.YtpegbkpgjjjllaaDoor
