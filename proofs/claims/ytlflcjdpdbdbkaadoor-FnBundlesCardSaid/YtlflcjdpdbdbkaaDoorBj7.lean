/- Joined texts: R2 R3 R4. -/
import Derived.Test.YtlflcjdpdbdbkaaDoorBj4
import Derived.Test.YtlflcjdpdbdbkaaDoorBj6
/- The walks over the program's reader of packets: a short text. -/
namespace Go.Proofs.YtlflcjdpdbdbkaaDoor
open Go.RowKit Pl
set_option linter.unusedVariables false

set_option maxHeartbeats 400000 in
theorem implRs_good (s : ByteArray) (A n i : Nat) (w : World) (hs : s.size ≤ 1048576) (hA : A ≤ s.size) (h : Hid (rv s A = some (n, i))) (hn : n ≤ 20000) (hi : i + n ≤ s.size) :
    Calls Tryd.prog 87 #[.string s, .int .i64 A] w fun e w' => e = .returned (.tuple #[.string (s.extract i (i + n)), .int .i64 ((i : Int) + (n : Int)), .bool true]) ∧ Below w.heap.size w w' := by
  have hex : (s.extract i (i + n)).size ≤ 1048576 := by rw [ByteArray.size_extract]; omega
  go_enter Tryd.func87, Tryd.ntmps87
  go_wp2_with (first | (go_at_call 85; refine (implRv_some s A n i _ (by omega) hA h.out).mono ?_; rintro e w1 ⟨rfl, rfl⟩) | (go_at_call 62; refine (clone_any _ _ hex).mono ?_; rintro e w2 ⟨rfl, hb2⟩))
  go_ret3
  exact ⟨rfl, hb2⟩
set_option maxHeartbeats 400000 in
theorem implRs_none (s : ByteArray) (A : Nat) (w : World) (hs : s.size ≤ 1048576) (hA : A ≤ s.size) (h : Hid (rv s A = none)) :
    Calls Tryd.prog 87 #[.string s, .int .i64 A] w fun e w' => e = .returned (.tuple #[.string ByteArray.empty, .int .i64 0, .bool false]) ∧ w' = w := by
  go_enter Tryd.func87, Tryd.ntmps87
  go_wp2_with (first | (go_at_call 85; refine (implRv_none s A _ (by omega) hA h.out).mono ?_; rintro e w1 ⟨rfl, rfl⟩))
  go_ret3
  exact ⟨rfl, rfl⟩
set_option maxHeartbeats 400000 in
theorem implRs_bad (s : ByteArray) (A n i : Nat) (w : World) (hs : s.size ≤ 1048576) (hA : A ≤ s.size) (h : Hid (rv s A = some (n, i))) (hi : i ≤ s.size) (hn : n ≤ 1000000000) (hbad : 20000 < n ∨ s.size < i + n) :
    Calls Tryd.prog 87 #[.string s, .int .i64 A] w fun e w' => e = .returned (.tuple #[.string ByteArray.empty, .int .i64 0, .bool false]) ∧ w' = w := by
  by_cases h1 : 20000 < n
  · go_enter Tryd.func87, Tryd.ntmps87
    go_wp2_with (first | (go_at_call 85; refine (implRv_some s A n i _ (by omega) hA h.out).mono ?_; rintro e w1 ⟨rfl, rfl⟩))
    go_ret3
    exact ⟨rfl, rfl⟩
  · have h2 : s.size < i + n := by omega
    clear hbad
    go_enter Tryd.func87, Tryd.ntmps87
    go_wp2_with (first | (go_at_call 85; refine (implRv_some s A n i _ (by omega) hA h.out).mono ?_; rintro e w1 ⟨rfl, rfl⟩))
    go_ret3
    exact ⟨rfl, rfl⟩

theorem implRs_no (s : ByteArray) (A : Nat) (w : World) (hs : s.size ≤ 1048576) (hA : A ≤ s.size) (h : shP s A = none) :
    Calls Tryd.prog 87 #[.string s, .int .i64 A] w fun e w' => e = .returned (.tuple #[.string ByteArray.empty, .int .i64 0, .bool false]) ∧ w' = w := by
  rcases h0 : rv s A with _ | ⟨n, i⟩
  · exact implRs_none s A w hs hA h0
  · obtain ⟨h1, h2⟩ := rv_le hA h0
    by_cases hb : n ≤ 20000 ∧ i + n ≤ s.size
    · rw [shP_some h0 hb.1 hb.2] at h; cases h
    · exact implRs_bad s A n i w hs hA h0 h2 h1 (by omega)
theorem implRs_yes (s t : ByteArray) (A i : Nat) (w : World) (hs : s.size ≤ 1048576) (hA : A ≤ s.size) (h : shP s A = some (t, i)) :
    Calls Tryd.prog 87 #[.string s, .int .i64 A] w fun e w' => e = .returned (.tuple #[.string t, .int .i64 i, .bool true]) ∧ Below w.heap.size w w' := by
  rcases h0 : rv s A with _ | ⟨n, k⟩
  · rw [shP_none h0] at h; cases h
  · obtain ⟨h1, h2⟩ := rv_le hA h0
    by_cases hb : n ≤ 20000 ∧ k + n ≤ s.size
    · rw [shP_some h0 hb.1 hb.2] at h
      simp only [Option.some.injEq, Prod.mk.injEq] at h
      obtain ⟨rfl, rfl⟩ := h
      exact implRs_good s A n k w hs hA h0 hb.1 hb.2
    · rw [shP_bad h0 (by omega)] at h; cases h

theorem pr_step {W w w' : World} {g A : Nat} {s : ByteArray} (h : (w.cell? ⟨g, 0, none⟩ = some (.string s) ∧ w.cell? ⟨g, 1, none⟩ = some (.int .i64 A) ∧ w.frozen? ⟨g, 0, none⟩ = false ∧ w.frozen? ⟨g, 1, none⟩ = false) ∧ Hid (Below W.heap.size W w ∧ PrAt w g s A)) (hb : Below w.heap.size w w') :
    (w'.cell? ⟨g, 0, none⟩ = some (.string s) ∧ w'.cell? ⟨g, 1, none⟩ = some (.int .i64 A) ∧ w'.frozen? ⟨g, 0, none⟩ = false ∧ w'.frozen? ⟨g, 1, none⟩ = false) ∧ Hid (Below W.heap.size W w' ∧ PrAt w' g s A) := by
  obtain ⟨h1, h2⟩ := h
  obtain ⟨h3, h4⟩ := h2.out
  have h5 := h4.stays hb h4.lt
  exact ⟨h5.cells, ⟨h3.trans (hb.mono h3.size), h5⟩⟩

set_option maxRecDepth 100000 in
set_option maxHeartbeats 1000000 in
theorem short_some (s t : ByteArray) (g A i : Nat) (w : World) (hp : Hid (PrAt w g s A)) (hs : s.size ≤ 1048576) (hA : A ≤ s.size) (h : Hid (shP s A = some (t, i))) :
    Calls Tryd.prog 66 #[.pointer (some ⟨g, 0, none⟩)] w fun e w' => e = .returned (.string t) ∧ PrAt w' g s i ∧ KeepBut g w w' := by
  have HI : (w.drew.cell? ⟨g, 0, none⟩ = some (.string s) ∧ w.drew.cell? ⟨g, 1, none⟩ = some (.int .i64 A) ∧ w.drew.frozen? ⟨g, 0, none⟩ = false ∧ w.drew.frozen? ⟨g, 1, none⟩ = false) ∧ Hid (Below w.heap.size w w.drew ∧ PrAt w.drew g s A) :=
    ⟨hp.out.cells, (Below.refl _ _).drew, hp.out⟩
  go_enter Tryd.func66, Tryd.ntmps66
  go_wp2
  go_region_held3 (fun w' => (w'.cell? ⟨g, 0, none⟩ = some (.string s) ∧ w'.cell? ⟨g, 1, none⟩ = some (.int .i64 A) ∧ w'.frozen? ⟨g, 0, none⟩ = false ∧ w'.frozen? ⟨g, 1, none⟩ = false) ∧ Hid (Below w.heap.size w w' ∧ PrAt w' g s A)) (first | exact HI | assumption) (first | (go_at_call 87; refine (implRs_yes s t A i _ hs hA h.out).mono ?_; rintro e w3 ⟨rfl, hb3⟩; have hk3 := pr_step (W := w) (by assumption) hb3))
  obtain ⟨⟨c0, c1, f0, f1⟩, hk⟩ := hk3
  clear HI
  go_wp2
  go_ret
  exact ⟨rfl, hk.out.2.set i, (keep_of_below hk.out.1).trans ((TurnAt.refl g w3).setCell 1 _).keep⟩

set_option maxRecDepth 100000 in
set_option maxHeartbeats 1000000 in
theorem short_none (s : ByteArray) (g A : Nat) (w : World) (hp : Hid (PrAt w g s A)) (hs : s.size ≤ 1048576) (hA : A ≤ s.size) (h : Hid (shP s A = none)) :
    Calls Tryd.prog 66 #[.pointer (some ⟨g, 0, none⟩)] w fun e w' => e = .panicked noPk ∧ TurnAt g w w' := by
  obtain ⟨c0, c1, f0, f1⟩ := hp.out.cells
  go_enter Tryd.func66, Tryd.ntmps66
  go_wp2
  go_quiet (first | (go_at_call 87; exact Calls.quiet_of_same (implRs_no s A _ hs hA h.out)))
  go_wp2
  exact ⟨rfl, rfl, (TurnAt.refl g w).drewN _⟩

end Go.Proofs.YtlflcjdpdbdbkaaDoor

/- The walks over the closure that reads an item, over the reading of a packet and over the program's ReadItem. -/
namespace Go.Proofs.YtlflcjdpdbdbkaaDoor
open Go.RowKit Pl
set_option linter.unusedVariables false

theorem ItAt.frozen {w : World} {g : Nat} {q f l : Int} {t : ByteArray} (h : ItAt w g q f l t) (i : Nat) : w.frozen? ⟨g, i, none⟩ = false := frozen_of_row w g i _ 57 h
theorem ItAt.set0 {w : World} {g : Nat} {q f l : Int} {t : ByteArray} (h : ItAt w g q f l t) (x : Int) : ItAt (w.setCell ⟨g, 0, none⟩ (.int .i64 x)) g x f l t := by
  have := heap_setCell_same w g 0 _ 57 (.int .i64 x) h
  unfold ItAt; rw [this]; rfl
theorem ItAt.set1 {w : World} {g : Nat} {q f l : Int} {t : ByteArray} (h : ItAt w g q f l t) (x : Int) : ItAt (w.setCell ⟨g, 1, none⟩ (.int .i64 x)) g q x l t := by
  have := heap_setCell_same w g 1 _ 57 (.int .i64 x) h
  unfold ItAt; rw [this]; rfl
theorem ItAt.set2 {w : World} {g : Nat} {q f l : Int} {t : ByteArray} (h : ItAt w g q f l t) (x : Int) : ItAt (w.setCell ⟨g, 2, none⟩ (.int .i64 x)) g q f x t := by
  have := heap_setCell_same w g 2 _ 57 (.int .i64 x) h
  unfold ItAt; rw [this]; rfl
theorem ItAt.set3 {w : World} {g : Nat} {q f l : Int} {t : ByteArray} (h : ItAt w g q f l t) (x : ByteArray) : ItAt (w.setCell ⟨g, 3, none⟩ (.string x)) g q f l x := by
  have := heap_setCell_same w g 3 _ 57 (.string x) h
  unfold ItAt; rw [this]; rfl
theorem ItAt.keep {w w' : World} {g k : Nat} {q f l : Int} {t : ByteArray} (h : ItAt w g q f l t) (hk : KeepBut k w w') (hg : g ≠ k) : ItAt w' g q f l t := (hk.block g h.lt hg).trans h

theorem itemP_n0 {s : ByteArray} (h : rv s 0 = none) : itemP s = none := by simp [itemP, h]
theorem itemP_n1 {s : ByteArray} {q i : Nat} (h : rv s 0 = some (q, i)) (h1 : oneP s i = none) : itemP s = none := by simp [itemP, h, h1]
theorem itemP_n2 {s : ByteArray} {q i f j : Nat} (h : rv s 0 = some (q, i)) (h1 : oneP s i = some (f, j)) (h2 : oneP s j = none) : itemP s = none := by simp [itemP, h, h1, h2]
theorem itemP_n3 {s : ByteArray} {q i f j l k : Nat} (h : rv s 0 = some (q, i)) (h1 : oneP s i = some (f, j)) (h2 : oneP s j = some (l, k)) (h3 : shP s k = none) : itemP s = none := by simp [itemP, h, h1, h2, h3]

/-- what the closure answers. -/
def ClAns (s : ByteArray) (gm gr : Nat) (w : World) (e : Ending) (w' : World) : Prop :=
  (e = .panicked noPk ∧ itemP s = none ∧ Keep2 gm gr w w') ∨
  ∃ (q f l A : Nat) (t : ByteArray), e = .returned (.tuple #[]) ∧ itemP s = some (q, f, l, t, A) ∧ ItAt w' gm q f l t ∧ PrAt w' gr s A ∧ Keep2 gm gr w w'

set_option maxRecDepth 100000 in
set_option maxHeartbeats 4000000 in
theorem clItem_any (s : ByteArray) (gm gr : Nat) (w : World) (hm : Hid (ItAt w gm 0 0 0 ByteArray.empty)) (hp : Hid (PrAt w gr s 0)) (hne : gm < gr) (hs : s.size ≤ 1048576) :
    Calls Tryd.prog 86 #[.pointer (some ⟨gr, 0, none⟩), .pointer (some ⟨gm, 0, none⟩)] w fun e w' => ClAns s gm gr w e w' := by
  go_enter Tryd.func86, Tryd.ntmps86
  go_wp2_with fail
  rcases h0 : rv s 0 with _ | ⟨q, i⟩
  · refine (number_none s gr 0 _ hp hs (Nat.zero_le _) h0).mono ?_
    rintro e w1 ⟨rfl, ht1⟩
    exact ⟨rfl, .inl ⟨rfl, itemP_n0 h0, ht1.keep.right⟩⟩
  have H0 : Hid (rv s 0 = some (q, i)) := h0
  obtain ⟨u0, _⟩ := (upto_start s).rv h0
  have hi := u0.le
  have U0 : Hid (Upto s i ([] ++ varL q)) := u0
  clear h0 u0
  refine (number_some s gr 0 q i _ hp hs (Nat.zero_le _) H0).mono ?_
  rintro e w1 ⟨rfl, hp1, ht1⟩
  have K1 : Hid (Keep2 gm gr w w1) := ht1.keep.right
  have I1 : Hid (ItAt w1 gm 0 0 0 ByteArray.empty) := hm.out.keep ht1.keep (by omega)
  have P1 : Hid (PrAt w1 gr s i) := hp1
  have c0 := I1.out.cells.1
  have f0 := I1.out.frozen 0
  clear hm hp hp1 ht1
  go_wp2_with fail
  have I2 : Hid (ItAt (w1.setCell ⟨gm, 0, none⟩ (.int .i64 q)) gm q 0 0 ByteArray.empty) := I1.out.set0 q
  have P2 : Hid (PrAt (w1.setCell ⟨gm, 0, none⟩ (.int .i64 q)) gr s i) := P1.out.turn ((TurnAt.refl gm w1).setCell 0 _) (by omega)
  have K2 : Hid (Keep2 gm gr w (w1.setCell ⟨gm, 0, none⟩ (.int .i64 q))) := K1.out.trans ((TurnAt.refl gm w1).setCell 0 _).keep.left
  generalize w1.setCell ⟨gm, 0, none⟩ (.int .i64 q) = W1 at *
  clear I1 P1 K1 c0 f0
  rcases h1 : oneP s i with _ | ⟨f, j⟩
  · refine (oneB_no s gr i _ P2 hs hi h1).mono ?_
    rintro e w2 ⟨rfl, ht2⟩
    exact ⟨rfl, .inl ⟨rfl, itemP_n1 H0.out h1, K2.out.trans ht2.keep.right⟩⟩
  have H1 : Hid (oneP s i = some (f, j)) := h1
  obtain ⟨u1, _⟩ := U0.out.one h1
  have hj := u1.le
  have U1 : Hid (Upto s j ([] ++ varL q ++ [UInt8.ofNat f])) := u1
  clear h1 u1 U0
  refine (oneB_yes s gr i f j _ P2 hs H1).mono ?_
  rintro e w2 ⟨rfl, hp2, ht2⟩
  have K3 : Hid (Keep2 gm gr w w2) := K2.out.trans ht2.keep.right
  have I3 : Hid (ItAt w2 gm q 0 0 ByteArray.empty) := I2.out.keep ht2.keep (by omega)
  have P3 : Hid (PrAt w2 gr s j) := hp2
  have c0 := I3.out.cells.2.1
  have f0 := I3.out.frozen 1
  clear I2 P2 K2 hp2 ht2
  go_wp2_with fail
  have I4 : Hid (ItAt (w2.setCell ⟨gm, 1, none⟩ (.int .i64 f)) gm q f 0 ByteArray.empty) := I3.out.set1 f
  have P4 : Hid (PrAt (w2.setCell ⟨gm, 1, none⟩ (.int .i64 f)) gr s j) := P3.out.turn ((TurnAt.refl gm w2).setCell 1 _) (by omega)
  have K4 : Hid (Keep2 gm gr w (w2.setCell ⟨gm, 1, none⟩ (.int .i64 f))) := K3.out.trans ((TurnAt.refl gm w2).setCell 1 _).keep.left
  generalize w2.setCell ⟨gm, 1, none⟩ (.int .i64 f) = W2 at *
  clear I3 P3 K3 c0 f0
  rcases h2 : oneP s j with _ | ⟨l, k⟩
  · refine (oneB_no s gr j _ P4 hs hj h2).mono ?_
    rintro e w3 ⟨rfl, ht3⟩
    exact ⟨rfl, .inl ⟨rfl, itemP_n2 H0.out H1.out h2, K4.out.trans ht3.keep.right⟩⟩
  have H2 : Hid (oneP s j = some (l, k)) := h2
  obtain ⟨u2, _⟩ := U1.out.one h2
  have hk := u2.le
  clear h2 u2 U1
  refine (oneB_yes s gr j l k _ P4 hs H2).mono ?_
  rintro e w3 ⟨rfl, hp3, ht3⟩
  have K5 : Hid (Keep2 gm gr w w3) := K4.out.trans ht3.keep.right
  have I5 : Hid (ItAt w3 gm q f 0 ByteArray.empty) := I4.out.keep ht3.keep (by omega)
  have P5 : Hid (PrAt w3 gr s k) := hp3
  have c0 := I5.out.cells.2.2.1
  have f0 := I5.out.frozen 2
  clear I4 P4 K4 hp3 ht3
  go_wp2_with fail
  have I6 : Hid (ItAt (w3.setCell ⟨gm, 2, none⟩ (.int .i64 l)) gm q f l ByteArray.empty) := I5.out.set2 l
  have P6 : Hid (PrAt (w3.setCell ⟨gm, 2, none⟩ (.int .i64 l)) gr s k) := P5.out.turn ((TurnAt.refl gm w3).setCell 2 _) (by omega)
  have K6 : Hid (Keep2 gm gr w (w3.setCell ⟨gm, 2, none⟩ (.int .i64 l))) := K5.out.trans ((TurnAt.refl gm w3).setCell 2 _).keep.left
  generalize w3.setCell ⟨gm, 2, none⟩ (.int .i64 l) = W3 at *
  clear I5 P5 K5 c0 f0
  rcases h3 : shP s k with _ | ⟨t, A⟩
  · refine (short_none s gr k _ P6 hs hk h3).mono ?_
    rintro e w4 ⟨rfl, ht4⟩
    exact ⟨rfl, .inl ⟨rfl, itemP_n3 H0.out H1.out H2.out h3, K6.out.trans ht4.keep.right⟩⟩
  have H3 : Hid (shP s k = some (t, A)) := h3
  clear h3
  refine (short_some s t gr k A _ P6 hs hk H3).mono ?_
  rintro e w4 ⟨rfl, hp4, ht4⟩
  have K7 : Hid (Keep2 gm gr w w4) := K6.out.trans ht4.right
  have I7 : Hid (ItAt w4 gm q f l ByteArray.empty) := I6.out.keep ht4 (by omega)
  have P7 : Hid (PrAt w4 gr s A) := hp4
  have c0 := I7.out.cells.2.2.2
  have f0 := I7.out.frozen 3
  clear I6 P6 K6 hp4 ht4
  go_wp2_with fail
  go_end0
  exact .inr ⟨q, f, l, A, t, rfl, itemP_some H0.out H1.out H2.out H3.out, I7.out.set3 t, P7.out.turn ((TurnAt.refl gm w4).setCell 3 _) (by omega), K7.out.trans ((TurnAt.refl gm w4).setCell 3 _).keep.left⟩
end Go.Proofs.YtlflcjdpdbdbkaaDoor

/- The walks over the reading of a packet and over the program's ReadItem. -/
namespace Go.Proofs.YtlflcjdpdbdbkaaDoor
open Go.RowKit Pl
set_option linter.unusedVariables false

theorem keep_out {w W w1 w2 : World} {gm : Nat} (h : Below w.heap.size w W) (hk : Keep2 gm (w.heap.size + 1) W w1) (ht : TurnAt w.heap.size w1 w2) : KeepBut gm w w2 :=
  ⟨ht.os.trans (hk.os.trans h.os), ht.tape.trans (hk.tape.trans h.tape), ht.output.trans (hk.output.trans h.output), by have := h.size; have := hk.size; have := ht.size; omega,
    fun k h1 h2 => (ht.block k (by omega)).trans ((hk.block k (Nat.lt_of_lt_of_le h1 h.size) h2 (by omega)).trans (h.block k h1))⟩

/-- what the reading of an item's packet answers. -/
def RpAns (s : ByteArray) (gm : Nat) (w : World) (e : Ending) (w' : World) : Prop :=
  (e = .returned (.bool false) ∧ itemP s = none ∧ KeepBut gm w w') ∨
  ∃ (q f l A : Nat) (t : ByteArray), e = .returned (.bool ((A : Int) == (s.size : Int))) ∧ itemP s = some (q, f, l, t, A) ∧ ItAt w' gm q f l t ∧ KeepBut gm w w'

set_option maxRecDepth 100000 in
set_option maxHeartbeats 4000000 in
theorem readP_any (s : ByteArray) (gm : Nat) (w : World) (hm : Hid (ItAt w gm 0 0 0 ByteArray.empty)) (hs : s.size ≤ 1048576) :
    Calls Tryd.prog 27 #[.string s, .func (.func 86) #[] #[.pointer (some ⟨gm, 0, none⟩)]] w fun e w' => RpAns s gm w e w' := by
  have hmf : ∀ (fn : Fn) (first cap : Array Value) (w : World), (Instr.makeFunc fn first cap).run Tryd.prog w = .ok (.func fn first cap) w := fun _ _ _ _ => rfl
  have hlt := hm.out.lt
  have H1 : Hid (ItAt ((w.alloc (.cells #[.bool false] 4)).alloc (.cells #[.string s, .int .i64 0] 88)) gm 0 0 0 ByteArray.empty) := (hm.out.stays ((Below.refl w.heap.size w).alloc (Nat.le_refl _) _) hlt).stays ((Below.refl (w.heap.size + 1) _).alloc (by simp) _) (by omega)
  have H2 : Hid (PrAt ((w.alloc (.cells #[.bool false] 4)).alloc (.cells #[.string s, .int .i64 0] 88)) (w.heap.size + 1) s 0) := by
    have := heap_alloc_new (w.alloc (.cells #[.bool false] 4)) (.cells #[.string s, .int .i64 0] 88)
    show PrAt _ _ _ _
    simpa [PrAt] using this
  have H3 : Hid (((w.alloc (.cells #[.bool false] 4)).alloc (.cells #[.string s, .int .i64 0] 88)).heap[w.heap.size]? = some (.cells #[.bool false] 4 (0, 0))) :=
    (((Below.refl (w.heap.size + 1) (w.alloc (.cells #[.bool false] 4))).alloc (by simp) _).block w.heap.size (by omega)).trans (heap_alloc_new w _)
  have H4 : Hid (Below w.heap.size w ((w.alloc (.cells #[.bool false] 4)).alloc (.cells #[.string s, .int .i64 0] 88))) := ((Below.refl _ _).alloc (Nat.le_refl _) _).alloc (by simp) _
  have H5 : Hid (((w.alloc (.cells #[.bool false] 4)).alloc (.cells #[.string s, .int .i64 0] 88)).heap.size = w.heap.size + 2) := by show _ = _; simp
  go_enter_defers Tryd.func27, Tryd.ntmps27
  go_wp2_with fail
  generalize (w.alloc (.cells #[.bool false] 4)).alloc (.cells #[.string s, .int .i64 0] 88) = W at *
  refine (clItem_any s gm (w.heap.size + 1) W H1 H2 (by omega) hs).mono ?_
  rintro e w1 (⟨rfl, hn, hk⟩ | ⟨q, f, l, A, t, rfl, hq, hi, hp, hk⟩)
  · have hb : w1.heap[w.heap.size]? = some (.cells #[.bool false] 4 (0, 0)) := (hk.block w.heap.size (by have := H5.out; omega) (by omega) (by omega)).trans H3.out
    have hc : w1.cell? ⟨w.heap.size, 0, none⟩ = some (.bool false) := by rw [cell_of_row w1 w.heap.size 0 _ 4 (0, 0) hb]; rfl
    have hf := frozen_of_row w1 w.heap.size 0 _ 4 hb
    refine leaves_cons (f := 63) (args := #[.pointer (some ⟨w.heap.size, 0, none⟩)]) (by simp) (by simp [go_sem]) ?_
    refine (catch_panicking ⟨w.heap.size, 0, none⟩ false _ hc hf).mono ?_
    rintro e u' w'' ⟨rfl, rfl, rfl⟩
    have hsame : (w1.setCell ⟨w.heap.size, 0, none⟩ (.bool false)).cell? ⟨w.heap.size, 0, none⟩ = some (.bool false) := by
      rw [cell_of_row _ w.heap.size 0 _ 4 (0, 0) (heap_setCell_same w1 w.heap.size 0 _ 4 (.bool false) hb)]; rfl
    simp [Leaves, settle, results, Tryd.results27, go_sem, hsame]
    exact .inl ⟨rfl, hn, keep_out H4.out hk ((TurnAt.refl _ _).setCell 0 _)⟩
  · have hb : w1.heap[w.heap.size]? = some (.cells #[.bool false] 4 (0, 0)) := (hk.block w.heap.size (by have := H5.out; omega) (by omega) (by omega)).trans H3.out
    have hc : w1.cell? ⟨w.heap.size, 0, none⟩ = some (.bool false) := by rw [cell_of_row w1 w.heap.size 0 _ 4 (0, 0) hb]; rfl
    have hf := frozen_of_row w1 w.heap.size 0 _ 4 hb
    obtain ⟨c0, c1, _, _⟩ := hp.cells
    have HB : Hid (w1.heap[w.heap.size]? = some (.cells #[.bool false] 4 (0, 0))) := hb
    have HI : Hid (ItAt w1 gm q f l t) := hi
    have HK : Hid (Keep2 gm (w.heap.size + 1) W w1) := hk
    have HQ : Hid (itemP s = some (q, f, l, t, A)) := hq
    clear hb hi hp hk hq H1 H2 H3 H5
    go_wp2_with fail
    have hsame : (w1.setCell ⟨w.heap.size, 0, none⟩ (.bool ((A : Int) == (s.size : Int)))).cell? ⟨w.heap.size, 0, none⟩ = some (.bool ((A : Int) == (s.size : Int))) := by
      rw [cell_of_row _ w.heap.size 0 _ 4 (0, 0) (heap_setCell_same w1 w.heap.size 0 _ 4 _ HB.out)]; rfl
    refine leaves_cons (f := 63) (args := #[.pointer (some ⟨w.heap.size, 0, none⟩)]) (by simp) (by simp [go_sem]) ?_
    refine (catch_idle ⟨w.heap.size, 0, none⟩ _).mono ?_
    rintro e u' w'' ⟨rfl, rfl, rfl⟩
    simp [Leaves, settle, results, Tryd.results27, go_sem, hsame]
    exact .inr ⟨q, f, l, A, t, rfl, HQ.out, HI.out.keep ((TurnAt.refl w.heap.size w1).setCell 0 _).keep (by omega), keep_out H4.out HK.out ((TurnAt.refl _ _).setCell 0 _)⟩

theorem ItAt.agg {w : World} {g : Nat} {q f l : Int} {t : ByteArray} (h : ItAt w g q f l t) (q' f' l' : Int) (t' : ByteArray) :
    ItAt ((((w.setCell ⟨g, 0, none⟩ (.int .i64 q')).setCell ⟨g, 1, none⟩ (.int .i64 f')).setCell ⟨g, 2, none⟩ (.int .i64 l')).setCell ⟨g, 3, none⟩ (.string t')) g q' f' l' t' :=
  (((h.set0 q').set1 f').set2 l').set3 t'

set_option maxRecDepth 100000 in
set_option maxHeartbeats 4000000 in
theorem readItem_any (s : ByteArray) (w : World) (hs : s.size ≤ 1048576) :
    Calls Tryd.prog 65 #[.string s] w fun e w' => ∃ (q f l : Nat) (t : ByteArray) (r : Bool), e = .returned (.tuple #[.agg #[.int .i64 q, .int .i64 f, .int .i64 l, .string t], .bool r]) ∧ AnsI s q f l t r ∧ Below w.heap.size w w' := by
  have hmf : ∀ (fn : Fn) (first cap : Array Value) (w : World), (Instr.makeFunc fn first cap).run Tryd.prog w = .ok (.func fn first cap) w := fun _ _ _ _ => rfl
  have H1 : Hid (ItAt ((w.alloc (.cells #[.int .i64 0, .int .i64 0, .int .i64 0, .string ⟨#[]⟩] 57)).alloc (.cells #[.int .i64 0, .int .i64 0, .int .i64 0, .string ⟨#[]⟩] 57)) w.heap.size 0 0 0 ByteArray.empty) :=
    (((Below.refl (w.heap.size + 1) (w.alloc (.cells #[.int .i64 0, .int .i64 0, .int .i64 0, .string ⟨#[]⟩] 57))).alloc (by simp) _).block w.heap.size (by omega)).trans (heap_alloc_new w _)
  have H2 : Hid (ItAt ((w.alloc (.cells #[.int .i64 0, .int .i64 0, .int .i64 0, .string ⟨#[]⟩] 57)).alloc (.cells #[.int .i64 0, .int .i64 0, .int .i64 0, .string ⟨#[]⟩] 57)) (w.heap.size + 1) 0 0 0 ByteArray.empty) := by
    have := heap_alloc_new (w.alloc (.cells #[.int .i64 0, .int .i64 0, .int .i64 0, .string ⟨#[]⟩] 57)) (.cells #[.int .i64 0, .int .i64 0, .int .i64 0, .string ⟨#[]⟩] 57)
    rw [show (w.alloc (.cells #[.int .i64 0, .int .i64 0, .int .i64 0, .string ⟨#[]⟩] 57)).heap.size = w.heap.size + 1 by simp] at this
    exact this
  have H4 : Hid (Below w.heap.size w ((w.alloc (.cells #[.int .i64 0, .int .i64 0, .int .i64 0, .string ⟨#[]⟩] 57)).alloc (.cells #[.int .i64 0, .int .i64 0, .int .i64 0, .string ⟨#[]⟩] 57))) := ((Below.refl _ _).alloc (Nat.le_refl _) _).alloc (by simp) _
  go_enter Tryd.func65, Tryd.ntmps65
  go_wp2_with fail
  generalize (w.alloc (.cells #[.int .i64 0, .int .i64 0, .int .i64 0, .string ⟨#[]⟩] 57)).alloc (.cells #[.int .i64 0, .int .i64 0, .int .i64 0, .string ⟨#[]⟩] 57) = W at *
  refine (readP_any s (w.heap.size + 1) W H2 hs).mono ?_
  rintro e w1 (⟨rfl, hn, hk⟩ | ⟨q, f, l, A, t, rfl, hq, hi, hk⟩)
  · have R1 : Hid (ItAt w1 w.heap.size 0 0 0 ByteArray.empty) := H1.out.keep hk (by omega)
    have HN : Hid (itemP s = none) := hn
    have HB : Hid (Below w.heap.size w w1) := H4.out.trans (hk.below (by omega) H4.out.size)
    obtain ⟨c0, c1, c2, c3⟩ := R1.out.cells
    have z0 := R1.out.frozen 0
    have z1 := R1.out.frozen 1
    have z2 := R1.out.frozen 2
    have z3 := R1.out.frozen 3
    clear H1 H2 H4 hn hk
    have R2 : ItAt _ w.heap.size 0 0 0 ⟨#[]⟩ := R1.out.agg 0 0 0 ⟨#[]⟩
    have HB2 := (((HB.out.setCell (p := ⟨w.heap.size, 0, none⟩) (Nat.le_refl _) (.int .i64 0)).setCell (p := ⟨w.heap.size, 1, none⟩) (Nat.le_refl _) (.int .i64 0)).setCell (p := ⟨w.heap.size, 2, none⟩) (Nat.le_refl _) (.int .i64 0)).setCell (p := ⟨w.heap.size, 3, none⟩) (Nat.le_refl _) (.string ⟨#[]⟩)
    go_wp2_with fail
    generalize ((((w1.setCell ⟨w.heap.size, 0, none⟩ (.int .i64 0)).setCell ⟨w.heap.size, 1, none⟩ (.int .i64 0)).setCell ⟨w.heap.size, 2, none⟩ (.int .i64 0)).setCell ⟨w.heap.size, 3, none⟩ (.string ⟨#[]⟩)) = W2 at *
    obtain ⟨q0, q1, q2, q3⟩ := R2.cells
    clear c0 c1 c2 c3 z0 z1 z2 z3
    refine bodyPost_ret (v := .tuple #[.agg #[.int .i64 0, .int .i64 0, .int .i64 0, .string ⟨#[]⟩], .bool false]) (by simp [results, Tryd.results65, go_sem, q0, q1, q2, q3]) rfl ?_
    exact ⟨0, 0, 0, ByteArray.empty, false, rfl, ansI_none HN.out, HB2⟩
  · have R1 : Hid (ItAt w1 w.heap.size 0 0 0 ByteArray.empty) := H1.out.keep hk (by omega)
    have HQ : Hid (itemP s = some (q, f, l, t, A)) := hq
    have HB : Hid (Below w.heap.size w w1) := H4.out.trans (hk.below (by omega) H4.out.size)
    have HM : Hid (ItAt w1 (w.heap.size + 1) q f l t) := hi
    clear H1 H2 H4 hq hk hi
    by_cases hA : A = s.size
    · have hb : ((A : Int) == (s.size : Int)) = true := by rw [hA]; simp
      rw [hb]
      obtain ⟨m0, m1, m2, m3⟩ := HM.out.cells
      go_wp2_with fail
      by_cases ho : ItOk q f l t
      · refine (itemOk_yes _ ho).mono ?_
        rintro e w2 ⟨rfl, hb2⟩
        have HO : Hid (ItOk q f l t) := ho
        have HA : Hid (A = s.size) := hA
        have R1 : Hid (ItAt w2 w.heap.size 0 0 0 ByteArray.empty) := R1.out.stays hb2 R1.out.lt
        have HM : Hid (ItAt w2 (w.heap.size + 1) q f l t) := HM.out.stays hb2 HM.out.lt
        have HB : Hid (Below w.heap.size w w2) := HB.out.trans (hb2.mono HB.out.size)
        clear ho hA hb hb2 m0 m1 m2 m3
        obtain ⟨m0, m1, m2, m3⟩ := HM.out.cells
        obtain ⟨c0, c1, c2, c3⟩ := R1.out.cells
        have z0 := R1.out.frozen 0
        have z1 := R1.out.frozen 1
        have z2 := R1.out.frozen 2
        have z3 := R1.out.frozen 3
        have R2 : ItAt _ w.heap.size q f l t := R1.out.agg q f l t
        have HB2 := (((HB.out.setCell (p := ⟨w.heap.size, 0, none⟩) (Nat.le_refl _) (.int .i64 q)).setCell (p := ⟨w.heap.size, 1, none⟩) (Nat.le_refl _) (.int .i64 f)).setCell (p := ⟨w.heap.size, 2, none⟩) (Nat.le_refl _) (.int .i64 l)).setCell (p := ⟨w.heap.size, 3, none⟩) (Nat.le_refl _) (.string t)
        go_wp2_with fail
        generalize ((((w2.setCell ⟨w.heap.size, 0, none⟩ (.int .i64 q)).setCell ⟨w.heap.size, 1, none⟩ (.int .i64 f)).setCell ⟨w.heap.size, 2, none⟩ (.int .i64 l)).setCell ⟨w.heap.size, 3, none⟩ (.string t)) = W2 at *
        obtain ⟨q0, q1, q2, q3⟩ := R2.cells
        clear c0 c1 c2 c3 z0 z1 z2 z3 m0 m1 m2 m3
        refine bodyPost_ret (v := .tuple #[.agg #[.int .i64 q, .int .i64 f, .int .i64 l, .string t], .bool true]) (by simp [results, Tryd.results65, go_sem, q0, q1, q2, q3]) rfl ?_
        exact ⟨q, f, l, t, true, rfl, ansI_good (by rw [← HA.out]; exact HQ.out) HO.out, HB2⟩
      · refine (itemOk_no _ ho).mono ?_
        rintro e w2 ⟨rfl, hb2⟩
        have HO : Hid (¬ ItOk q f l t) := ho
        have R1 : Hid (ItAt w2 w.heap.size 0 0 0 ByteArray.empty) := R1.out.stays hb2 R1.out.lt
        have HB : Hid (Below w.heap.size w w2) := HB.out.trans (hb2.mono HB.out.size)
        clear ho hA hb hb2 m0 m1 m2 m3
        obtain ⟨c0, c1, c2, c3⟩ := R1.out.cells
        have z0 := R1.out.frozen 0
        have z1 := R1.out.frozen 1
        have z2 := R1.out.frozen 2
        have z3 := R1.out.frozen 3
        have R2 : ItAt _ w.heap.size 0 0 0 ⟨#[]⟩ := R1.out.agg 0 0 0 ⟨#[]⟩
        have HB2 := (((HB.out.setCell (p := ⟨w.heap.size, 0, none⟩) (Nat.le_refl _) (.int .i64 0)).setCell (p := ⟨w.heap.size, 1, none⟩) (Nat.le_refl _) (.int .i64 0)).setCell (p := ⟨w.heap.size, 2, none⟩) (Nat.le_refl _) (.int .i64 0)).setCell (p := ⟨w.heap.size, 3, none⟩) (Nat.le_refl _) (.string ⟨#[]⟩)
        go_wp2_with fail
        generalize ((((w2.setCell ⟨w.heap.size, 0, none⟩ (.int .i64 0)).setCell ⟨w.heap.size, 1, none⟩ (.int .i64 0)).setCell ⟨w.heap.size, 2, none⟩ (.int .i64 0)).setCell ⟨w.heap.size, 3, none⟩ (.string ⟨#[]⟩)) = W2 at *
        obtain ⟨q0, q1, q2, q3⟩ := R2.cells
        clear c0 c1 c2 c3 z0 z1 z2 z3
        refine bodyPost_ret (v := .tuple #[.agg #[.int .i64 0, .int .i64 0, .int .i64 0, .string ⟨#[]⟩], .bool false]) (by simp [results, Tryd.results65, go_sem, q0, q1, q2, q3]) rfl ?_
        exact ⟨0, 0, 0, ByteArray.empty, false, rfl, ansI_bad HQ.out (.inr HO.out), HB2⟩
    · have hb : ((A : Int) == (s.size : Int)) = false := by simp; omega
      rw [hb]
      have HA : Hid (A ≠ s.size) := hA
      clear hA hb
      obtain ⟨c0, c1, c2, c3⟩ := R1.out.cells
      have z0 := R1.out.frozen 0
      have z1 := R1.out.frozen 1
      have z2 := R1.out.frozen 2
      have z3 := R1.out.frozen 3
      have R2 : ItAt _ w.heap.size 0 0 0 ⟨#[]⟩ := R1.out.agg 0 0 0 ⟨#[]⟩
      have HB2 := (((HB.out.setCell (p := ⟨w.heap.size, 0, none⟩) (Nat.le_refl _) (.int .i64 0)).setCell (p := ⟨w.heap.size, 1, none⟩) (Nat.le_refl _) (.int .i64 0)).setCell (p := ⟨w.heap.size, 2, none⟩) (Nat.le_refl _) (.int .i64 0)).setCell (p := ⟨w.heap.size, 3, none⟩) (Nat.le_refl _) (.string ⟨#[]⟩)
      go_wp2_with fail
      generalize ((((w1.setCell ⟨w.heap.size, 0, none⟩ (.int .i64 0)).setCell ⟨w.heap.size, 1, none⟩ (.int .i64 0)).setCell ⟨w.heap.size, 2, none⟩ (.int .i64 0)).setCell ⟨w.heap.size, 3, none⟩ (.string ⟨#[]⟩)) = W2 at *
      obtain ⟨q0, q1, q2, q3⟩ := R2.cells
      clear c0 c1 c2 c3 z0 z1 z2 z3
      refine bodyPost_ret (v := .tuple #[.agg #[.int .i64 0, .int .i64 0, .int .i64 0, .string ⟨#[]⟩], .bool false]) (by simp [results, Tryd.results65, go_sem, q0, q1, q2, q3]) rfl ?_
      exact ⟨0, 0, 0, ByteArray.empty, false, rfl, ansI_bad HQ.out (.inl HA.out), HB2⟩
end Go.Proofs.YtlflcjdpdbdbkaaDoor

