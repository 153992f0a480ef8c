/- The walks over the specification's reader of a text: a number, so many bytes, one byte. -/
import Derived.Test.YtlflcjdpdbdbkaaDoorSv
import Derived.Test.YtlflcjdpdbdbkaaDoorK2
namespace Go.Proofs.YtlflcjdpdbdbkaaDoor
open Go.RowKit Pl
set_option linter.unusedVariables false

/-- the block g is a cursor over s at the place A; b: it was not of its form. -/
def PcAt (w : World) (g : Nat) (s : ByteArray) (A : Nat) (b : Bool) : Prop := w.heap[g]? = some (.cells #[.string s, .int .i64 A, .bool b] 65 (0, 0))
theorem PcAt.cells {w : World} {g : Nat} {s : ByteArray} {A : Nat} {b : Bool} (h : PcAt w g s A b) : w.cell? ⟨g, 0, none⟩ = some (.string s) ∧ w.cell? ⟨g, 1, none⟩ = some (.int .i64 A) ∧ w.cell? ⟨g, 2, none⟩ = some (.bool b) ∧ w.frozen? ⟨g, 0, none⟩ = false ∧ w.frozen? ⟨g, 1, none⟩ = false ∧ w.frozen? ⟨g, 2, none⟩ = false :=
  ⟨by rw [cell_of_row w g 0 _ 65 (0, 0) h]; rfl, by rw [cell_of_row w g 1 _ 65 (0, 0) h]; rfl, by rw [cell_of_row w g 2 _ 65 (0, 0) h]; rfl, frozen_of_row w g 0 _ 65 h, frozen_of_row w g 1 _ 65 h, frozen_of_row w g 2 _ 65 h⟩
theorem PcAt.stays {w w' : World} {B g : Nat} {s : ByteArray} {A : Nat} {b : Bool} (h : PcAt w g s A b) (hb : Below B w w') (hg : g < B) : PcAt w' g s A b := (hb.block g hg).trans h
theorem PcAt.keep {w w' : World} {k g : Nat} {s : ByteArray} {A : Nat} {b : Bool} (h : PcAt w g s A b) (hk : TurnAt k w w') (hg : g ≠ k) : PcAt w' g s A b := (hk.block g hg).trans h
theorem PcAt.lt {w : World} {g : Nat} {s : ByteArray} {A : Nat} {b : Bool} (h : PcAt w g s A b) : g < w.heap.size := (Array.getElem?_eq_some_iff.1 h).1
theorem PcAt.set1 {w : World} {g : Nat} {s : ByteArray} {A : Nat} {b : Bool} (h : PcAt w g s A b) (i : Nat) : PcAt (w.setCell ⟨g, 1, none⟩ (.int .i64 i)) g s i b := by
  have h1 := heap_setCell_same w g 1 _ 65 (.int .i64 i) h
  unfold PcAt; rw [h1]; rfl
theorem PcAt.set2 {w : World} {g : Nat} {s : ByteArray} {A : Nat} {b : Bool} (h : PcAt w g s A b) (c : Bool) : PcAt (w.setCell ⟨g, 2, none⟩ (.bool c)) g s A c := by
  have h1 := heap_setCell_same w g 2 _ 65 (.bool c) h
  unfold PcAt; rw [h1]; rfl
theorem PcAt.drewN {w : World} {g : Nat} {s : ByteArray} {A : Nat} {b : Bool} (h : PcAt w g s A b) (n : Nat) : PcAt (w.drewN n) g s A b := h

theorem pc_step {W w w' : World} {g A : Nat} {s : ByteArray} {b : Bool} (h : (w.cell? ⟨g, 0, none⟩ = some (.string s) ∧ w.cell? ⟨g, 1, none⟩ = some (.int .i64 A)) ∧ Hid (Below W.heap.size W w ∧ PcAt w g s A b)) (hb : Below w.heap.size w w') :
    (w'.cell? ⟨g, 0, none⟩ = some (.string s) ∧ w'.cell? ⟨g, 1, none⟩ = some (.int .i64 A)) ∧ Hid (Below W.heap.size W w' ∧ PcAt w' g s A b) := by
  obtain ⟨h1, h2⟩ := h
  obtain ⟨h3, h4⟩ := h2.out
  have h5 := h4.stays hb h4.lt
  exact ⟨⟨h5.cells.1, h5.cells.2.1⟩, ⟨h3.trans (hb.mono h3.size), h5⟩⟩

/-- what a number's reading comes to. -/
def VarF (s : ByteArray) (A : Nat) (b : Bool) (n i : Nat) (b' : Bool) : Prop :=
  (b = false ∧ rv s A = some (n, i) ∧ b' = false) ∨ (n = 0 ∧ i = A ∧ b' = true ∧ (b = true ∨ rv s A = none))

set_option maxRecDepth 100000 in
set_option maxHeartbeats 1000000 in
theorem lvar_good (s : ByteArray) (g A n i : Nat) (w : World) (hp : Hid (PcAt w g s A false)) (hs : s.size ≤ 1048576) (hA : A ≤ s.size) (h : Hid (rv s A = some (n, i))) :
    Calls Tryd.prog 44 #[.pointer (some ⟨g, 0, none⟩)] w fun e w' => e = .returned (.int .i64 n) ∧ PcAt w' g s i false ∧ KeepBut g w w' := by
  have HI : (w.drew.cell? ⟨g, 0, none⟩ = some (.string s) ∧ w.drew.cell? ⟨g, 1, none⟩ = some (.int .i64 A)) ∧ Hid (Below w.heap.size w w.drew ∧ PcAt w.drew g s A false) :=
    ⟨⟨hp.out.cells.1, hp.out.cells.2.1⟩, (Below.refl _ _).drew, hp.out⟩
  go_enter Tryd.func44, Tryd.ntmps44
  go_wp2
  go_region_held3 (fun w' => (w'.cell? ⟨g, 0, none⟩ = some (.string s) ∧ w'.cell? ⟨g, 1, none⟩ = some (.int .i64 A)) ∧ Hid (Below w.heap.size w w' ∧ PcAt w' g s A false)) (first | exact HI | assumption) (first | (go_at_call 73; refine (specRv_some s A n i _ hs hA h.out).mono ?_; rintro e w3 ⟨rfl, hb3⟩; have hk3 := pc_step (W := w) (by assumption) hb3))
  have hk := hk3.2
  obtain ⟨c0, c1, c2, f0, f1, f2⟩ := hk.out.2.cells
  clear HI hk3
  go_wp2
  go_ret
  exact ⟨rfl, hk.out.2.set1 i, (keep_of_below hk.out.1).trans ((TurnAt.refl g w3).setCell 1 _).keep⟩

set_option maxRecDepth 100000 in
set_option maxHeartbeats 1000000 in
theorem lvar_none (s : ByteArray) (g A : Nat) (b : Bool) (w : World) (hp : Hid (PcAt w g s A b)) (hs : s.size ≤ 1048576) (hA : A ≤ s.size) (h : Hid (rv s A = none)) :
    Calls Tryd.prog 44 #[.pointer (some ⟨g, 0, none⟩)] w fun e w' => e = .returned (.int .i64 0) ∧ PcAt w' g s A true ∧ KeepBut g w w' := by
  have HI : (w.drew.cell? ⟨g, 0, none⟩ = some (.string s) ∧ w.drew.cell? ⟨g, 1, none⟩ = some (.int .i64 A)) ∧ Hid (Below w.heap.size w w.drew ∧ PcAt w.drew g s A b) :=
    ⟨⟨hp.out.cells.1, hp.out.cells.2.1⟩, (Below.refl _ _).drew, hp.out⟩
  go_enter Tryd.func44, Tryd.ntmps44
  go_wp2
  go_region_held3 (fun w' => (w'.cell? ⟨g, 0, none⟩ = some (.string s) ∧ w'.cell? ⟨g, 1, none⟩ = some (.int .i64 A)) ∧ Hid (Below w.heap.size w w' ∧ PcAt w' g s A b)) (first | exact HI | assumption) (first | (go_at_call 73; refine (specRv_none s A _ hs hA h.out).mono ?_; rintro e w3 ⟨rfl, hb3⟩; have hk3 := pc_step (W := w) (by assumption) hb3))
  have hk := hk3.2
  obtain ⟨c0, c1, c2, f0, f1, f2⟩ := hk.out.2.cells
  clear HI hk3
  cases b
  all_goals
    go_wp2
    go_ret
    exact ⟨rfl, hk.out.2.set2 true, (keep_of_below hk.out.1).trans ((TurnAt.refl g w3).setCell 2 _).keep⟩

set_option maxRecDepth 100000 in
set_option maxHeartbeats 1000000 in
theorem lvar_bad (s : ByteArray) (g A n i : Nat) (w : World) (hp : Hid (PcAt w g s A true)) (hs : s.size ≤ 1048576) (hA : A ≤ s.size) (h : Hid (rv s A = some (n, i))) :
    Calls Tryd.prog 44 #[.pointer (some ⟨g, 0, none⟩)] w fun e w' => e = .returned (.int .i64 0) ∧ PcAt w' g s A true ∧ KeepBut g w w' := by
  have HI : (w.drew.cell? ⟨g, 0, none⟩ = some (.string s) ∧ w.drew.cell? ⟨g, 1, none⟩ = some (.int .i64 A)) ∧ Hid (Below w.heap.size w w.drew ∧ PcAt w.drew g s A true) :=
    ⟨⟨hp.out.cells.1, hp.out.cells.2.1⟩, (Below.refl _ _).drew, hp.out⟩
  go_enter Tryd.func44, Tryd.ntmps44
  go_wp2
  go_region_held3 (fun w' => (w'.cell? ⟨g, 0, none⟩ = some (.string s) ∧ w'.cell? ⟨g, 1, none⟩ = some (.int .i64 A)) ∧ Hid (Below w.heap.size w w' ∧ PcAt w' g s A true)) (first | exact HI | assumption) (first | (go_at_call 73; refine (specRv_some s A n i _ hs hA h.out).mono ?_; rintro e w3 ⟨rfl, hb3⟩; have hk3 := pc_step (W := w) (by assumption) hb3))
  have hk := hk3.2
  obtain ⟨c0, c1, c2, f0, f1, f2⟩ := hk.out.2.cells
  clear HI hk3
  go_wp2
  go_ret
  exact ⟨rfl, hk.out.2.set2 true, (keep_of_below hk.out.1).trans ((TurnAt.refl g w3).setCell 2 _).keep⟩

theorem lvar_any (s : ByteArray) (g A : Nat) (b : Bool) (w : World) (hp : Hid (PcAt w g s A b)) (hs : s.size ≤ 1048576) (hA : A ≤ s.size) :
    Calls Tryd.prog 44 #[.pointer (some ⟨g, 0, none⟩)] w fun e w' => ∃ (n i : Nat) (b' : Bool), e = .returned (.int .i64 n) ∧ n ≤ 1000000000 ∧ i ≤ s.size ∧ PcAt w' g s i b' ∧ KeepBut g w w' ∧ VarF s A b n i b' := by
  rcases h0 : rv s A with _ | ⟨n, i⟩
  · exact (lvar_none s g A b w hp hs hA h0).mono fun e w' ⟨h1, h2, h3⟩ => ⟨0, A, true, h1, by omega, hA, h2, h3, .inr ⟨rfl, rfl, rfl, .inr h0⟩⟩
  · cases b with
    | true => exact (lvar_bad s g A n i w hp hs hA h0).mono fun e w' ⟨h1, h2, h3⟩ => ⟨0, A, true, h1, by omega, hA, h2, h3, .inr ⟨rfl, rfl, rfl, .inl rfl⟩⟩
    | false =>
      obtain ⟨b1, b2⟩ := rv_le hA h0
      exact (lvar_good s g A n i w hp hs hA h0).mono fun e w' ⟨h1, h2, h3⟩ => ⟨n, i, false, h1, b1, b2, h2, h3, .inl ⟨rfl, h0, rfl⟩⟩

/-- what the taking of k bytes comes to. -/
def TakeF (s : ByteArray) (A k : Nat) (b : Bool) (t : ByteArray) (i : Nat) (b' : Bool) : Prop :=
  (b = false ∧ A + k ≤ s.size ∧ t = s.extract A (A + k) ∧ i = A + k ∧ b' = false) ∨ (t = ByteArray.empty ∧ i = A ∧ b' = true ∧ (b = true ∨ s.size < A + k))

set_option maxRecDepth 100000 in
set_option maxHeartbeats 1000000 in
theorem take_bad (s : ByteArray) (g A k : Nat) (w : World) (hp : Hid (PcAt w g s A true)) (hs : s.size ≤ 1048576) (hA : A ≤ s.size) (hk : k ≤ 1000000000) :
    Calls Tryd.prog 72 #[.pointer (some ⟨g, 0, none⟩), .int .i64 k] w fun e w' => e = .returned (.string ByteArray.empty) ∧ PcAt w' g s A true ∧ TurnAt g w w' := by
  obtain ⟨c0, c1, c2, f0, f1, f2⟩ := hp.out.cells
  go_enter Tryd.func72, Tryd.ntmps72
  go_wp2
  go_quiet (fail)
  go_wp2
  go_ret
  exact ⟨rfl, (hp.out.drewN _).set2 true, ((TurnAt.refl g w).drewN _).setCell _ _⟩
set_option maxRecDepth 100000 in
set_option maxHeartbeats 1000000 in
theorem take_far (s : ByteArray) (g A k : Nat) (w : World) (hp : Hid (PcAt w g s A false)) (hs : s.size ≤ 1048576) (hA : A ≤ s.size) (hk : k ≤ 1000000000) (h : s.size < A + k) :
    Calls Tryd.prog 72 #[.pointer (some ⟨g, 0, none⟩), .int .i64 k] w fun e w' => e = .returned (.string ByteArray.empty) ∧ PcAt w' g s A true ∧ TurnAt g w w' := by
  obtain ⟨c0, c1, c2, f0, f1, f2⟩ := hp.out.cells
  have hw : IntKind.i64.wrap ((s.size : Int) - (A : Int)) = (s.size : Int) - (A : Int) := by rw [IntKind.wrap_i64]; omega
  have hd : decide ((s.size : Int) - (A : Int) < (k : Int)) = true := by simp; omega
  go_enter Tryd.func72, Tryd.ntmps72
  go_wp2
  go_quiet (fail)
  go_wp2
  go_ret
  exact ⟨rfl, (hp.out.drewN _).set2 true, ((TurnAt.refl g w).drewN _).setCell _ _⟩
set_option maxRecDepth 100000 in
set_option maxHeartbeats 1000000 in
theorem take_good (s : ByteArray) (g A k : Nat) (w : World) (hp : Hid (PcAt w g s A false)) (hs : s.size ≤ 1048576) (h : A + k ≤ s.size) :
    Calls Tryd.prog 72 #[.pointer (some ⟨g, 0, none⟩), .int .i64 k] w fun e w' => e = .returned (.string (s.extract A (A + k))) ∧ PcAt w' g s (A + k) false ∧ TurnAt g w w' := by
  obtain ⟨c0, c1, c2, f0, f1, f2⟩ := hp.out.cells
  have hw : IntKind.i64.wrap ((s.size : Int) - (A : Int)) = (s.size : Int) - (A : Int) := by rw [IntKind.wrap_i64]; omega
  have hd : decide ((s.size : Int) - (A : Int) < (k : Int)) = false := by simp; omega
  go_enter Tryd.func72, Tryd.ntmps72
  go_wp2
  go_quiet (fail)
  go_wp2
  have P2 : Hid (PcAt ((w.drewN nq).setCell ⟨g, 1, none⟩ (.int .i64 ((A : Int) + (k : Int)))) g s (A + k) false) := (hp.out.drewN nq).set1 (A + k)
  have T2 : Hid (TurnAt g w ((w.drewN nq).setCell ⟨g, 1, none⟩ (.int .i64 ((A : Int) + (k : Int))))) := ((TurnAt.refl g w).drewN nq).setCell _ _
  generalize (w.drewN nq).setCell ⟨g, 1, none⟩ (.int .i64 ((A : Int) + (k : Int))) = W at *
  clear c0 c1 c2 f0 f1 f2 hw hd
  generalize hX : A + k = X at *
  have hw2 : IntKind.i64.wrap ((X : Int) - (k : Int)) = (A : Int) := by rw [IntKind.wrap_i64]; omega
  have i0 : (0 : Int) ≤ (A : Int) := by omega
  have i1 : (A : Int) ≤ (X : Int) := by omega
  have i2 : (X : Int) ≤ (s.size : Int) := by omega
  obtain ⟨c0, c1, c2, f0, f1, f2⟩ := P2.out.cells
  have HX : Hid (A + k = X) := hX
  clear hX
  go_quiet (fail)
  go_wp2
  go_ret
  exact ⟨by rw [HX.out]; rfl, by rw [HX.out]; exact P2.out, T2.out.drewN _⟩

theorem take_any (s : ByteArray) (g A k : Nat) (b : Bool) (w : World) (hp : Hid (PcAt w g s A b)) (hs : s.size ≤ 1048576) (hA : A ≤ s.size) (hk : k ≤ 1000000000) :
    Calls Tryd.prog 72 #[.pointer (some ⟨g, 0, none⟩), .int .i64 k] w fun e w' => ∃ (t : ByteArray) (i : Nat) (b' : Bool), e = .returned (.string t) ∧ i ≤ s.size ∧ PcAt w' g s i b' ∧ TurnAt g w w' ∧ TakeF s A k b t i b' := by
  cases b with
  | true => exact (take_bad s g A k w hp hs hA hk).mono fun e w' ⟨h1, h2, h3⟩ => ⟨_, A, true, h1, hA, h2, h3, .inr ⟨rfl, rfl, rfl, .inl rfl⟩⟩
  | false =>
    by_cases h : A + k ≤ s.size
    · exact (take_good s g A k w hp hs h).mono fun e w' ⟨h1, h2, h3⟩ => ⟨_, A + k, false, h1, h, h2, h3, .inl ⟨rfl, h, rfl, rfl, rfl⟩⟩
    · exact (take_far s g A k w hp hs hA hk (by omega)).mono fun e w' ⟨h1, h2, h3⟩ => ⟨_, A, true, h1, hA, h2, h3, .inr ⟨rfl, rfl, rfl, .inr (by omega)⟩⟩

/-- what the taking of one byte comes to. -/
def OneF (s : ByteArray) (A : Nat) (b : Bool) (n i : Nat) (b' : Bool) : Prop :=
  (b = false ∧ oneP s A = some (n, i) ∧ b' = false) ∨ (n = 0 ∧ i = A ∧ b' = true ∧ (b = true ∨ oneP s A = none))

theorem byte_of {s : ByteArray} {A : Nat} (h : A < s.size) : (s.extract A (A + 1)).size = 1 ∧ ∀ h0 : 0 < (s.extract A (A + 1)).size, ((s.extract A (A + 1))[0]'h0).toNat = (s[A]'h).toNat := by
  refine ⟨by rw [ByteArray.size_extract]; omega, fun h0 => ?_⟩
  congr 1
  rw [ByteArray.getElem_extract]
  congr 1

set_option maxRecDepth 100000 in
set_option maxHeartbeats 1000000 in
theorem one_any (s : ByteArray) (g A : Nat) (b : Bool) (w : World) (hp : Hid (PcAt w g s A b)) (hs : s.size ≤ 1048576) (hA : A ≤ s.size) :
    Calls Tryd.prog 43 #[.pointer (some ⟨g, 0, none⟩)] w fun e w' => ∃ (n i : Nat) (b' : Bool), e = .returned (.int .i64 n) ∧ n < 256 ∧ i ≤ s.size ∧ PcAt w' g s i b' ∧ TurnAt g w w' ∧ OneF s A b n i b' := by
  go_enter Tryd.func43, Tryd.ntmps43
  go_wp2_with fail
  refine (take_any s g A 1 b w hp hs hA (by omega)).mono ?_
  rintro e w1 ⟨t, i, b', rfl, hi, hp1, ht1, hF⟩
  have HP : Hid (PcAt w1 g s i b') := hp1
  have HT : Hid (TurnAt g w w1) := ht1
  have HF : Hid (TakeF s A 1 b t i b') := hF
  obtain ⟨c0, c1, c2, f0, f1, f2⟩ := hp1.cells
  clear hp1 ht1 hF
  cases b' with
  | true =>
    go_wp2_with fail
    go_ret
    refine ⟨0, i, true, rfl, by omega, hi, HP.out, HT.out, ?_⟩
    rcases HF.out with ⟨_, _, _, _, h⟩ | ⟨h1, h2, h3, h4⟩
    · cases h
    · refine .inr ⟨rfl, h2, rfl, ?_⟩
      rcases h4 with h4 | h4
      · exact .inl h4
      · exact .inr (oneP_none (by omega))
  | false =>
    rcases HF.out with ⟨h1, h2, h3, h4, _⟩ | ⟨_, _, h, _⟩
    · have hlt : A < s.size := by omega
      obtain ⟨e1, e2⟩ := byte_of hlt
      rw [← h3] at e1
      have h0 : 0 < t.size := by omega
      have hv : (t[0]'h0).toNat = (s[A]'hlt).toNat := by
        subst h3
        exact e2 h0
      have i0 : (0 : Int) < (t.size : Int) := by omega
      have hb : (t[0]'h0).toNat < 256 := UInt8.toNat_lt _
      have hw2 : wrap64 ((t[0]'h0).toNat : Int) = ((t[0]'h0).toNat : Int) := by unfold wrap64; omega
      have HV : Hid ((t[0]'h0).toNat = (s[A]'hlt).toNat) := hv
      have HE : Hid (b = false ∧ i = A + 1) := ⟨h1, h4⟩
      clear h1 h3 h4 e1 e2 hv HF
      go_wp2_with fail
      go_ret
      refine ⟨(t[0]'h0).toNat, i, false, rfl, hb, hi, HP.out, HT.out, .inl ⟨HE.out.1, ?_, rfl⟩⟩
      rw [oneP_some hlt, HV.out, HE.out.2]
    · cases h
end Go.Proofs.YtlflcjdpdbdbkaaDoor
