/- Drawn places; does a list rise: the walks. -/
import Derived.Test.YtjijpcfdkmbgpaaDj
import Derived.Test.YtjijpcfdkmbgpaaA5
import Derived.Test.YtjijpcfdkmbgpaaC4
namespace Go.Proofs.Ytjijpcfdkmbgpaa
open Go.RowKit Pl
set_option linter.unusedVariables false

/-- numbers of 0 .. 9999. -/
def Small (xs : List Int) : Prop := ∀ x ∈ xs, 0 ≤ x ∧ x < 10000

set_option maxRecDepth 100000 in
set_option maxHeartbeats 1000000 in
theorem drawPlaces (w : World) (n cap : Nat) (ao : Option Addr) (hn : n ≤ 1048576) (hk : Hid (CodeAt w w.heap.size ao n)) :
    Calls Try.prog 24 #[.slice ao n cap] w fun e w' => (∃ (v : Value) (xs : List Int), e = .returned v ∧ xs.length = 12 ∧ Hid (Small xs) ∧ Hid (OwnI w' (w.heap.size + 1) v xs)) ∧ Below w.heap.size w w' := by
  go_enter Try.func24, Try.ntmps24
  go_wp2_with (first | (go_at_call 50; refine (new_any _ n cap ao hn hk).mono ?_; rintro e w1 ⟨rfl, hc1, hb1, hs1⟩; have hlt1 : w.heap.size + 1 ≤ w1.heap.size := (by omega); have hd1 := Drw.start hc1.out (hk.out.stays hb1 (Nat.le_refl _)); clear hs1) | (go_at_call 62; refine (byte_any w1 _ w.heap.size w.heap.size n cap ao hn (Nat.le_refl _) hd1).mono ?_; rintro e w2 ⟨⟨x, hx, rfl⟩, hd2⟩; have hlt2 : w.heap.size + 1 ≤ w2.heap.size := Nat.le_trans hlt1 hd2.out.2.2.size))
  go_loopw [4, 5] (fun v i wr => ∃ (k : Nat) (xs : List Int), i = .int .i64 k ∧ k ≤ 12 ∧ xs.length = k ∧ Hid (Small xs) ∧ Hid (OwnI wr (w.heap.size + 1) v xs) ∧ Hid (CurAt wr 82 w.heap.size ao n cap) ∧ Hid (CodeAt wr w.heap.size ao n) ∧ Hid (Below w.heap.size w wr) ∧ w.heap.size + 1 ≤ wr.heap.size) (fun _ i _ => 12 - (intOf i).toNat)
  case atStart =>
    have hb3 : Below w2.heap.size w2 (w2.alloc (.cells #[] 3)) := (Below.refl _ _).alloc (Nat.le_refl _) _
    have hb2 : Below w.heap.size w w2 := hb1.trans (hd2.out.2.2.below (Nat.le_refl _) hb1.size)
    refine ⟨0, [], rfl, by omega, rfl, (show Small _ from fun x hx => by cases hx), OwnI.made w2 _ hlt2, CurAt.stays hd2.out.1 hb3 (by omega), hd2.out.2.1.stays hb3 (by omega), hb2.trans (hb3.mono (by omega)), ?_⟩
    have := hb3.size
    omega
  case round =>
    obtain ⟨k, xs, rfl, hkN, hxl, hsm, hown, hcr, hkr, hbr, hsz⟩ := hrel
    by_cases h1 : k < 12
    · have hd := Drw.start hcr.out hkr.out
      go_wp2_with (first | (go_at_call 63; refine (below_big wr _ w.heap.size w.heap.size n cap 10000 ao hn (Nat.le_refl _) (by omega) (by omega) (by assumption)).mono ?_; rintro e w3 ⟨⟨y, hy, rfl⟩, hd3⟩; have hs3 : w.heap.size + 1 ≤ w3.heap.size := Nat.le_trans hsz hd3.out.2.2.size; have hown3 := OwnI_keep hown.out hd3.out.2.2 (Nat.lt_succ_self _)) | (at_builtin; refine wpList_pushI rfl _ _ 39 rfl Try.underlying39 Try.info3 (w.heap.size + 1) _ xs rfl hown3 _ rfl (by omega) (by omega) ?_; intro v4 w4 hown4 hb4))
      go_roundw
      case rel =>
        have hb3 : Below w.heap.size wr w3 := hd3.out.2.2.below (Nat.le_refl _) (by omega)
        have hs4 := hb4.size
        refine ⟨k + 1, _, by go_num, by omega, by simp [hxl], ?_, hown4, CurAt.stays hd3.out.1 hb4 (Nat.lt_succ_self _), hd3.out.2.1.stays hb4 (by omega), (show Below w.heap.size w w4 from (hbr.out.trans hb3).trans (hb4.mono (by omega))), by omega⟩
        show Small _
        intro x hx
        rcases List.mem_append.1 hx with hx | hx
        · exact hsm.out x hx
        · obtain rfl := List.mem_singleton.1 hx
          omega
      case measure => simp [intOf]; omega
    · have hkk : k = 12 := by omega
      go_wp2
      go_ret
      exact ⟨⟨_, xs, rfl, by omega, hsm, hown⟩, hbr.out⟩

set_option maxRecDepth 100000 in
set_option maxHeartbeats 1000000 in
theorem rises_any (v : Value) (xs : List Int) (B : Nat) (w : World) (h : Hid (OwnI w B v xs)) (hl : xs.length ≤ 1000) (hr : Hid (xs.Pairwise (· < ·))) :
    Calls Try.prog 26 #[v] w fun e w' => e = .returned (.bool true) ∧ ∃ m, w' = w.drewN m := by
  obtain ⟨ao, cap, rfl⟩ := h.out.form
  go_enter Try.func26, Try.ntmps26
  go_wp2_with fail
  go_loopw [3] (fun i wr => ∃ k : Nat, 1 ≤ k ∧ k ≤ xs.length + 1 ∧ i = .int .i64 k ∧ Hid (∃ m, wr = w.drewN m)) (fun i _ => xs.length + 1 - (intOf i).toNat)
  case atStart => exact ⟨1, by omega, by omega, rfl, ⟨0, rfl⟩⟩
  case round =>
    obtain ⟨k, hk1, hk, rfl, hwr⟩ := hrel
    by_cases hlt : k < xs.length
    · obtain ⟨g, gc, hv, _, _, hc, _⟩ := h.out.some (by omega)
      simp at hv
      obtain ⟨rfl, rfl⟩ := hv
      have q0 : wr.cell? ⟨g, k - 1, none⟩ = some (.int .i64 (xs[k - 1]'(by omega))) := by obtain ⟨m, rfl⟩ := hwr.out; exact hc (k - 1) (by omega)
      have q1 : wr.cell? ⟨g, k, none⟩ = some (.int .i64 xs[k]) := by obtain ⟨m, rfl⟩ := hwr.out; exact hc k hlt
      have hpw := List.pairwise_iff_getElem.1 hr.out (k - 1) k (by omega) hlt (by omega)
      generalize xs[k - 1]'(by omega) = y at q0 hpw
      generalize xs[k] = z at q1 hpw
      obtain ⟨j, hj⟩ : ∃ j, k = j + 1 := ⟨k - 1, by omega⟩
      subst hj
      rw [Nat.add_sub_cancel] at q0
      have i0 : (0 : Int) ≤ (j : Int) := by omega
      have i1 : (j : Int) < (xs.length : Int) := by omega
      have i2 : ((j + 1 : Nat) : Int) < (xs.length : Int) := by omega
      have i3 : ¬ z ≤ y := by omega
      clear hc
      go_wp2_with fail
      go_quiet (fail)
      go_wp2_with fail
      go_roundw
      case rel => exact ⟨j + 1 + 1, by omega, by omega, by go_num, (by obtain ⟨m, rfl⟩ := hwr.out; exact ⟨m + nq, World.drewN_drewN ..⟩)⟩
      case measure => simp [intOf]; omega
    · have i2 : ¬ (k : Int) < (xs.length : Int) := by omega
      go_wp2_with fail
      go_ret
      exact ⟨rfl, hwr.out⟩
end Go.Proofs.Ytjijpcfdkmbgpaa
