/- The walks over both Children. -/
import Derived.Test.YtlfgglmgajcpoaaSp
import Derived.Test.YtlfgglmgajcpoaaTd
namespace Go.Proofs.Ytlfgglmgajcpoaa
open Go.RowKit Pl
set_option linter.unusedVariables false

set_option maxRecDepth 100000 in
set_option maxHeartbeats 2000000 in
theorem children_any (v : Int) (N g cap B : Nat) (T : List Int) (w : World) (hO : Hid (OwnI w B (.slice (some ⟨g, 0, none⟩) N cap) T)) (hN : T.length = N) (hN6 : N ≤ 6) (hv : 0 ≤ v ∧ v ≤ (N : Int) - 1) :
    Calls Try.prog 20 #[.slice (some ⟨g, 0, none⟩) N cap, .int .i64 v] w fun e w' => (∃ u, e = .returned u ∧ OwnI w' w.heap.size u (chl T v)) ∧ Below w.heap.size w w' := by
  have HNL : Hid (T.length = N) := hN
  clear hN
  have O0 : Hid (OwnI (w.alloc (.cells #[] 3)) w.heap.size (.slice (some ⟨w.heap.size, 0, none⟩) 0 0) (chlTo T v 0)) := OwnI.made w _ (Nat.le_refl _)
  have B0 : Hid (Below w.heap.size w (w.alloc (.cells #[] 3))) := (Below.refl _ _).alloc (Nat.le_refl _) _
  have hw1 : IntKind.i64.wrap ((N : Int) - 1) = (N : Int) - 1 := by rw [IntKind.wrap_i64]; omega
  have hd : decide (0 ≤ v ∧ v ≤ (N : Int) - 1) = true := decide_eq_true hv
  go_enter Try.func20, Try.ntmps20
  go_wp2_with (go_at_call 37; refine (within_is _ hd).mono ?_; rintro e w' ⟨rfl, hw⟩; obtain rfl := hw.symm)
  generalize w.alloc (.cells #[] 3) = W0 at *
  go_loopw [5, 18] (fun u i wr => ∃ (k : Nat), k ≤ N ∧ i = .int .i64 k ∧ Hid (OwnI wr w.heap.size u (chlTo T v k)) ∧ Hid (Below w.heap.size w wr)) (fun _ i _ => N - (intOf i).toNat)
  case atStart => exact ⟨0, by omega, rfl, O0, B0⟩
  case round =>
    obtain ⟨k, hk, rfl, hOw, hb⟩ := hrel
    clear O0 B0
    by_cases hlt : k < N
    · have OD : OwnI wr B (.slice (some ⟨g, 0, none⟩) N cap) T := hO.out.stays hb.out (fun k hk => (hO.out.lt k hk).2)
      obtain ⟨z, hz⟩ : ∃ z, T[k]? = some z := ⟨_, List.getElem?_eq_getElem (by have := HNL.out; omega)⟩
      have cz := (own_cell OD HNL.out k z hz).1
      have hgd : T.getD k (-2) = z := by simp [hz]
      have HGD : Hid (T.getD k (-2) = z) := hgd
      have i0 : (0 : Int) ≤ (k : Int) := by omega
      have i1 : (k : Int) < (N : Int) := by omega
      have hbs : w.heap.size ≤ wr.heap.size := hb.out.size
      have hcl : (chlTo T v k).length ≤ k := by
        unfold chlTo
        rw [List.length_map]
        have := List.length_filter_le (fun u => T.getD u (-2) == v) (List.range k)
        simpa using this
      clear OD hz hgd
      by_cases e : z = v
      · have d1 : (z == v) = true := by simp [e]
        have HE : Hid (z = v) := e
        clear e
        go_wp2_with (at_builtin; refine wpList_pushI rfl _ _ 27 rfl Try.underlying27 Try.info3i w.heap.size _ (chlTo T v k) rfl hOw.out (k : Int) rfl (by omega) hbs ?_; intro v6 w6 hown6 hb6)
        go_roundw
        case rel =>
          refine ⟨k + 1, by omega, by go_num, ?_, hb.out.trans hb6⟩
          show OwnI _ _ _ _
          rw [chlTo_yes (by rw [HGD.out]; exact HE.out)]
          exact hown6
        case measure => simp [intOf]; omega
      · have d1 : (z == v) = false := by simp [e]
        have HE : Hid (z ≠ v) := e
        go_wp2_with fail
        go_roundw
        case rel =>
          refine ⟨k + 1, by omega, by go_num, ?_, hb⟩
          show OwnI _ _ _ _
          rw [chlTo_no (by rw [HGD.out]; exact HE.out)]
          exact hOw.out
        case measure => simp [intOf]; omega
    · obtain rfl : k = N := by omega
      go_wp2_with fail
      go_ret
      refine ⟨⟨_, rfl, ?_⟩, hb.out⟩
      unfold chl
      rw [HNL.out]
      exact hOw.out

set_option maxRecDepth 100000 in
set_option maxHeartbeats 2000000 in
theorem spChildren_any (v : Int) (N g cap B : Nat) (T : List Int) (w : World) (hO : Hid (OwnI w B (.slice (some ⟨g, 0, none⟩) N cap) T)) (hN : T.length = N) (hN6 : N ≤ 6) :
    Calls Try.prog 53 #[.slice (some ⟨g, 0, none⟩) N cap, .int .i64 v] w fun e w' => (∃ u, e = .returned u ∧ OwnI w' w.heap.size u (chl T v)) ∧ Below w.heap.size w w' := by
  have HNL : Hid (T.length = N) := hN
  clear hN
  have O0 : Hid (OwnI (w.alloc (.cells #[] 3)) w.heap.size (.slice (some ⟨w.heap.size, 0, none⟩) 0 0) (chlTo T v 0)) := OwnI.made w _ (Nat.le_refl _)
  have B0 : Hid (Below w.heap.size w (w.alloc (.cells #[] 3))) := (Below.refl _ _).alloc (Nat.le_refl _) _
  go_enter Try.func53, Try.ntmps53
  go_wp2_with fail
  generalize w.alloc (.cells #[] 3) = W0 at *
  go_loopw [5, 6] (fun u i wr => ∃ (k : Nat), k ≤ N ∧ i = .int .i64 k ∧ Hid (OwnI wr w.heap.size u (chlTo T v k)) ∧ Hid (Below w.heap.size w wr)) (fun _ i _ => N - (intOf i).toNat)
  case atStart => exact ⟨0, by omega, rfl, O0, B0⟩
  case round =>
    obtain ⟨k, hk, rfl, hOw, hb⟩ := hrel
    clear O0 B0
    by_cases hlt : k < N
    · have OD : OwnI wr B (.slice (some ⟨g, 0, none⟩) N cap) T := hO.out.stays hb.out (fun k hk => (hO.out.lt k hk).2)
      obtain ⟨z, hz⟩ : ∃ z, T[k]? = some z := ⟨_, List.getElem?_eq_getElem (by have := HNL.out; omega)⟩
      have cz := (own_cell OD HNL.out k z hz).1
      have hgd : T.getD k (-2) = z := by simp [hz]
      have HGD : Hid (T.getD k (-2) = z) := hgd
      have i0 : (0 : Int) ≤ (k : Int) := by omega
      have i1 : (k : Int) < (N : Int) := by omega
      have hbs : w.heap.size ≤ wr.heap.size := hb.out.size
      have hcl : (chlTo T v k).length ≤ k := by
        unfold chlTo
        rw [List.length_map]
        have := List.length_filter_le (fun u => T.getD u (-2) == v) (List.range k)
        simpa using this
      clear OD hz hgd
      by_cases e : z = v
      · have d1 : (z == v) = true := by simp [e]
        have HE : Hid (z = v) := e
        clear e
        go_wp2_with (at_builtin; refine wpList_pushI rfl _ _ 27 rfl Try.underlying27 Try.info3i w.heap.size _ (chlTo T v k) rfl hOw.out (k : Int) rfl (by omega) hbs ?_; intro v6 w6 hown6 hb6)
        go_roundw
        case rel =>
          refine ⟨k + 1, by omega, by go_num, ?_, hb.out.trans hb6⟩
          show OwnI _ _ _ _
          rw [chlTo_yes (by rw [HGD.out]; exact HE.out)]
          exact hown6
        case measure => simp [intOf]; omega
      · have d1 : (z == v) = false := by simp [e]
        have HE : Hid (z ≠ v) := e
        go_wp2_with fail
        go_roundw
        case rel =>
          refine ⟨k + 1, by omega, by go_num, ?_, hb⟩
          show OwnI _ _ _ _
          rw [chlTo_no (by rw [HGD.out]; exact HE.out)]
          exact hOw.out
        case measure => simp [intOf]; omega
    · obtain rfl : k = N := by omega
      go_wp2_with fail
      go_ret
      refine ⟨⟨_, rfl, ?_⟩, hb.out⟩
      unfold chl
      rw [HNL.out]
      exact hOw.out
end Go.Proofs.Ytlfgglmgajcpoaa
