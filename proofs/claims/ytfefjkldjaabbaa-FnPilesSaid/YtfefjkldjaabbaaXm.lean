/- Lists of texts that are marked, and looked at again. -/
import Derived.Test.YtfefjkldjaabbaaTx
namespace Go.Proofs.Ytfefjkldjaabbaa
open Go.RowKit Pl
set_option linter.unusedVariables false

/-- the texts that marks are. -/
def mkT (K n : Nat) : List ByteArray := (List.range n).map fun j => markS (K + j)
theorem mkT_length (K n : Nat) : (mkT K n).length = n := by simp [mkT]
theorem mkT_eq {xs : List ByteArray} {K n : Nat} (hl : xs.length = n) (h : ∀ t, t < n → xs[t]? = some (markS (K + t))) : xs = mkT K n := by
  apply List.ext_getElem (by rw [hl, mkT_length])
  intro i h1 h2
  have := h i (by omega)
  rw [List.getElem?_eq_getElem h1] at this
  simp at this
  simp [mkT, this]

set_option maxRecDepth 100000 in
set_option maxHeartbeats 1000000 in
theorem markSo_any (v : Value) (ss : List ByteArray) (B K : Nat) (w : World) (h1 : OwnS w B v ss) (hl : K + ss.length ≤ 4999990) (hK : 0 < K) :
    Calls Try.prog 20 #[v, .int .i64 K] w fun e w' => e = .returned (.int .i64 ((K + ss.length : Nat) : Int)) ∧ OwnS w' B v (mkT K ss.length) ∧ w.grownBy w' v.ownBlock := by
  by_cases h0 : ss.length = 0
  · have HN : Hid (OwnS w B v (mkT K ss.length)) := by
      have e : ss = [] := List.eq_nil_of_length_eq_zero h0
      subst e
      exact h1
    obtain ⟨ao1, cap1, rfl⟩ := h1.form
    clear h1
    rw [h0] at HN ⊢
    go_enter Try.func20, Try.ntmps20
    go_wp2
    refine wp_loop_rounds 1 ?_
    rw [rounds_succ]
    go_wp2
    go_ret
    exact ⟨rfl, HN.out, World.grownBy.refl _ _⟩
  · obtain ⟨g, cap, rfl, hB, hg, hc, hf⟩ := h1.some (by omega)
    clear hc hf
    have HOWN : Hid (OwnS w B (.slice (some ⟨g, 0, none⟩) ss.length cap) ss) := h1
    clear h1
    go_enter Try.func20, Try.ntmps20
    go_wp2
    go_loopw [1, 5] (fun kk i wr => ∃ (j : Nat) (xs : List ByteArray), j ≤ ss.length ∧ i = .int .i64 j ∧ kk = .int .i64 ((K + j : Nat) : Int) ∧ Hid (xs.length = ss.length) ∧ Hid (∀ t, t < j → xs[t]? = some (markS (K + t))) ∧ OwnS wr B (.slice (some ⟨g, 0, none⟩) ss.length cap) xs ∧ g < wr.heap.size ∧ Hid (w.grownBy wr (some g))) (fun _ i _ => ss.length - (intOf i).toNat)
    case atStart => exact ⟨0, ss, by omega, rfl, rfl, rfl, (fun t ht => absurd ht (by omega)), HOWN.out, hg, World.grownBy.refl _ _⟩
    case round =>
      obtain ⟨j, xs, hj, rfl, rfl, hxl, hmk, hown, hgs, hgr⟩ := hrel
      by_cases hlt : j < ss.length
      · have hxl' := hxl.out
        have hown' : OwnS wr B (.slice (some ⟨g, 0, none⟩) xs.length cap) xs := by rw [hxl']; exact hown
        have hjx : j < xs.length := by omega
        obtain ⟨x, hce⟩ : ∃ x, wr.cell? ⟨g, j, none⟩ = some (.string x) := ⟨xs[j], by
          have := World.ownsRow.cellAt hown' j (by omega)
          rw [this]
          simp [hjx]⟩
        have hfz : wr.frozen? ⟨g, j, none⟩ = false := World.ownsRow.frozenAt hown' j
        clear hxl' hown'
        go_wp2_with (first | (go_at_call 47; refine (mark_at _ _ (by omega) (by omega)).mono ?_; rintro e w3 ⟨rfl, hb3⟩; have hce3 : w3.cell? ⟨g, j, none⟩ = some (.string x) := (hb3.cell (p := ⟨g, j, none⟩) hgs).trans hce; have hfz3 : w3.frozen? ⟨g, j, none⟩ = false := (hb3.frozen (p := ⟨g, j, none⟩) hgs).trans hfz))
        go_roundw
        case rel =>
          have hxl' := hxl.out
          have hown3 : OwnS w3 B (.slice (some ⟨g, 0, none⟩) xs.length cap) xs := by
            rw [hxl']
            exact hown.stays hb3 (fun t ht => by cases ht; exact hgs)
          have hst := hown3.store j (markS (K + j))
          have hs1 := hst.1
          rw [hxl'] at hs1
          refine ⟨j + 1, xs.set j (markS (K + j)), by omega, by go_num, by go_num, ?_, ?_, hs1, ?_, ?_⟩
          · show (xs.set j (markS (K + j))).length = ss.length
            rw [List.length_set]; exact hxl'
          · refine (fun t ht => ?_ : ∀ t, t < j + 1 → (xs.set j (markS (K + j)))[t]? = some (markS (K + t)))
            by_cases e : t = j
            · subst e; rw [List.getElem?_set_self hjx]
            · rw [List.getElem?_set_ne (fun h => e h.symm)]; exact hmk.out t (by omega)
          · have h2 := hb3.size
            have h3 := hst.2.size
            omega
          · exact grown_transC hgr.out (grown_transC (grown_blM hb3) hst.2)
        case measure => simp [intOf]; omega
      · obtain rfl : j = ss.length := by omega
        go_wp2
        go_ret
        exact ⟨ret_int' (by omega), (by have e := mkT_eq hxl.out hmk.out; rw [← e]; have := hxl.out; unfold OwnS at hown ⊢; rw [this] at hown ⊢; exact hown), hgr.out⟩

set_option maxRecDepth 100000 in
set_option maxHeartbeats 1000000 in
theorem heldSt_any (ao : Option Addr) (cap : Nat) (xs : List ByteArray) (K : Nat) (w : World) (h1 : Hid (TextsAt w ao xs)) (hl : K + xs.length ≤ 4999990) (hK : 0 < K) (hmk : Hid (∀ t (h : t < xs.length), xs[t] = markS (K + t))) :
    Calls Try.prog 21 #[.slice ao xs.length cap, .int .i64 K] w fun e w' => e = .returned (.int .i64 ((K + xs.length : Nat) : Int)) ∧ Below w.heap.size w w' := by
  go_enter Try.func21, Try.ntmps21
  go_wp2
  go_loopw [1, 5] (fun kk i wr => ∃ j : Nat, j ≤ xs.length ∧ i = .int .i64 j ∧ kk = .int .i64 ((K + j : Nat) : Int) ∧ Below w.heap.size w wr) (fun _ i _ => xs.length - (intOf i).toNat)
  case atStart => exact ⟨0, by omega, rfl, rfl, Below.refl _ _⟩
  case round =>
    obtain ⟨j, hj, rfl, rfl, hb⟩ := hrel
    have hsz := hb.size
    by_cases hlt : j < xs.length
    · obtain ⟨g, off, rfl, hgw, hc⟩ := h1.out.stays hb j hlt
      have hce : wr.cell? ⟨g, off + j, none⟩ = some (.string (markS (K + j))) := by
        rw [hc, hmk.out j hlt]
      clear hc
      have hq1 : (0 : Int) ≤ (j : Int) := by omega
      have hq2 : (j : Int) < (xs.length : Int) := by omega
      have hce2 : wr.cell? ⟨g, off + (j : Int).toNat, none⟩ = some (.string (markS (K + j))) := by simpa using hce
      have htn : ((K : Int) + (j : Int)).toNat = K + j := by omega
      go_wp2
      go_region_held3 (fun w' => w'.cell? ⟨g, off + (j : Int).toNat, none⟩ = some (.string (markS (K + j))) ∧ w'.cell? ⟨g, off + j, none⟩ = some (.string (markS (K + j)))) (first | exact ⟨hce2, hce⟩ | exact ⟨hk4, hk3⟩) (first | (go_at_call 47; refine (mark_at _ _ (by omega) (by omega)).mono ?_; rintro e w3 ⟨rfl, hb3⟩; have hk3 : w3.cell? ⟨g, off + j, none⟩ = some (.string (markS (K + j))) := (hb3.cell (p := ⟨g, off + j, none⟩) hgw).trans hce; have hk4 : w3.cell? ⟨g, off + (j : Int).toNat, none⟩ = some (.string (markS (K + j))) := (hb3.cell (p := ⟨g, off + (j : Int).toNat, none⟩) hgw).trans hce2))
      go_wp2
      go_roundw
      case rel => exact ⟨j + 1, by omega, by go_num, by go_num, hb.drew.trans (hb3.mono hsz)⟩
      case measure => simp [intOf]; omega
    · obtain rfl : j = xs.length := by omega
      go_wp2
      go_ret
      exact ⟨ret_int' (by omega), hb⟩

theorem heldSo_any (v : Value) (n B K : Nat) (w : World) (h1 : OwnS w B v (mkT K n)) (hl : K + n ≤ 4999990) (hK : 0 < K) :
    Calls Try.prog 21 #[v, .int .i64 K] w fun e w' => e = .returned (.int .i64 ((K + n : Nat) : Int)) ∧ Below w.heap.size w w' := by
  obtain ⟨ao, cap, rfl, hx⟩ := h1.texts
  have := heldSt_any ao cap (mkT K n) K w hx (by rw [mkT_length]; exact hl) hK (fun t h => by simp [mkT])
  rw [mkT_length] at this ⊢
  exact this
end Go.Proofs.Ytfefjkldjaabbaa
