/- The walks over lists of ints that are written over and looked at again, in a token. -/
import Derived.Test.YtpegbkpgjjjllaaDoorY5
namespace Go.Proofs.YtpegbkpgjjjllaaDoor
open Go.RowKit Pl
set_option linter.unusedVariables false

theorem ret_int' {k : IntKind} {a b : Int} (h : a = b) : Ending.returned (.int k a) = .returned (.int k b) := by rw [h]
theorem grown_trans {a b c : World} {row : Option Nat} (h1 : a.grownBy b row) (h2 : b.grownBy c row) : a.grownBy c row :=
  ⟨h2.os.trans h1.os, h2.tape.trans h1.tape, h2.output.trans h1.output, Nat.le_trans h1.size h2.size, fun k hk hne => (h2.block k (Nat.lt_of_lt_of_le hk h1.size) hne).trans (h1.block k hk hne)⟩

/-- the marks from 1 on. -/
def mkL (n : Nat) : List Int := (List.range n).map fun j : Nat => 1 + (j : Int)
theorem mkL_length (n : Nat) : (mkL n).length = n := by simp [mkL]
theorem mkL_get (n j : Nat) (h : j < (mkL n).length) : (mkL n)[j] = 1 + (j : Int) := by simp [mkL]
theorem mkL_succ (n : Nat) : mkL (n + 1) = mkL n ++ [1 + (n : Int)] := by simp [mkL, List.range_succ]
theorem mkL_set {xs : List Int} {j : Nat} (hj : j < xs.length) (h : xs.take j = mkL j) : (xs.set j (1 + (j : Int))).take (j + 1) = mkL (j + 1) := by
  rw [List.take_succ_eq_append_getElem (by rw [List.length_set]; exact hj), List.take_set_of_le (Nat.le_refl _), h, mkL_succ]
  simp

set_option maxRecDepth 100000 in
set_option maxHeartbeats 1000000 in
theorem markI_any (v : Value) (ss : List Int) (B : Nat) (w : World) (h1 : OwnI w B v ss) (hl : ss.length ≤ 1048576) :
    Calls Tryd.prog 46 #[v, .int .i64 1] w fun e w' => e = .returned (.int .i64 (1 + ss.length)) ∧ w.grownBy w' v.ownBlock ∧ OwnI w' B v (mkL ss.length) := by
  by_cases h0 : ss.length = 0
  · have hnil : ss = [] := List.eq_nil_of_length_eq_zero h0
    subst hnil
    have HO : Hid (OwnI w B v []) := h1
    obtain ⟨ao1, cap1, rfl⟩ := h1.form
    clear h1
    go_enter Tryd.func46, Tryd.ntmps46
    go_wp2
    refine wp_loop_rounds 1 ?_
    rw [rounds_succ]
    go_wp2
    go_ret
    exact ⟨rfl, World.grownBy.refl _ _, HO.out⟩
  · obtain ⟨g, cap, rfl, hB, hg, hc, hf⟩ := h1.some (by omega)
    clear hc hf
    have HOWN : Hid (OwnI w B (.slice (some ⟨g, 0, none⟩) ss.length cap) ss) := h1
    clear h1
    go_enter Tryd.func46, Tryd.ntmps46
    go_wp2
    go_loopw [1, 5] (fun kk i wr => ∃ (j : Nat) (xs : List Int), j ≤ ss.length ∧ i = .int .i64 j ∧ kk = .int .i64 ((1 + j : Nat) : Int) ∧ Hid (xs.length = ss.length ∧ xs.take j = mkL j) ∧ OwnI wr B (.slice (some ⟨g, 0, none⟩) ss.length cap) xs ∧ Hid (w.grownBy wr (some g))) (fun _ i _ => ss.length - (intOf i).toNat)
    case atStart => exact ⟨0, ss, by omega, rfl, rfl, ⟨rfl, rfl⟩, HOWN.out, World.grownBy.refl _ _⟩
    case round =>
      obtain ⟨j, xs, hj, rfl, rfl, hxl, hown, hgr⟩ := hrel
      by_cases hlt : j < ss.length
      · have hxl' := hxl.out.1
        have hown' : OwnI wr B (.slice (some ⟨g, 0, none⟩) xs.length cap) xs := by rw [hxl']; exact hown
        have hjx : j < xs.length := by omega
        obtain ⟨x, hce⟩ : ∃ x, wr.cell? ⟨g, j, none⟩ = some (.int .i64 x) := ⟨xs[j], by
          have := World.ownsRow.cellAt hown' j (by omega)
          rw [this]
          simp [hjx]⟩
        have hfz : wr.frozen? ⟨g, j, none⟩ = false := World.ownsRow.frozenAt hown' j
        have HO : Hid _ := hown'.store j (1 + j)
        clear hxl' hown'
        go_wp2
        go_roundw
        case rel =>
          have hs1 := HO.out.1
          rw [hxl.out.1] at hs1
          exact ⟨j + 1, xs.set j (1 + j), by omega, by go_num, by go_num, (show (xs.set j _).length = ss.length ∧ _ from ⟨by rw [List.length_set]; exact hxl.out.1, mkL_set (by rw [hxl.out.1]; exact hlt) hxl.out.2⟩), hs1, grown_trans hgr.out HO.out.2⟩
        case measure => simp [intOf]; omega
      · obtain rfl : j = ss.length := by omega
        go_wp2
        go_ret
        refine ⟨ret_int' (by omega), hgr.out, ?_⟩
        have e : xs = mkL ss.length := by
          have := hxl.out.2
          rwa [List.take_of_length_le (by rw [hxl.out.1]; exact Nat.le_refl _)] at this
        rw [← e]
        exact hown

set_option maxRecDepth 100000 in
set_option maxHeartbeats 1000000 in
theorem heldI_any (v : Value) (n : Nat) (B : Nat) (w : World) (h1 : OwnI w B v (mkL n)) (hl : n ≤ 1048576) :
    Calls Tryd.prog 47 #[v, .int .i64 1] w fun e w' => e = .returned (.int .i64 (1 + n)) ∧ w' = w := by
  have hln := mkL_length n
  by_cases h0 : n = 0
  · subst h0
    obtain ⟨ao1, cap1, rfl⟩ := h1.form
    clear h1
    rw [hln]
    clear hln
    go_enter Tryd.func47, Tryd.ntmps47
    go_wp2
    refine wp_loop_rounds 1 ?_
    rw [rounds_succ]
    go_wp2
    go_ret
    exact ⟨rfl, rfl⟩
  · obtain ⟨g, cap, rfl, hB, hg, hc, hf⟩ := h1.some (by omega)
    have HC : Hid (∀ j, j < n → w.cell? ⟨g, j, none⟩ = some (.int .i64 (1 + (j : Int)))) := by
      intro j hj
      rw [hc j (by omega), mkL_get]
    rw [hln]
    clear hc hf h1 hln
    go_enter Tryd.func47, Tryd.ntmps47
    go_wp2
    go_loop [1, 5] (fun kk i => ∃ j : Nat, j ≤ n ∧ i = .int .i64 j ∧ kk = .int .i64 ((1 + j : Nat) : Int)) (fun _ i => n - (intOf i).toNat)
    case atStart => exact ⟨0, Nat.zero_le _, rfl, rfl⟩
    case round =>
      obtain ⟨j, hj, rfl, rfl⟩ := hrel
      by_cases hlt : j < n
      · have hce : w.cell? ⟨g, j, none⟩ = some (.int .i64 ((1 + j : Nat) : Int)) := by rw [HC.out j hlt]; congr 2
        go_wp2
        go_round
        case rel => exact ⟨j + 1, by omega, by go_num, by go_num⟩
        case measure => simp [intOf]; omega
      · obtain rfl : j = n := by omega
        go_wp2
        go_ret
        exact ⟨ret_int' (by omega), rfl⟩

set_option maxRecDepth 100000 in
set_option maxHeartbeats 1000000 in
theorem markTok_any (c r q a b : Int) (v : Value) (ss : List Int) (B : Nat) (w : World) (h1 : Hid (OwnI w B v ss)) (hl : ss.length ≤ 1048576) :
    Calls Tryd.prog 19 #[.agg #[.int .i64 c, .int .i64 r, .int .i64 q, .int .i64 a, .int .i64 b, v], .int .i64 1] w fun e w' => e = .returned (.int .i64 (1 + ss.length)) ∧ OwnI w' B v (mkL ss.length) ∧ ∃ W, Below w.heap.size w W ∧ W.grownBy w' v.ownBlock := by
  obtain ⟨ao, cap, hvf⟩ := h1.out.form
  subst hvf
  go_enter Tryd.func19, Tryd.ntmps19
  go_wp2_with fail
  refine (markI_any _ ss B _ (h1.out.alloc _) hl).mono ?_
  rintro e w1 ⟨rfl, hg1, ho1⟩
  go_wp2_with fail
  go_ret
  exact ⟨rfl, ho1, _, (Below.refl _ _).alloc (Nat.le_refl _) _, hg1⟩

set_option maxRecDepth 100000 in
set_option maxHeartbeats 1000000 in
theorem heldTok_any (c r q a b : Int) (v : Value) (n : Nat) (B : Nat) (w : World) (h1 : Hid (OwnI w B v (mkL n))) (hl : n ≤ 1048576) :
    Calls Tryd.prog 20 #[.agg #[.int .i64 c, .int .i64 r, .int .i64 q, .int .i64 a, .int .i64 b, v], .int .i64 1] w fun e w' => e = .returned (.int .i64 (1 + n)) ∧ Below w.heap.size w w' := by
  obtain ⟨ao, cap, hvf⟩ := h1.out.form
  rw [mkL_length] at hvf
  subst hvf
  have hd : decide (1 + (n : Int) < 0) = false := by simp; omega
  go_enter Tryd.func20, Tryd.ntmps20
  go_wp2_with fail
  refine (heldI_any _ n B _ (h1.out.alloc _) hl).mono ?_
  rintro e w1 ⟨rfl, rfl⟩
  go_wp2_with fail
  go_ret
  exact ⟨rfl, (Below.refl _ _).alloc (Nat.le_refl _) _⟩
end Go.Proofs.YtpegbkpgjjjllaaDoor
