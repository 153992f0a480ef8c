/- The walks over the program's reading of figures and its Unhex. -/
import Derived.Test.YtbnbobkhfafbkaaDoorV1
import Derived.Deep.RegionHeld3
namespace Go.Proofs.YtbnbobkhfafbkaaDoor
open Go.RowKit Pl
set_option linter.unusedVariables false

set_option maxRecDepth 100000 in
set_option maxHeartbeats 1000000 in
theorem fv_any (s : ByteArray) (b : Bool) (w : World) (hs : s.size ≤ 40000) :
    Calls Tryd.prog 17 #[.string s, .bool b] w fun e w' => ∃ v r, e = .returned (.tuple #[v, .bool r]) ∧ Below w.heap.size w w' ∧
      ((AllFig b s s.size ∧ r = true ∧ OwnB w' w.heap.size 5 v (vals s s.size)) ∨ (¬ AllFig b s s.size ∧ r = false)) := by
  go_enter Tryd.func17, Tryd.ntmps17
  go_wp2
  go_step3
  go_wp2_with (first | (at_make; refine wpList_makeB rfl _ _ 22 5 rfl Tryd.underlying22 Tryd.info5 w.heap.size _ _ _ s.size rfl rfl (by omega) (by omega) (Nat.le_refl _) ?_; intro v0 w0 hown0 hb0))
  go_step3
  go_wp2
  go_loopw [6, 7] (fun v i wr => ∃ k : Nat, k ≤ s.size ∧ i = .int .i64 k ∧ Hid (AllFig b s k) ∧ OwnB wr w.heap.size 5 v (vals s k) ∧ Below w.heap.size w wr) (fun _ i _ => s.size - (intOf i).toNat)
  case atStart => exact ⟨0, by omega, rfl, allFig_zero b s, by simpa [vals] using hown0, hb0⟩
  case round =>
    obtain ⟨k, hk, rfl, hall, hown, hb⟩ := hrel
    have hsz := hb.size
    have hvl := vals_length s k hk
    by_cases hlt : k < s.size
    · have hc : (s[k]'hlt).toNat < 256 := UInt8.toNat_lt _
      have HST : Hid (vals s (k + 1) = vals s k ++ [figVal (s[k]'hlt).toNat]) := vals_step s k hlt
      by_cases hd : 48 ≤ (s[k]'hlt).toNat ∧ (s[k]'hlt).toNat ≤ 57
      · obtain ⟨hd1, hd2⟩ := hd
        go_wp2_with (first | (at_builtin; refine wpList_push rfl _ _ 22 5 rfl Tryd.underlying22 Tryd.info5 w.heap.size _ (vals s k) rfl hown _ rfl (by omega) (by omega) ?_; intro v1 w1 hown1 hb1))
        go_roundw
        case rel =>
          have hf := fig_digit (lt := b) hd1 hd2
          exact ⟨k + 1, by omega, by go_num, allFig_step hall.out hlt hf.1, by rw [HST.out, hf.2]; exact hown1, hb.trans hb1⟩
        case measure => simp [intOf]; omega
      · have hd' : (s[k]'hlt).toNat < 48 ∨ 57 < (s[k]'hlt).toNat := by omega
        clear hd
        cases b with
        | true =>
          by_cases hf : 97 ≤ (s[k]'hlt).toNat ∧ (s[k]'hlt).toNat ≤ 102
          · obtain ⟨hf1, hf2⟩ := hf
            clear hd'
            go_wp2_with (first | (at_builtin; refine wpList_push rfl _ _ 22 5 rfl Tryd.underlying22 Tryd.info5 w.heap.size _ (vals s k) rfl hown _ rfl (by omega) (by omega) ?_; intro v1 w1 hown1 hb1))
            go_roundw
            case rel =>
              have hf := fig_letter hf1 hf2
              exact ⟨k + 1, by omega, by go_num, allFig_step hall.out hlt hf.1, by rw [HST.out, hf.2, show ((s[k]'hlt).toNat : Int) - 87 = ((s[k]'hlt).toNat : Int) - 97 + 10 from by omega]; exact hown1, hb.trans hb1⟩
            case measure => simp [intOf]; omega
          · have hno : Hid (¬ AllFig true s s.size) := fun h => by
              have := h k hlt hlt
              simp [figOk] at this
              omega
            obtain ⟨ao, cap, rfl⟩ := hown.form
            have hk0 : ((k : Int) == (s.size : Int)) = false := by simp; omega
            go_wp2
            all_goals
              try rw [Exit.noGoto_ret]
              go_ret2
              exact ⟨_, false, rfl, hb, .inr ⟨hno.out, rfl⟩⟩
        | false =>
          have hno : Hid (¬ AllFig false s s.size) := fun h => by
            have := h k hlt hlt
            simp [figOk] at this
            omega
          obtain ⟨ao, cap, rfl⟩ := hown.form
          have hk0 : ((k : Int) == (s.size : Int)) = false := by simp; omega
          go_wp2
          all_goals
            try rw [Exit.noGoto_ret]
            go_ret2
            exact ⟨_, false, rfl, hb, .inr ⟨hno.out, rfl⟩⟩
    · obtain rfl : k = s.size := by omega
      obtain ⟨ao, cap, rfl⟩ := hown.form
      go_wp2
      all_goals
        try rw [Exit.noGoto_ret]
        go_ret2
        exact ⟨_, true, rfl, hb, .inl ⟨hall.out, rfl, hown⟩⟩

theorem fv_yes (s : ByteArray) (b : Bool) (w : World) (hs : s.size ≤ 40000) (h : AllFig b s s.size) :
    Calls Tryd.prog 17 #[.string s, .bool b] w fun e w' => ∃ v, e = .returned (.tuple #[v, .bool true]) ∧ Below w.heap.size w w' ∧ OwnB w' w.heap.size 5 v (vals s s.size) := by
  refine (fv_any s b w hs).mono ?_
  rintro e w' ⟨v, r, rfl, hb, ⟨_, rfl, hown⟩ | ⟨hno, _⟩⟩
  · exact ⟨v, rfl, hb, hown⟩
  · exact absurd h hno
theorem fv_pos (s : ByteArray) (b : Bool) (w : World) (hs : s.size ≤ 40000) (h : AllFig b s s.size) (h0 : 0 < s.size) :
    Calls Tryd.prog 17 #[.string s, .bool b] w fun e w' => ∃ g cap, e = .returned (.tuple #[.slice (some ⟨g, 0, none⟩) s.size cap, .bool true]) ∧ Below w.heap.size w w' ∧ w.heap.size ≤ g ∧ g < w'.heap.size ∧
      ∀ j, (hj : j < s.size) → w'.cell? ⟨g, j, none⟩ = some (.int .u8 (figVal (s[j]'hj).toNat)) := by
  refine (fv_yes s b w hs h).mono ?_
  rintro e w' ⟨v, rfl, hb, hown⟩
  have hvl := vals_length s s.size (Nat.le_refl _)
  obtain ⟨g, cap, rfl, h1, h2, h3⟩ := hown.some (by omega)
  rw [hvl] at h3 ⊢
  refine ⟨g, cap, rfl, hb, h1, h2, fun j hj => ?_⟩
  rw [h3 j hj, vals_at s j hj]
theorem fv_no (s : ByteArray) (b : Bool) (w : World) (hs : s.size ≤ 40000) (h : ¬ AllFig b s s.size) :
    Calls Tryd.prog 17 #[.string s, .bool b] w fun e w' => ∃ v, e = .returned (.tuple #[v, .bool false]) ∧ Below w.heap.size w w' := by
  refine (fv_any s b w hs).mono ?_
  rintro e w' ⟨v, r, rfl, hb, ⟨hyes, _⟩ | ⟨_, rfl⟩⟩
  · exact absurd hyes h
  · exact ⟨v, rfl, hb⟩
set_option maxRecDepth 100000 in
set_option maxHeartbeats 1000000 in
theorem implUnhex_zero (s : ByteArray) (w : World) (hs : s.size = 0) (hyes : Hid (AllFig true s s.size)) :
    Calls Tryd.prog 14 #[.string s] w fun e w' => Below w.heap.size w w' ∧ e = .returned (.tuple #[.string (strOfNums []), .bool true]) := by
  have hvl : (vals s 0).length = 0 := by simp [vals]
  go_enter Tryd.func14, Tryd.ntmps14
  go_wp2_with (first | (go_at_call 17; refine (fv_yes s true _ (by omega) hyes.out).mono ?_; rintro e w1 ⟨v, rfl, hb1, hown1⟩; obtain ⟨ao, cap, rfl⟩ := hown1.form) | (at_make; refine wpList_makeB rfl _ _ 22 5 rfl Tryd.underlying22 Tryd.info5 w1.heap.size _ _ _ 0 rfl rfl (by omega) (by omega) (Nat.le_refl _) ?_; intro v0 w2 hown2 hb2; have hcv := conv_own Tryd.underlying22 Tryd.underlying5 Tryd.underlying9 hown2))
  refine wp_loop_rounds 1 ?_
  rw [rounds_succ]
  go_wp2
  go_ret2
  exact ⟨hb1.trans (hb2.mono hb1.size), rfl⟩

set_option maxRecDepth 100000 in
set_option maxHeartbeats 1000000 in
theorem implUnhex_pos (s : ByteArray) (n : Nat) (w : World) (hs : s.size ≤ 40000) (hn : s.size = 2 * n) (h0 : 0 < s.size) (hyes : Hid (AllFig true s s.size)) :
    Calls Tryd.prog 14 #[.string s] w fun e w' => Below w.heap.size w w' ∧ e = .returned (.tuple #[.string (strOfNums (pairs (vals s s.size))), .bool true]) := by
  have hm : ((s.size : Int) % 2) = 0 := by omega
  have HN : Hid (s.size = 2 * n) := hn
  have hn2 : n ≤ 20000 := by omega
  clear hn
  go_enter Tryd.func14, Tryd.ntmps14
  go_wp2_with (first | (go_at_call 17; refine (fv_pos s true _ hs hyes.out h0).mono ?_; rintro e w1 ⟨g, cap, rfl, hb1, hg1, hg2, hcell⟩) | (at_make; refine wpList_makeB rfl _ _ 22 5 rfl Tryd.underlying22 Tryd.info5 w1.heap.size _ _ _ n rfl rfl (by have := HN.out; omega) (by omega) (Nat.le_refl _) ?_; intro v0 w2 hown2 hb2))
  go_loopw [6, 7] (fun v i wr => ∃ k : Nat, 2 * k ≤ s.size ∧ i = .int .i64 ((2 * k : Nat) : Int) ∧ OwnB wr w1.heap.size 5 v (pairs (vals s (2 * k))) ∧ Below w1.heap.size w1 wr) (fun _ i _ => s.size - (intOf i).toNat)
  case atStart => exact ⟨0, by omega, rfl, hown2, hb2⟩
  case round =>
    obtain ⟨k, hk, rfl, hown, hb⟩ := hrel
    have hsz := hb.size
    have hpl := pairs_length k (vals s (2 * k)) (vals_length s _ hk)
    by_cases hlt : 2 * k < s.size
    · have hlt2 : 2 * k + 1 < s.size := by have := HN.out; omega
      have hf1 := hyes.out (2 * k) hlt hlt
      have hf2 := hyes.out (2 * k + 1) hlt2 hlt2
      obtain ⟨hv1, hv2⟩ := figVal_bd hf1
      obtain ⟨hv3, hv4⟩ := figVal_bd hf2
      have ht1 : (2 * (k : Int)).toNat = 2 * k := by omega
      have ht2 : (2 * (k : Int) + 1).toNat = 2 * k + 1 := by omega
      have hce1 : wr.cell? ⟨g, (2 * (k : Int)).toNat, none⟩ = some (.int .u8 (figVal (s[2 * k]'hlt).toNat)) := by rw [ht1]; exact (hb.cell (p := ⟨g, 2 * k, none⟩) hg2).trans (hcell (2 * k) hlt)
      have hce2 : wr.cell? ⟨g, (2 * (k : Int) + 1).toNat, none⟩ = some (.int .u8 (figVal (s[2 * k + 1]'hlt2).toNat)) := by rw [ht2]; exact (hb.cell (p := ⟨g, 2 * k + 1, none⟩) hg2).trans (hcell (2 * k + 1) hlt2)
      have hce3 := hce1
      rw [ht1] at hce3
      have hce4 := hce2
      rw [ht2] at hce4
      have hq4 : (0 : Int) ≤ 2 * (k : Int) + 1 := by omega
      clear hcell hf1 hf2 ht1 ht2
      have hq1 : (0 : Int) ≤ 2 * (k : Int) := by omega
      have hq2 : 2 * (k : Int) < (s.size : Int) := by omega
      have hq3 : 2 * (k : Int) + 1 < (s.size : Int) := by omega
      have hw1 : IntKind.i64.wrap (2 * (k : Int) + 1) = 2 * (k : Int) + 1 := by rw [IntKind.wrap_i64]; omega
      have hw2 : IntKind.u8.wrap (figVal (s[2 * k]'hlt).toNat * 16) = figVal (s[2 * k]'hlt).toNat * 16 := by rw [IntKind.wrap_u8]; omega
      have hw3 : IntKind.u8.wrap (figVal (s[2 * k]'hlt).toNat * 16 + figVal (s[2 * k + 1]'hlt2).toNat) = figVal (s[2 * k]'hlt).toNat * 16 + figVal (s[2 * k + 1]'hlt2).toNat := by rw [IntKind.wrap_u8]; omega
      go_wp2
      go_region_held3 (fun w' => w'.cell? ⟨g, (2 * (k : Int)).toNat, none⟩ = some (.int .u8 (figVal (s[2 * k]'hlt).toNat)) ∧ w'.cell? ⟨g, (2 * (k : Int) + 1).toNat, none⟩ = some (.int .u8 (figVal (s[2 * k + 1]'hlt2).toNat)) ∧ w'.cell? ⟨g, 2 * k, none⟩ = some (.int .u8 (figVal (s[2 * k]'hlt).toNat)) ∧ w'.cell? ⟨g, 2 * k + 1, none⟩ = some (.int .u8 (figVal (s[2 * k + 1]'hlt2).toNat))) (first | go_keep | (refine ⟨(hb3.cell (p := ⟨g, (2 * (k : Int)).toNat, none⟩) hg2).trans ?_, (hb3.cell (p := ⟨g, (2 * (k : Int) + 1).toNat, none⟩) hg2).trans ?_, (hb3.cell (p := ⟨g, 2 * k, none⟩) hg2).trans ?_, (hb3.cell (p := ⟨g, 2 * k + 1, none⟩) hg2).trans ?_⟩ <;> go_keep)) ((refine step_pushB (by rfl) _ _ 22 5 (by rfl) Tryd.underlying22 Tryd.info5 w1.heap.size _ (pairs (vals s (2 * k))) (by rfl) (hown.alloc _).drew [figVal (s[2 * k]'hlt).toNat * 16 + figVal (s[2 * k + 1]'hlt2).toNat] _ 1 1 (by rfl) rfl (World.news_of_block (heap_alloc_new wr _)) (by omega) (by simp; omega) ?_; intro v3 w3 hown3 hb3))
      go_wp2
      go_roundw
      case rel => exact ⟨k + 1, by omega, by go_num, by rw [pairs_step s k hlt2]; exact hown3, ((hb.alloc hsz _).drew).trans hb3⟩
      case measure => simp [intOf]; omega
    · obtain hk2 : 2 * k = s.size := by omega
      have hcv := conv_own Tryd.underlying22 Tryd.underlying5 Tryd.underlying9 hown
      go_wp2
      go_ret2
      exact ⟨hb1.trans (hb.mono hb1.size), rfl⟩

theorem implUnhex_yes (s : ByteArray) (n : Nat) (w : World) (hs : s.size ≤ 40000) (hn : s.size = 2 * n) (h : AllFig true s s.size) :
    Calls Tryd.prog 14 #[.string s] w fun e w' => e = .returned (.tuple #[.string (strOfNums (pairs (vals s s.size))), .bool true]) ∧ Below w.heap.size w w' := by
  by_cases h0 : s.size = 0
  · refine (implUnhex_zero s w h0 h).mono ?_
    rintro e w' ⟨hb, rfl⟩
    have e2 : vals s s.size = [] := List.eq_nil_of_length_eq_zero ((vals_length s _ (Nat.le_refl _)).trans h0)
    rw [e2]
    exact ⟨rfl, hb⟩
  · refine (implUnhex_pos s n w hs hn (by omega) h).mono ?_
    rintro e w' ⟨hb, rfl⟩
    exact ⟨rfl, hb⟩

end Go.Proofs.YtbnbobkhfafbkaaDoor
