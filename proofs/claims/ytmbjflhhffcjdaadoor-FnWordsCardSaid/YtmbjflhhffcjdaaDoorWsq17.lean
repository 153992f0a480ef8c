/- Joined texts: CRfv CRdc. -/
import Derived.Test.YtmbjflhhffcjdaaDoorWsq3
import Derived.Test.YtmbjflhhffcjdaaDoorWsq9
import Derived.Deep.RegionHeld3
/- The walk over the program's reading of figures. -/
namespace Go.Proofs.YtmbjflhhffcjdaaDoor
open Go.RowKit Pl
set_option linter.unusedVariables false

theorem Tryd.info5w : (Tryd.prog.info? 5).map (fun i => (i.zero, i.size, i.bytes)) = some (some (.int .u8 0), 1, 1) := by kernel_rfl

set_option maxRecDepth 100000 in
set_option maxHeartbeats 1000000 in
theorem fv_any (s : ByteArray) (b : Bool) (w : World) (hs : s.size ≤ 40000) :
    Calls Tryd.prog 114 #[.string s, .bool b] w fun e w' => ∃ v r, e = .returned (.tuple #[v, .bool r]) ∧ Below w.heap.size w w' ∧
      ((AllFig b s s.size ∧ r = true ∧ OwnB w' w.heap.size 5 v (vals s s.size)) ∨ (¬ AllFig b s s.size ∧ r = false)) := by
  go_enter Tryd.func114, Tryd.ntmps114
  go_wp2
  go_step3
  go_wp2_with (first | (at_make; refine wpList_makeB rfl _ _ 22 5 rfl Tryd.underlying22 Tryd.info5w w.heap.size _ _ _ s.size rfl rfl (by omega) (by omega) (Nat.le_refl _) ?_; intro v0 w0 hown0 hb0))
  go_step3
  go_wp2
  go_loopw [6, 7] (fun v i wr => ∃ k : Nat, k ≤ s.size ∧ i = .int .i64 k ∧ Hid (AllFig b s k) ∧ OwnB wr w.heap.size 5 v (vals s k) ∧ Below w.heap.size w wr) (fun _ i _ => s.size - (intOf i).toNat)
  case atStart => exact ⟨0, by omega, rfl, allFig_zero b s, by simpa [vals] using hown0, hb0⟩
  case round =>
    obtain ⟨k, hk, rfl, hall, hown, hb⟩ := hrel
    have hsz := hb.size
    have hvl := vals_length s k hk
    by_cases hlt : k < s.size
    · have hc : (s[k]'hlt).toNat < 256 := UInt8.toNat_lt _
      have HST : Hid (vals s (k + 1) = vals s k ++ [figVal (s[k]'hlt).toNat]) := vals_step s k hlt
      by_cases hd : 48 ≤ (s[k]'hlt).toNat ∧ (s[k]'hlt).toNat ≤ 57
      · obtain ⟨hd1, hd2⟩ := hd
        go_wp2_with (first | (at_builtin; refine wpList_push rfl _ _ 22 5 rfl Tryd.underlying22 Tryd.info5w w.heap.size _ (vals s k) rfl hown _ rfl (by omega) (by omega) ?_; intro v1 w1 hown1 hb1))
        go_roundw
        case rel =>
          have hf := fig_digit (lt := b) hd1 hd2
          exact ⟨k + 1, by omega, by go_num, allFig_step hall.out hlt hf.1, by rw [HST.out, hf.2]; exact hown1, hb.trans hb1⟩
        case measure => simp [intOf]; omega
      · have hd' : (s[k]'hlt).toNat < 48 ∨ 57 < (s[k]'hlt).toNat := by omega
        clear hd
        cases b with
        | true =>
          by_cases hf : 97 ≤ (s[k]'hlt).toNat ∧ (s[k]'hlt).toNat ≤ 102
          · obtain ⟨hf1, hf2⟩ := hf
            clear hd'
            go_wp2_with (first | (at_builtin; refine wpList_push rfl _ _ 22 5 rfl Tryd.underlying22 Tryd.info5w w.heap.size _ (vals s k) rfl hown _ rfl (by omega) (by omega) ?_; intro v1 w1 hown1 hb1))
            go_roundw
            case rel =>
              have hf := fig_letter hf1 hf2
              exact ⟨k + 1, by omega, by go_num, allFig_step hall.out hlt hf.1, by rw [HST.out, hf.2, show ((s[k]'hlt).toNat : Int) - 87 = ((s[k]'hlt).toNat : Int) - 97 + 10 from by omega]; exact hown1, hb.trans hb1⟩
            case measure => simp [intOf]; omega
          · have hno : Hid (¬ AllFig true s s.size) := fun h => by
              have := h k hlt hlt
              simp [figOk] at this
              omega
            obtain ⟨ao, cap, rfl⟩ := hown.form
            have hk0 : ((k : Int) == (s.size : Int)) = false := by simp; omega
            go_wp2
            all_goals
              try rw [Exit.noGoto_ret]
              go_ret2
              exact ⟨_, false, rfl, hb, .inr ⟨hno.out, rfl⟩⟩
        | false =>
          have hno : Hid (¬ AllFig false s s.size) := fun h => by
            have := h k hlt hlt
            simp [figOk] at this
            omega
          obtain ⟨ao, cap, rfl⟩ := hown.form
          have hk0 : ((k : Int) == (s.size : Int)) = false := by simp; omega
          go_wp2
          all_goals
            try rw [Exit.noGoto_ret]
            go_ret2
            exact ⟨_, false, rfl, hb, .inr ⟨hno.out, rfl⟩⟩
    · obtain rfl : k = s.size := by omega
      obtain ⟨ao, cap, rfl⟩ := hown.form
      go_wp2
      all_goals
        try rw [Exit.noGoto_ret]
        go_ret2
        exact ⟨_, true, rfl, hb, .inl ⟨hall.out, rfl, hown⟩⟩

theorem fv_yes (s : ByteArray) (b : Bool) (w : World) (hs : s.size ≤ 40000) (h : AllFig b s s.size) :
    Calls Tryd.prog 114 #[.string s, .bool b] w fun e w' => ∃ v, e = .returned (.tuple #[v, .bool true]) ∧ Below w.heap.size w w' ∧ OwnB w' w.heap.size 5 v (vals s s.size) := by
  refine (fv_any s b w hs).mono ?_
  rintro e w' ⟨v, r, rfl, hb, ⟨_, rfl, hown⟩ | ⟨hno, _⟩⟩
  · exact ⟨v, rfl, hb, hown⟩
  · exact absurd h hno
theorem fv_pos (s : ByteArray) (b : Bool) (w : World) (hs : s.size ≤ 40000) (h : AllFig b s s.size) (h0 : 0 < s.size) :
    Calls Tryd.prog 114 #[.string s, .bool b] w fun e w' => ∃ g cap, e = .returned (.tuple #[.slice (some ⟨g, 0, none⟩) s.size cap, .bool true]) ∧ Below w.heap.size w w' ∧ w.heap.size ≤ g ∧ g < w'.heap.size ∧
      ∀ j, (hj : j < s.size) → w'.cell? ⟨g, j, none⟩ = some (.int .u8 (figVal (s[j]'hj).toNat)) := by
  refine (fv_yes s b w hs h).mono ?_
  rintro e w' ⟨v, rfl, hb, hown⟩
  have hvl := vals_length s s.size (Nat.le_refl _)
  obtain ⟨g, cap, rfl, h1, h2, h3⟩ := hown.some (by omega)
  rw [hvl] at h3 ⊢
  refine ⟨g, cap, rfl, hb, h1, h2, fun j hj => ?_⟩
  rw [h3 j hj, vals_at s j hj]
theorem fv_no (s : ByteArray) (b : Bool) (w : World) (hs : s.size ≤ 40000) (h : ¬ AllFig b s s.size) :
    Calls Tryd.prog 114 #[.string s, .bool b] w fun e w' => ∃ v, e = .returned (.tuple #[v, .bool false]) ∧ Below w.heap.size w w' := by
  refine (fv_any s b w hs).mono ?_
  rintro e w' ⟨v, r, rfl, hb, ⟨hyes, _⟩ | ⟨_, rfl⟩⟩
  · exact absurd hyes h
  · exact ⟨v, rfl, hb⟩
end Go.Proofs.YtmbjflhhffcjdaaDoor


/- The walk over the program's ReadDecimal. -/
namespace Go.Proofs.YtmbjflhhffcjdaaDoor
open Go.RowKit Pl
set_option linter.unusedVariables false

/-- when ReadDecimal takes the text. -/
def DecOk (s : ByteArray) : Prop := AllFig false s s.size ∧ dv s s.size ≤ 1000000000 ∧ ∃ h0 : 0 < s.size, ¬ ((s[0]'h0).toNat = 48 ∧ 1 < s.size)

set_option maxHeartbeats 400000 in
theorem implRd_empty (w : World) :
    Calls Tryd.prog 102 #[.string ⟨#[]⟩] w fun e w' => e = .returned (.tuple #[.int .i64 0, .bool false]) ∧ w' = w := by
  go_enter Tryd.func102, Tryd.ntmps102
  go_wp2
  go_ret2
  exact ⟨rfl, rfl⟩

set_option maxHeartbeats 400000 in
theorem implRd_long (s : ByteArray) (w : World) (hs : 10 < s.size) :
    Calls Tryd.prog 102 #[.string s] w fun e w' => e = .returned (.tuple #[.int .i64 0, .bool false]) ∧ w' = w := by
  have hne := notEmpty (s := s) (by omega)
  go_enter Tryd.func102, Tryd.ntmps102
  go_wp2
  go_ret2
  exact ⟨rfl, rfl⟩

set_option maxHeartbeats 400000 in
theorem implRd_nought (s : ByteArray) (w : World) (hs : s.size ≤ 10) (h0 : 0 < s.size) (h1 : (s[0]'h0).toNat = 48) (h2 : 1 < s.size) :
    Calls Tryd.prog 102 #[.string s] w fun e w' => e = .returned (.tuple #[.int .i64 0, .bool false]) ∧ w' = w := by
  have hne := notEmpty h0
  go_enter Tryd.func102, Tryd.ntmps102
  go_wp2
  go_ret2
  exact ⟨rfl, rfl⟩

set_option maxHeartbeats 400000 in
theorem implRd_no (s : ByteArray) (w : World) (hs : s.size ≤ 10) (h0 : 0 < s.size) (h1 : ¬ ((s[0]'h0).toNat = 48 ∧ 1 < s.size)) (hno : Hid (¬ AllFig false s s.size)) :
    Calls Tryd.prog 102 #[.string s] w fun e w' => e = .returned (.tuple #[.int .i64 0, .bool false]) ∧ Below w.heap.size w w' := by
  have hne := notEmpty h0
  rcases (show ¬ (s[0]'h0).toNat = 48 ∨ ((s[0]'h0).toNat = 48 ∧ ¬ 1 < s.size) by omega) with h2 | ⟨h2, h3⟩
  all_goals
    clear h1
    go_enter Tryd.func102, Tryd.ntmps102
    go_wp2_with (first | (go_at_call 114; refine (fv_no s false _ (by omega) hno.out).mono ?_; rintro e w1 ⟨v, rfl, hb1⟩))
    go_ret2
    exact ⟨rfl, hb1⟩

def RdPost (s : ByteArray) (e : Ending) : Prop :=
  (dv s s.size ≤ 1000000000 ∧ e = .returned (.tuple #[.int .i64 (dv s s.size), .bool true])) ∨ (1000000000 < dv s s.size ∧ e = .returned (.tuple #[.int .i64 0, .bool false]))

set_option maxRecDepth 100000 in
set_option maxHeartbeats 1000000 in
theorem implRd_yes (s : ByteArray) (w : World) (hs : s.size ≤ 10) (h0 : 0 < s.size) (h1 : ¬ ((s[0]'h0).toNat = 48 ∧ 1 < s.size)) (hyes : Hid (AllFig false s s.size)) :
    Calls Tryd.prog 102 #[.string s] w fun e w' => Below w.heap.size w w' ∧ RdPost s e := by
  have hne := notEmpty h0
  rcases (show ¬ (s[0]'h0).toNat = 48 ∨ ((s[0]'h0).toNat = 48 ∧ ¬ 1 < s.size) by omega) with h2 | ⟨h2, h3⟩
  all_goals
    clear h1
    go_enter Tryd.func102, Tryd.ntmps102
    go_wp2_with (first | (go_at_call 114; refine (fv_pos s false _ (by omega) hyes.out h0).mono ?_; rintro e w1 ⟨g, cap, rfl, hb1, hg1, hg2, hcell⟩))
    go_loop [6, 33] (fun n i => ∃ k : Nat, k ≤ s.size ∧ i = .int .i64 k ∧ n = .int .i64 (dv s k)) (fun _ i => s.size - (intOf i).toNat)
    case atStart => exact ⟨0, by omega, rfl, rfl⟩
    case round =>
      obtain ⟨k, hk, rfl, rfl⟩ := hrel
      have hd := dv_le hk (fun j hj hlt => hyes.out j hj (by omega)) (by omega)
      by_cases hlt : k < s.size
      · have hf := figVal_dec (hyes.out k hlt hlt)
        have hce := hcell k hlt
        rw [hf.1] at hce
        obtain ⟨_, hf1, hf2⟩ := hf
        have HST : Hid (dv s (k + 1) = 10 * dv s k + ((s[k]'hlt).toNat - 48)) := dv_step s k hlt
        have HC : Hid (∀ j, (hj : j < s.size) → w1.cell? ⟨g, j, none⟩ = some (.int .u8 (figVal (s[j]'hj).toNat))) := hcell
        clear hcell
        go_wp2
        go_round
        case rel =>
          have hst := HST.out
          exact ⟨k + 1, by omega, by go_num, by rw [hst]; go_num⟩
        case measure => simp [intOf]; omega
      · obtain rfl : k = s.size := by omega
        clear hcell
        by_cases hbig : 1000000000 < dv s s.size
        · go_wp2
          go_ret2
          exact ⟨hb1, .inr ⟨hbig, rfl⟩⟩
        · go_wp2
          go_ret2
          exact ⟨hb1, .inl ⟨by omega, rfl⟩⟩

theorem implRd_ok (s : ByteArray) (w : World) (hs : s.size ≤ 10) (h : DecOk s) :
    Calls Tryd.prog 102 #[.string s] w fun e w' => e = .returned (.tuple #[.int .i64 (dv s s.size), .bool true]) ∧ Below w.heap.size w w' := by
  obtain ⟨h1, h2, h0, h3⟩ := h
  refine (implRd_yes s w hs h0 h3 h1).mono ?_
  rintro e w' ⟨hb, ⟨_, rfl⟩ | ⟨hno, _⟩⟩
  · exact ⟨rfl, hb⟩
  · omega
theorem implRd_not (s : ByteArray) (w : World) (hs : s.size ≤ 10) (h : ¬ DecOk s) :
    Calls Tryd.prog 102 #[.string s] w fun e w' => e = .returned (.tuple #[.int .i64 0, .bool false]) ∧ Below w.heap.size w w' := by
  by_cases h0 : 0 < s.size
  · by_cases h1 : (s[0]'h0).toNat = 48 ∧ 1 < s.size
    · refine (implRd_nought s w hs h0 h1.1 h1.2).mono ?_
      rintro e w' ⟨rfl, rfl⟩
      exact ⟨rfl, Below.refl _ _⟩
    · by_cases hA : AllFig false s s.size
      · refine (implRd_yes s w hs h0 h1 hA).mono ?_
        rintro e w' ⟨hb, ⟨hle, _⟩ | ⟨_, rfl⟩⟩
        · exact absurd ⟨hA, hle, h0, h1⟩ h
        · exact ⟨rfl, hb⟩
      · exact implRd_no s w hs h0 h1 hA
  · obtain rfl : s = ⟨#[]⟩ := ByteArray.ext (Array.eq_empty_of_size_eq_zero (Nat.eq_zero_of_not_pos h0))
    refine (implRd_empty w).mono ?_
    rintro e w' ⟨rfl, rfl⟩
    exact ⟨rfl, Below.refl _ _⟩

end Go.Proofs.YtmbjflhhffcjdaaDoor


