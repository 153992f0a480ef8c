/- The walk over the program's ReadDecimal at what is a number. -/
import Derived.Test.YtbnbobkhfafbkaaDoorV4
namespace Go.Proofs.YtbnbobkhfafbkaaDoor
open Go.RowKit Pl
set_option linter.unusedVariables false

/-- when ReadDecimal takes the text. -/
def DecOk (s : ByteArray) : Prop := AllFig false s s.size ∧ dv s s.size ≤ 1000000000 ∧ ∃ h0 : 0 < s.size, ¬ ((s[0]'h0).toNat = 48 ∧ 1 < s.size)

theorem notEmpty {s : ByteArray} (h : 0 < s.size) : (s.toList == []) = false := by
  rw [ByteArray.toList_eq, beq_eq_false_iff_ne]
  intro e
  have : s.data.toList.length = s.size := rfl
  rw [e] at this
  simp at this
  omega

def RdPost (s : ByteArray) (e : Ending) : Prop :=
  (dv s s.size ≤ 1000000000 ∧ e = .returned (.tuple #[.int .i64 (dv s s.size), .bool true])) ∨ (1000000000 < dv s s.size ∧ e = .returned (.tuple #[.int .i64 0, .bool false]))

set_option maxRecDepth 100000 in
set_option maxHeartbeats 1000000 in
theorem implRd_yes (s : ByteArray) (w : World) (hs : s.size ≤ 10) (h0 : 0 < s.size) (h1 : ¬ ((s[0]'h0).toNat = 48 ∧ 1 < s.size)) (hyes : Hid (AllFig false s s.size)) :
    Calls Tryd.prog 8 #[.string s] w fun e w' => Below w.heap.size w w' ∧ RdPost s e := by
  have hne := notEmpty h0
  rcases (show ¬ (s[0]'h0).toNat = 48 ∨ ((s[0]'h0).toNat = 48 ∧ ¬ 1 < s.size) by omega) with h2 | ⟨h2, h3⟩
  all_goals
    clear h1
    go_enter Tryd.func8, Tryd.ntmps8
    go_wp2_with (first | (go_at_call 17; refine (fv_pos s false _ (by omega) hyes.out h0).mono ?_; rintro e w1 ⟨g, cap, rfl, hb1, hg1, hg2, hcell⟩))
    go_loop [6, 33] (fun n i => ∃ k : Nat, k ≤ s.size ∧ i = .int .i64 k ∧ n = .int .i64 (dv s k)) (fun _ i => s.size - (intOf i).toNat)
    case atStart => exact ⟨0, by omega, rfl, rfl⟩
    case round =>
      obtain ⟨k, hk, rfl, rfl⟩ := hrel
      have hd := dv_le hk (fun j hj hlt => hyes.out j hj (by omega)) (by omega)
      by_cases hlt : k < s.size
      · have hf := figVal_dec (hyes.out k hlt hlt)
        have hce := hcell k hlt
        rw [hf.1] at hce
        obtain ⟨_, hf1, hf2⟩ := hf
        have HST : Hid (dv s (k + 1) = 10 * dv s k + ((s[k]'hlt).toNat - 48)) := dv_step s k hlt
        have HC : Hid (∀ j, (hj : j < s.size) → w1.cell? ⟨g, j, none⟩ = some (.int .u8 (figVal (s[j]'hj).toNat))) := hcell
        clear hcell
        go_wp2
        go_round
        case rel =>
          have hst := HST.out
          exact ⟨k + 1, by omega, by go_num, by rw [hst]; go_num⟩
        case measure => simp [intOf]; omega
      · obtain rfl : k = s.size := by omega
        clear hcell
        by_cases hbig : 1000000000 < dv s s.size
        · go_wp2
          go_ret2
          exact ⟨hb1, .inr ⟨hbig, rfl⟩⟩
        · go_wp2
          go_ret2
          exact ⟨hb1, .inl ⟨by omega, rfl⟩⟩

theorem implRd_ok (s : ByteArray) (w : World) (hs : s.size ≤ 10) (h : DecOk s) :
    Calls Tryd.prog 8 #[.string s] w fun e w' => e = .returned (.tuple #[.int .i64 (dv s s.size), .bool true]) ∧ Below w.heap.size w w' := by
  obtain ⟨h1, h2, h0, h3⟩ := h
  refine (implRd_yes s w hs h0 h3 h1).mono ?_
  rintro e w' ⟨hb, ⟨_, rfl⟩ | ⟨hno, _⟩⟩
  · exact ⟨rfl, hb⟩
  · omega
end Go.Proofs.YtbnbobkhfafbkaaDoor
