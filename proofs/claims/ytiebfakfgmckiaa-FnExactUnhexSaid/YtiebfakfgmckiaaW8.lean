/- The walks over Unhex, of the program and of the specification, and the law on Unhex. -/
import Derived.Test.YtiebfakfgmckiaaW7
import Derived.Deep.RegionHeld3
namespace Go.Proofs.Ytiebfakfgmckiaa
open Go.RowKit Pl
set_option linter.unusedVariables false

set_option maxHeartbeats 400000 in
theorem val_yes (c : Nat) (w : World) (h : (48 ≤ c ∧ c ≤ 57) ∨ (97 ≤ c ∧ c ≤ 102)) :
    Calls Try.prog 28 #[.int .u8 c] w fun e w' => e = .returned (.int .i64 (figVal c)) ∧ w' = w := by
  rcases h with ⟨h1, h2⟩ | ⟨h1, h2⟩
  · go_enter Try.func28, Try.ntmps28
    go_wp2
    go_ret
    exact ⟨by rw [(fig_digit (lt := true) h1 h2).2]; rfl, rfl⟩
  · go_enter Try.func28, Try.ntmps28
    go_wp2
    go_ret
    exact ⟨by rw [(fig_letter h1 h2).2, show (c : Int) - 87 = (c : Int) - 97 + 10 from by omega]; rfl, rfl⟩

set_option maxHeartbeats 400000 in
theorem val_no (c : Nat) (w : World) (hc : c < 256) (h : figOk true c = false) :
    Calls Try.prog 28 #[.int .u8 c] w fun e w' => e = .returned (.int .i64 (-1)) ∧ w' = w := by
  have h' : (c < 48 ∨ 57 < c) ∧ (c < 97 ∨ 102 < c) := by
    simp [figOk] at h
    omega
  clear h
  obtain ⟨h1, h2⟩ := h'
  rcases (show c < 48 ∨ (57 < c ∧ c < 97) ∨ 102 < c by omega) with h3 | ⟨h3, h4⟩ | h3
  all_goals
    clear h1 h2
    go_enter Try.func28, Try.ntmps28
    go_wp2
    go_ret
    exact ⟨rfl, rfl⟩

theorem okCases {c : Nat} (h : figOk true c = true) : (48 ≤ c ∧ c ≤ 57) ∨ (97 ≤ c ∧ c ≤ 102) := by
  simp [figOk] at h
  omega

set_option maxRecDepth 100000 in
set_option maxHeartbeats 1000000 in
theorem specUnhex_in (s : ByteArray) (n : Nat) (w : World) (hs : s.size ≤ 40000) (hn : s.size = 2 * n) :
    Calls Try.prog 20 #[.string s] w fun e w' => Below w.heap.size w w' ∧
      ((AllFig true s s.size ∧ e = .returned (.tuple #[.string (strOfNums (pairs (vals s s.size))), .bool true])) ∨ (¬ AllFig true s s.size ∧ e = .returned (.tuple #[.string ByteArray.empty, .bool false]))) := by
  have hm : ((s.size : Int) % 2) = 0 := by omega
  have HN : Hid (s.size = 2 * n) := hn
  clear hn
  go_enter Try.func20, Try.ntmps20
  go_wp2
  go_loopw [4, 5] (fun v i wr => ∃ k : Nat, 2 * k ≤ s.size ∧ i = .int .i64 ((2 * k : Nat) : Int) ∧ Hid (AllFig true s (2 * k)) ∧ OwnB wr w.heap.size 5 v (pairs (vals s (2 * k))) ∧ Below w.heap.size w wr) (fun _ i _ => s.size - (intOf i).toNat)
  case atStart => exact ⟨0, by omega, rfl, allFig_zero true s, OwnB.made w _ 5 #[] 0 (Nat.le_refl _) (by decide) rfl, (Below.refl _ _).alloc (Nat.le_refl _) _⟩
  case round =>
    obtain ⟨k, hk, rfl, hall, hown, hb⟩ := hrel
    have hsz := hb.size
    have hpl := pairs_length k (vals s (2 * k)) (vals_length s _ hk)
    by_cases hlt : 2 * k < s.size
    · have hlt2 : 2 * k + 1 < s.size := by have := HN.out; omega
      have hc1 : (s[2 * k]'hlt).toNat < 256 := UInt8.toNat_lt _
      have hc2 : (s[2 * k + 1]'hlt2).toNat < 256 := UInt8.toNat_lt _
      rcases hf1 : figOk true (s[2 * k]'hlt).toNat with _ | _
      · have H1 : Hid (figOk true (s[2 * k]'hlt).toNat = false) := hf1
        have hno : Hid (¬ AllFig true s s.size) := fun h => by
          have := h (2 * k) hlt hlt
          rw [hf1] at this
          cases this
        clear hf1
        rcases hf2 : figOk true (s[2 * k + 1]'hlt2).toNat with _ | _
        · have H2 : Hid (figOk true (s[2 * k + 1]'hlt2).toNat = false) := hf2
          clear hf2
          go_wp2_with fail
          refine (val_no _ _ hc1 H1.out).mono ?_
          rintro e w' ⟨rfl, rfl⟩
          go_wp2_with fail
          refine (val_no _ _ hc2 H2.out).mono ?_
          rintro e w' ⟨rfl, rfl⟩
          go_wp2
          go_ret2
          exact ⟨hb, .inr ⟨hno.out, rfl⟩⟩
        · have H2 : Hid (figOk true (s[2 * k + 1]'hlt2).toNat = true) := hf2
          clear hf2
          go_wp2_with fail
          refine (val_no _ _ hc1 H1.out).mono ?_
          rintro e w' ⟨rfl, rfl⟩
          go_wp2_with fail
          refine (val_yes _ _ (okCases H2.out)).mono ?_
          rintro e w' ⟨rfl, rfl⟩
          go_wp2
          go_ret2
          exact ⟨hb, .inr ⟨hno.out, rfl⟩⟩
      · have H1 : Hid (figOk true (s[2 * k]'hlt).toNat = true) := hf1
        clear hf1
        obtain ⟨hv1, hv2⟩ := figVal_bd H1.out
        rcases hf2 : figOk true (s[2 * k + 1]'hlt2).toNat with _ | _
        · have H2 : Hid (figOk true (s[2 * k + 1]'hlt2).toNat = false) := hf2
          have hno : Hid (¬ AllFig true s s.size) := fun h => by
            have := h (2 * k + 1) hlt2 hlt2
            rw [hf2] at this
            cases this
          clear hf2
          go_wp2_with fail
          refine (val_yes _ _ (okCases H1.out)).mono ?_
          rintro e w' ⟨rfl, rfl⟩
          go_wp2_with fail
          refine (val_no _ _ hc2 H2.out).mono ?_
          rintro e w' ⟨rfl, rfl⟩
          go_wp2
          go_ret2
          exact ⟨hb, .inr ⟨hno.out, rfl⟩⟩
        · have H2 : Hid (figOk true (s[2 * k + 1]'hlt2).toNat = true) := hf2
          clear hf2
          obtain ⟨hv3, hv4⟩ := figVal_bd H2.out
          go_wp2_with fail
          refine (val_yes _ _ (okCases H1.out)).mono ?_
          rintro e w' ⟨rfl, rfl⟩
          go_wp2_with fail
          refine (val_yes _ _ (okCases H2.out)).mono ?_
          rintro e w' ⟨rfl, rfl⟩
          go_wp2_with (first | (at_builtin; refine wpList_push rfl _ _ 36 5 rfl Try.underlying36 Try.info5 w.heap.size _ (pairs (vals s (2 * k))) rfl hown _ rfl (by omega) (by omega) ?_; intro v1 w1 hown1 hb1))
          go_roundw
          case rel =>
            refine ⟨k + 1, by omega, by go_num, ?_, ?_, hb.trans hb1⟩
            · exact allFig_step (allFig_step hall.out hlt H1.out) hlt2 H2.out
            · rw [pairs_step s k hlt2, show figVal (s[2 * k]'hlt).toNat * 16 + figVal (s[2 * k + 1]'hlt2).toNat = 16 * figVal (s[2 * k]'hlt).toNat + figVal (s[2 * k + 1]'hlt2).toNat from by omega]
              exact hown1
          case measure => simp [intOf]; omega
    · obtain hk2 : 2 * k = s.size := by omega
      have hcv := conv_own Try.underlying36 Try.underlying5 Try.underlying9 hown
      go_wp2
      go_ret2
      refine ⟨hb, .inl ⟨?_, rfl⟩⟩
      have := hall.out
      rw [hk2] at this
      exact this

set_option maxRecDepth 100000 in
set_option maxHeartbeats 1000000 in
theorem implUnhex_no (s : ByteArray) (n : Nat) (w : World) (hs : s.size ≤ 40000) (hn : s.size = 2 * n) (hno : Hid (¬ AllFig true s s.size)) :
    Calls Try.prog 21 #[.string s] w fun e w' => Below w.heap.size w w' ∧ e = .returned (.tuple #[.string ByteArray.empty, .bool false]) := by
  have hm : ((s.size : Int) % 2) = 0 := by omega
  clear hn
  go_enter Try.func21, Try.ntmps21
  go_wp2_with (first | (go_at_call 29; refine (fv_no s true _ hs hno.out).mono ?_; rintro e w1 ⟨v, rfl, hb1⟩))
  go_ret2
  exact ⟨hb1, rfl⟩

set_option maxRecDepth 100000 in
set_option maxHeartbeats 1000000 in
theorem implUnhex_zero (s : ByteArray) (w : World) (hs : s.size = 0) (hyes : Hid (AllFig true s s.size)) :
    Calls Try.prog 21 #[.string s] w fun e w' => Below w.heap.size w w' ∧ e = .returned (.tuple #[.string (strOfNums []), .bool true]) := by
  have hvl : (vals s 0).length = 0 := by simp [vals]
  go_enter Try.func21, Try.ntmps21
  go_wp2_with (first | (go_at_call 29; refine (fv_yes s true _ (by omega) hyes.out).mono ?_; rintro e w1 ⟨v, rfl, hb1, hown1⟩; obtain ⟨ao, cap, rfl⟩ := hown1.form) | (at_make; refine wpList_makeB rfl _ _ 36 5 rfl Try.underlying36 Try.info5 w1.heap.size _ _ _ 0 rfl rfl (by omega) (by omega) (Nat.le_refl _) ?_; intro v0 w2 hown2 hb2; have hcv := conv_own Try.underlying36 Try.underlying5 Try.underlying9 hown2))
  refine wp_loop_rounds 1 ?_
  rw [rounds_succ]
  go_wp2
  go_ret2
  exact ⟨hb1.trans (hb2.mono hb1.size), rfl⟩

set_option maxRecDepth 100000 in
set_option maxHeartbeats 1000000 in
theorem implUnhex_pos (s : ByteArray) (n : Nat) (w : World) (hs : s.size ≤ 40000) (hn : s.size = 2 * n) (h0 : 0 < s.size) (hyes : Hid (AllFig true s s.size)) :
    Calls Try.prog 21 #[.string s] w fun e w' => Below w.heap.size w w' ∧ e = .returned (.tuple #[.string (strOfNums (pairs (vals s s.size))), .bool true]) := by
  have hm : ((s.size : Int) % 2) = 0 := by omega
  have HN : Hid (s.size = 2 * n) := hn
  have hn2 : n ≤ 20000 := by omega
  clear hn
  go_enter Try.func21, Try.ntmps21
  go_wp2_with (first | (go_at_call 29; refine (fv_pos s true _ hs hyes.out h0).mono ?_; rintro e w1 ⟨g, cap, rfl, hb1, hg1, hg2, hcell⟩) | (at_make; refine wpList_makeB rfl _ _ 36 5 rfl Try.underlying36 Try.info5 w1.heap.size _ _ _ n rfl rfl (by have := HN.out; omega) (by omega) (Nat.le_refl _) ?_; intro v0 w2 hown2 hb2))
  go_loopw [6, 7] (fun v i wr => ∃ k : Nat, 2 * k ≤ s.size ∧ i = .int .i64 ((2 * k : Nat) : Int) ∧ OwnB wr w1.heap.size 5 v (pairs (vals s (2 * k))) ∧ Below w1.heap.size w1 wr) (fun _ i _ => s.size - (intOf i).toNat)
  case atStart => exact ⟨0, by omega, rfl, hown2, hb2⟩
  case round =>
    obtain ⟨k, hk, rfl, hown, hb⟩ := hrel
    have hsz := hb.size
    have hpl := pairs_length k (vals s (2 * k)) (vals_length s _ hk)
    by_cases hlt : 2 * k < s.size
    · have hlt2 : 2 * k + 1 < s.size := by have := HN.out; omega
      have hf1 := hyes.out (2 * k) hlt hlt
      have hf2 := hyes.out (2 * k + 1) hlt2 hlt2
      obtain ⟨hv1, hv2⟩ := figVal_bd hf1
      obtain ⟨hv3, hv4⟩ := figVal_bd hf2
      have ht1 : (2 * (k : Int)).toNat = 2 * k := by omega
      have ht2 : (2 * (k : Int) + 1).toNat = 2 * k + 1 := by omega
      have hce1 : wr.cell? ⟨g, (2 * (k : Int)).toNat, none⟩ = some (.int .u8 (figVal (s[2 * k]'hlt).toNat)) := by rw [ht1]; exact (hb.cell (p := ⟨g, 2 * k, none⟩) hg2).trans (hcell (2 * k) hlt)
      have hce2 : wr.cell? ⟨g, (2 * (k : Int) + 1).toNat, none⟩ = some (.int .u8 (figVal (s[2 * k + 1]'hlt2).toNat)) := by rw [ht2]; exact (hb.cell (p := ⟨g, 2 * k + 1, none⟩) hg2).trans (hcell (2 * k + 1) hlt2)
      have hce3 := hce1
      rw [ht1] at hce3
      have hce4 := hce2
      rw [ht2] at hce4
      have hq4 : (0 : Int) ≤ 2 * (k : Int) + 1 := by omega
      clear hcell hf1 hf2 ht1 ht2
      have hq1 : (0 : Int) ≤ 2 * (k : Int) := by omega
      have hq2 : 2 * (k : Int) < (s.size : Int) := by omega
      have hq3 : 2 * (k : Int) + 1 < (s.size : Int) := by omega
      have hw1 : IntKind.i64.wrap (2 * (k : Int) + 1) = 2 * (k : Int) + 1 := by rw [IntKind.wrap_i64]; omega
      have hw2 : IntKind.u8.wrap (figVal (s[2 * k]'hlt).toNat * 16) = figVal (s[2 * k]'hlt).toNat * 16 := by rw [IntKind.wrap_u8]; omega
      have hw3 : IntKind.u8.wrap (figVal (s[2 * k]'hlt).toNat * 16 + figVal (s[2 * k + 1]'hlt2).toNat) = figVal (s[2 * k]'hlt).toNat * 16 + figVal (s[2 * k + 1]'hlt2).toNat := by rw [IntKind.wrap_u8]; omega
      go_wp2
      go_region_held3 (fun w' => w'.cell? ⟨g, (2 * (k : Int)).toNat, none⟩ = some (.int .u8 (figVal (s[2 * k]'hlt).toNat)) ∧ w'.cell? ⟨g, (2 * (k : Int) + 1).toNat, none⟩ = some (.int .u8 (figVal (s[2 * k + 1]'hlt2).toNat)) ∧ w'.cell? ⟨g, 2 * k, none⟩ = some (.int .u8 (figVal (s[2 * k]'hlt).toNat)) ∧ w'.cell? ⟨g, 2 * k + 1, none⟩ = some (.int .u8 (figVal (s[2 * k + 1]'hlt2).toNat))) (first | go_keep | (refine ⟨(hb3.cell (p := ⟨g, (2 * (k : Int)).toNat, none⟩) hg2).trans ?_, (hb3.cell (p := ⟨g, (2 * (k : Int) + 1).toNat, none⟩) hg2).trans ?_, (hb3.cell (p := ⟨g, 2 * k, none⟩) hg2).trans ?_, (hb3.cell (p := ⟨g, 2 * k + 1, none⟩) hg2).trans ?_⟩ <;> go_keep)) ((refine step_pushB (by rfl) _ _ 36 5 (by rfl) Try.underlying36 Try.info5 w1.heap.size _ (pairs (vals s (2 * k))) (by rfl) (hown.alloc _).drew [figVal (s[2 * k]'hlt).toNat * 16 + figVal (s[2 * k + 1]'hlt2).toNat] _ 1 1 (by rfl) rfl (World.news_of_block (heap_alloc_new wr _)) (by omega) (by simp; omega) ?_; intro v3 w3 hown3 hb3))
      go_wp2
      go_roundw
      case rel => exact ⟨k + 1, by omega, by go_num, by rw [pairs_step s k hlt2]; exact hown3, ((hb.alloc hsz _).drew).trans hb3⟩
      case measure => simp [intOf]; omega
    · obtain hk2 : 2 * k = s.size := by omega
      have hcv := conv_own Try.underlying36 Try.underlying5 Try.underlying9 hown
      go_wp2
      go_ret2
      exact ⟨hb1.trans (hb.mono hb1.size), rfl⟩

set_option maxHeartbeats 400000 in
theorem specUnhex_out (s : ByteArray) (w : World) (h : 40000 < s.size ∨ (s.size : Int) % 2 = 1) :
    Calls Try.prog 20 #[.string s] w fun e w' => e = .returned (.tuple #[.string ByteArray.empty, .bool false]) ∧ w' = w := by
  by_cases h1 : 40000 < s.size
  · go_enter Try.func20, Try.ntmps20
    go_wp2
    go_ret2
    exact ⟨rfl, rfl⟩
  · have h2 : (s.size : Int) % 2 = 1 := by omega
    clear h
    go_enter Try.func20, Try.ntmps20
    go_wp2
    go_ret2
    exact ⟨rfl, rfl⟩

set_option maxHeartbeats 400000 in
theorem implUnhex_out (s : ByteArray) (w : World) (h : 40000 < s.size ∨ (s.size : Int) % 2 = 1) (hm : s.size ≤ 1048576) :
    Calls Try.prog 21 #[.string s] w fun e w' => e = .returned (.tuple #[.string ByteArray.empty, .bool false]) ∧ w' = w := by
  by_cases h1 : (s.size : Int) % 2 = 1
  · go_enter Try.func21, Try.ntmps21
    go_wp2
    go_ret2
    exact ⟨rfl, rfl⟩
  · have h2 : 40000 < s.size := by omega
    have h3 : (s.size : Int) % 2 = 0 := by omega
    clear h h1
    go_enter Try.func21, Try.ntmps21
    go_wp2
    go_ret2
    exact ⟨rfl, rfl⟩

theorem specUnhex_yes (s : ByteArray) (n : Nat) (w : World) (hs : s.size ≤ 40000) (hn : s.size = 2 * n) (h : AllFig true s s.size) :
    Calls Try.prog 20 #[.string s] w fun e w' => e = .returned (.tuple #[.string (strOfNums (pairs (vals s s.size))), .bool true]) ∧ Below w.heap.size w w' := by
  refine (specUnhex_in s n w hs hn).mono ?_
  rintro e w' ⟨hb, ⟨_, rfl⟩ | ⟨hno, _⟩⟩
  · exact ⟨rfl, hb⟩
  · exact absurd h hno
theorem specUnhex_no (s : ByteArray) (n : Nat) (w : World) (hs : s.size ≤ 40000) (hn : s.size = 2 * n) (h : ¬ AllFig true s s.size) :
    Calls Try.prog 20 #[.string s] w fun e w' => e = .returned (.tuple #[.string ByteArray.empty, .bool false]) ∧ Below w.heap.size w w' := by
  refine (specUnhex_in s n w hs hn).mono ?_
  rintro e w' ⟨hb, ⟨hyes, _⟩ | ⟨_, rfl⟩⟩
  · exact absurd hyes h
  · exact ⟨rfl, hb⟩
theorem implUnhex_yes (s : ByteArray) (n : Nat) (w : World) (hs : s.size ≤ 40000) (hn : s.size = 2 * n) (h : AllFig true s s.size) :
    Calls Try.prog 21 #[.string s] w fun e w' => e = .returned (.tuple #[.string (strOfNums (pairs (vals s s.size))), .bool true]) ∧ Below w.heap.size w w' := by
  by_cases h0 : s.size = 0
  · refine (implUnhex_zero s w h0 h).mono ?_
    rintro e w' ⟨hb, rfl⟩
    have e2 : vals s s.size = [] := List.eq_nil_of_length_eq_zero ((vals_length s _ (Nat.le_refl _)).trans h0)
    rw [e2]
    exact ⟨rfl, hb⟩
  · refine (implUnhex_pos s n w hs hn (by omega) h).mono ?_
    rintro e w' ⟨hb, rfl⟩
    exact ⟨rfl, hb⟩

set_option maxHeartbeats 400000 in
theorem lawUnhex (s : ByteArray) (w : World) (hs : s.size ≤ maxLen) :
    Calls Try.prog 8 #[.string s] w fun e w' => e = .returned (.bool true) ∧ Below w.heap.size w w' := by
  unfold maxLen at hs
  by_cases hl : 1048576 < s.size
  · go_enter Try.func8, Try.ntmps8
    go_wp2
    go_ret
    exact ⟨rfl, Below.refl _ _⟩
  · have hl2 : s.size ≤ 1048576 := by omega
    by_cases ho : 40000 < s.size ∨ (s.size : Int) % 2 = 1
    · have HO := ho
      clear ho
      have HO2 : Hid (40000 < s.size ∨ (s.size : Int) % 2 = 1) := HO
      clear HO
      go_enter Try.func8, Try.ntmps8
      go_wp2_with (first | (go_at_call 20; refine (specUnhex_out s _ HO2.out).mono ?_; rintro e w1 ⟨rfl, rfl⟩) | (go_at_call 21; refine (implUnhex_out s _ HO2.out hl2).mono ?_; rintro e w2 ⟨rfl, rfl⟩))
      go_ret
      exact ⟨rfl, Below.refl _ _⟩
    · have hs4 : s.size ≤ 40000 := by omega
      have hn : Hid (s.size = 2 * (s.size / 2)) := by show s.size = 2 * (s.size / 2); omega
      clear ho
      by_cases hA : AllFig true s s.size
      · have HA : Hid (AllFig true s s.size) := hA
        clear hA
        go_enter Try.func8, Try.ntmps8
        go_wp2_with (first | (go_at_call 20; refine (specUnhex_yes s _ _ hs4 hn.out HA.out).mono ?_; rintro e w1 ⟨rfl, hb1⟩) | (go_at_call 21; refine (implUnhex_yes s _ _ hs4 hn.out HA.out).mono ?_; rintro e w2 ⟨rfl, hb2⟩))
        go_ret
        exact ⟨rfl, hb1.trans (hb2.mono hb1.size)⟩
      · have HA : Hid (¬ AllFig true s s.size) := hA
        clear hA
        go_enter Try.func8, Try.ntmps8
        go_wp2_with (first | (go_at_call 20; refine (specUnhex_no s _ _ hs4 hn.out HA.out).mono ?_; rintro e w1 ⟨rfl, hb1⟩) | (go_at_call 21; refine (implUnhex_no s _ _ hs4 hn.out HA).mono ?_; rintro e w2 ⟨hb2, rfl⟩))
        go_ret
        exact ⟨rfl, hb1.trans (hb2.mono hb1.size)⟩
end Go.Proofs.Ytiebfakfgmckiaa
