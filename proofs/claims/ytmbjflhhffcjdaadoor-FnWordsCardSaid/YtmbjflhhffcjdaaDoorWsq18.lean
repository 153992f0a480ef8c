/- Joined texts: CXsp. -/
import Derived.Test.YtmbjflhhffcjdaaDoorWsq16
import Derived.Test.YtmbjflhhffcjdaaDoorWsq17
import Derived.Test.YtmbjflhhffcjdaaDoorWsq7
/- The walks over SplitPrivate, of the program and of the specification, and the law on it. -/
namespace Go.Proofs.YtmbjflhhffcjdaaDoor
open Go.RowKit Pl
set_option linter.unusedVariables false

theorem fig_decOk (d : Nat) (h1 : 1 ≤ d) (h2 : d ≤ 9) : DecOk (figS d) ∧ dv (figS d) (figS d).size = d := by
  have hd : d = 1 ∨ d = 2 ∨ d = 3 ∨ d = 4 ∨ d = 5 ∨ d = 6 ∨ d = 7 ∨ d = 8 ∨ d = 9 := by omega
  have hs : (figS d).size = 1 := rfl
  have e : dv (figS d) (figS d).size = d := by
    rcases hd with rfl | rfl | rfl | rfl | rfl | rfl | rfl | rfl | rfl <;> rfl
  refine ⟨⟨?_, by omega, by omega, by omega⟩, e⟩
  intro j hj _
  obtain rfl : j = 0 := by omega
  rcases hd with rfl | rfl | rfl | rfl | rfl | rfl | rfl | rfl | rfl <;> rfl

theorem rd_fig (d : Nat) (w : World) (h1 : 1 ≤ d) (h2 : d ≤ 9) :
    Calls Tryd.prog 102 #[.string (figS d)] w fun e w' => e = .returned (.tuple #[.int .i64 d, .bool true]) ∧ Below w.heap.size w w' := by
  have h := implRd_ok (figS d) w (by have : (figS d).size = 1 := rfl; omega) (fig_decOk d h1 h2).1
  rw [(fig_decOk d h1 h2).2] at h
  exact h

/-- ReadDecimal at whatever text: the empty one is no number. -/
theorem rd_any (f : ByteArray) (w : World) :
    Calls Tryd.prog 102 #[.string f] w fun e w' => ∃ (m : Int) (ok : Bool), e = .returned (.tuple #[.int .i64 m, .bool ok]) ∧ Below w.heap.size w w' ∧ (f.size = 0 → ok = false) := by
  by_cases hl : f.size ≤ 10
  · by_cases h : DecOk f
    · refine (implRd_ok f w hl h).mono fun e w' he => ⟨_, true, he.1, he.2, fun h0 => ?_⟩
      obtain ⟨_, _, h0', _⟩ := h
      omega
    · exact (implRd_not f w hl h).mono fun e w' he => ⟨_, false, he.1, he.2, fun _ => rfl⟩
  · refine (implRd_long f w (by omega)).mono ?_
    rintro e w' ⟨rfl, rfl⟩
    exact ⟨_, _, rfl, Below.refl _ _, fun h0 => by omega⟩

set_option maxRecDepth 100000 in
set_option maxHeartbeats 1000000 in
theorem implSplit_yes (s : ByteArray) (d : Nat) (t : ByteArray) (w : World) (hp : IsPriv s d t) :
    Calls Tryd.prog 75 #[.string s] w fun e w' => e = .returned (.tuple #[.int .i64 d, .string t, .bool true]) ∧ Below w.heap.size w w' := by
  have hpv := privB_yes hp
  obtain ⟨h1, h2, h3, h4⟩ := hp
  have hts : t.size ≤ 12 := h3.2.1
  have hss : s.size = t.size + 3 := by rw [h4, priv_size]
  obtain ⟨u, hu⟩ : ∃ u, u = s.extract 1 s.size := ⟨_, rfl⟩
  have hcut := priv_cut (t := t) h2 u (by rw [hu, h4])
  obtain ⟨hc1, hc2, hc3, hc4⟩ := hcut
  have hus : u.size ≤ s.size := by rw [hu, ByteArray.size_extract]; omega
  have hc : ((s.extract 0 1).toList == [35]) = true := by
    rw [ByteArray.toList_eq, extract_list, h4, priv_list]
    rfl
  have X1 := fun w => trim_mark s w (by omega) hc
  rw [← hu] at X1
  have X2 := fun w => cut_at u w 1 (by omega) (by unfold maxLen; omega) hc1
  rw [hc2, hc3] at X2
  have X3 := fun w => rd_fig d w h1 h2
  have X4 := fun w => implPriv d t w
  rw [hpv] at X4
  have X5 := fun w => clone_any t w (by omega)
  obtain ⟨F, hF⟩ : ∃ F, F = figS d := ⟨_, rfl⟩
  rw [← hF] at X2 X3
  clear hc hc1 hc2 hc3 hc4 hpv hu h4 h3 hF hss hts hus
  go_enter Tryd.func75, Tryd.ntmps75
  go_wp2_with (first | (go_at_call 101; refine (X1 _).mono ?_; rintro e w1 ⟨rfl, rfl⟩) | (go_at_call 100; refine (X2 _).mono ?_; rintro e w2 ⟨rfl, nq, rfl⟩) | (go_at_call 102; refine (X3 _).mono ?_; rintro e w3 ⟨rfl, hb3⟩) | (go_at_call 103; refine (X4 _).mono ?_; rintro e w4 ⟨rfl, hb4⟩) | (go_at_call 104; refine (X5 _).mono ?_; rintro e w5 ⟨rfl, hb5⟩))
  go_ret3
  exact ⟨rfl, (below_drewN (Below.refl _ _) _).trans ((hb3.trans (hb4.mono hb3.size)).trans (hb5.mono (Nat.le_trans hb3.size hb4.size)))⟩

theorem priv_other (s : ByteArray) (w : World) (h0 : 0 < s.size) (hno : ∀ d t, ¬ IsPriv s d t) (m : Int) (n : ByteArray) :
    Calls Tryd.prog 103 #[.int .i64 m, .string n] w fun e w' => ∃ p : ByteArray, e = .returned (.string p) ∧ Below w.heap.size w w' ∧ (p.toList == s.toList) = false := by
  refine (implPriv m n w).mono ?_
  rintro e w' ⟨rfl, hb⟩
  refine ⟨_, rfl, hb, ?_⟩
  rw [beq_eq_false_iff_ne, ByteArray.toList_eq, ByteArray.toList_eq]
  intro h
  exact privB_no hno h0 m n (list_ext h)

set_option maxRecDepth 100000 in
set_option maxHeartbeats 1000000 in
theorem implSplit_no (s : ByteArray) (w : World) (hs : s.size ≤ 1048576) (hno : Hid (∀ d t, ¬ IsPriv s d t)) :
    Calls Tryd.prog 75 #[.string s] w fun e w' => e = .returned (.tuple #[.int .i64 0, .string ⟨#[]⟩, .bool false]) ∧ Below w.heap.size w w' := by
  have hlim : (1048576 : Nat) ≤ maxLen := by decide
  by_cases h0 : 0 < s.size
  · have X4 := fun w m n => priv_other s w h0 hno.out m n
    go_enter Tryd.func75, Tryd.ntmps75
    go_wp2_with (first | (go_at_call 101; refine (trim_any s _).mono ?_; rintro e w1 ⟨u, rfl, rfl, hu⟩) | (go_at_call 100; refine (cut_any u _ (by omega)).mono ?_; rintro e w2 ⟨f, n, b, rfl, ⟨nq, rfl⟩, hf, hn⟩) | (go_at_call 102; refine (rd_any f _).mono ?_; rintro e w3 ⟨m, ok, rfl, hb3, hok⟩; clear hok; cases ok) | (go_at_call 103; refine (X4 _ m n).mono ?_; rintro e w4 ⟨p, rfl, hb4, hpe⟩))
    · go_ret3
      exact ⟨rfl, (below_drewN (Below.refl _ _) _).trans hb3⟩
    · go_ret3
      exact ⟨rfl, (below_drewN (Below.refl _ _) _).trans (hb3.trans (hb4.mono hb3.size))⟩
  · go_enter Tryd.func75, Tryd.ntmps75
    go_wp2_with (first | (go_at_call 101; refine (trim_any s _).mono ?_; rintro e w1 ⟨u, rfl, rfl, hu⟩) | (go_at_call 100; refine (cut_any u _ (by omega)).mono ?_; rintro e w2 ⟨f, n, b, rfl, ⟨nq, rfl⟩, hf, hn⟩) | (go_at_call 102; refine (rd_any f _).mono ?_; rintro e w3 ⟨m, ok, rfl, hb3, hok⟩; obtain rfl := hok (by omega)))
    go_ret3
    exact ⟨rfl, (below_drewN (Below.refl _ _) _).trans hb3⟩

set_option maxRecDepth 100000 in
set_option maxHeartbeats 1000000 in
theorem specSplit_yes (s : ByteArray) (d : Nat) (t : ByteArray) (w : World) (hp : IsPriv s d t) :
    Calls Tryd.prog 71 #[.string s] w fun e w' => e = .returned (.tuple #[.int .i64 d, .string t, .bool true]) ∧ Below w.heap.size w w' := by
  obtain ⟨h1, h2, h3, h4⟩ := hp
  have hts : t.size ≤ 12 := h3.2.1
  have hts1 : 1 ≤ t.size := h3.1
  have hss : s.size = t.size + 3 := by rw [h4, priv_size]
  have hb := priv_bytes (t := t) h2
  rw [← h4] at hb
  obtain ⟨k0, k1, k2, e0, e1, e2, e3⟩ := hb
  have X := fun w => specName_any t w
  rw [nmB_yes h3, ← e3] at X
  have E3 : Hid (s.extract 3 s.size = t) := e3
  have hsz : 4 ≤ s.size := by omega
  clear h4 hss hts hts1 h3 e3
  have b1 : (1 : Int) < (s.size : Int) := by omega
  have b3 : (3 : Int) ≤ (s.size : Int) := by omega
  go_enter Tryd.func71, Tryd.ntmps71
  go_wp2_with (first | (go_at_call 66; refine (X _).mono ?_; rintro e w1 ⟨rfl, hb1⟩))
  go_region
  go_wp2
  go_ret3
  refine ⟨?_, below_drewN hb1 1⟩
  rw [← E3.out]
  simp
  omega

set_option maxRecDepth 100000 in
set_option maxHeartbeats 1000000 in
theorem specSplit_no (s : ByteArray) (w : World) (hno : Hid (∀ d t, ¬ IsPriv s d t)) :
    Calls Tryd.prog 71 #[.string s] w fun e w' => e = .returned (.tuple #[.int .i64 0, .string ⟨#[]⟩, .bool false]) ∧ Below w.heap.size w w' := by
  by_cases hsz : 4 ≤ s.size
  · have k0 : 0 < s.size := by omega
    have k1 : 1 < s.size := by omega
    have k2 : 2 < s.size := by omega
    have c1 : (s[1]'k1).toNat < 256 := UInt8.toNat_lt _
    by_cases e0 : (s[0]'k0).toNat = 35
    · by_cases e2 : (s[2]'k2).toNat = 35
      · rcases (show (s[1]'k1).toNat < 49 ∨ 57 < (s[1]'k1).toNat ∨ (49 ≤ (s[1]'k1).toNat ∧ (s[1]'k1).toNat ≤ 57) by omega) with h1 | h1 | ⟨h1, h2⟩
        · go_enter Tryd.func71, Tryd.ntmps71
          go_wp2
          go_ret3
          exact ⟨rfl, Below.refl _ _⟩
        · have h2 : ¬ (s[1]'k1).toNat < 49 := by omega
          go_enter Tryd.func71, Tryd.ntmps71
          go_wp2
          go_ret3
          exact ⟨rfl, Below.refl _ _⟩
        · have hn : nmB (s.extract 3 s.size) = false := by
            cases hh : nmB (s.extract 3 s.size) with
            | false => rfl
            | true => exact absurd (isPriv_of k0 k1 k2 e0 e2 h1 h2 hh) (hno.out _ _)
          have X := fun w => specName_any (s.extract 3 s.size) w
          rw [hn] at X
          clear hn
          go_enter Tryd.func71, Tryd.ntmps71
          go_wp2_with (first | (go_at_call 66; refine (X _).mono ?_; rintro e w1 ⟨rfl, hb1⟩))
          go_ret3
          exact ⟨rfl, hb1⟩
      · go_enter Tryd.func71, Tryd.ntmps71
        go_wp2
        go_ret3
        exact ⟨rfl, Below.refl _ _⟩
    · go_enter Tryd.func71, Tryd.ntmps71
      go_wp2
      go_ret3
      exact ⟨rfl, Below.refl _ _⟩
  · go_enter Tryd.func71, Tryd.ntmps71
    go_wp2
    go_ret3
    exact ⟨rfl, Below.refl _ _⟩

end Go.Proofs.YtmbjflhhffcjdaaDoor


