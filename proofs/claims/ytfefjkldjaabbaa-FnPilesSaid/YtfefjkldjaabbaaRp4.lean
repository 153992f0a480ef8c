/- The walks over the specification's ReadPiece and over the law on ReadPiece. -/
import Derived.Test.YtfefjkldjaabbaaSc
import Derived.Test.YtfefjkldjaabbaaRp3
import Derived.Test.YtfefjkldjaabbaaWn
namespace Go.Proofs.Ytfefjkldjaabbaa
open Go.RowKit Pl
set_option linter.unusedVariables false

/-- what the specification's reader has found of a piece. -/
def FndP (s : ByteArray) (n p c k : Nat) (b : Bool) : Prop := ∃ i b1 j b2, VarF s 0 false n i b1 ∧ VarF s i b1 p j b2 ∧ VarF s j b2 c k b

theorem VarF.good {s : ByteArray} {A n i m j : Nat} {b : Bool} (h : VarF s A false n i b) (hr : rv s A = some (m, j)) : n = m ∧ i = j ∧ b = false := by
  rcases h with ⟨_, h1, h2⟩ | ⟨_, _, _, h4⟩
  · rw [hr] at h1
    simp only [Option.some.injEq, Prod.mk.injEq] at h1
    exact ⟨h1.1.symm, h1.2.symm, h2⟩
  · rcases h4 with h4 | h4
    · cases h4
    · rw [hr] at h4; cases h4
theorem VarF.none {s : ByteArray} {A n i : Nat} {b b' : Bool} (h : VarF s A b n i b') (hr : rv s A = none) : b' = true := by
  rcases h with ⟨_, h1, _⟩ | ⟨_, _, h3, _⟩
  · rw [hr] at h1; cases h1
  · exact h3
theorem VarF.bad {s : ByteArray} {A n i : Nat} {b' : Bool} (h : VarF s A true n i b') : b' = true := by
  rcases h with ⟨h1, _, _⟩ | ⟨_, _, h3, _⟩
  · cases h1
  · exact h3
theorem FndP.bad {s : ByteArray} {n p c k : Nat} (h : FndP s n p c k true) : rawP s = none := by
  obtain ⟨i, b1, j, b2, h1, h2, h3⟩ := h
  rcases e0 : rv s 0 with _ | ⟨n', i'⟩
  · exact rawP_n0 e0
  obtain ⟨rfl, rfl, rfl⟩ := h1.good e0
  rcases e1 : rv s i with _ | ⟨p', j'⟩
  · exact rawP_n1 e0 e1
  obtain ⟨rfl, rfl, rfl⟩ := h2.good e1
  rcases e2 : rv s j with _ | ⟨c', k'⟩
  · exact rawP_n2 e0 e1 e2
  obtain ⟨_, _, h⟩ := h3.good e2
  cases h
theorem FndP.good {s : ByteArray} {n p c k : Nat} (h : FndP s n p c k false) : rawP s = some (n, p, c, s.extract k s.size) := by
  obtain ⟨i, b1, j, b2, h1, h2, h3⟩ := h
  rcases e0 : rv s 0 with _ | ⟨n', i'⟩
  · cases h1.none e0
    cases h2.bad
    cases h3.bad
  obtain ⟨rfl, rfl, rfl⟩ := h1.good e0
  rcases e1 : rv s i with _ | ⟨p', j'⟩
  · cases h2.none e1
    cases h3.bad
  obtain ⟨rfl, rfl, rfl⟩ := h2.good e1
  rcases e2 : rv s j with _ | ⟨c', k'⟩
  · cases h3.none e2
  obtain ⟨rfl, rfl, _⟩ := h3.good e2
  exact rawP_some e0 e1 e2

theorem Pl.AnsP.one {s t t' : ByteArray} {n p c n' p' c' : Nat} {r r' : Bool} (h : AnsP s n p c t r) (h' : AnsP s n' p' c' t' r') : n = n' ∧ p = p' ∧ c = c' ∧ t = t' ∧ r = r' := by
  rcases h with ⟨h1, rfl⟩ | ⟨h1, rfl, rfl, rfl, rfl, rfl⟩ <;> rcases h' with ⟨h2, rfl⟩ | ⟨h2, rfl, rfl, rfl, rfl, rfl⟩
  · rw [h1] at h2
    simp only [Option.some.injEq, Prod.mk.injEq] at h2
    obtain ⟨rfl, rfl, rfl, rfl⟩ := h2
    exact ⟨rfl, rfl, rfl, rfl, rfl⟩
  · rw [h1] at h2; cases h2
  · rw [h1] at h2; cases h2
  · exact ⟨rfl, rfl, rfl, rfl, rfl⟩
theorem ansP_of {s : ByteArray} {n p c k : Nat} (h : FndP s n p c k false) (hr : rightB n p c (s.extract k s.size) = true) : AnsP s n p c (s.extract k s.size) true := .inl ⟨pcP_good h.good hr, rfl⟩
theorem ansP_no {s : ByteArray} {n p c k : Nat} (h : FndP s n p c k false) (hr : rightB n p c (s.extract k s.size) = false) : AnsP s 0 0 0 ByteArray.empty false := .inr ⟨pcP_bad h.good hr, rfl, rfl, rfl, rfl, rfl⟩
theorem ansP_bad {s : ByteArray} {n p c k : Nat} (h : FndP s n p c k true) : AnsP s 0 0 0 ByteArray.empty false := .inr ⟨pcP_none h.bad, rfl, rfl, rfl, rfl, rfl⟩

set_option maxRecDepth 100000 in
set_option maxHeartbeats 4000000 in
theorem spReadPiece_any (s : ByteArray) (w : World) (hs : s.size ≤ 1048576) :
    Calls Try.prog 22 #[.string s] w fun e w' => ∃ (q f l : Nat) (t : ByteArray) (r : Bool), e = .returned (.tuple #[.int .i64 q, .int .i64 f, .int .i64 l, .string t, .bool r]) ∧ AnsP s q f l t r ∧ Below w.heap.size w w' := by
  have H1 : Hid (PcAt (w.alloc (.cells #[.string s, .int .i64 0, .bool false] 70)) w.heap.size s 0 false) := heap_alloc_new w _
  have B1 : Hid (Below w.heap.size w (w.alloc (.cells #[.string s, .int .i64 0, .bool false] 70))) := (Below.refl _ _).alloc (Nat.le_refl _) _
  go_enter Try.func22, Try.ntmps22
  go_wp2_with fail
  generalize w.alloc (.cells #[.string s, .int .i64 0, .bool false] 70) = W at *
  refine (lvar_any s w.heap.size 0 false W H1 hs (Nat.zero_le _)).mono ?_
  rintro e w1 ⟨n, i, b1, rfl, hn, hi, hp1, hk1, hF1⟩
  have HP1 : Hid (PcAt w1 w.heap.size s i b1) := hp1
  have HB1 : Hid (Below w.heap.size w w1) := B1.out.trans (hk1.below (Nat.le_refl _) B1.out.size)
  have HF1 : Hid (VarF s 0 false n i b1) := hF1
  clear hp1 hk1 hF1 H1 B1
  go_wp2_with fail
  refine (lvar_any s w.heap.size i b1 w1 HP1 hs hi).mono ?_
  rintro e w2 ⟨p, j, b2, rfl, hp, hj, hp2, hk2, hF2⟩
  have HP2 : Hid (PcAt w2 w.heap.size s j b2) := hp2
  have HB2 : Hid (Below w.heap.size w w2) := HB1.out.trans (hk2.below (Nat.le_refl _) HB1.out.size)
  have HF2 : Hid (VarF s i b1 p j b2) := hF2
  clear hp2 hk2 hF2 HP1 HB1
  go_wp2_with fail
  refine (lvar_any s w.heap.size j b2 w2 HP2 hs hj).mono ?_
  rintro e w3 ⟨c, k, b3, rfl, hc, hk, hp3, hk3, hF3⟩
  have HP3 : Hid (PcAt w3 w.heap.size s k b3) := hp3
  have HB3 : Hid (Below w.heap.size w w3) := HB2.out.trans (hk3.below (Nat.le_refl _) HB2.out.size)
  have HF : Hid (FndP s n p c k b3) := ⟨i, b1, j, b2, HF1.out, HF2.out, hF3⟩
  clear hp3 hk3 hF3 HP2 HB2 HF1 HF2 hi hj
  obtain ⟨c0, c1, c2, f0, f1, f2⟩ := HP3.out.cells
  cases b3 with
  | true =>
    go_wp2_with fail
    refine bodyPost_ret (v := .tuple #[.int .i64 0, .int .i64 0, .int .i64 0, .string ⟨#[]⟩, .bool false]) (by simp [results, Try.results22, go_sem]) rfl ?_
    exact ⟨0, 0, 0, ByteArray.empty, false, rfl, ansP_bad HF.out, HB3.out⟩
  | false =>
    generalize hr : rightB n p c (s.extract k s.size) = r
    have HR : Hid (rightB n p c (s.extract k s.size) = r) := hr
    have hr' := hr
    clear hr
    unfold rightB at hr'
    rw [show (s.extract k s.size).size = s.size - k by rw [ByteArray.size_extract]; omega] at hr'
    by_cases h1 : n ≤ 100000
    · by_cases h2 : 1 ≤ c ∧ c ≤ 10
      · have hci : decide ((1 : Int) ≤ (c : Int) ∧ (c : Int) ≤ 10) = true := by simp; omega
        obtain ⟨h2a, h2b⟩ := h2
        by_cases h3 : p < c
        · by_cases h4 : 40 < s.size - k
          · obtain rfl : false = r := by rw [← hr']; simp; omega
            clear hr'
            go_wp2_with (first | (go_at_call 41; refine (in_any c 1 10 _).mono ?_; rw [hci]; rintro e w4 ⟨rfl, rfl⟩))
            all_goals refine bodyPost_ret (v := .tuple #[.int .i64 0, .int .i64 0, .int .i64 0, .string ⟨#[]⟩, .bool false]) (by simp [results, Try.results22, go_sem]) rfl ?_
            all_goals (first | exact ⟨0, 0, 0, ByteArray.empty, false, rfl, ansP_no HF.out HR.out, HB3.out⟩ | exact ⟨0, 0, 0, ByteArray.empty, .inl ⟨rfl, ansP_no HF.out HR.out, HB3.out⟩⟩)
          · by_cases h5 : p + 1 = c
            · obtain rfl : true = r := by rw [← hr']; simp; omega
              have h5' : ((p : Int) + 1 == (c : Int)) = true := by simp; omega
              clear h5
              clear hr'
              go_wp2_with (first | (go_at_call 41; refine (in_any c 1 10 _).mono ?_; rw [hci]; rintro e w4 ⟨rfl, rfl⟩))
              refine bodyPost_ret (v := .tuple #[.int .i64 n, .int .i64 p, .int .i64 c, .string (s.extract k s.size), .bool true]) (by simp [results, Try.results22, go_sem]) rfl ?_
              exact ⟨n, p, c, _, true, rfl, ansP_of HF.out HR.out, HB3.out⟩
            · have h5' : ((p : Int) + 1 == (c : Int)) = false := by simp; omega
              by_cases h6 : s.size - k = 40
              · obtain rfl : true = r := by rw [← hr']; simp; omega
                have h6' : (((s.size - k : Nat) : Int) == 40) = true := by simp; omega
                have h6'' : (((s.size - k : Nat) : Int) != 40) = false := by simp; omega
                clear h5 h6
                clear hr'
                go_wp2_with (first | (go_at_call 41; refine (in_any c 1 10 _).mono ?_; rw [hci]; rintro e w4 ⟨rfl, rfl⟩))
                refine bodyPost_ret (v := .tuple #[.int .i64 n, .int .i64 p, .int .i64 c, .string (s.extract k s.size), .bool true]) (by simp [results, Try.results22, go_sem]) rfl ?_
                exact ⟨n, p, c, _, true, rfl, ansP_of HF.out HR.out, HB3.out⟩
              · obtain rfl : false = r := by rw [← hr']; simp; omega
                have h6' : (((s.size - k : Nat) : Int) == 40) = false := by simp; omega
                have h6'' : (((s.size - k : Nat) : Int) != 40) = true := by simp; omega
                clear h5 h6
                clear hr'
                go_wp2_with (first | (go_at_call 41; refine (in_any c 1 10 _).mono ?_; rw [hci]; rintro e w4 ⟨rfl, rfl⟩))
                refine bodyPost_ret (v := .tuple #[.int .i64 0, .int .i64 0, .int .i64 0, .string ⟨#[]⟩, .bool false]) (by simp [results, Try.results22, go_sem]) rfl ?_
                (first | exact ⟨0, 0, 0, ByteArray.empty, false, rfl, ansP_no HF.out HR.out, HB3.out⟩ | exact ⟨0, 0, 0, ByteArray.empty, .inl ⟨rfl, ansP_no HF.out HR.out, HB3.out⟩⟩)
        · obtain rfl : false = r := by rw [← hr']; simp; omega
          clear hr'
          go_wp2_with (first | (go_at_call 41; refine (in_any c 1 10 _).mono ?_; rw [hci]; rintro e w4 ⟨rfl, rfl⟩))
          refine bodyPost_ret (v := .tuple #[.int .i64 0, .int .i64 0, .int .i64 0, .string ⟨#[]⟩, .bool false]) (by simp [results, Try.results22, go_sem]) rfl ?_
          (first | exact ⟨0, 0, 0, ByteArray.empty, false, rfl, ansP_no HF.out HR.out, HB3.out⟩ | exact ⟨0, 0, 0, ByteArray.empty, .inl ⟨rfl, ansP_no HF.out HR.out, HB3.out⟩⟩)
      · have hci : decide ((1 : Int) ≤ (c : Int) ∧ (c : Int) ≤ 10) = false := by simp; omega
        obtain rfl : false = r := by rw [← hr']; simp; omega
        clear h2
        clear hr'
        go_wp2_with (first | (go_at_call 41; refine (in_any c 1 10 _).mono ?_; rw [hci]; rintro e w4 ⟨rfl, rfl⟩))
        refine bodyPost_ret (v := .tuple #[.int .i64 0, .int .i64 0, .int .i64 0, .string ⟨#[]⟩, .bool false]) (by simp [results, Try.results22, go_sem]) rfl ?_
        (first | exact ⟨0, 0, 0, ByteArray.empty, false, rfl, ansP_no HF.out HR.out, HB3.out⟩ | exact ⟨0, 0, 0, ByteArray.empty, .inl ⟨rfl, ansP_no HF.out HR.out, HB3.out⟩⟩)
    · obtain rfl : false = r := by rw [← hr']; simp; omega
      clear hr'
      go_wp2_with (first | (go_at_call 41; refine (in_any c 1 10 _).mono ?_; rintro e w4 ⟨rfl, rfl⟩))
      refine bodyPost_ret (v := .tuple #[.int .i64 0, .int .i64 0, .int .i64 0, .string ⟨#[]⟩, .bool false]) (by simp [results, Try.results22, go_sem]) rfl ?_
      (first | exact ⟨0, 0, 0, ByteArray.empty, false, rfl, ansP_no HF.out HR.out, HB3.out⟩ | exact ⟨0, 0, 0, ByteArray.empty, .inl ⟨rfl, ansP_no HF.out HR.out, HB3.out⟩⟩)


set_option maxRecDepth 100000 in
set_option maxHeartbeats 2000000 in
theorem lawReadPiece (s : ByteArray) (w : World) (hm : s.size ≤ maxLen) :
    Calls Try.prog 6 #[.string s] w fun e w' => e = .returned (.bool true) ∧ Below w.heap.size w w' := by
  unfold maxLen at hm
  by_cases hs : s.size ≤ 1048576
  · go_enter Try.func6, Try.ntmps6
    go_wp2_with fail
    refine (spReadPiece_any s w hs).mono ?_
    rintro e w1 ⟨q, f, l, t, r, rfl, ha, hb⟩
    have HA : Hid (AnsP s q f l t r) := ha
    have HB : Hid (Below w.heap.size w w1) := hb
    clear ha hb
    go_wp2_with fail
    refine (ReadPiece_any s w1 hs).mono ?_
    rintro e w2 ⟨q', f', l', t', r', rfl, ha, hb⟩
    obtain ⟨rfl, rfl, rfl, rfl, rfl⟩ := HA.out.one ha
    have HB2 : Hid (Below w.heap.size w w2) := HB.out.trans (hb.mono HB.out.size)
    clear ha hb HA HB
    go_wp2_with fail
    go_ret
    exact ⟨rfl, HB2.out⟩
  · go_enter Try.func6, Try.ntmps6
    go_wp2
    go_ret
    exact ⟨rfl, Below.refl _ _⟩
end Go.Proofs.Ytfefjkldjaabbaa
