/- Joined texts: CSvb CIvb CSvd CRbw CRbx CWts CSbw CLrw. -/
import Derived.Test.YtmbjflhhffcjdaaDoorRwq23
import Derived.Test.YtmbjflhhffcjdaaDoorRwq27
import Derived.Test.YtmbjflhhffcjdaaDoorRwq22
import Derived.Test.YtmbjflhhffcjdaaDoorRwq19
import Derived.Test.YtmbjflhhffcjdaaDoorRwq18
import Derived.Test.YtmbjflhhffcjdaaDoorRwq20
import Derived.Test.YtmbjflhhffcjdaaDoorRwq16
import Derived.Test.YtmbjflhhffcjdaaDoorRwq11
import Derived.Test.YtmbjflhhffcjdaaDoorRwq12
import Derived.Test.YtmbjflhhffcjdaaDoorRwq15
import Derived.Test.YtmbjflhhffcjdaaDoorRwq3
/- The specification's WordOk. Written by gen_svb.py. -/
namespace Go.Proofs.YtmbjflhhffcjdaaDoor
open Go.RowKit Pl
set_option linter.unusedVariables false
set_option linter.unusedSimpArgs false

theorem size_zero {t : ByteArray} (h : t.size = 0) : t = ⟨#[]⟩ := ByteArray.ext (Array.eq_empty_of_size_eq_zero h)
set_option maxRecDepth 100000 in
set_option maxHeartbeats 8000000 in
theorem spWordOk_any (k : Int) (who : ByteArray) (gs : List ByteArray) (t : ByteArray) (s : Sv) (w : World) (hx : Hid (RT w s.v gs)) (hl : gs.length ≤ 1048576) :
    Calls Tryd.prog 13 #[.agg #[.int .i64 k, .string who, .slice s.a s.n s.c, .string t]] w fun e w' => e = .returned (.bool (wdB k who gs t)) ∧ Below w.heap.size w w' := by
  obtain ⟨ao, cap, hv, hx0⟩ := hx.out
  unfold Sv.v at hv
  rw [hv]
  have HX0 : Hid (TextsAt w ao gs) := hx0
  clear hv hx hx0
  have LA : Hid (Bx (w.alloc (.cells #[.int .i64 k, .string who, .slice ao gs.length cap, .string t] 26)) w.heap.size 26 [.int .i64 k, .string who, .slice ao gs.length cap, .string t]) := by
    have h := Bx.new w 26 [.int .i64 k, .string who, .slice ao gs.length cap, .string t]
    exact h
  have BW : Hid (Below w.heap.size w (w.alloc (.cells #[.int .i64 k, .string who, .slice ao gs.length cap, .string t] 26))) := ((Below.refl _ _).alloc (by simp) _)
  have HX : Hid (TextsAt (w.alloc (.cells #[.int .i64 k, .string who, .slice ao gs.length cap, .string t] 26)) ao gs) := HX0.out.stays BW.out
  clear HX0
  go_enter Tryd.func13, Tryd.ntmps13
  have c0 := LA.out.cell 0
  simp only [List.getElem?_cons_succ, List.getElem?_cons_zero] at c0
  go_wp2_with fail
  generalize (w.alloc (.cells #[.int .i64 k, .string who, .slice ao gs.length cap, .string t] 26)) = W at *
  clear c0
  refine (in_any k 1 4 _).mono ?_
  rintro e w1 ⟨rfl, rfl⟩
  cases h1 : decide (1 ≤ k ∧ k ≤ 4) with
  | false =>
    have HV : Hid (wdB k who gs t = false) := (by unfold wdB; rw [h1]; rfl : _ = _)
    go_wp2_with fail
    go_ret
    exact ⟨by rw [HV.out]; rfl, BW.out⟩
  | true =>
    have H1 : Hid (decide (1 ≤ k ∧ k ≤ 4) = true) := h1
    clear h1
    have c1 := LA.out.cell 1
    simp only [List.getElem?_cons_succ, List.getElem?_cons_zero] at c1
    go_wp2_with fail
    clear c1
    refine (spPriv_any who _).mono ?_
    rintro e w2 ⟨rfl, b⟩
    have LA : Hid (Bx w2 w.heap.size 26 [.int .i64 k, .string who, .slice ao gs.length cap, .string t]) := LA.out.later b
    have BW : Hid (Below w.heap.size w w2) := bl_next BW.out b
    have HX : Hid (TextsAt w2 ao gs) := HX.out.stays b
    clear b
    cases h2 : prB who with
    | false =>
      have HV : Hid (wdB k who gs t = false) := (by unfold wdB; rw [H1.out, h2]; rfl : _ = _)
      clear h2
      go_wp2_with fail
      go_ret
      exact ⟨by rw [HV.out]; rfl, BW.out⟩
    | true =>
      have H2 : Hid (prB who = true) := h2
      clear h2
      have c2 := LA.out.cell 2
      simp only [List.getElem?_cons_succ, List.getElem?_cons_zero] at c2
      go_wp2_with fail
      clear c2
      refine (spNames_any ⟨ao, gs.length, cap⟩ gs _ (show Hid (RT _ _ gs) from ⟨ao, cap, rfl, HX.out⟩) hl).mono ?_
      rintro e w3 ⟨rfl, b⟩
      have LA : Hid (Bx w3 w.heap.size 26 [.int .i64 k, .string who, .slice ao gs.length cap, .string t]) := LA.out.later b
      have BW : Hid (Below w.heap.size w w3) := bl_next BW.out b
      have HX : Hid (TextsAt w3 ao gs) := HX.out.stays b
      clear b
      cases h3 : namesB gs with
      | false =>
        have HV : Hid (wdB k who gs t = false) := (by unfold wdB; rw [H1.out, H2.out, h3]; rfl : _ = _)
        clear h3
        go_wp2_with fail
        go_ret
        exact ⟨by rw [HV.out]; rfl, BW.out⟩
      | true =>
        have H3 : Hid (namesB gs = true) := h3
        clear h3
        have HV : Hid (wdB k who gs t = (if k = 4 then decide (1 ≤ (gs.length : Int) ∧ (gs.length : Int) ≤ 3) && decide (t.size ≤ 20) else if k = 3 then decide (gs.length = 0) && decide (t.size = 0) else decide (gs.length = 1) && decide (t.size = 0))) := (by unfold wdB; rw [H1.out, H2.out, H3.out]; rfl : _ = _)
        by_cases hk4 : k = 4
        · subst hk4
          have c0 := LA.out.cell 0
          have c2 := LA.out.cell 2
          have c3 := LA.out.cell 3
          simp only [List.getElem?_cons_succ, List.getElem?_cons_zero] at c0 c2 c3
          rw [if_pos rfl] at HV
          go_wp2_with fail
          clear c0 c2
          refine (in_any (gs.length : Int) 1 3 _).mono ?_
          rintro e w4 ⟨rfl, rfl⟩
          cases h4 : decide (1 ≤ (gs.length : Int) ∧ (gs.length : Int) ≤ 3) with
          | false =>
            have HV2 : Hid (wdB 4 who gs t = false) := (by rw [HV.out, h4]; rfl : _ = _)
            clear h4
            go_wp2_with fail
            go_ret
            exact ⟨by rw [HV2.out]; rfl, BW.out⟩
          | true =>
            cases h5 : decide (t.size ≤ 20) with
            | false =>
              have HV2 : Hid (wdB 4 who gs t = false) := (by rw [HV.out, h4, h5]; rfl : _ = _)
              have h6 : decide ((t.size : Int) ≤ 20) = false := by simp at h5 ⊢; omega
              clear h4 h5
              go_wp2_with fail
              go_ret
              exact ⟨by rw [HV2.out]; rfl, BW.out⟩
            | true =>
              have HV2 : Hid (wdB 4 who gs t = true) := (by rw [HV.out, h4, h5]; rfl : _ = _)
              have h6 : decide ((t.size : Int) ≤ 20) = true := by simp at h5 ⊢; omega
              clear h4 h5
              go_wp2_with fail
              go_ret
              exact ⟨by rw [HV2.out]; rfl, BW.out⟩
        rw [if_neg hk4] at HV
        by_cases hk3 : k = 3
        · subst hk3
          have c0 := LA.out.cell 0
          have c2 := LA.out.cell 2
          have c3 := LA.out.cell 3
          simp only [List.getElem?_cons_succ, List.getElem?_cons_zero] at c0 c2 c3
          rw [if_pos rfl] at HV
          cases h4 : decide (gs.length = 0) with
          | false =>
            have HV2 : Hid (wdB 3 who gs t = false) := (by rw [HV.out, h4]; rfl : _ = _)
            have h6 : ((gs.length : Int) == 0) = false := by simp at h4 ⊢; omega
            clear h4
            go_wp2_with fail
            go_ret
            exact ⟨by rw [HV2.out]; rfl, BW.out⟩
          | true =>
            have h6 : ((gs.length : Int) == 0) = true := by simp at h4 ⊢; omega
            cases h5 : decide (t.size = 0) with
            | false =>
              have HV2 : Hid (wdB 3 who gs t = false) := (by rw [HV.out, h4, h5]; rfl : _ = _)
              have h7 : (t.toList == []) = false := notEmpty (by have := of_decide_eq_false h5; omega)
              have h8 : t.toList.isEmpty = false := notEmpty' (by have := of_decide_eq_false h5; omega)
              clear h4 h5
              go_wp2_with fail
              go_ret
              exact ⟨by rw [HV2.out]; rfl, BW.out⟩
            | true =>
              have HV2 : Hid (wdB 3 who gs t = true) := (by rw [HV.out, h4, h5]; rfl : _ = _)
              obtain rfl : t = ⟨#[]⟩ := size_zero (of_decide_eq_true h5)
              clear h4 h5
              go_wp2_with fail
              go_ret
              exact ⟨by rw [HV2.out]; rfl, BW.out⟩
        rw [if_neg hk3] at HV
        have c0 := LA.out.cell 0
        have c2 := LA.out.cell 2
        have c3 := LA.out.cell 3
        simp only [List.getElem?_cons_succ, List.getElem?_cons_zero] at c0 c2 c3
        have g4 : (k == 4) = false := by simp; omega
        have g3 : (k == 3) = false := by simp; omega
        clear hk3 hk4
        cases h4 : decide (gs.length = 1) with
        | false =>
          have HV2 : Hid (wdB k who gs t = false) := (by rw [HV.out, h4]; rfl : _ = _)
          have h6 : ((gs.length : Int) == 1) = false := by simp at h4 ⊢; omega
          clear h4
          go_wp2_with fail
          go_ret
          exact ⟨by rw [HV2.out]; rfl, BW.out⟩
        | true =>
          have h6 : ((gs.length : Int) == 1) = true := by simp at h4 ⊢; omega
          cases h5 : decide (t.size = 0) with
          | false =>
            have HV2 : Hid (wdB k who gs t = false) := (by rw [HV.out, h4, h5]; rfl : _ = _)
            have h7 : (t.toList == []) = false := notEmpty (by have := of_decide_eq_false h5; omega)
            have h8 : t.toList.isEmpty = false := notEmpty' (by have := of_decide_eq_false h5; omega)
            clear h4 h5
            go_wp2_with fail
            go_ret
            exact ⟨by rw [HV2.out]; rfl, BW.out⟩
          | true =>
            have HV2 : Hid (wdB k who gs t = true) := (by rw [HV.out, h4, h5]; rfl : _ = _)
            obtain rfl : t = ⟨#[]⟩ := size_zero (of_decide_eq_true h5)
            clear h4 h5
            go_wp2_with fail
            go_ret
            exact ⟨by rw [HV2.out]; rfl, BW.out⟩
end Go.Proofs.YtmbjflhhffcjdaaDoor


/- The program's countOk, WordOk. Written by gen_ivb.py. -/
namespace Go.Proofs.YtmbjflhhffcjdaaDoor
open Go.RowKit Pl
set_option linter.unusedVariables false
set_option linter.unusedSimpArgs false

/-- has a word of this kind as many groups as it wants? -/
def cntB (k : Int) (n : Nat) : Bool := if k = 4 then decide (1 ≤ (n : Int) ∧ (n : Int) ≤ 3) else if k = 3 then decide ((n : Int) = 0) else if k = 1 ∨ k = 2 then decide ((n : Int) = 1) else false
theorem wdB_cnt {k : Int} {who : ByteArray} {gs : List ByteArray} {t : ByteArray} : wdB k who gs t = (prB who && (cntB k gs.length && (namesB gs && (decide (t.size ≤ 20) && (decide (k = 4) || decide (t.size = 0)))))) := by
  unfold wdB cntB
  have e0 : decide ((gs.length : Int) = 0) = decide (gs.length = 0) := by congr 1; apply propext; omega
  have e1 : decide ((gs.length : Int) = 1) = decide (gs.length = 1) := by congr 1; apply propext; omega
  rw [e0, e1]
  by_cases h4 : k = 4
  · subst h4
    cases prB who <;> cases namesB gs <;> simp
  · by_cases h3 : k = 3
    · subst h3
      by_cases ht : t.size = 0
      · have : t.size ≤ 20 := by omega
        cases prB who <;> cases namesB gs <;> simp [ht]
      · cases prB who <;> cases namesB gs <;> simp [ht]
    · by_cases h12 : k = 1 ∨ k = 2
      · have hk : 1 ≤ k ∧ k ≤ 4 := by omega
        by_cases ht : t.size = 0
        · have : t.size ≤ 20 := by omega
          cases prB who <;> cases namesB gs <;> simp [ht, h4, h3, h12, hk]
        · cases prB who <;> cases namesB gs <;> simp [ht, h4, h3, h12, hk]
      · have hk : ¬ (1 ≤ k ∧ k ≤ 4) := by omega
        cases prB who <;> cases namesB gs <;> simp [h4, h3, h12, hk]
theorem cnt4 (n : Nat) : cntB 4 n = (decide (1 ≤ (n : Int)) && decide ((n : Int) ≤ 3)) := by unfold cntB; rw [Bool.eq_iff_iff]; simp
theorem cnt3 (n : Nat) : cntB 3 n = ((n : Int) == 0) := by unfold cntB; rw [Bool.eq_iff_iff]; simp
theorem cnt1 (n : Nat) : cntB 1 n = ((n : Int) == 1) := by unfold cntB; rw [Bool.eq_iff_iff]; simp
theorem cnt2 (n : Nat) : cntB 2 n = ((n : Int) == 1) := by unfold cntB; rw [Bool.eq_iff_iff]; simp
set_option maxRecDepth 100000 in
set_option maxHeartbeats 8000000 in
theorem countOk_any (k : Int) (who : ByteArray) (gs : List ByteArray) (t : ByteArray) (s : Sv) (w : World) (hn : s.n = gs.length) :
    Calls Tryd.prog 50 #[.agg #[.int .i64 k, .string who, .slice s.a s.n s.c, .string t]] w fun e w' => e = .returned (.bool (cntB k gs.length)) ∧ Below w.heap.size w w' := by
  obtain ⟨a, n, c⟩ := s
  have hn : n = gs.length := hn
  subst hn
  dsimp only
  have LA : Hid (Bx (w.alloc (.cells #[.int .i64 k, .string who, .slice a gs.length c, .string t] 26)) w.heap.size 26 [.int .i64 k, .string who, .slice a gs.length c, .string t]) := by
    have h := Bx.new w 26 [.int .i64 k, .string who, .slice a gs.length c, .string t]
    exact h
  have BW : Hid (Below w.heap.size w (w.alloc (.cells #[.int .i64 k, .string who, .slice a gs.length c, .string t] 26))) := ((Below.refl _ _).alloc (by simp) _)
  have c0 := LA.out.cell 0
  have c2 := LA.out.cell 2
  simp only [List.getElem?_cons_succ, List.getElem?_cons_zero] at c0 c2
  by_cases h4 : k = 4
  · subst h4
    go_enter Tryd.func50, Tryd.ntmps50
    go_wp2_with fail
    refine (within_b (gs.length : Int) 1 3 _).mono ?_
    rintro e w1 ⟨rfl, b⟩
    go_wp2_with fail
    go_ret
    exact ⟨by rw [cnt4]; rfl, bl_next BW.out b⟩
  by_cases h3 : k = 3
  · subst h3
    go_enter Tryd.func50, Tryd.ntmps50
    go_wp2_with fail
    go_ret
    exact ⟨by rw [cnt3]; rfl, BW.out⟩
  by_cases h1 : k = 1
  · subst h1
    go_enter Tryd.func50, Tryd.ntmps50
    go_wp2_with fail
    go_ret
    exact ⟨by rw [cnt1]; rfl, BW.out⟩
  by_cases h2 : k = 2
  · subst h2
    go_enter Tryd.func50, Tryd.ntmps50
    go_wp2_with fail
    go_ret
    exact ⟨by rw [cnt2]; rfl, BW.out⟩
  have d1 : decide (k = 1) = false := by simp [h1]
  have d2 : decide (k = 2) = false := by simp [h2]
  have d3 : decide (k = 3) = false := by simp [h3]
  have d4 : decide (k = 4) = false := by simp [h4]
  go_enter Tryd.func50, Tryd.ntmps50
  go_wp2_with fail
  go_ret
  exact ⟨by simp [cntB, h1, h2, h3, h4], BW.out⟩
set_option maxRecDepth 100000 in
set_option maxHeartbeats 8000000 in
theorem wordOk_any (k : Int) (who : ByteArray) (gs : List ByteArray) (t : ByteArray) (s : Sv) (w : World) (hx : Hid (RT w s.v gs)) (hl : gs.length ≤ 1048576) (hz : Hid (∀ x ∈ gs, x.size ≤ 1048576)) (hw : who.size ≤ 1048576) :
    Calls Tryd.prog 14 #[.agg #[.int .i64 k, .string who, .slice s.a s.n s.c, .string t]] w fun e w' => e = .returned (.bool (wdB k who gs t)) ∧ Below w.heap.size w w' := by
  have hn : Hid (s.n = gs.length) := RT.len hx.out
  rw [wdB_cnt]
  have LA : Hid (Bx (w.alloc (.cells #[.int .i64 k, .string who, .slice s.a s.n s.c, .string t] 26)) w.heap.size 26 [.int .i64 k, .string who, .slice s.a s.n s.c, .string t]) := by
    have h := Bx.new w 26 [.int .i64 k, .string who, .slice s.a s.n s.c, .string t]
    exact h
  have BW : Hid (Below w.heap.size w (w.alloc (.cells #[.int .i64 k, .string who, .slice s.a s.n s.c, .string t] 26))) := ((Below.refl _ _).alloc (by simp) _)
  have HX : Hid (RT (w.alloc (.cells #[.int .i64 k, .string who, .slice s.a s.n s.c, .string t] 26)) s.v gs) := hx.out.stays BW.out
  clear hx
  have c1 := LA.out.cell 1
  simp only [List.getElem?_cons_succ, List.getElem?_cons_zero] at c1
  go_enter Tryd.func14, Tryd.ntmps14
  go_wp2_with fail
  clear c1
  generalize (w.alloc (.cells #[.int .i64 k, .string who, .slice s.a s.n s.c, .string t] 26)) = W at *
  refine (isPriv_any who _ hw).mono ?_
  rintro e w1 ⟨rfl, b⟩
  have z_w1 : W.heap.size ≤ w1.heap.size := b.size
  have LA : Hid (Bx w1 w.heap.size 26 [.int .i64 k, .string who, .slice s.a s.n s.c, .string t]) := LA.out.later b
  have BW : Hid (Below w.heap.size w w1) := bl_next BW.out b
  have HX : Hid (RT w1 s.v gs) := HX.out.stays b
  clear b
  cases h1 : prB who with
  | false =>
    have H1 : Hid (prB who = false) := h1
    clear h1
    go_wp2_with fail
    go_ret
    exact ⟨by simp [H1.out], BW.out⟩
  | true =>
    have H1 : Hid (prB who = true) := h1
    clear h1
    go_wp2_with (first | (refine wpList_ldG rfl 26 _ rfl w.heap.size 0 rfl 26 _ LA.out [.int .i64 k, .string who, .slice s.a s.n s.c, .string t] rfl _ Tryd.underlying26 rfl Tryd.sizeWd ?_))
    refine (countOk_any k who gs t s _ hn.out).mono ?_
    rintro e w2 ⟨rfl, b⟩
    have z_w2 : w1.heap.size ≤ w2.heap.size := b.size
    have LA : Hid (Bx w2 w.heap.size 26 [.int .i64 k, .string who, .slice s.a s.n s.c, .string t]) := LA.out.later b
    have BW : Hid (Below w.heap.size w w2) := bl_next BW.out b
    have HX : Hid (RT w2 s.v gs) := HX.out.stays b
    clear b
    cases h2 : cntB k gs.length with
    | false =>
      have H2 : Hid (cntB k gs.length = false) := h2
      clear h2
      go_wp2_with fail
      go_ret
      exact ⟨by simp [H2.out], BW.out⟩
    | true =>
      have H2 : Hid (cntB k gs.length = true) := h2
      clear h2
      have c2 := LA.out.cell 2
      simp only [List.getElem?_cons_succ, List.getElem?_cons_zero] at c2
      go_wp2_with fail
      clear c2
      refine (ascNames_any s gs _ HX hl hz).mono ?_
      rintro e w3 ⟨rfl, b⟩
      have z_w3 : w2.heap.size ≤ w3.heap.size := b.size
      have LA : Hid (Bx w3 w.heap.size 26 [.int .i64 k, .string who, .slice s.a s.n s.c, .string t]) := LA.out.later b
      have BW : Hid (Below w.heap.size w w3) := bl_next BW.out b
      have HX : Hid (RT w3 s.v gs) := HX.out.stays b
      clear b
      cases h3 : namesB gs with
      | false =>
        have H3 : Hid (namesB gs = false) := h3
        clear h3
        go_wp2_with fail
        go_ret
        exact ⟨by simp [H3.out], BW.out⟩
      | true =>
        have H3 : Hid (namesB gs = true) := h3
        clear h3
        have c0 := LA.out.cell 0
        have c3 := LA.out.cell 3
        simp only [List.getElem?_cons_succ, List.getElem?_cons_zero] at c0 c3
        by_cases ht : t.size ≤ 20
        case neg =>
          have hd : decide (t.size ≤ 20) = false := by simp; omega
          have HT : Hid (decide (t.size ≤ 20) = false) := hd
          go_wp2_with fail
          go_ret
          exact ⟨by first | (simp [HT.out]; done) | rfl, BW.out⟩
        have hd : decide (t.size ≤ 20) = true := by simp; omega
        have HT : Hid (decide (t.size ≤ 20) = true) := hd
        by_cases h4 : k = 4
        · subst h4
          go_wp2_with fail
          go_ret
          exact ⟨by first | (simp [H1.out, H2.out, H3.out, HT.out]; done) | rfl, BW.out⟩
        have H4 : Hid (¬ k = 4) := h4
        have d4 : (k == 4) = false := by simp [h4]
        clear h4
        by_cases h0 : t.size = 0
        · have h0' : t = ⟨#[]⟩ := size_zero h0
          subst h0'
          clear h0
          go_wp2_with fail
          go_ret
          exact ⟨by simp [H1.out, H2.out, H3.out, show (⟨#[]⟩ : ByteArray).size = 0 from rfl], BW.out⟩
        have H0 : Hid (¬ t.size = 0) := h0
        have H5 : Hid ((decide (k = 4) || decide (t.size = 0)) = false) := (by rw [decide_eq_false H4.out, decide_eq_false h0]; rfl : _ = _)
        have e0 : (t.toList == []) = false := notEmpty (by omega)
        have e1 : t.toList.isEmpty = false := notEmpty' (by omega)
        clear h0
        go_wp2_with fail
        go_ret
        exact ⟨by rw [H5.out]; simp only [Bool.and_false]; rfl, BW.out⟩
end Go.Proofs.YtmbjflhhffcjdaaDoor


/- The specification's MembersOf, l17Without, l03Has. -/
namespace Go.Proofs.YtmbjflhhffcjdaaDoor
open Go.RowKit Pl
set_option linter.unusedVariables false
set_option linter.unusedSimpArgs false

theorem OwnS.svs {w : World} {B : Nat} {v : Value} {ss : List ByteArray} (h : OwnS w B v ss) : ∃ u : Sv, v = .slice u.a u.n u.c := by
  obtain ⟨ao, cap, rfl⟩ := OwnS.form h
  exact ⟨⟨ao, ss.length, cap⟩, rfl⟩
end Go.Proofs.YtmbjflhhffcjdaaDoor


/- The walks over the program's reader of several texts, over the closure that reads a word, over the reading of its packet and over ReadWord. Written by gen_rbw.py. -/
namespace Go.Proofs.YtmbjflhhffcjdaaDoor
open Go.RowKit Pl
set_option linter.unusedVariables false
set_option linter.unusedSimpArgs false

theorem Pl.varL_pos (n : Nat) : 0 < (varL n).length := by
  by_cases h : 127 < n
  · rw [varL_big h]; simp
  · rw [varL_small h]; simp
theorem Pl.rv_lt {s : ByteArray} {A n i : Nat} (hA : A ≤ s.size) (h : rv s A = some (n, i)) : A < i := by
  have hu : Upto s A (s.data.toList.take A) := ⟨s.data.toList.drop A, (List.take_append_drop _ _).symm, by rw [List.length_take, ← rt_size]; omega⟩
  obtain ⟨⟨q, h1, h2⟩, _⟩ := hu.rv h
  have := Pl.varL_pos n
  rw [List.length_append, List.length_take, ← rt_size] at h2
  omega
theorem Pl.shP_lt {s t : ByteArray} {A i : Nat} (hA : A ≤ s.size) (h : shP s A = some (t, i)) : A < i ∧ i ≤ s.size := by
  rcases h0 : Pl.rv s A with _ | ⟨n, k⟩
  · rw [shP_none h0] at h; cases h
  · have := Pl.rv_lt hA h0
    by_cases hb : n ≤ 20000 ∧ k + n ≤ s.size
    · rw [shP_some h0 hb.1 hb.2] at h
      simp only [Option.some.injEq, Prod.mk.injEq] at h
      omega
    · rw [shP_bad h0 (by omega)] at h; cases h
/-- several texts, their number ahead. -/
def shortsP (s : ByteArray) (A : Nat) : Option (List ByteArray × Nat) := (rv s A).bind fun x => txsP s x.2 x.1
theorem shortsP_none {s : ByteArray} {A : Nat} (h : rv s A = none) : shortsP s A = none := by unfold shortsP; rw [h]; rfl
theorem shortsP_some {s : ByteArray} {A k i : Nat} (h : rv s A = some (k, i)) : shortsP s A = txsP s i k := by unfold shortsP; rw [h]; rfl
/-- the state behind j texts. -/
def TSt (s : ByteArray) (A k j Aj : Nat) (xs : List ByteArray) : Prop := txsP s A k = (txsP s Aj (k - j)).map fun y => (xs ++ y.1, y.2)
theorem tst_start (s : ByteArray) (A k : Nat) : TSt s A k 0 A [] := by
  unfold TSt
  rcases h : txsP s A k with _ | y
  · simp
  · simp
theorem tst_next {s t : ByteArray} {A k j Aj i : Nat} {xs : List ByteArray} (h : TSt s A k j Aj xs) (hj : j < k) (hr : shP s Aj = some (t, i)) : TSt s A k (j + 1) i (xs ++ [t]) := by
  unfold TSt at h ⊢
  obtain ⟨m, hm⟩ : ∃ m, k - j = m + 1 := ⟨k - j - 1, by omega⟩
  have hm' : k - (j + 1) = m := by omega
  rw [h, hm, hm', txsP_some hr, Option.map_map]
  congr 1
  funext y
  simp
theorem tst_bad {s : ByteArray} {A k j Aj : Nat} {xs : List ByteArray} (h : TSt s A k j Aj xs) (hj : j < k) (hr : shP s Aj = none) : txsP s A k = none := by
  unfold TSt at h
  obtain ⟨m, hm⟩ : ∃ m, k - j = m + 1 := ⟨k - j - 1, by omega⟩
  rw [h, hm, txsP_no hr]; rfl
theorem tst_end {s : ByteArray} {A k Aj : Nat} {xs : List ByteArray} (h : TSt s A k k Aj xs) : txsP s A k = some (xs, Aj) := by
  unfold TSt at h
  rw [h, Nat.sub_self]
  simp [txsP]
theorem shP_small {s t : ByteArray} {A i : Nat} (hA : A ≤ s.size) (h : shP s A = some (t, i)) : t.size ≤ 20000 := by
  have hu : Upto s A (s.data.toList.take A) := ⟨s.data.toList.drop A, (List.take_append_drop _ _).symm, by rw [List.length_take, ← rt_size]; omega⟩
  exact (hu.sh h).2
theorem kbut_next {g : Nat} {a b c : World} (h : KeepBut g a b) (hb : Below a.heap.size b c) : KeepBut g a c :=
  ⟨hb.os.trans h.os, hb.tape.trans h.tape, hb.output.trans h.output, Nat.le_trans h.size hb.size, fun k hk hg => (hb.block k hk).trans (h.block k hk hg)⟩
theorem OwnS.keepg {w w' : World} {B g : Nat} {v : Value} {ts : List ByteArray} (h : OwnS w B v ts) (hk : KeepBut g w w') (hg : g < B) : OwnS w' B v ts :=
  OwnS.keep' h fun k e hl => hk.block k hl (by have := (OwnS.lt h k e).1; omega)
theorem PrAt.later {w w' : World} {g A : Nat} {s : ByteArray} (h : PrAt w g s A) (hb : Below w.heap.size w w') : PrAt w' g s A := h.stays hb h.lt

set_option maxRecDepth 100000 in
set_option maxHeartbeats 4000000 in
theorem shorts_any (s : ByteArray) (g A : Nat) (w : World) (hp : Hid (PrAt w g s A)) (hs : s.size ≤ 1048576) (hA : A ≤ s.size) :
    Calls Tryd.prog 45 #[.pointer (some ⟨g, 0, none⟩)] w fun e w' => (e = .panicked noPk ∧ shortsP s A = none ∧ KeepBut g w w') ∨
      ∃ (ts : List ByteArray) (i : Nat) (v : Value), e = .returned v ∧ shortsP s A = some (ts, i) ∧ ts.length ≤ 1048576 ∧ i ≤ s.size ∧ (∀ x ∈ ts, x.size ≤ 20000) ∧ OwnS w' w.heap.size v ts ∧ PrAt w' g s i ∧ KeepBut g w w' := by
  have hg := hp.out.lt
  have P0 : Hid (PrAt (w.alloc (.cells #[] 9)) g s A) := hp.out.stays ((Below.refl _ _).alloc (Nat.le_refl _) _) hg
  have V0 : Hid (OwnS (w.alloc (.cells #[] 9)) w.heap.size (.slice (some ⟨w.heap.size, 0, none⟩) 0 0) []) := OwnS.made w w.heap.size (Nat.le_refl _)
  have K0 : Hid (KeepBut g w (w.alloc (.cells #[] 9))) := keep_of_below ((Below.refl _ _).alloc (Nat.le_refl _) _)
  go_enter Tryd.func45, Tryd.ntmps45
  go_wp2_with fail
  generalize w.alloc (.cells #[] 9) = W0 at *
  rcases h0 : rv s A with _ | ⟨k, i⟩
  · refine (number_none s g A _ P0 hs hA h0).mono ?_
    rintro e w1 ⟨rfl, ht1⟩
    exact ⟨rfl, .inl ⟨rfl, shortsP_none h0, K0.out.trans ht1.keep⟩⟩
  have H0 : Hid (rv s A = some (k, i)) := h0
  obtain ⟨hk, hi⟩ := rv_le hA h0
  clear h0
  refine (number_some s g A k i _ P0 hs hA H0).mono ?_
  rintro e w1 ⟨rfl, hp1, ht1⟩
  have P1 : Hid (PrAt w1 g s i) := hp1
  have V1 : Hid (OwnS w1 w.heap.size (.slice (some ⟨w.heap.size, 0, none⟩) 0 0) []) := OwnS.keepg V0.out ht1.keep hg
  have K1 : Hid (KeepBut g w w1) := K0.out.trans ht1.keep
  clear hp1 ht1 P0 V0 K0
  go_wp2_with fail
  go_loopw [3, 7] (fun v ix wr => ∃ (j Aj : Nat) (xs : List ByteArray), j ≤ k ∧ ix = .int .i64 j ∧ xs.length ≤ j ∧ j ≤ xs.length ∧ j ≤ Aj ∧ Aj ≤ s.size ∧ Hid (∀ x ∈ xs, x.size ≤ 20000) ∧ Hid (TSt s i k j Aj xs) ∧ Hid (OwnS wr w.heap.size v xs) ∧ Hid (PrAt wr g s Aj) ∧ Hid (KeepBut g w wr)) (fun _ ix _ => k - (intOf ix).toNat)
  case atStart => exact ⟨0, i, [], Nat.zero_le _, rfl, Nat.zero_le _, Nat.zero_le _, Nat.zero_le _, hi, (fun x hx => absurd hx (by simp) : ∀ x ∈ ([] : List ByteArray), x.size ≤ 20000), tst_start s i k, V1.out, P1.out, K1.out⟩
  case round =>
    clear P1 V1 K1
    obtain ⟨j, Aj, xs, hj, rfl, hxl, hxl2, hjA, hAj, hxz, hst, hV, hP, hK⟩ := hrel
    by_cases hlt : j < k
    · go_wp2_with fail
      rcases h1 : shP s Aj with _ | ⟨t, i2⟩
      · refine (short_none s g Aj _ hP hs hAj h1).mono ?_
        rintro e w2 ⟨rfl, ht2⟩
        exact ⟨rfl, .inl ⟨rfl, by rw [shortsP_some H0.out]; exact tst_bad hst.out hlt h1, hK.out.trans ht2.keep⟩⟩
      have H1 : Hid (shP s Aj = some (t, i2)) := h1
      obtain ⟨hlt2, hi2⟩ := Pl.shP_lt hAj h1
      have htz := shP_small hAj h1
      clear h1
      refine (short_some s t g Aj i2 _ hP hs hAj H1).mono ?_
      rintro e w2 ⟨rfl, hp2, hk2⟩
      have P2 : Hid (PrAt w2 g s i2) := hp2
      have V2 : Hid (OwnS w2 w.heap.size u3 xs) := OwnS.keepg hV.out hk2 hg
      have K2 : Hid (KeepBut g w w2) := hK.out.trans hk2
      have hs2 := K2.out.size
      clear hp2 hk2 hP hV hK
      go_wp2_with (first | (at_builtin; refine wpList_pushS rfl _ _ 24 rfl Tryd.underlying24 Tryd.info9 w.heap.size _ xs rfl V2.out _ rfl (by omega) (by omega) ?_; intro v5 w5 O5 b5))
      have O5 : Hid (OwnS w5 w.heap.size v5 (xs ++ [t])) := O5
      have P5 : Hid (PrAt w5 g s i2) := P2.out.stays b5 hg
      have K5 : Hid (KeepBut g w w5) := kbut_next K2.out b5
      clear P2 V2 K2 b5
      go_roundw
      case rel => exact ⟨j + 1, i2, xs ++ [t], by omega, by go_num, by simp; omega, by simp; omega, by omega, hi2, (fun x hx => by rcases List.mem_append.1 hx with h | h; exact hxz.out x h; rw [List.mem_singleton.1 h]; exact htz : ∀ x ∈ xs ++ [t], x.size ≤ 20000), tst_next hst.out hlt H1.out, O5.out, P5.out, K5.out⟩
      case measure => simp [intOf]; omega
    · obtain rfl : j = k := by omega
      go_wp2_with fail
      go_ret
      exact .inr ⟨xs, Aj, _, rfl, by rw [shortsP_some H0.out]; exact tst_end hst.out, by omega, hAj, hxz.out, hV.out, hP.out, hK.out⟩

theorem wordP_n0 {s : ByteArray} (h : oneP s 0 = none) : wordP s = none := by simp [wordP, h]
theorem wordP_n1 {s : ByteArray} {k i0 : Nat} (h0 : oneP s 0 = some (k, i0)) (h : shP s i0 = none) : wordP s = none := by simp [wordP, h0, h]
theorem wordP_n2 {s who : ByteArray} {k i0 i1 : Nat} (h0 : oneP s 0 = some (k, i0)) (h1 : shP s i0 = some (who, i1)) (h : shortsP s i1 = none) : wordP s = none := by
  unfold shortsP at h
  rcases h3 : rv s i1 with _ | ⟨n, i2⟩
  · simp [wordP, h0, h1, h3]
  · rw [h3, Option.bind_some] at h
    simp [wordP, h0, h1, h3, h]
theorem wordP_n3 {s who : ByteArray} {k i0 i1 i3 : Nat} {gs : List ByteArray} (h0 : oneP s 0 = some (k, i0)) (h1 : shP s i0 = some (who, i1)) (h2 : shortsP s i1 = some (gs, i3)) (h : shP s i3 = none) : wordP s = none := by
  unfold shortsP at h2
  rcases h3 : rv s i1 with _ | ⟨n, i2⟩
  · rw [h3] at h2; cases h2
  · rw [h3, Option.bind_some] at h2
    simp [wordP, h0, h1, h3, h2, h]
theorem wordP_all {s who t : ByteArray} {k i0 i1 i3 A : Nat} {gs : List ByteArray} (h0 : oneP s 0 = some (k, i0)) (h1 : shP s i0 = some (who, i1)) (h2 : shortsP s i1 = some (gs, i3)) (h : shP s i3 = some (t, A)) : wordP s = some (k, who, gs, t, A) := by
  unfold shortsP at h2
  rcases h3 : rv s i1 with _ | ⟨n, i2⟩
  · rw [h3] at h2; cases h2
  · rw [h3, Option.bind_some] at h2
    exact wordP_some h0 h1 h3 h2 h

/-- what the closure answers. -/
def ClAnsW (s : ByteArray) (gm gr : Nat) (w : World) (e : Ending) (w' : World) : Prop :=
  (e = .panicked noPk ∧ wordP s = none ∧ Keep2 gm gr w w') ∨
  ∃ (k A : Nat) (who : ByteArray) (gs : List ByteArray) (t : ByteArray) (u : Sv), e = .returned (.tuple #[]) ∧ wordP s = some (k, who, gs, t, A) ∧ gs.length ≤ 1048576 ∧ (∀ x ∈ gs, x.size ≤ 20000) ∧ who.size ≤ 20000 ∧ Bx w' gm 26 [.int .i64 k, .string who, .slice u.a u.n u.c, .string t] ∧ OwnS w' w.heap.size u.v gs ∧ PrAt w' gr s A ∧ Keep2 gm gr w w'

set_option maxRecDepth 100000 in
set_option maxHeartbeats 4000000 in
theorem clWord_any (s : ByteArray) (gm gr : Nat) (w : World) (hm : Hid (Bx w gm 26 [.int .i64 0, .string ByteArray.empty, .slice none 0 0, .string ByteArray.empty])) (hp : Hid (PrAt w gr s 0)) (hne : gm < gr) (hs : s.size ≤ 1048576) :
    Calls Tryd.prog 42 #[.pointer (some ⟨gr, 0, none⟩), .pointer (some ⟨gm, 0, none⟩)] w fun e w' => ClAnsW s gm gr w e w' := by
  have hgr := hp.out.lt
  have KB : Hid (Keep2 gm gr w w) := (KeepBut.refl gm w).left
  have U : Hid (Upto s 0 []) := upto_start s
  have hi : (0 : Nat) ≤ s.size := Nat.zero_le _
  have MB : Hid (Bx w gm 26 [.int .i64 0, .string ByteArray.empty, .slice none 0 0, .string ByteArray.empty]) := hm
  have PB : Hid (PrAt w gr s 0) := hp
  clear hm hp
  go_enter Tryd.func42, Tryd.ntmps42
  go_wp2_with fail
  rcases h0 : oneP s 0 with _ | ⟨k, i0⟩
  · refine (oneB_no s gr 0 _ PB hs hi h0).mono ?_
    rintro e w1 ⟨rfl, ht⟩
    exact ⟨rfl, .inl ⟨rfl, wordP_n0 h0, KB.out.trans ht.keep.right⟩⟩
  have H0 : Hid (oneP s 0 = some (k, i0)) := h0
  obtain ⟨u0, _⟩ := U.out.one h0
  have hi := u0.le
  clear h0 u0 U
  refine (oneB_yes s gr 0 k i0 _ PB hs H0).mono ?_
  rintro e w1 ⟨rfl, hp1, ht⟩
  have KA : Hid (Keep2 gm gr w w1) := KB.out.trans ht.keep.right
  have MA : Hid (Bx w1 gm 26 [.int .i64 0, .string ByteArray.empty, .slice none 0 0, .string ByteArray.empty]) := MB.out.keepb ht.keep (by omega)
  have PA : Hid (PrAt w1 gr s i0) := hp1
  clear hp1 ht KB MB PB
  have c0 := MA.out.cell 0
  simp only [List.getElem?_cons_succ, List.getElem?_cons_zero] at c0
  have f0 := MA.out.frozen 0
  have T4 := (TurnAt.refl gm w1).setCell 0 (.int .i64 k)
  have MB : Hid (Bx (w1.setCell ⟨gm, 0, none⟩ (.int .i64 k)) gm 26 [.int .i64 k, .string ByteArray.empty, .slice none 0 0, .string ByteArray.empty]) := MA.out.set 0 (.int .i64 k)
  have PB : Hid (PrAt (w1.setCell ⟨gm, 0, none⟩ (.int .i64 k)) gr s i0) := PA.out.turn T4 (by omega)
  have KB : Hid (Keep2 gm gr w (w1.setCell ⟨gm, 0, none⟩ (.int .i64 k))) := KA.out.trans T4.keep.left
  clear T4
  go_wp2_with fail
  generalize (w1.setCell ⟨gm, 0, none⟩ (.int .i64 k)) = W0 at *
  clear MA PA KA c0 f0
  rcases h1 : shP s i0 with _ | ⟨who, i1⟩
  · refine (short_none s gr i0 _ PB hs hi h1).mono ?_
    rintro e w2 ⟨rfl, ht⟩
    exact ⟨rfl, .inl ⟨rfl, wordP_n1 H0.out h1, KB.out.trans ht.keep.right⟩⟩
  have H1 : Hid (shP s i0 = some (who, i1)) := h1
  have hwz : who.size ≤ 20000 := shP_small hi h1
  have hi1 : i1 ≤ s.size := (Pl.shP_lt hi h1).2
  clear h1
  refine (short_some s who gr i0 i1 _ PB hs hi H1).mono ?_
  rintro e w2 ⟨rfl, hp1, hk⟩
  have KA : Hid (Keep2 gm gr w w2) := KB.out.trans hk.right
  have MA : Hid (Bx w2 gm 26 [.int .i64 k, .string ByteArray.empty, .slice none 0 0, .string ByteArray.empty]) := MB.out.keepb hk (by omega)
  have PA : Hid (PrAt w2 gr s i1) := hp1
  clear hp1 hk KB MB PB
  have c0 := MA.out.cell 1
  simp only [List.getElem?_cons_succ, List.getElem?_cons_zero] at c0
  have f0 := MA.out.frozen 1
  have T4 := (TurnAt.refl gm w2).setCell 1 (.string who)
  have MB : Hid (Bx (w2.setCell ⟨gm, 1, none⟩ (.string who)) gm 26 [.int .i64 k, .string who, .slice none 0 0, .string ByteArray.empty]) := MA.out.set 1 (.string who)
  have PB : Hid (PrAt (w2.setCell ⟨gm, 1, none⟩ (.string who)) gr s i1) := PA.out.turn T4 (by omega)
  have KB : Hid (Keep2 gm gr w (w2.setCell ⟨gm, 1, none⟩ (.string who))) := KA.out.trans T4.keep.left
  clear T4
  go_wp2_with fail
  generalize (w2.setCell ⟨gm, 1, none⟩ (.string who)) = W1 at *
  clear MA PA KA c0 f0
  refine (shorts_any s gr i1 _ PB hs hi1).mono ?_
  rintro e w3 (⟨rfl, hn, hk⟩ | ⟨gs, i3, v, rfl, hn, hl, hi3, hgz, hv, hp4, hk⟩)
  · exact ⟨rfl, .inl ⟨rfl, wordP_n2 H0.out H1.out hn, KB.out.trans hk.right⟩⟩
  have HN : Hid (shortsP s i1 = some (gs, i3)) := hn
  have HGZ : Hid (∀ x ∈ gs, x.size ≤ 20000) := hgz
  have hsz := KB.out.size
  have KA : Hid (Keep2 gm gr w w3) := KB.out.trans hk.right
  have MA : Hid (Bx w3 gm 26 [.int .i64 k, .string who, .slice none 0 0, .string ByteArray.empty]) := MB.out.keepb hk (by omega)
  have VA : Hid (OwnS w3 w.heap.size v gs) := OwnS.down hv hsz
  have PA : Hid (PrAt w3 gr s i3) := hp4
  obtain ⟨u, rfl⟩ := OwnS.svs VA.out
  have hgmw : gm < w.heap.size := by omega
  clear hn hk hv hp4 KB MB PB hgz
  have c0 := MA.out.cell 2
  simp only [List.getElem?_cons_succ, List.getElem?_cons_zero] at c0
  have f0 := MA.out.frozen 2
  have T4 := (TurnAt.refl gm w3).setCell 2 (.slice u.a u.n u.c)
  have MB : Hid (Bx (w3.setCell ⟨gm, 2, none⟩ (.slice u.a u.n u.c)) gm 26 [.int .i64 k, .string who, .slice u.a u.n u.c, .string ByteArray.empty]) := MA.out.set 2 (.slice u.a u.n u.c)
  have PB : Hid (PrAt (w3.setCell ⟨gm, 2, none⟩ (.slice u.a u.n u.c)) gr s i3) := PA.out.turn T4 (by omega)
  have KB : Hid (Keep2 gm gr w (w3.setCell ⟨gm, 2, none⟩ (.slice u.a u.n u.c))) := KA.out.trans T4.keep.left
  have VB : Hid (OwnS (w3.setCell ⟨gm, 2, none⟩ (.slice u.a u.n u.c)) w.heap.size u.v gs) := OwnS.keepg VA.out T4.keep hgmw
  clear T4
  go_wp2_with fail
  generalize (w3.setCell ⟨gm, 2, none⟩ (.slice u.a u.n u.c)) = W2 at *
  clear MA PA KA c0 f0 VA
  rcases h3 : shP s i3 with _ | ⟨t, A⟩
  · refine (short_none s gr i3 _ PB hs hi3 h3).mono ?_
    rintro e w4 ⟨rfl, ht⟩
    exact ⟨rfl, .inl ⟨rfl, wordP_n3 H0.out H1.out HN.out h3, KB.out.trans ht.keep.right⟩⟩
  have H3 : Hid (shP s i3 = some (t, A)) := h3
  clear h3
  refine (short_some s t gr i3 A _ PB hs hi3 H3).mono ?_
  rintro e w4 ⟨rfl, hp1, hk⟩
  have KA : Hid (Keep2 gm gr w w4) := KB.out.trans hk.right
  have MA : Hid (Bx w4 gm 26 [.int .i64 k, .string who, .slice u.a u.n u.c, .string ByteArray.empty]) := MB.out.keepb hk (by omega)
  have PA : Hid (PrAt w4 gr s A) := hp1
  have VA : Hid (OwnS w4 w.heap.size u.v gs) := OwnS.keep' VB.out fun y hy hl => hk.block y hl (by have := (OwnS.lt VB.out y hy).1; have := PB.out.lt; omega)
  clear hp1 hk KB MB PB VB
  have c0 := MA.out.cell 3
  simp only [List.getElem?_cons_succ, List.getElem?_cons_zero] at c0
  have f0 := MA.out.frozen 3
  have T4 := (TurnAt.refl gm w4).setCell 3 (.string t)
  have MB : Hid (Bx (w4.setCell ⟨gm, 3, none⟩ (.string t)) gm 26 [.int .i64 k, .string who, .slice u.a u.n u.c, .string t]) := MA.out.set 3 (.string t)
  have PB : Hid (PrAt (w4.setCell ⟨gm, 3, none⟩ (.string t)) gr s A) := PA.out.turn T4 (by omega)
  have KB : Hid (Keep2 gm gr w (w4.setCell ⟨gm, 3, none⟩ (.string t))) := KA.out.trans T4.keep.left
  have VB : Hid (OwnS (w4.setCell ⟨gm, 3, none⟩ (.string t)) w.heap.size u.v gs) := OwnS.keepg VA.out T4.keep hgmw
  clear T4
  go_wp2_with fail
  go_end0
  exact .inr ⟨k, A, who, gs, t, u, rfl, wordP_all H0.out H1.out HN.out H3.out, hl, HGZ.out, hwz, MB.out, VB.out, PB.out, KB.out⟩

theorem kbut_out {w W w1 w2 : World} {gm : Nat} (h : Below w.heap.size w W) (hk : Keep2 gm (w.heap.size + 1) W w1) (ht : TurnAt w.heap.size w1 w2) : KeepBut gm w w2 :=
  ⟨ht.os.trans (hk.os.trans h.os), ht.tape.trans (hk.tape.trans h.tape), ht.output.trans (hk.output.trans h.output), by have := h.size; have := hk.size; have := ht.size; omega,
    fun k h1 h2 => (ht.block k (by omega)).trans ((hk.block k (Nat.lt_of_lt_of_le h1 h.size) h2 (by omega)).trans (h.block k h1))⟩
/-- what the reading of a word's packet answers. -/
def RpAnsW (s : ByteArray) (gm : Nat) (w : World) (e : Ending) (w' : World) : Prop :=
  (e = .returned (.bool false) ∧ wordP s = none ∧ KeepBut gm w w') ∨
  ∃ (k A : Nat) (who : ByteArray) (gs : List ByteArray) (t : ByteArray) (u : Sv), e = .returned (.bool ((A : Int) == (s.size : Int))) ∧ wordP s = some (k, who, gs, t, A) ∧ gs.length ≤ 1048576 ∧ (∀ x ∈ gs, x.size ≤ 20000) ∧ who.size ≤ 20000 ∧ Bx w' gm 26 [.int .i64 k, .string who, .slice u.a u.n u.c, .string t] ∧ OwnS w' w.heap.size u.v gs ∧ KeepBut gm w w'

set_option maxRecDepth 100000 in
set_option maxHeartbeats 4000000 in
theorem readPW_any (s : ByteArray) (gm : Nat) (w : World) (hm : Hid (Bx w gm 26 [.int .i64 0, .string ByteArray.empty, .slice none 0 0, .string ByteArray.empty])) (hs : s.size ≤ 1048576) :
    Calls Tryd.prog 41 #[.string s, .func (.func 42) #[] #[.pointer (some ⟨gm, 0, none⟩)]] w fun e w' => RpAnsW s gm w e w' := by
  have hmf : ∀ (fn : Fn) (first cap : Array Value) (w : World), (Instr.makeFunc fn first cap).run Tryd.prog w = .ok (.func fn first cap) w := fun _ _ _ _ => rfl
  have hlt := hm.out.lt
  have H1 : Hid (Bx ((w.alloc (.cells #[.bool false] 4)).alloc (.cells #[.string s, .int .i64 0] 105)) gm 26 [.int .i64 0, .string ByteArray.empty, .slice none 0 0, .string ByteArray.empty]) := (hm.out.stays ((Below.refl w.heap.size w).alloc (Nat.le_refl _) _) hlt).stays ((Below.refl (w.heap.size + 1) _).alloc (by simp) _) (by omega)
  have H2 : Hid (PrAt ((w.alloc (.cells #[.bool false] 4)).alloc (.cells #[.string s, .int .i64 0] 105)) (w.heap.size + 1) s 0) := by
    have := heap_alloc_new (w.alloc (.cells #[.bool false] 4)) (.cells #[.string s, .int .i64 0] 105)
    show PrAt _ _ _ _
    simpa [PrAt] using this
  have H3 : Hid (((w.alloc (.cells #[.bool false] 4)).alloc (.cells #[.string s, .int .i64 0] 105)).heap[w.heap.size]? = some (.cells #[.bool false] 4 (0, 0))) :=
    (((Below.refl (w.heap.size + 1) (w.alloc (.cells #[.bool false] 4))).alloc (by simp) _).block w.heap.size (by omega)).trans (heap_alloc_new w _)
  have H4 : Hid (Below w.heap.size w ((w.alloc (.cells #[.bool false] 4)).alloc (.cells #[.string s, .int .i64 0] 105))) := ((Below.refl _ _).alloc (Nat.le_refl _) _).alloc (by simp) _
  have H5 : Hid (((w.alloc (.cells #[.bool false] 4)).alloc (.cells #[.string s, .int .i64 0] 105)).heap.size = w.heap.size + 2) := by show _ = _; simp
  go_enter_defers Tryd.func41, Tryd.ntmps41
  go_wp2_with fail
  generalize (w.alloc (.cells #[.bool false] 4)).alloc (.cells #[.string s, .int .i64 0] 105) = W at *
  refine (clWord_any s gm (w.heap.size + 1) W H1 H2 (by omega) hs).mono ?_
  rintro e w1 (⟨rfl, hn, hk⟩ | ⟨k, A, who, gs, t, u, rfl, hq, hl, hgz, hwz, hi, hv, hp, hk⟩)
  · have hb : w1.heap[w.heap.size]? = some (.cells #[.bool false] 4 (0, 0)) := (hk.block w.heap.size (by have := H5.out; omega) (by omega) (by omega)).trans H3.out
    have hc : w1.cell? ⟨w.heap.size, 0, none⟩ = some (.bool false) := by rw [cell_of_row w1 w.heap.size 0 _ 4 (0, 0) hb]; rfl
    have hf := frozen_of_row w1 w.heap.size 0 _ 4 hb
    refine leaves_cons (f := 88) (args := #[.pointer (some ⟨w.heap.size, 0, none⟩)]) (by simp) (by simp [go_sem]) ?_
    refine (catch_panicking ⟨w.heap.size, 0, none⟩ false _ hc hf).mono ?_
    rintro e u' w'' ⟨rfl, rfl, rfl⟩
    have hsame : (w1.setCell ⟨w.heap.size, 0, none⟩ (.bool false)).cell? ⟨w.heap.size, 0, none⟩ = some (.bool false) := by
      rw [cell_of_row _ w.heap.size 0 _ 4 (0, 0) (heap_setCell_same w1 w.heap.size 0 _ 4 (.bool false) hb)]; rfl
    simp [Leaves, settle, results, Tryd.results41, go_sem, hsame]
    exact .inl ⟨rfl, hn, kbut_out H4.out hk ((TurnAt.refl _ _).setCell 0 _)⟩
  · have hb : w1.heap[w.heap.size]? = some (.cells #[.bool false] 4 (0, 0)) := (hk.block w.heap.size (by have := H5.out; omega) (by omega) (by omega)).trans H3.out
    have hc : w1.cell? ⟨w.heap.size, 0, none⟩ = some (.bool false) := by rw [cell_of_row w1 w.heap.size 0 _ 4 (0, 0) hb]; rfl
    have hf := frozen_of_row w1 w.heap.size 0 _ 4 hb
    obtain ⟨c0, c1, _, _⟩ := hp.cells
    have HB : Hid (w1.heap[w.heap.size]? = some (.cells #[.bool false] 4 (0, 0))) := hb
    have HI : Hid (Bx w1 gm 26 [.int .i64 k, .string who, .slice u.a u.n u.c, .string t]) := hi
    have HV : Hid (OwnS w1 (w.heap.size + 2) u.v gs) := by
      show OwnS _ _ _ _
      rw [← H5.out]
      exact hv
    have HK : Hid (Keep2 gm (w.heap.size + 1) W w1) := hk
    have HQ : Hid (wordP s = some (k, who, gs, t, A)) := hq
    clear hb hi hv hp hk hq H1 H2 H3 H5
    go_wp2_with fail
    have hsame : (w1.setCell ⟨w.heap.size, 0, none⟩ (.bool ((A : Int) == (s.size : Int)))).cell? ⟨w.heap.size, 0, none⟩ = some (.bool ((A : Int) == (s.size : Int))) := by
      rw [cell_of_row _ w.heap.size 0 _ 4 (0, 0) (heap_setCell_same w1 w.heap.size 0 _ 4 _ HB.out)]; rfl
    refine leaves_cons (f := 88) (args := #[.pointer (some ⟨w.heap.size, 0, none⟩)]) (by simp) (by simp [go_sem]) ?_
    refine (catch_idle ⟨w.heap.size, 0, none⟩ _).mono ?_
    rintro e u' w'' ⟨rfl, rfl, rfl⟩
    simp [Leaves, settle, results, Tryd.results41, go_sem, hsame]
    exact .inr ⟨k, A, who, gs, t, u, rfl, HQ.out, hl, hgz, hwz, HI.out.keepb ((TurnAt.refl w.heap.size w1).setCell 0 _).keep (by omega), OwnS.down (OwnS.keepg HV.out ((TurnAt.refl w.heap.size w1).setCell 0 _).keep (by omega)) (by omega), kbut_out H4.out HK.out ((TurnAt.refl _ _).setCell 0 _)⟩

end Go.Proofs.YtmbjflhhffcjdaaDoor


/- The program's ReadWord. Written by gen_rbx.py. -/
namespace Go.Proofs.YtmbjflhhffcjdaaDoor
open Go.RowKit Pl
set_option linter.unusedVariables false
set_option linter.unusedSimpArgs false

theorem OwnS.zero (w : World) (B : Nat) : OwnS w B (.slice none 0 0) [] := ⟨by simp, .inl ⟨rfl, rfl⟩⟩
set_option maxRecDepth 100000 in
set_option maxHeartbeats 8000000 in
theorem readWord_any (s : ByteArray) (w : World) (hs : s.size ≤ 1048576) :
    Calls Tryd.prog 12 #[.string s] w fun e w' => ∃ (k : Nat) (who : ByteArray) (gs : List ByteArray) (t : ByteArray) (ok : Bool) (u : Sv), e = .returned (.tuple #[.agg #[.int .i64 k, .string who, .slice u.a u.n u.c, .string t], .bool ok]) ∧ AnsW s k who gs t ok ∧ OwnS w' w.heap.size u.v gs ∧ Below w.heap.size w w' := by
  have hmf : ∀ (fn : Fn) (first cap : Array Value) (w : World), (Instr.makeFunc fn first cap).run Tryd.prog w = .ok (.func fn first cap) w := fun _ _ _ _ => rfl
  have hn1 : (w.alloc (.cells #[.int .i64 0, .string ⟨#[]⟩, .slice none 0 0, .string ⟨#[]⟩] 26)).heap.size = w.heap.size + 1 := by simp
  have R2 : Hid (Bx ((w.alloc (.cells #[.int .i64 0, .string ⟨#[]⟩, .slice none 0 0, .string ⟨#[]⟩] 26)).alloc (.cells #[.int .i64 0, .string ⟨#[]⟩, .slice none 0 0, .string ⟨#[]⟩] 26)) w.heap.size 26 [.int .i64 0, .string ⟨#[]⟩, .slice none 0 0, .string ⟨#[]⟩]) := by
    have h := Bx.new w 26 [.int .i64 0, .string ⟨#[]⟩, .slice none 0 0, .string ⟨#[]⟩]
    exact h.later ((Below.refl _ _).alloc (Nat.le_refl _) _)
  have M2 : Hid (Bx ((w.alloc (.cells #[.int .i64 0, .string ⟨#[]⟩, .slice none 0 0, .string ⟨#[]⟩] 26)).alloc (.cells #[.int .i64 0, .string ⟨#[]⟩, .slice none 0 0, .string ⟨#[]⟩] 26)) (w.heap.size + 1) 26 [.int .i64 0, .string ⟨#[]⟩, .slice none 0 0, .string ⟨#[]⟩]) := by
    have h := Bx.new (w.alloc (.cells #[.int .i64 0, .string ⟨#[]⟩, .slice none 0 0, .string ⟨#[]⟩] 26)) 26 [.int .i64 0, .string ⟨#[]⟩, .slice none 0 0, .string ⟨#[]⟩]
    rw [hn1] at h
    exact h
  have B2 : Hid (Below w.heap.size w ((w.alloc (.cells #[.int .i64 0, .string ⟨#[]⟩, .slice none 0 0, .string ⟨#[]⟩] 26)).alloc (.cells #[.int .i64 0, .string ⟨#[]⟩, .slice none 0 0, .string ⟨#[]⟩] 26))) := (((Below.refl _ _).alloc (by simp) _).alloc (by simp; try omega) _)
  have hN1 : w.heap.size < w.heap.size + 1 := by omega
  go_enter Tryd.func12, Tryd.ntmps12
  go_wp2_with fail
  generalize ((w.alloc (.cells #[.int .i64 0, .string ⟨#[]⟩, .slice none 0 0, .string ⟨#[]⟩] 26)).alloc (.cells #[.int .i64 0, .string ⟨#[]⟩, .slice none 0 0, .string ⟨#[]⟩] 26)) = W1 at *
  generalize hgm : w.heap.size + 1 = gm at *
  refine (readPW_any s gm W1 (show Hid (Bx W1 gm 26 [.int .i64 0, .string ByteArray.empty, .slice none 0 0, .string ByteArray.empty]) from M2) (by omega)).mono ?_
  rintro e w2 (⟨rfl, hn, hk⟩ | ⟨k, A, who, gs, t, u, rfl, hq, hl, hgz, hwz, hi, hv, hk⟩)
  · have R3 : Hid (Bx w2 w.heap.size 26 [.int .i64 0, .string ⟨#[]⟩, .slice none 0 0, .string ⟨#[]⟩]) := R2.out.keepb hk (by omega)
    have B3 : Hid (Below w.heap.size w w2) := B2.out.trans (hk.below (by omega) B2.out.size)
    have HN : Hid (wordP s = none) := hn
    clear hn hk R2 B2 M2
    go_wp2_with (first | (with_reducible refine wpList_haltS 26 _ _ rfl ?_))
    refine Stp.go ?_
    refine wpList_stB rfl 26 _ _ rfl w.heap.size 0 rfl 26 _ R3.out [.int .i64 0, .string ⟨#[]⟩, .slice none 0 0, .string ⟨#[]⟩] rfl (by simp) Tryd.sizeWd rfl [.int .i64 0, .string ⟨#[]⟩, .slice none 0 0, .string ⟨#[]⟩] rfl ?_
    intro W9 R9 T9
    have B9 : Hid (Below w.heap.size w W9) := B3.out.trans (T9.below (Nat.le_refl _))
    clear T9
    go_wp2_with fail
    refine bodyPost_ret (results_bt Tryd.results12 w.heap.size 26 [.int .i64 0, .string ⟨#[]⟩, .slice none 0 0, .string ⟨#[]⟩] _ rfl R9 Tryd.underlying26 rfl Tryd.sizeWd) rfl ?_
    exact ⟨0, ByteArray.empty, [], ByteArray.empty, false, ⟨none, 0, 0⟩, rfl, ansW_none HN.out, OwnS.zero _ _, B9.out⟩
  · have R3 : Hid (Bx w2 w.heap.size 26 [.int .i64 0, .string ⟨#[]⟩, .slice none 0 0, .string ⟨#[]⟩]) := R2.out.keepb hk (by omega)
    have B3 : Hid (Below w.heap.size w w2) := B2.out.trans (hk.below (by omega) B2.out.size)
    have HQ : Hid (wordP s = some (k, who, gs, t, A)) := hq
    have M3 : Hid (Bx w2 gm 26 [.int .i64 k, .string who, .slice u.a u.n u.c, .string t]) := hi
    have zW1 : w.heap.size < W1.heap.size := R2.out.lt
    have V3 : Hid (OwnS w2 W1.heap.size u.v gs) := hv
    have HGZ : Hid (∀ x ∈ gs, x.size ≤ 1048576) := fun x hx => by have := hgz x hx; omega
    clear hq hk hi hv R2 B2 M2 hgz
    by_cases hA : A = s.size
    · have hb : ((A : Int) == (s.size : Int)) = true := by rw [hA]; simp
      rw [hb]
      have HA : Hid (A = s.size) := hA
      clear hb hA
      go_wp2_with (first | (refine wpList_ldG rfl 26 _ rfl gm 0 rfl 26 _ M3.out [.int .i64 k, .string who, .slice u.a u.n u.c, .string t] rfl _ Tryd.underlying26 rfl Tryd.sizeWd ?_))
      refine (wordOk_any k who gs t u w2 (show Hid (RT w2 u.v gs) from OwnS.texts V3.out) hl HGZ (by omega)).mono ?_
      rintro e w3 ⟨rfl, hb3⟩
      have R4 : Hid (Bx w3 w.heap.size 26 [.int .i64 0, .string ⟨#[]⟩, .slice none 0 0, .string ⟨#[]⟩]) := R3.out.later hb3
      have M4 : Hid (Bx w3 gm 26 [.int .i64 k, .string who, .slice u.a u.n u.c, .string t]) := M3.out.later hb3
      have B4 : Hid (Below w.heap.size w w3) := bl_next B3.out hb3
      have V4 : Hid (OwnS w3 W1.heap.size u.v gs) := OwnS.keep' V3.out (fun y _ hy => Below.block hb3 y hy)
      clear hb3 R3 M3 B3 V3
      cases ho : wdB k who gs t with
      | true =>
        have HO : Hid (WdOk k who gs t) := ho
        clear ho
        go_wp2_with (first | (refine wpList_ldG rfl 26 _ rfl gm 0 rfl 26 _ M4.out [.int .i64 k, .string who, .slice u.a u.n u.c, .string t] rfl _ Tryd.underlying26 rfl Tryd.sizeWd ?_) | (with_reducible refine wpList_haltS 26 _ _ rfl ?_))
        refine Stp.go ?_
        refine wpList_stB rfl 26 _ _ rfl w.heap.size 0 rfl 26 _ R4.out [.int .i64 k, .string who, .slice u.a u.n u.c, .string t] rfl (by simp) Tryd.sizeWd rfl [.int .i64 k, .string who, .slice u.a u.n u.c, .string t] rfl ?_
        intro W9 R9 T9
        have B9 : Hid (Below w.heap.size w W9) := B4.out.trans (T9.below (Nat.le_refl _))
        have O9 : Hid (OwnS W9 w.heap.size u.v gs) := OwnS.down (OwnS.keep' V4.out fun y hy hl => T9.block y (by have := (OwnS.lt V4.out y hy).1; omega)) (Nat.le_of_lt zW1)
        clear T9
        go_wp2_with fail
        refine bodyPost_ret (results_bt Tryd.results12 w.heap.size 26 [.int .i64 k, .string who, .slice u.a u.n u.c, .string t] _ rfl R9 Tryd.underlying26 rfl Tryd.sizeWd) rfl ?_
        exact ⟨k, who, gs, t, true, u, rfl, ansW_good (by rw [← HA.out]; exact HQ.out) HO.out, O9.out, B9.out⟩
      | false =>
        have HO : Hid (¬ WdOk k who gs t) := by
          show ¬ _
          unfold WdOk
          rw [ho]
          exact Bool.false_ne_true
        clear ho
        go_wp2_with (first | (with_reducible refine wpList_haltS 26 _ _ rfl ?_))
        refine Stp.go ?_
        refine wpList_stB rfl 26 _ _ rfl w.heap.size 0 rfl 26 _ R4.out [.int .i64 0, .string ⟨#[]⟩, .slice none 0 0, .string ⟨#[]⟩] rfl (by simp) Tryd.sizeWd rfl [.int .i64 0, .string ⟨#[]⟩, .slice none 0 0, .string ⟨#[]⟩] rfl ?_
        intro W9 R9 T9
        have B9 : Hid (Below w.heap.size w W9) := B4.out.trans (T9.below (Nat.le_refl _))
        clear T9
        go_wp2_with fail
        refine bodyPost_ret (results_bt Tryd.results12 w.heap.size 26 [.int .i64 0, .string ⟨#[]⟩, .slice none 0 0, .string ⟨#[]⟩] _ rfl R9 Tryd.underlying26 rfl Tryd.sizeWd) rfl ?_
        exact ⟨0, ByteArray.empty, [], ByteArray.empty, false, ⟨none, 0, 0⟩, rfl, ansW_bad HQ.out (.inr HO.out), OwnS.zero _ _, B9.out⟩
    · have hb : ((A : Int) == (s.size : Int)) = false := by simp; omega
      rw [hb]
      have HA : Hid (A ≠ s.size) := hA
      clear hA hb M3 V3
      go_wp2_with (first | (with_reducible refine wpList_haltS 26 _ _ rfl ?_))
      refine Stp.go ?_
      refine wpList_stB rfl 26 _ _ rfl w.heap.size 0 rfl 26 _ R3.out [.int .i64 0, .string ⟨#[]⟩, .slice none 0 0, .string ⟨#[]⟩] rfl (by simp) Tryd.sizeWd rfl [.int .i64 0, .string ⟨#[]⟩, .slice none 0 0, .string ⟨#[]⟩] rfl ?_
      intro W9 R9 T9
      have B9 : Hid (Below w.heap.size w W9) := B3.out.trans (T9.below (Nat.le_refl _))
      clear T9
      go_wp2_with fail
      refine bodyPost_ret (results_bt Tryd.results12 w.heap.size 26 [.int .i64 0, .string ⟨#[]⟩, .slice none 0 0, .string ⟨#[]⟩] _ rfl R9 Tryd.underlying26 rfl Tryd.sizeWd) rfl ?_
      exact ⟨0, ByteArray.empty, [], ByteArray.empty, false, ⟨none, 0, 0⟩, rfl, ansW_bad HQ.out (.inl HA.out), OwnS.zero _ _, B9.out⟩
end Go.Proofs.YtmbjflhhffcjdaaDoor


/- The specification's WordText. Written by gen_wtx.py. -/
namespace Go.Proofs.YtmbjflhhffcjdaaDoor
open Go.RowKit Pl
set_option linter.unusedVariables false
set_option linter.unusedSimpArgs false

theorem lsh_any (s : ByteArray) (w : World) (hs : s.size ≤ 20000) :
    Calls Tryd.prog 61 #[.string s] w fun e w' => e = .returned (.string (shT s)) ∧ Below w.heap.size w w' := l05Short_any s w hs
set_option maxRecDepth 100000 in
set_option maxHeartbeats 2000000 in
theorem spWordText_no (k : Int) (who : ByteArray) (gs : List ByteArray) (t : ByteArray) (s : Sv) (w : World) (hx : Hid (RT w s.v gs)) (hl : gs.length ≤ 1048576) (hk : Hid (wdB k who gs t = false)) :
    Calls Tryd.prog 21 #[.agg #[.int .i64 k, .string who, .slice s.a s.n s.c, .string t]] w fun e w' => e = .returned (.tuple #[.string ByteArray.empty, .bool false]) ∧ Below w.heap.size w w' := by
  have LA : Hid (Bx (w.alloc (.cells #[.int .i64 k, .string who, .slice s.a s.n s.c, .string t] 26)) w.heap.size 26 [.int .i64 k, .string who, .slice s.a s.n s.c, .string t]) := by
    have h := Bx.new w 26 [.int .i64 k, .string who, .slice s.a s.n s.c, .string t]
    exact h
  have BW : Hid (Below w.heap.size w (w.alloc (.cells #[.int .i64 k, .string who, .slice s.a s.n s.c, .string t] 26))) := ((Below.refl _ _).alloc (by simp) _)
  have HX : Hid (RT (w.alloc (.cells #[.int .i64 k, .string who, .slice s.a s.n s.c, .string t] 26)) s.v gs) := hx.out.stays BW.out
  clear hx
  go_enter Tryd.func21, Tryd.ntmps21
  go_wp2_with (first | (refine wpList_ldG rfl 26 _ rfl w.heap.size 0 rfl 26 _ LA.out [.int .i64 k, .string who, .slice s.a s.n s.c, .string t] rfl _ Tryd.underlying26 rfl Tryd.sizeWd ?_))
  refine (spWordOk_any k who gs t s _ HX hl).mono ?_
  rintro e w1 ⟨rfl, b⟩
  rw [hk.out]
  have BW : Hid (Below w.heap.size w w1) := bl_next BW.out b
  clear b LA
  go_wp2_with fail
  go_ret2
  exact ⟨rfl, BW.out⟩
set_option maxRecDepth 100000 in
set_option maxHeartbeats 8000000 in
theorem spWordText_yes (k : Nat) (who : ByteArray) (gs : List ByteArray) (t : ByteArray) (s : Sv) (w : World) (hx : Hid (RT w s.v gs)) (ho : Hid (WdOk k who gs t)) :
    Calls Tryd.prog 21 #[.agg #[.int .i64 (k : Int), .string who, .slice s.a s.n s.c, .string t]] w fun e w' => e = .returned (.tuple #[.string (wordS k who gs t), .bool true]) ∧ Below w.heap.size w w' := by
  obtain ⟨n1, n2, n3, n4, n5, n6⟩ := ho.out.nats
  have HZ : Hid (∀ x ∈ gs, x.size ≤ 12) := n5
  have HK : Hid (wdB k who gs t = true) := ho.out
  obtain ⟨K, hK⟩ : ∃ K, byteS k = K := ⟨_, rfl⟩
  obtain ⟨U, hU⟩ : ∃ U, shT who = U := ⟨_, rfl⟩
  obtain ⟨N, hN⟩ : ∃ N, varS gs.length = N := ⟨_, rfl⟩
  obtain ⟨X, hX⟩ : ∃ X, shT t = X := ⟨_, rfl⟩
  have zK : K.size = 1 := by rw [← hK, rt_size, byteS_list]; rfl
  have zU : U.size ≤ 20 := by have := shT_size (t := who) (by omega); rw [hU] at this; omega
  have zX : X.size ≤ 25 := by have := shT_size (t := t) (by omega); rw [hX] at this; omega
  have zN : N.size ≤ 5 := by rw [← hN, rt_size, varS_list]; exact varL_len (by omega)
  have EE : Hid (tsS (K ++ U ++ N) gs ++ X = wordS k who gs t) := by rw [← hK, ← hU, ← hN, ← hX]; rfl
  have EK : Hid (byteS k = K) := hK
  have EU : Hid (shT who = U) := hU
  have EN : Hid (varS gs.length = N) := hN
  have EX : Hid (shT t = X) := hX
  clear hK hU hN hX n5
  have x1 : (K ++ U).size = K.size + U.size := ByteArray.size_append
  have x2 : (K ++ U ++ N).size = K.size + U.size + N.size := by rw [ByteArray.size_append, x1]
  have m1 : 1 + U.size ≤ 9223372036854775807 := by omega
  have m2 : 1 + U.size + N.size ≤ 9223372036854775807 := by omega
  have LA : Hid (Bx (w.alloc (.cells #[.int .i64 (k : Int), .string who, .slice s.a s.n s.c, .string t] 26)) w.heap.size 26 [.int .i64 (k : Int), .string who, .slice s.a s.n s.c, .string t]) := by
    have h := Bx.new w 26 [.int .i64 (k : Int), .string who, .slice s.a s.n s.c, .string t]
    exact h
  have BW : Hid (Below w.heap.size w (w.alloc (.cells #[.int .i64 (k : Int), .string who, .slice s.a s.n s.c, .string t] 26))) := ((Below.refl _ _).alloc (by simp) _)
  have HX : Hid (RT (w.alloc (.cells #[.int .i64 (k : Int), .string who, .slice s.a s.n s.c, .string t] 26)) s.v gs) := hx.out.stays BW.out
  have HNN : Hid (s.n = gs.length) := RT.len hx.out
  clear hx
  go_enter Tryd.func21, Tryd.ntmps21
  go_wp2_with (first | (refine wpList_ldG rfl 26 _ rfl w.heap.size 0 rfl 26 _ LA.out [.int .i64 (k : Int), .string who, .slice s.a s.n s.c, .string t] rfl _ Tryd.underlying26 rfl Tryd.sizeWd ?_))
  generalize (w.alloc (.cells #[.int .i64 (k : Int), .string who, .slice s.a s.n s.c, .string t] 26)) = W0 at *
  refine (spWordOk_any k who gs t s _ HX (by omega)).mono ?_
  rintro e w1 ⟨rfl, b⟩
  have z_w1 : W0.heap.size ≤ w1.heap.size := b.size
  have LA : Hid (Bx w1 w.heap.size 26 [.int .i64 (k : Int), .string who, .slice s.a s.n s.c, .string t]) := LA.out.later b
  have BW : Hid (Below w.heap.size w w1) := bl_next BW.out b
  have HX : Hid (RT w1 s.v gs) := HX.out.stays b
  clear b
  rw [HK.out]
  go_wp2_with fail
  refine quietC (C := fun w' => Below w1.heap.size w1 w') (by kernel_rfl) (by kernel_rfl) (Below.refl _ _).drew ?_
  go_big_quiet_want
  refine q_val (.pointer (some ⟨w.heap.size, 0, none⟩)) (fun w' hw' => by go_simp) ?_
  go_big_quiet_on
  simp only [Act.put, List.setIfInBounds_toArray, List.set_cons_zero, List.set_cons_succ]
  go_big_quiet_want
  refine q_val (.int .i64 k) (fun w' hw' => by have r0 : w'.cell? ⟨w.heap.size, 0, none⟩ = some (.int .i64 k) := (LA.out.later hw').cell 0; go_simp) ?_
  go_big_quiet_on
  simp only [Act.put, List.setIfInBounds_toArray, List.set_cons_zero, List.set_cons_succ]
  go_big_quiet_want
  refine q_callB (W := w1) (.string K) 60 #[(.int .i64 k)] (fun w' hw' => by go_simp) (fun w' hw' => (l05Byte_any k w' (by omega)).mono fun e w'' ⟨h1, h2⟩ => ⟨by rw [h1, EK.out], h2⟩) ?_
  go_big_quiet_on
  simp only [Act.put, List.setIfInBounds_toArray, List.set_cons_zero, List.set_cons_succ]
  go_big_quiet_want
  refine q_val (.pointer (some ⟨w.heap.size, 1, none⟩)) (fun w' hw' => by go_simp) ?_
  go_big_quiet_on
  simp only [Act.put, List.setIfInBounds_toArray, List.set_cons_zero, List.set_cons_succ]
  go_big_quiet_want
  refine q_val (.string who) (fun w' hw' => by have r1 : w'.cell? ⟨w.heap.size, 1, none⟩ = some (.string who) := (LA.out.later hw').cell 1; go_simp) ?_
  go_big_quiet_on
  simp only [Act.put, List.setIfInBounds_toArray, List.set_cons_zero, List.set_cons_succ]
  go_big_quiet_want
  refine q_callB (W := w1) (.string U) 61 #[(.string who)] (fun w' hw' => by go_simp) (fun w' hw' => (lsh_any who w' (by omega)).mono fun e w'' ⟨h1, h2⟩ => ⟨by rw [h1, EU.out], h2⟩) ?_
  go_big_quiet_on
  simp only [Act.put, List.setIfInBounds_toArray, List.set_cons_zero, List.set_cons_succ]
  go_big_quiet_want
  refine q_val (.string (K ++ U)) (fun w' hw' => by go_simp) ?_
  go_big_quiet_on
  simp only [Act.put, List.setIfInBounds_toArray, List.set_cons_zero, List.set_cons_succ]
  go_big_quiet_want
  refine q_val (.pointer (some ⟨w.heap.size, 2, none⟩)) (fun w' hw' => by go_simp) ?_
  go_big_quiet_on
  simp only [Act.put, List.setIfInBounds_toArray, List.set_cons_zero, List.set_cons_succ]
  go_big_quiet_want
  refine q_val (.slice s.a s.n s.c) (fun w' hw' => by have r2 : w'.cell? ⟨w.heap.size, 2, none⟩ = some (.slice s.a s.n s.c) := (LA.out.later hw').cell 2; go_simp) ?_
  go_big_quiet_on
  simp only [Act.put, List.setIfInBounds_toArray, List.set_cons_zero, List.set_cons_succ]
  go_big_quiet_want
  refine q_val (.int .i64 ((gs.length : Int))) (fun w' hw' => by have hn := HNN.out; go_simp) ?_
  go_big_quiet_on
  simp only [Act.put, List.setIfInBounds_toArray, List.set_cons_zero, List.set_cons_succ]
  go_big_quiet_want
  refine q_callB (W := w1) (.string N) 62 #[(.int .i64 ((gs.length : Int)))] (fun w' hw' => by go_simp) (fun w' hw' => (l01Var_any gs.length w' (by omega)).mono fun e w'' ⟨h1, h2⟩ => ⟨by rw [h1, EN.out], h2⟩) ?_
  go_big_quiet_on
  simp only [Act.put, List.setIfInBounds_toArray, List.set_cons_zero, List.set_cons_succ]
  go_big_quiet_want
  refine q_val (.string (K ++ U ++ N)) (fun w' hw' => by go_simp) ?_
  go_big_quiet_on
  simp only [Act.put, List.setIfInBounds_toArray, List.set_cons_zero, List.set_cons_succ]
  go_big_quiet_want
  refine q_val (.string (K ++ U ++ N)) (fun w' hw' => by go_simp) ?_
  go_big_quiet_on
  simp only [Act.put, List.setIfInBounds_toArray, List.set_cons_zero, List.set_cons_succ]
  refine wpQuiet_nil ?_
  intro w2 c2
  have z_w2 : w1.heap.size ≤ w2.heap.size := c2.size
  have LA : Hid (Bx w2 w.heap.size 26 [.int .i64 (k : Int), .string who, .slice s.a s.n s.c, .string t]) := LA.out.later c2
  have BW : Hid (Below w.heap.size w w2) := bl_next BW.out c2
  have HX : Hid (RT w2 s.v gs) := HX.out.stays c2
  clear c2
  go_wp2_with fail
  obtain ⟨T0, hT0⟩ : ∃ T0, K ++ U ++ N = T0 := ⟨_, rfl⟩
  rw [hT0] at EE x2 ⊢
  clear hT0 x1 m1 m2
  go_loopw [4, 5] (fun tx i wr => ∃ (j : Nat) (S : ByteArray), j ≤ gs.length ∧ tx = .string S ∧ i = .int .i64 j ∧ S.size ≤ T0.size + 17 * j ∧ Hid (S = tsS T0 (gs.take j)) ∧ Hid (Below w2.heap.size w2 wr)) (fun _ i _ => gs.length - (intOf i).toNat)
  case atStart => exact ⟨0, T0, Nat.zero_le _, rfl, rfl, by omega, rfl, Below.refl _ _⟩
  case round =>
    obtain ⟨j, S, hk, rfl, rfl, hS, hSS, hB⟩ := hrel
    have LB : Hid (Bx wr w.heap.size 26 [.int .i64 (k : Int), .string who, .slice s.a s.n s.c, .string t]) := LA.out.later hB.out
    have c2 := LB.out.cell 2
    have c3 := LB.out.cell 3
    simp only [List.getElem?_cons_succ, List.getElem?_cons_zero] at c2 c3
    have HX2 : Hid (RT wr s.v gs) := HX.out.stays hB.out
    by_cases hlt : j < gs.length
    · obtain ⟨ao, cap, hv, hx0⟩ := HX2.out
      have hv : Value.slice s.a s.n s.c = Value.slice ao gs.length cap := hv
      simp only [Value.slice.injEq] at hv
      obtain ⟨ha, hmid, hc⟩ := hv
      obtain ⟨b, off, rfl, hbb, c0⟩ := hx0 j hlt
      obtain ⟨x, hxe⟩ : ∃ x, x = gs[j] := ⟨_, rfl⟩
      have XE : Hid (x = gs[j]) := hxe
      have hxz : x.size ≤ 12 := by rw [hxe]; exact HZ.out _ (List.getElem_mem hlt)
      rw [← hxe] at c0
      have HC : Hid (wr.cell? ⟨b, off + j, none⟩ = some (.string x)) := c0
      rw [ha, HNN.out] at c2
      clear hxe hx0 c0 ha hc hmid
      have i0 : (0 : Int) ≤ (j : Int) := by omega
      have i1 : (j : Int) < (gs.length : Int) := by omega
      have c0 := HC.out
      go_wp2_with fail
      refine (lsh_any x _ (by omega)).mono ?_
      rintro e w3 ⟨rfl, b3⟩
      have B3 : Hid (Below w2.heap.size w2 w3) := bl_next hB.out b3
      have hz2 := shT_size (t := x) (by omega)
      clear b3 c0 c2 c3
      generalize hI : shT x = I at *
      have HII : Hid (shT x = I) := hI
      clear hI
      have mx : ¬9223372036854775807 < S.size + I.size := by omega
      go_wp2_with fail
      go_roundw
      case rel =>
        refine ⟨j + 1, _, by omega, rfl, by go_num, by rw [ByteArray.size_append]; omega, ?_, B3.out⟩
        show _ = _
        rw [tsS_next gs _ j hlt, ← hSS.out, ← XE.out, HII.out]
      case measure => simp [intOf]; omega
    · have HS : Hid (S = tsS T0 gs) := by
        have := hSS.out
        rw [List.take_of_length_le (by omega)] at this
        exact this
      obtain rfl : j = gs.length := by omega
      rw [HNN.out] at c2
      clear hlt
      go_wp2_with fail
      refine (lsh_any t _ (by omega)).mono ?_
      rintro e w3 ⟨rfl, b3⟩
      rw [EX.out]
      have B3 : Hid (Below w2.heap.size w2 w3) := bl_next hB.out b3
      have mx : ¬9223372036854775807 < S.size + X.size := by omega
      clear b3 c2 c3
      go_wp2_with fail
      go_ret2
      exact ⟨by rw [← EE.out, ← HS.out]; rfl, bl_next BW.out B3.out⟩
end Go.Proofs.YtmbjflhhffcjdaaDoor


/- The specification's ReadWord. Written by gen_sbw.py. -/
namespace Go.Proofs.YtmbjflhhffcjdaaDoor
open Go.RowKit Pl
set_option linter.unusedVariables false
set_option linter.unusedSimpArgs false

theorem ShF.good {s t t' : ByteArray} {A i j : Nat} {b : Bool} (h : ShF s A false t i b) (hr : shP s A = some (t', j)) : t = t' ∧ i = j ∧ b = false := by
  obtain ⟨n, k, b1, h1, h2⟩ := h
  rcases h0 : rv s A with _ | ⟨m, p⟩
  · rw [shP_none h0] at hr; cases hr
  · obtain ⟨rfl, rfl, rfl⟩ := h1.good h0
    by_cases hb : n ≤ 20000 ∧ k + n ≤ s.size
    · rw [shP_some h0 hb.1 hb.2] at hr
      simp only [Option.some.injEq, Prod.mk.injEq] at hr
      obtain ⟨rfl, rfl⟩ := hr
      exact h2.good hb.2
    · rw [shP_bad h0 (by omega)] at hr; cases hr
theorem ne_list {a b : ByteArray} (h : a ≠ b) : (a.toList == b.toList) = false := by
  rw [ByteArray.toList_eq, ByteArray.toList_eq, beq_eq_false_iff_ne]
  intro e
  exact h (rt_ext e)
/-- the state of the specification's loop behind j texts. -/
def SpT (s : ByteArray) (A0 : Nat) (b0 : Bool) (n j Aj : Nat) (bj : Bool) (xs : List ByteArray) : Prop :=
  ∀ (ts : List ByteArray) (i : Nat), n ≤ 20 → b0 = false → txsP s A0 n = some (ts, i) → bj = false ∧ ∃ l, txsP s Aj (n - j) = some (l, i) ∧ ts = xs ++ l
theorem spt_start (s : ByteArray) (A0 : Nat) (b0 : Bool) (n : Nat) : SpT s A0 b0 n 0 A0 b0 [] := fun ts i _ hb h => ⟨hb, ts, h, rfl⟩
theorem spt_next {s t : ByteArray} {A0 n j Aj i2 : Nat} {b0 b2 : Bool} {xs : List ByteArray} (h : SpT s A0 b0 n j Aj false xs) (hj : j < n) (hv : ShF s Aj false t i2 b2) : SpT s A0 b0 n (j + 1) i2 b2 (xs ++ [t]) := by
  intro ts i hn hb hp
  obtain ⟨_, ll, h1, h2⟩ := h ts i hn hb hp
  obtain ⟨d, hd⟩ : ∃ d, n - j = d + 1 := ⟨n - j - 1, by omega⟩
  have hd' : n - (j + 1) = d := by omega
  rw [hd] at h1
  rw [hd']
  rcases h0 : shP s Aj with _ | ⟨t', i'⟩
  · rw [txsP_no h0] at h1; cases h1
  · obtain ⟨rfl, rfl, rfl⟩ := hv.good h0
    rw [txsP_some h0] at h1
    rcases h3 : txsP s i2 d with _ | ⟨l', e⟩
    · rw [h3] at h1; cases h1
    · rw [h3] at h1
      simp only [Option.map_some, Option.some.injEq, Prod.mk.injEq] at h1
      obtain ⟨rfl, rfl⟩ := h1
      exact ⟨rfl, l', rfl, by rw [h2]; simp⟩
theorem spt_end {s : ByteArray} {A0 n j Aj : Nat} {b0 bj : Bool} {xs : List ByteArray} (h : SpT s A0 b0 n j Aj bj xs) (hj : j ≤ n) (he : n ≤ j ∨ 20 ≤ j ∨ bj = true) : ∀ (ts : List ByteArray) (i : Nat), n ≤ 20 → b0 = false → txsP s A0 n = some (ts, i) → bj = false ∧ xs = ts ∧ Aj = i := by
  intro ts i hn hb hp
  obtain ⟨h0, l, h1, h2⟩ := h ts i hn hb hp
  have : n - j = 0 := by
    rcases he with he | he | he
    · omega
    · omega
    · rw [h0] at he; cases he
  rw [this] at h1
  simp only [txsP, Option.some.injEq, Prod.mk.injEq] at h1
  obtain ⟨rfl, rfl⟩ := h1
  exact ⟨h0, by rw [h2]; simp, rfl⟩
/-- what the specification's reader has found of a word. -/
def FndW (s : ByteArray) (k : Nat) (who : ByteArray) (gs : List ByteArray) (t : ByteArray) (bad : Bool) : Prop :=
  ∃ i0 b1 i1 b2 n i2 b3 Aj bj iz, OneF s 0 false k i0 b1 ∧ ShF s i0 b1 who i1 b2 ∧ VarF s i1 b2 n i2 b3 ∧ (∀ (ts : List ByteArray) (i : Nat), n ≤ 20 → b3 = false → txsP s i2 n = some (ts, i) → bj = false ∧ gs = ts ∧ Aj = i) ∧ ShF s Aj bj t iz bad
theorem FndW.found {s who t who' t' : ByteArray} {k k' : Nat} {gs gs' : List ByteArray} {bad : Bool} (h : FndW s k who gs t bad) (hs : s.data.toList = wordL k' who' gs' t') (ho : WdOk k' who' gs' t') : k = k' ∧ who = who' ∧ gs = gs' ∧ t = t' ∧ bad = false := by
  obtain ⟨j0, j1, j2, j3, h0, h1, h2, h3, h4⟩ := word_at hs ho
  obtain ⟨_, _, _, n3, _⟩ := ho.nats
  obtain ⟨i0, b1, i1, b2, n, i2, b3, Aj, bj, iz, g0, g1, g2, g3, g4⟩ := h
  obtain ⟨rfl, rfl, rfl⟩ := g0.good h0
  obtain ⟨rfl, rfl, rfl⟩ := g1.good h1
  obtain ⟨rfl, rfl, rfl⟩ := g2.good h2
  obtain ⟨rfl, rfl, rfl⟩ := g3 _ _ (by omega) rfl h3
  obtain ⟨rfl, _, rfl⟩ := g4.good h4
  exact ⟨rfl, rfl, rfl, rfl, rfl⟩
theorem ansW_missed {s who t : ByteArray} {k : Nat} {gs : List ByteArray} {bad : Bool} (h : FndW s k who gs t bad) (hb : bad = true ∨ ¬ WdOk k who gs t ∨ wordS k who gs t ≠ s) : AnsW s 0 ByteArray.empty [] ByteArray.empty false := by
  refine .inr ⟨rfl, rfl, rfl, rfl, rfl, fun k' who' gs' t' ho e => ?_⟩
  obtain ⟨rfl, rfl, rfl, rfl, rfl⟩ := h.found e ho
  rcases hb with hb | hb | hb
  · cases hb
  · exact hb ho
  · exact hb (rt_ext ((wordS_list k who gs t).trans e.symm))
theorem spWordText_two (k : Nat) (who : ByteArray) (gs : List ByteArray) (t : ByteArray) (hl : gs.length ≤ 1048576) : ∃ (T : ByteArray) (K : Bool), ((K = true ∧ WdOk k who gs t ∧ T = wordS k who gs t) ∨ (K = false ∧ ¬ WdOk k who gs t ∧ T = ByteArray.empty)) ∧
    ∀ (u : Sv) (w : World), Hid (RT w u.v gs) → Calls Tryd.prog 21 #[.agg #[.int .i64 k, .string who, .slice u.a u.n u.c, .string t]] w fun e w' => e = .returned (.tuple #[.string T, .bool K]) ∧ Below w.heap.size w w' := by
  cases hk : wdB k who gs t with
  | false => exact ⟨_, _, .inr ⟨rfl, by unfold WdOk; rw [hk]; exact Bool.false_ne_true, rfl⟩, fun u w h => spWordText_no k who gs t u w h hl hk⟩
  | true => exact ⟨_, _, .inl ⟨rfl, hk, rfl⟩, fun u w h => spWordText_yes k who gs t u w h hk⟩

set_option maxRecDepth 100000 in
set_option maxHeartbeats 16000000 in
theorem spReadWord_any (s : ByteArray) (w : World) (hs : s.size ≤ 1048576) :
    Calls Tryd.prog 17 #[.string s] w fun e w' => ∃ (k : Nat) (who : ByteArray) (gs : List ByteArray) (t : ByteArray) (ok : Bool) (u : Sv), e = .returned (.tuple #[.agg #[.int .i64 k, .string who, .slice u.a u.n u.c, .string t], .bool ok]) ∧ AnsW s k who gs t ok ∧ OwnS w' w.heap.size u.v gs ∧ Below w.heap.size w w' := by
  have hn1 : (w.alloc (.cells #[.int .i64 0, .string ⟨#[]⟩, .slice none 0 0, .string ⟨#[]⟩] 26)).heap.size = w.heap.size + 1 := by simp
  have R2 : Hid (Bx ((w.alloc (.cells #[.int .i64 0, .string ⟨#[]⟩, .slice none 0 0, .string ⟨#[]⟩] 26)).alloc (.cells #[.string s, .int .i64 0, .bool false] 79)) w.heap.size 26 [.int .i64 0, .string ⟨#[]⟩, .slice none 0 0, .string ⟨#[]⟩]) := by
    have h := Bx.new w 26 [.int .i64 0, .string ⟨#[]⟩, .slice none 0 0, .string ⟨#[]⟩]
    exact h.later ((Below.refl _ _).alloc (Nat.le_refl _) _)
  have P2 : Hid (PcAt ((w.alloc (.cells #[.int .i64 0, .string ⟨#[]⟩, .slice none 0 0, .string ⟨#[]⟩] 26)).alloc (.cells #[.string s, .int .i64 0, .bool false] 79)) (w.heap.size + 1) s 0 false) := by
    have h := heap_alloc_new (w.alloc (.cells #[.int .i64 0, .string ⟨#[]⟩, .slice none 0 0, .string ⟨#[]⟩] 26)) (.cells #[.string s, .int .i64 0, .bool false] 79)
    rw [hn1] at h
    exact h
  have B2 : Hid (Below w.heap.size w ((w.alloc (.cells #[.int .i64 0, .string ⟨#[]⟩, .slice none 0 0, .string ⟨#[]⟩] 26)).alloc (.cells #[.string s, .int .i64 0, .bool false] 79))) := (((Below.refl _ _).alloc (by simp) _).alloc (by simp; try omega) _)
  go_enter Tryd.func17, Tryd.ntmps17
  go_wp2_with fail
  generalize ((w.alloc (.cells #[.int .i64 0, .string ⟨#[]⟩, .slice none 0 0, .string ⟨#[]⟩] 26)).alloc (.cells #[.string s, .int .i64 0, .bool false] 79)) = W1 at *
  have hgc : w.heap.size < w.heap.size + 1 := by omega
  generalize w.heap.size + 1 = gc at *
  clear hn1
  refine (one_any s gc 0 false W1 P2 (by omega) (Nat.zero_le _)).mono ?_
  rintro e w2 ⟨k, i0, b1, rfl, hk, hi0, hp, ht, hF⟩
  have F0 : Hid (OneF s 0 false k i0 b1) := hF
  have R3 : Hid (Bx w2 w.heap.size 26 [.int .i64 0, .string ⟨#[]⟩, .slice none 0 0, .string ⟨#[]⟩]) := R2.out.turn ht (by omega)
  have P3 : Hid (PcAt w2 gc s i0 b1) := hp
  have B3 : Hid (Below w.heap.size w w2) := B2.out.trans (ht.below (by omega))
  have hN3 := P3.out.lt
  clear hF hp ht R2 P2 B2
  have D3 : Below w2.heap.size w2 (w2.alloc (.cells #[.int .i64 k, .string ⟨#[]⟩, .slice none 0 0, .string ⟨#[]⟩] 26)) := (Below.refl _ _).alloc (Nat.le_refl _) _
  have R4 : Hid (Bx (w2.alloc (.cells #[.int .i64 k, .string ⟨#[]⟩, .slice none 0 0, .string ⟨#[]⟩] 26)) w.heap.size 26 [.int .i64 0, .string ⟨#[]⟩, .slice none 0 0, .string ⟨#[]⟩]) := R3.out.later D3
  have G4 : Hid (Bx (w2.alloc (.cells #[.int .i64 k, .string ⟨#[]⟩, .slice none 0 0, .string ⟨#[]⟩] 26)) w2.heap.size 26 [.int .i64 k, .string ⟨#[]⟩, .slice none 0 0, .string ⟨#[]⟩]) := Bx.new w2 26 _
  have P4 : Hid (PcAt (w2.alloc (.cells #[.int .i64 k, .string ⟨#[]⟩, .slice none 0 0, .string ⟨#[]⟩] 26)) gc s i0 b1) := P3.out.stays D3 hN3
  have B4 : Hid (Below w.heap.size w (w2.alloc (.cells #[.int .i64 k, .string ⟨#[]⟩, .slice none 0 0, .string ⟨#[]⟩] 26))) := bl_next B3.out D3
  clear D3 R3 P3 B3
  go_wp2_with fail
  generalize w2.alloc (.cells #[.int .i64 k, .string ⟨#[]⟩, .slice none 0 0, .string ⟨#[]⟩] 26) = W4 at *
  generalize w2.heap.size = gm at *
  refine (lshort_any s gc i0 b1 W4 P4 (by omega) hi0).mono ?_
  rintro e v1 ⟨who, i1, b2, rfl, hi1, hp, hkb, hF⟩
  have F1 : Hid (ShF s i0 b1 who i1 b2) := hF
  have R5 : Hid (Bx v1 w.heap.size 26 [.int .i64 0, .string ⟨#[]⟩, .slice none 0 0, .string ⟨#[]⟩]) := R4.out.keepb hkb (by omega)
  have G5 : Hid (Bx v1 gm 26 [.int .i64 k, .string ⟨#[]⟩, .slice none 0 0, .string ⟨#[]⟩]) := G4.out.keepb hkb (by omega)
  have P5 : Hid (PcAt v1 gc s i1 b2) := hp
  have B5 : Hid (Below w.heap.size w v1) := B4.out.trans (hkb.below (by omega) B4.out.size)
  have c0 := G5.out.cell 1
  simp only [List.getElem?_cons_succ, List.getElem?_cons_zero] at c0
  have f0 := G5.out.frozen 1
  clear hF hp hkb R4 G4 P4 B4
  have T5 := (TurnAt.refl gm v1).setCell 1 (.string who)
  have R6 : Hid (Bx (v1.setCell ⟨gm, 1, none⟩ (.string who)) w.heap.size 26 [.int .i64 0, .string ⟨#[]⟩, .slice none 0 0, .string ⟨#[]⟩]) := R5.out.turn T5 (by omega)
  have G6 : Hid (Bx (v1.setCell ⟨gm, 1, none⟩ (.string who)) gm 26 [.int .i64 k, .string who, .slice none 0 0, .string ⟨#[]⟩]) := G5.out.set 1 (.string who)
  have P6 : Hid (PcAt (v1.setCell ⟨gm, 1, none⟩ (.string who)) gc s i1 b2) := P5.out.keep T5 (by omega)
  have B6 : Hid (Below w.heap.size w (v1.setCell ⟨gm, 1, none⟩ (.string who))) := B5.out.trans (T5.below (by omega))
  clear T5
  go_wp2_with fail
  generalize (v1.setCell ⟨gm, 1, none⟩ (.string who)) = V1 at *
  clear R5 G5 P5 B5 c0 f0
  refine (lvar_any s gc i1 b2 V1 P6 (by omega) hi1).mono ?_
  rintro e v2 ⟨n, i2, b3, rfl, hn, hi2, hp, hkb, hF⟩
  have F2 : Hid (VarF s i1 b2 n i2 b3) := hF
  have R7 : Hid (Bx v2 w.heap.size 26 [.int .i64 0, .string ⟨#[]⟩, .slice none 0 0, .string ⟨#[]⟩]) := R6.out.keepb hkb (by omega)
  have G7 : Hid (Bx v2 gm 26 [.int .i64 k, .string who, .slice none 0 0, .string ⟨#[]⟩]) := G6.out.keepb hkb (by omega)
  have P7 : Hid (PcAt v2 gc s i2 b3) := hp
  have B7 : Hid (Below w.heap.size w v2) := B6.out.trans (hkb.below (by omega) B6.out.size)
  have zV2 : gm < v2.heap.size := G7.out.lt
  clear hF hp hkb R6 G6 P6 B6
  go_wp2_with fail
  go_loopw [7] (fun ix wr => ∃ (j Aj : Nat) (bj : Bool) (xs : List ByteArray) (u : Sv), j ≤ n ∧ j ≤ 20 ∧ ix = .int .i64 j ∧ xs.length ≤ j ∧ Aj ≤ s.size ∧ v2.heap.size ≤ wr.heap.size ∧ Hid (SpT s i2 b3 n j Aj bj xs) ∧ Hid (Bx wr w.heap.size 26 [.int .i64 0, .string ⟨#[]⟩, .slice none 0 0, .string ⟨#[]⟩]) ∧ Hid (Bx wr gm 26 [.int .i64 k, .string who, .slice u.a u.n u.c, .string ⟨#[]⟩]) ∧ Hid (PcAt wr gc s Aj bj) ∧ Hid (OwnS wr v2.heap.size u.v xs) ∧ Hid (Below w.heap.size w wr)) (fun ix _ => 21 - (intOf ix).toNat)
  case atStart => exact ⟨0, i2, b3, [], ⟨none, 0, 0⟩, Nat.zero_le _, by omega, rfl, Nat.zero_le _, hi2, Nat.le_refl _, spt_start s i2 b3 n, R7.out, G7.out, P7.out, OwnS.zero _ _, B7.out⟩
  case round =>
    clear R7 G7 P7 B7
    obtain ⟨j, Aj, bj, xs, u, hj, hj20, rfl, hxl, hAj, hzr, hst, HR, HG, HP, HO, HB⟩ := hrel
    obtain ⟨c0, c1, c2, f0, f1, f2⟩ := HP.out.cells
    by_cases hgo : j < n ∧ j < 20 ∧ bj = false
    · obtain ⟨hlt, hlt2, rfl⟩ := hgo
      have hd1 : decide ((j : Int) < (n : Int)) = true := by simp; omega
      have hd2 : decide ((j : Int) < 20) = true := by simp; omega
      have cl6 : Hid (Bx wr.drew gm 26 [.int .i64 k, .string who, .slice u.a u.n u.c, .string ⟨#[]⟩]) := HG.out.later (Below.refl _ _).drew
      go_wp2_with fail
      clear c0 c1 c2 f0 f1 f2 hd1 hd2
      refine wp_region_heldLast (S := fun w' => Bx w' gm 26 [.int .i64 k, .string who, .slice u.a u.n u.c, .string ⟨#[]⟩]) _ (by simp) (by kernel_rfl) (by rfl) (by rfl) (by kernel_rfl) (by kernel_rfl) cl6.out (fun hHeld => ?_)
      simp only [List.dropLast_cons_cons, List.dropLast_singleton, List.getLast_cons_cons, List.getLast_singleton, List.cons_append, List.nil_append, List.length_cons, List.length_nil]
      refine wpAnyH_take (i := 0) (v := ?v0) rfl (by kernel_rfl) (by kernel_rfl) (by kernel_rfl) (fun _ _ _ h => h) (Or.inl ⟨by rfl, ?hy0⟩) (by assumption) ?_
      case hy0 => (intro w hSw; (try dsimp only at hSw); simp only [List.getElem_toArray, List.getElem_cons_zero, List.getElem_cons_succ]; go_simp; try with_reducible rfl)
      try simp only [Act.put, List.getElem_toArray, List.getElem_cons_zero, List.getElem_cons_succ, List.setIfInBounds_toArray, List.set_cons_zero, List.set_cons_succ]
      refine wpAnyH_take (i := 1) (v := _) rfl (by kernel_rfl) (by kernel_rfl) (by kernel_rfl) (fun _ _ _ h => h) (ld1_yield (by rfl) 24 _ rfl gm 2 rfl 26 _ (fun w hS => hS) (.slice u.a u.n u.c) rfl _ Tryd.underlying24 rfl) (by assumption) ?_
      try simp only [Act.put, List.getElem_toArray, List.getElem_cons_zero, List.getElem_cons_succ, List.setIfInBounds_toArray, List.set_cons_zero, List.set_cons_succ]
      refine wpAnyH_take (i := 2) (v := ?v2) rfl (by kernel_rfl) (by kernel_rfl) (by kernel_rfl) (fun _ _ _ h => h) (Or.inl ⟨by rfl, ?hy2⟩) (by assumption) ?_
      case hy2 => (intro w hSw; (try dsimp only at hSw); simp only [List.getElem_toArray, List.getElem_cons_zero, List.getElem_cons_succ]; go_simp; try with_reducible rfl)
      try simp only [Act.put, List.getElem_toArray, List.getElem_cons_zero, List.getElem_cons_succ, List.setIfInBounds_toArray, List.set_cons_zero, List.set_cons_succ]
      refine wpAnyH_ready (rs := [3]) (by kernel_rfl) (by simp) ?_
      refine AllReadyH.cons (i := 3) rfl (fun K hK => ?_) AllReadyH.nil
      rw [if_pos (by rfl)]
      simp only [List.getElem_toArray, List.getElem_cons_zero, List.getElem_cons_succ]
      go_simp
      refine (lshort_any s gc Aj false _ (show Hid (PcAt wr.drew gc s Aj false) from HP.out) (by omega) hAj).mono ?_
      rintro e w5 ⟨tt, i5, b5, rfl, hi5, hp5, hk5, hF5⟩
      have k5 : KeepBut gc wr w5 := (keep_of_below (Below.refl _ _).drew).trans hk5
      have z5 : wr.heap.size ≤ w5.heap.size := k5.size
      have F5 : Hid (ShF s Aj false tt i5 b5) := hF5
      have HG : Hid (Bx w5 gm 26 [.int .i64 k, .string who, .slice u.a u.n u.c, .string ⟨#[]⟩]) := HG.out.keepb k5 (by omega)
      have HR : Hid (Bx w5 w.heap.size 26 [.int .i64 0, .string ⟨#[]⟩, .slice none 0 0, .string ⟨#[]⟩]) := HR.out.keepb k5 (by omega)
      have HP : Hid (PcAt w5 gc s i5 b5) := hp5
      have HB : Hid (Below w.heap.size w w5) := HB.out.trans (k5.below (by omega) HB.out.size)
      have HO : Hid (OwnS w5 v2.heap.size u.v xs) := OwnS.keepg HO.out k5 (by omega)
      refine hK.out _ _ (HG.out) (fun hHeld => ?_)
      clear hK K
      try simp only [Act.put, List.getElem_toArray, List.getElem_cons_zero, List.getElem_cons_succ, List.setIfInBounds_toArray, List.set_cons_zero, List.set_cons_succ]
      clear hp5 hk5 hF5 k5
      have GA : Hid (Bx (w5.alloc (.cells #[.string tt] 9)) gm 26 [.int .i64 k, .string who, .slice u.a u.n u.c, .string ⟨#[]⟩]) := HG.out.later ((Below.refl _ _).alloc (Nat.le_refl _) _)
      refine wpAnyH_ready (rs := [4]) (by kernel_rfl) (by simp) ?_
      refine AllReadyH.cons (i := 4) rfl (fun K hK => ?_) AllReadyH.nil
      rw [if_pos (by rfl)]
      simp only [List.getElem_toArray, List.getElem_cons_zero, List.getElem_cons_succ]
      go_simp
      refine hK.out _ _ (GA.out) (fun hHeld => ?_)
      clear hK K
      try simp only [Act.put, List.getElem_toArray, List.getElem_cons_zero, List.getElem_cons_succ, List.setIfInBounds_toArray, List.set_cons_zero, List.set_cons_succ]
      refine wpAnyH_ready (rs := [5]) (by kernel_rfl) (by simp) ?_
      refine AllReadyH.cons (i := 5) rfl (fun K hK => ?_) AllReadyH.nil
      rw [if_pos (by rfl)]
      simp only [List.getElem_toArray, List.getElem_cons_zero, List.getElem_cons_succ]
      refine wp_pushSb _ _ 24 rfl Tryd.underlying24 Tryd.info9 v2.heap.size (.slice u.a u.n u.c) xs rfl HO.out tt rfl (by omega) (by omega) ?_
      intro v8 w8 o8 g8 _
      have Xtx : Hid (OwnS w8 v2.heap.size v8 (xs ++ [tt])) := o8
      have G8 : Hid ((w5.alloc (.cells #[.string tt] 9)).grownBy w8 u.v.ownBlock) := g8
      clear o8 g8
      obtain ⟨utx, hf⟩ := OwnS.svs Xtx.out
      subst hf
      have KK := grown_after G8.out
      have N1 : Hid (∀ k, (u.v).ownBlock = some k → v2.heap.size ≤ k ∧ k < w5.heap.size) := OwnS.lt HO.out
      have ng : some gm ≠ u.v.ownBlock := fun e => by have := (N1.out _ e.symm).1; omega
      have HR : Hid (Bx w8 w.heap.size 26 [.int .i64 0, .string ⟨#[]⟩, .slice none 0 0, .string ⟨#[]⟩]) := HR.out.grown KK (fun e => by have := (N1.out _ e.symm).1; omega)
      have HP : Hid (PcAt w8 gc s i5 b5) := (KK.block gc HP.out.lt (fun e => by have := (N1.out _ e.symm).1; omega)).trans HP.out
      have HG : Hid (Bx w8 gm 26 [.int .i64 k, .string who, .slice u.a u.n u.c, .string ⟨#[]⟩]) := HG.out.grown KK ng
      have HB : Hid (Below w.heap.size w w8) := HB.out.grown KK HB.out.size (fun k hk => by have := (N1.out k hk).1; omega)
      have z8 : w5.heap.size ≤ w8.heap.size := KK.size
      refine hK.out _ _ (HG.out) (fun hHeld => ?_)
      clear hK K
      try simp only [Act.put, List.getElem_toArray, List.getElem_cons_zero, List.getElem_cons_succ, List.setIfInBounds_toArray, List.set_cons_zero, List.set_cons_succ]
      clear G8 KK ng GA cl6
      refine wpAnyH_take (i := 6) (v := ?v6) rfl (by kernel_rfl) (by kernel_rfl) (by kernel_rfl) (fun _ _ _ h => h) (Or.inl ⟨by rfl, ?hy6⟩) (by assumption) ?_
      case hy6 => (intro w hSw; (try dsimp only at hSw); simp only [List.getElem_toArray, List.getElem_cons_zero, List.getElem_cons_succ]; go_simp; try with_reducible rfl)
      try simp only [Act.put, List.getElem_toArray, List.getElem_cons_zero, List.getElem_cons_succ, List.setIfInBounds_toArray, List.set_cons_zero, List.set_cons_succ]
      refine wpAnyH_take (i := 7) (v := ?v7) rfl (by kernel_rfl) (by kernel_rfl) (by kernel_rfl) (fun _ _ _ h => h) (Or.inl ⟨by rfl, ?hy7⟩) (by assumption) ?_
      case hy7 => (intro w hSw; (try dsimp only at hSw); simp only [List.getElem_toArray, List.getElem_cons_zero, List.getElem_cons_succ]; go_simp; try with_reducible rfl)
      try simp only [Act.put, List.getElem_toArray, List.getElem_cons_zero, List.getElem_cons_succ, List.setIfInBounds_toArray, List.set_cons_zero, List.set_cons_succ]
      refine wpAnyH_done (by kernel_rfl) ?_ _
      refine lastQ_of rfl rfl ?_
      refine wp_st1 24 _ _ rfl gm 2 rfl 26 _ HG.out (.slice utx.a utx.n utx.c) rfl (by simp) rfl Tryd.sizeStrs [.int .i64 k, .string who, .slice utx.a utx.n utx.c, .string ⟨#[]⟩] rfl ?_
      intro w9 OB TB
      have HR : Hid (Bx w9 w.heap.size 26 [.int .i64 0, .string ⟨#[]⟩, .slice none 0 0, .string ⟨#[]⟩]) := HR.out.turn TB (by omega)
      have HP : Hid (PcAt w9 gc s i5 b5) := HP.out.keep TB (by omega)
      have HO : Hid (OwnS w9 v2.heap.size utx.v (xs ++ [tt])) := OwnS.keepg Xtx.out TB.keep (by omega)
      have HB : Hid (Below w.heap.size w w9) := HB.out.trans (TB.below (by omega))
      have HG : Hid (Bx w9 gm 26 [.int .i64 k, .string who, .slice utx.a utx.n utx.c, .string ⟨#[]⟩]) := OB
      have z9 : w8.heap.size ≤ w9.heap.size := TB.keep.size
      clear OB TB hHeld Xtx N1
      go_wp2_with fail
      go_roundw
      case rel => exact ⟨j + 1, i5, b5, xs ++ [tt], utx, by omega, by omega, by go_num, by simp; omega, hi5, by omega, spt_next hst.out hlt F5.out, HR.out, HG.out, HP.out, HO.out, HB.out⟩
      case measure => simp [intOf]; omega
    · have hEnd : n ≤ j ∨ 20 ≤ j ∨ bj = true := by
        cases bj with
        | true => exact .inr (.inr rfl)
        | false =>
          by_cases h1 : j < n
          · by_cases h2 : j < 20
            · exact absurd ⟨h1, h2, rfl⟩ hgo
            · exact .inr (.inl (by omega))
          · exact .inl (by omega)
      have HF : Hid (∀ (ts : List ByteArray) (i : Nat), n ≤ 20 → b3 = false → txsP s i2 n = some (ts, i) → bj = false ∧ xs = ts ∧ Aj = i) := spt_end hst.out hj hEnd
      have hways : (¬ j < n) ∨ (j < n ∧ ¬ j < 20) ∨ (j < n ∧ j < 20 ∧ bj = true) := by
        by_cases h1 : j < n
        · by_cases h2 : j < 20
          · refine .inr (.inr ⟨h1, h2, ?_⟩)
            rcases hEnd with h | h | h
            · omega
            · omega
            · exact h
          · exact .inr (.inl ⟨h1, h2⟩)
        · exact .inl h1
      clear hgo hst hEnd
      rcases hways with hd1 | ⟨hd1, hd2⟩ | ⟨hd1, hd2, rfl⟩
      all_goals
        go_wp2_with fail
        clear c0 c1 c2 f0 f1 f2
        refine (lshort_any s gc Aj _ _ HP (by omega) hAj).mono ?_
        rintro e v3 ⟨t, iz, bad, rfl, hiz, hp, hkb, hF⟩
        have FW : Hid (FndW s k who xs t bad) := ⟨i0, b1, i1, b2, n, i2, b3, Aj, _, iz, F0.out, F1.out, F2.out, HF.out, hF⟩
        have HG : Hid (Bx v3 gm 26 [.int .i64 k, .string who, .slice u.a u.n u.c, .string ⟨#[]⟩]) := HG.out.keepb hkb (by omega)
        have HR : Hid (Bx v3 w.heap.size 26 [.int .i64 0, .string ⟨#[]⟩, .slice none 0 0, .string ⟨#[]⟩]) := HR.out.keepb hkb (by omega)
        have HB : Hid (Below w.heap.size w v3) := HB.out.trans (hkb.below (by omega) HB.out.size)
        have HO : Hid (OwnS v3 v2.heap.size u.v xs) := OwnS.keepg HO.out hkb (by omega)
        have HP : Hid (PcAt v3 gc s iz bad) := hp
        have e0 := HG.out.cell 3
        simp only [List.getElem?_cons_succ, List.getElem?_cons_zero] at e0
        have f0 := HG.out.frozen 3
        clear hp hkb hF HF F0 F1 F2
        have T5 := (TurnAt.refl gm v3).setCell 3 (.string t)
        have HR : Hid (Bx (v3.setCell ⟨gm, 3, none⟩ (.string t)) w.heap.size 26 [.int .i64 0, .string ⟨#[]⟩, .slice none 0 0, .string ⟨#[]⟩]) := HR.out.turn T5 (by omega)
        have HO : Hid (OwnS (v3.setCell ⟨gm, 3, none⟩ (.string t)) v2.heap.size u.v xs) := OwnS.keepg HO.out T5.keep (by omega)
        have HP : Hid (PcAt (v3.setCell ⟨gm, 3, none⟩ (.string t)) gc s iz bad) := HP.out.keep T5 (by omega)
        have HB : Hid (Below w.heap.size w (v3.setCell ⟨gm, 3, none⟩ (.string t))) := HB.out.trans (T5.below (by omega))
        have HG : Hid (Bx (v3.setCell ⟨gm, 3, none⟩ (.string t)) gm 26 [.int .i64 k, .string who, .slice u.a u.n u.c, .string t]) := HG.out.set 3 (.string t)
        clear T5
        obtain ⟨T, K, hTK, hsp⟩ := spWordText_two k who xs t (by omega)
        have HSP : Hid _ := hsp
        have HTK : Hid ((K = true ∧ WdOk k who xs t ∧ T = wordS k who xs t) ∨ (K = false ∧ ¬ WdOk k who xs t ∧ T = ByteArray.empty)) := hTK
        clear hsp hTK
        go_wp2_with (first | (refine wpList_ldG rfl 26 _ rfl gm 0 rfl 26 _ HG.out [.int .i64 k, .string who, .slice u.a u.n u.c, .string t] rfl _ Tryd.underlying26 rfl Tryd.sizeWd ?_))
        generalize (v3.setCell ⟨gm, 3, none⟩ (.string t)) = V3 at *
        refine (HSP.out u V3 (show Hid (RT V3 u.v xs) from OwnS.texts HO.out)).mono ?_
        rintro e v4 ⟨rfl, b⟩
        have HR : Hid (Bx v4 w.heap.size 26 [.int .i64 0, .string ⟨#[]⟩, .slice none 0 0, .string ⟨#[]⟩]) := HR.out.later b
        have HG : Hid (Bx v4 gm 26 [.int .i64 k, .string who, .slice u.a u.n u.c, .string t]) := HG.out.later b
        have HP : Hid (PcAt v4 gc s iz bad) := HP.out.stays b HP.out.lt
        have HO : Hid (OwnS v4 v2.heap.size u.v xs) := OwnS.keep' HO.out (fun y _ hy => Below.block b y hy)
        have HB : Hid (Below w.heap.size w v4) := bl_next HB.out b
        clear b e0 f0 HSP
        obtain ⟨c0, c1, c2, f0, f1, f2⟩ := HP.out.cells
        have zz : w.heap.size ≤ v2.heap.size := by omega
        cases bad with
        | true =>
          go_wp2_with (first | (with_reducible refine wpList_haltS 26 _ _ rfl ?_))
          refine Stp.go ?_
          refine wpList_stB rfl 26 _ _ rfl w.heap.size 0 rfl 26 _ HR.out [.int .i64 0, .string ⟨#[]⟩, .slice none 0 0, .string ⟨#[]⟩] rfl (by simp) Tryd.sizeWd rfl [.int .i64 0, .string ⟨#[]⟩, .slice none 0 0, .string ⟨#[]⟩] rfl ?_
          intro W9 R9 T9
          have B9 : Hid (Below w.heap.size w W9) := HB.out.trans (T9.below (Nat.le_refl _))
          clear T9
          go_wp2_with fail
          refine bodyPost_ret (results_bt Tryd.results17 w.heap.size 26 [.int .i64 0, .string ⟨#[]⟩, .slice none 0 0, .string ⟨#[]⟩] _ rfl R9 Tryd.underlying26 rfl Tryd.sizeWd) rfl ?_
          exact ⟨0, ByteArray.empty, [], ByteArray.empty, false, ⟨none, 0, 0⟩, rfl, ansW_missed FW.out (.inl rfl), OwnS.zero _ _, B9.out⟩
        | false =>
          cases K with
          | false =>
            have HN : Hid (¬ WdOk k who xs t) := (by rcases HTK.out with ⟨h, _⟩ | ⟨_, h, _⟩; exact absurd h (by simp); exact h : ¬ WdOk k who xs t)
            go_wp2_with (first | (with_reducible refine wpList_haltS 26 _ _ rfl ?_))
            refine Stp.go ?_
            refine wpList_stB rfl 26 _ _ rfl w.heap.size 0 rfl 26 _ HR.out [.int .i64 0, .string ⟨#[]⟩, .slice none 0 0, .string ⟨#[]⟩] rfl (by simp) Tryd.sizeWd rfl [.int .i64 0, .string ⟨#[]⟩, .slice none 0 0, .string ⟨#[]⟩] rfl ?_
            intro W9 R9 T9
            have B9 : Hid (Below w.heap.size w W9) := HB.out.trans (T9.below (Nat.le_refl _))
            clear T9
            go_wp2_with fail
            refine bodyPost_ret (results_bt Tryd.results17 w.heap.size 26 [.int .i64 0, .string ⟨#[]⟩, .slice none 0 0, .string ⟨#[]⟩] _ rfl R9 Tryd.underlying26 rfl Tryd.sizeWd) rfl ?_
            exact ⟨0, ByteArray.empty, [], ByteArray.empty, false, ⟨none, 0, 0⟩, rfl, ansW_missed FW.out (.inr (.inl HN.out)), OwnS.zero _ _, B9.out⟩
          | true =>
            have HW : Hid (WdOk k who xs t ∧ T = wordS k who xs t) := (by rcases HTK.out with ⟨_, h⟩ | ⟨h, _⟩; exact h; exact absurd h (by simp) : WdOk k who xs t ∧ T = wordS k who xs t)
            by_cases hTs : T = s
            · have HE : Hid (wordS k who xs t = s) := (HW.out.2.symm.trans hTs : wordS k who xs t = s)
              subst hTs
              have hq : (T.toList == T.toList) = true := by simp
              go_wp2_with (first | (refine wpList_ldG rfl 26 _ rfl gm 0 rfl 26 _ HG.out [.int .i64 k, .string who, .slice u.a u.n u.c, .string t] rfl _ Tryd.underlying26 rfl Tryd.sizeWd ?_) | (with_reducible refine wpList_haltS 26 _ _ rfl ?_))
              refine Stp.go ?_
              refine wpList_stB rfl 26 _ _ rfl w.heap.size 0 rfl 26 _ HR.out [.int .i64 k, .string who, .slice u.a u.n u.c, .string t] rfl (by simp) Tryd.sizeWd rfl [.int .i64 k, .string who, .slice u.a u.n u.c, .string t] rfl ?_
              intro W9 R9 T9
              have B9 : Hid (Below w.heap.size w W9) := HB.out.trans (T9.below (Nat.le_refl _))
              have O9 : Hid (OwnS W9 w.heap.size u.v xs) := OwnS.down (OwnS.keep' HO.out fun y hy hl => T9.block y (by have := (OwnS.lt HO.out y hy).1; omega)) zz
              clear T9
              go_wp2_with fail
              refine bodyPost_ret (results_bt Tryd.results17 w.heap.size 26 [.int .i64 k, .string who, .slice u.a u.n u.c, .string t] _ rfl R9 Tryd.underlying26 rfl Tryd.sizeWd) rfl ?_
              exact ⟨k, who, xs, t, true, u, rfl, ansW_hit HW.out.1 HE.out, O9.out, B9.out⟩
            · have HE : Hid (wordS k who xs t ≠ s) := (fun h => hTs (HW.out.2.trans h) : wordS k who xs t ≠ s)
              have hq : (T.toList == s.toList) = false := ne_list hTs
              clear hTs
              go_wp2_with (first | (with_reducible refine wpList_haltS 26 _ _ rfl ?_))
              refine Stp.go ?_
              refine wpList_stB rfl 26 _ _ rfl w.heap.size 0 rfl 26 _ HR.out [.int .i64 0, .string ⟨#[]⟩, .slice none 0 0, .string ⟨#[]⟩] rfl (by simp) Tryd.sizeWd rfl [.int .i64 0, .string ⟨#[]⟩, .slice none 0 0, .string ⟨#[]⟩] rfl ?_
              intro W9 R9 T9
              have B9 : Hid (Below w.heap.size w W9) := HB.out.trans (T9.below (Nat.le_refl _))
              clear T9
              go_wp2_with fail
              refine bodyPost_ret (results_bt Tryd.results17 w.heap.size 26 [.int .i64 0, .string ⟨#[]⟩, .slice none 0 0, .string ⟨#[]⟩] _ rfl R9 Tryd.underlying26 rfl Tryd.sizeWd) rfl ?_
              exact ⟨0, ByteArray.empty, [], ByteArray.empty, false, ⟨none, 0, 0⟩, rfl, ansW_missed FW.out (.inr (.inr HE.out)), OwnS.zero _ _, B9.out⟩
end Go.Proofs.YtmbjflhhffcjdaaDoor


/- The law on ReadWord. Written by gen_lrw.py. -/
namespace Go.Proofs.YtmbjflhhffcjdaaDoor
open Go.RowKit Pl
set_option linter.unusedVariables false
set_option linter.unusedSimpArgs false

theorem totS_few {gs : List ByteArray} (h : gs.length ≤ 3) (hz : ∀ x ∈ gs, x.size ≤ 12) : totS gs ≤ 1048576 := by
  have : ∀ l : List ByteArray, (∀ x ∈ l, x.size ≤ 12) → (l.map (·.size)).sum ≤ 12 * l.length := fun l => by
    induction l with
    | nil => intro _; simp
    | cons a l ih =>
      intro h
      have h1 := ih (fun x hx => h x (by simp [hx]))
      have h2 := h a (by simp)
      simp only [List.map_cons, List.sum_cons, List.length_cons]
      omega
  have h1 := this gs hz
  unfold totS
  omega
theorem bx_gr {S : Nat → Prop} {a b : World} {g T : Nat} {cs : List Value} (h : Bx a g T cs) (k : Gr S a b) (hn : ¬ S g) : Bx b g T cs := (k.block g h.lt hn).trans h
set_option maxRecDepth 100000 in
set_option maxHeartbeats 32000000 in
theorem lawReadWord (x : ByteArray) (w : World) (hx : x.size ≤ maxLen) :
    Calls Tryd.prog 6 #[.string x] w fun e w' => e = .returned (.bool true) ∧ Below w.heap.size w w' := by
  unfold maxLen at hx
  by_cases hm : x.size ≤ 1048576
  case neg =>
    go_enter Tryd.func6, Tryd.ntmps6
    go_wp2
    go_ret
    exact ⟨rfl, Below.refl _ _⟩
  have BW : Hid (Below w.heap.size w w) := Below.refl _ _
  go_enter Tryd.func6, Tryd.ntmps6
  go_wp2_with fail
  refine (spReadWord_any x _ hm).mono ?_
  rintro e w1 ⟨k, who, gs, t, ok, v0, rfl, ha, o1, b⟩
  have HA : Hid (AnsW x k who gs t ok) := ha
  have KO : Hid (OwnS w1 w.heap.size v0.v gs) := o1
  clear o1 ha
  have z_w1 : w.heap.size ≤ w1.heap.size := b.size
  have BW : Hid (Below w.heap.size w w1) := bl_next BW.out b
  clear b
  have KL : Hid (∀ y, v0.v.ownBlock = some y → y < w1.heap.size) := fun y hy => (OwnS.lt KO.out y hy).2
  obtain ⟨q1, q2, q3, q4, q5⟩ := HA.out.few
  have HS : Hid (Wd.S ⟨k, who, gs, t, zSv⟩) := (⟨by show who.size ≤ _; omega, totS_few q3 q4, by show t.size ≤ _; omega⟩ : Wd.S ⟨k, who, gs, t, zSv⟩)
  have dok : (ok != ok) = false := by simp
  clear q1 q2 q4 q5
  have hz : Hid (Bx (w1.alloc (.cells #[.int .i64 0, .string ⟨#[]⟩, .slice none 0 0, .string ⟨#[]⟩] 26)) w1.heap.size 26 [.int .i64 0, .string ⟨#[]⟩, .slice none 0 0, .string ⟨#[]⟩]) := Bx.new w1 26 _
  go_wp2_with (first | (refine wpList_stB rfl 26 _ _ rfl w1.heap.size 0 rfl 26 _ hz.out [.int .i64 (k : Int), .string who, .slice v0.a v0.n v0.c, .string t] rfl (by simp) Tryd.sizeWd rfl [.int .i64 (k : Int), .string who, .slice v0.a v0.n v0.c, .string t] rfl ?_; intro WK OB TB; have b : Below w1.heap.size w1 WK := ((Below.refl _ _).alloc (Nat.le_refl _) _).trans (TB.below (Nat.le_refl _)); have KB : Hid (Bx WK w1.heap.size 26 [.int .i64 (k : Int), .string who, .slice v0.a v0.n v0.c, .string t]) := OB; have z_WK : w1.heap.size ≤ WK.heap.size := b.size; have BW : Hid (Below w.heap.size w WK) := bl_next BW.out b; have KO : Hid (OwnS WK w.heap.size v0.v gs) := OwnS.keep' KO.out fun y _ hy => Below.block b y hy; clear OB TB b; refine Stp.here ?_))
  refine Stp.go ?_
  clear hz
  have zl_KB : w1.heap.size < WK.heap.size := KB.out.lt
  generalize hg_KB : w1.heap.size = gKB at *
  go_wp2_with fail
  refine (readWord_any x _ hm).mono ?_
  rintro e w2 ⟨k', who', gs', t', ok', vg, rfl, ha, o5, b⟩
  obtain ⟨rfl, rfl, rfl, rfl, rfl⟩ := HA.out.same ha
  have GO : Hid (OwnS w2 WK.heap.size vg.v gs) := o5
  clear o5 ha
  have z_w2 : WK.heap.size ≤ w2.heap.size := b.size
  have BW : Hid (Below w.heap.size w w2) := bl_next BW.out b
  have KO : Hid (OwnS w2 w.heap.size v0.v gs) := OwnS.keep' KO.out fun y _ hy => Below.block b y hy
  have KB : Hid (Bx w2 gKB 26 [.int .i64 (k : Int), .string who, .slice v0.a v0.n v0.c, .string t]) := KB.out.later b
  clear b
  have GL : Hid (∀ y, vg.v.ownBlock = some y → WK.heap.size ≤ y ∧ y < w2.heap.size) := fun y hy => OwnS.lt GO.out y hy
  have hz : Hid (Bx (w2.alloc (.cells #[.int .i64 0, .string ⟨#[]⟩, .slice none 0 0, .string ⟨#[]⟩] 26)) w2.heap.size 26 [.int .i64 0, .string ⟨#[]⟩, .slice none 0 0, .string ⟨#[]⟩]) := Bx.new w2 26 _
  go_wp2_with (first | (refine wpList_stB rfl 26 _ _ rfl w2.heap.size 0 rfl 26 _ hz.out [.int .i64 (k : Int), .string who, .slice vg.a vg.n vg.c, .string t] rfl (by simp) Tryd.sizeWd rfl [.int .i64 (k : Int), .string who, .slice vg.a vg.n vg.c, .string t] rfl ?_; intro WG OB TB; have b : Below w2.heap.size w2 WG := ((Below.refl _ _).alloc (Nat.le_refl _) _).trans (TB.below (Nat.le_refl _)); have GB : Hid (Bx WG w2.heap.size 26 [.int .i64 (k : Int), .string who, .slice vg.a vg.n vg.c, .string t]) := OB; have z_WG : w2.heap.size ≤ WG.heap.size := b.size; have BW : Hid (Below w.heap.size w WG) := bl_next BW.out b; have KO : Hid (OwnS WG w.heap.size v0.v gs) := OwnS.keep' KO.out fun y _ hy => Below.block b y hy; have KB : Hid (Bx WG gKB 26 [.int .i64 (k : Int), .string who, .slice v0.a v0.n v0.c, .string t]) := KB.out.later b; have GO : Hid (OwnS WG WK.heap.size vg.v gs) := OwnS.keep' GO.out fun y _ hy => Below.block b y hy; clear OB TB b; refine Stp.here ?_))
  refine Stp.go ?_
  clear hz
  have zl_GB : w2.heap.size < WG.heap.size := GB.out.lt
  generalize hg_GB : w2.heap.size = gGB at *
  go_wp2_with (first | (refine wpList_ldG rfl 26 _ rfl gGB 0 rfl 26 _ GB.out [.int .i64 (k : Int), .string who, .slice vg.a vg.n vg.c, .string t] rfl _ Tryd.underlying26 rfl Tryd.sizeWd ?_) | (refine wpList_ldG rfl 26 _ rfl gKB 0 rfl 26 _ KB.out [.int .i64 (k : Int), .string who, .slice v0.a v0.n v0.c, .string t] rfl _ Tryd.underlying26 rfl Tryd.sizeWd ?_))
  refine (eqWd_same ⟨k, who, gs, t, zSv⟩ vg v0 _ _ _ HS GO KO).mono ?_
  rintro e w3 ⟨rfl, b⟩
  have z_w3 : WG.heap.size ≤ w3.heap.size := b.size
  have BW : Hid (Below w.heap.size w w3) := bl_next BW.out b
  have KO : Hid (OwnS w3 w.heap.size v0.v gs) := OwnS.keep' KO.out fun y _ hy => Below.block b y hy
  have KB : Hid (Bx w3 gKB 26 [.int .i64 (k : Int), .string who, .slice v0.a v0.n v0.c, .string t]) := KB.out.later b
  have GO : Hid (OwnS w3 WK.heap.size vg.v gs) := OwnS.keep' GO.out fun y _ hy => Below.block b y hy
  have GB : Hid (Bx w3 gGB 26 [.int .i64 (k : Int), .string who, .slice vg.a vg.n vg.c, .string t]) := GB.out.later b
  clear b
  go_wp2_with (first | (refine wpList_ldG rfl 26 _ rfl gGB 0 rfl 26 _ GB.out [.int .i64 (k : Int), .string who, .slice vg.a vg.n vg.c, .string t] rfl _ Tryd.underlying26 rfl Tryd.sizeWd ?_))
  refine (markWd_any k who gs t vg _ 1 _ GO (by omega) (by omega)).mono ?_
  rintro e w4 ⟨rfl, hown, G⟩
  have HO : Hid (OwnS w4 WK.heap.size vg.v (mkT 1 gs.length)) := hown
  have zz : w.heap.size ≤ WK.heap.size ∧ w1.heap.size ≤ WK.heap.size := by have := KB.out.lt; omega
  have BW : Hid (Below w.heap.size w w4) := BW.out.trans (G.below (fun y hy => by have := (GL.out y hy).1; omega) BW.out.size)
  have KO : Hid (OwnS w4 w.heap.size v0.v gs) := OwnS.keep' KO.out fun b hb hl => G.block b hl (fun h => by have := KL.out b hb; have := (GL.out b h).1; omega)
  have KB : Hid (Bx w4 gKB 26 [.int .i64 (k : Int), .string who, .slice v0.a v0.n v0.c, .string t]) := bx_gr KB.out G (fun h => by have := (GL.out _ h).1; omega)
  have GB : Hid (Bx w4 gGB 26 [.int .i64 (k : Int), .string who, .slice vg.a vg.n vg.c, .string t]) := bx_gr GB.out G (fun h => by have := (GL.out _ h).2; omega)
  have z_w4 : w3.heap.size ≤ w4.heap.size := G.size
  clear G hown GO
  have hM0 : decide (1 + (gs.length : Int) < 0) = false := by simp; omega
  go_wp2_with (first | (refine wpList_ldG rfl 26 _ rfl gGB 0 rfl 26 _ GB.out [.int .i64 (k : Int), .string who, .slice vg.a vg.n vg.c, .string t] rfl _ Tryd.underlying26 rfl Tryd.sizeWd ?_))
  refine (heldWd_any k who gs.length t vg _ 1 _ HO (by omega) (by omega)).mono ?_
  rintro e w5 ⟨rfl, b⟩
  have z_w5 : w4.heap.size ≤ w5.heap.size := b.size
  have BW : Hid (Below w.heap.size w w5) := bl_next BW.out b
  have KO : Hid (OwnS w5 w.heap.size v0.v gs) := OwnS.keep' KO.out fun y _ hy => Below.block b y hy
  have KB : Hid (Bx w5 gKB 26 [.int .i64 (k : Int), .string who, .slice v0.a v0.n v0.c, .string t]) := KB.out.later b
  have GB : Hid (Bx w5 gGB 26 [.int .i64 (k : Int), .string who, .slice vg.a vg.n vg.c, .string t]) := GB.out.later b
  have HO : Hid (OwnS w5 WK.heap.size vg.v (mkT 1 gs.length)) := OwnS.keep' HO.out fun y _ hy => Below.block b y hy
  clear b
  go_wp2_with fail
  refine (readWord_any x _ hm).mono ?_
  rintro e w6 ⟨k', who', gs', t', ok', ve, rfl, ha, o5, b⟩
  obtain ⟨rfl, rfl, rfl, rfl, rfl⟩ := HA.out.same ha
  have EO : Hid (OwnS w6 w5.heap.size ve.v gs) := o5
  clear o5 ha
  have z_w6 : w5.heap.size ≤ w6.heap.size := b.size
  have BW : Hid (Below w.heap.size w w6) := bl_next BW.out b
  have KO : Hid (OwnS w6 w.heap.size v0.v gs) := OwnS.keep' KO.out fun y _ hy => Below.block b y hy
  have KB : Hid (Bx w6 gKB 26 [.int .i64 (k : Int), .string who, .slice v0.a v0.n v0.c, .string t]) := KB.out.later b
  have GB : Hid (Bx w6 gGB 26 [.int .i64 (k : Int), .string who, .slice vg.a vg.n vg.c, .string t]) := GB.out.later b
  have HO : Hid (OwnS w6 WK.heap.size vg.v (mkT 1 gs.length)) := OwnS.keep' HO.out fun y _ hy => Below.block b y hy
  clear b
  have hz : Hid (Bx (w6.alloc (.cells #[.int .i64 0, .string ⟨#[]⟩, .slice none 0 0, .string ⟨#[]⟩] 26)) w6.heap.size 26 [.int .i64 0, .string ⟨#[]⟩, .slice none 0 0, .string ⟨#[]⟩]) := Bx.new w6 26 _
  go_wp2_with (first | (refine wpList_stB rfl 26 _ _ rfl w6.heap.size 0 rfl 26 _ hz.out [.int .i64 (k : Int), .string who, .slice ve.a ve.n ve.c, .string t] rfl (by simp) Tryd.sizeWd rfl [.int .i64 (k : Int), .string who, .slice ve.a ve.n ve.c, .string t] rfl ?_; intro WE OB TB; have b : Below w6.heap.size w6 WE := ((Below.refl _ _).alloc (Nat.le_refl _) _).trans (TB.below (Nat.le_refl _)); have EB : Hid (Bx WE w6.heap.size 26 [.int .i64 (k : Int), .string who, .slice ve.a ve.n ve.c, .string t]) := OB; have z_WE : w6.heap.size ≤ WE.heap.size := b.size; have BW : Hid (Below w.heap.size w WE) := bl_next BW.out b; have KO : Hid (OwnS WE w.heap.size v0.v gs) := OwnS.keep' KO.out fun y _ hy => Below.block b y hy; have KB : Hid (Bx WE gKB 26 [.int .i64 (k : Int), .string who, .slice v0.a v0.n v0.c, .string t]) := KB.out.later b; have GB : Hid (Bx WE gGB 26 [.int .i64 (k : Int), .string who, .slice vg.a vg.n vg.c, .string t]) := GB.out.later b; have HO : Hid (OwnS WE WK.heap.size vg.v (mkT 1 gs.length)) := OwnS.keep' HO.out fun y _ hy => Below.block b y hy; have EO : Hid (OwnS WE w5.heap.size ve.v gs) := OwnS.keep' EO.out fun y _ hy => Below.block b y hy; clear OB TB b; refine Stp.here ?_))
  refine Stp.go ?_
  clear hz
  have zl_EB : w6.heap.size < WE.heap.size := EB.out.lt
  generalize hg_EB : w6.heap.size = gEB at *
  go_wp2_with (first | (refine wpList_ldG rfl 26 _ rfl gEB 0 rfl 26 _ EB.out [.int .i64 (k : Int), .string who, .slice ve.a ve.n ve.c, .string t] rfl _ Tryd.underlying26 rfl Tryd.sizeWd ?_) | (refine wpList_ldG rfl 26 _ rfl gKB 0 rfl 26 _ KB.out [.int .i64 (k : Int), .string who, .slice v0.a v0.n v0.c, .string t] rfl _ Tryd.underlying26 rfl Tryd.sizeWd ?_))
  refine (eqWd_same ⟨k, who, gs, t, zSv⟩ ve v0 _ _ _ HS EO KO).mono ?_
  rintro e w7 ⟨rfl, b⟩
  have z_w7 : WE.heap.size ≤ w7.heap.size := b.size
  have BW : Hid (Below w.heap.size w w7) := bl_next BW.out b
  have KO : Hid (OwnS w7 w.heap.size v0.v gs) := OwnS.keep' KO.out fun y _ hy => Below.block b y hy
  have KB : Hid (Bx w7 gKB 26 [.int .i64 (k : Int), .string who, .slice v0.a v0.n v0.c, .string t]) := KB.out.later b
  have GB : Hid (Bx w7 gGB 26 [.int .i64 (k : Int), .string who, .slice vg.a vg.n vg.c, .string t]) := GB.out.later b
  have HO : Hid (OwnS w7 WK.heap.size vg.v (mkT 1 gs.length)) := OwnS.keep' HO.out fun y _ hy => Below.block b y hy
  have EO : Hid (OwnS w7 w5.heap.size ve.v gs) := OwnS.keep' EO.out fun y _ hy => Below.block b y hy
  have EB : Hid (Bx w7 gEB 26 [.int .i64 (k : Int), .string who, .slice ve.a ve.n ve.c, .string t]) := EB.out.later b
  clear b
  go_wp2_with (first | (refine wpList_ldG rfl 26 _ rfl gGB 0 rfl 26 _ GB.out [.int .i64 (k : Int), .string who, .slice vg.a vg.n vg.c, .string t] rfl _ Tryd.underlying26 rfl Tryd.sizeWd ?_))
  refine (heldWd_any k who gs.length t vg _ 1 _ HO (by omega) (by omega)).mono ?_
  rintro e w8 ⟨rfl, b⟩
  have z_w8 : w7.heap.size ≤ w8.heap.size := b.size
  have BW : Hid (Below w.heap.size w w8) := bl_next BW.out b
  have KO : Hid (OwnS w8 w.heap.size v0.v gs) := OwnS.keep' KO.out fun y _ hy => Below.block b y hy
  have KB : Hid (Bx w8 gKB 26 [.int .i64 (k : Int), .string who, .slice v0.a v0.n v0.c, .string t]) := KB.out.later b
  have GB : Hid (Bx w8 gGB 26 [.int .i64 (k : Int), .string who, .slice vg.a vg.n vg.c, .string t]) := GB.out.later b
  have HO : Hid (OwnS w8 WK.heap.size vg.v (mkT 1 gs.length)) := OwnS.keep' HO.out fun y _ hy => Below.block b y hy
  have EO : Hid (OwnS w8 w5.heap.size ve.v gs) := OwnS.keep' EO.out fun y _ hy => Below.block b y hy
  have EB : Hid (Bx w8 gEB 26 [.int .i64 (k : Int), .string who, .slice ve.a ve.n ve.c, .string t]) := EB.out.later b
  clear b
  go_wp2_with fail
  go_ret
  exact ⟨rfl, BW.out⟩
end Go.Proofs.YtmbjflhhffcjdaaDoor


