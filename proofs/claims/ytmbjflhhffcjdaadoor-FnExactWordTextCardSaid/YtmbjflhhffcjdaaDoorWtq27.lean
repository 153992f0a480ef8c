/- Joined texts: CSvb CIvb CWtx CWts CLwo CLwt. -/
import Derived.Test.YtmbjflhhffcjdaaDoorWtq22
import Derived.Test.YtmbjflhhffcjdaaDoorWtq26
import Derived.Test.YtmbjflhhffcjdaaDoorWtq21
import Derived.Test.YtmbjflhhffcjdaaDoorWtq19
import Derived.Test.YtmbjflhhffcjdaaDoorWtq11
/- The specification's WordOk. Written by gen_svb.py. -/
namespace Go.Proofs.YtmbjflhhffcjdaaDoor
open Go.RowKit Pl
set_option linter.unusedVariables false
set_option linter.unusedSimpArgs false

theorem size_zero {t : ByteArray} (h : t.size = 0) : t = ⟨#[]⟩ := ByteArray.ext (Array.eq_empty_of_size_eq_zero h)
set_option maxRecDepth 100000 in
set_option maxHeartbeats 8000000 in
theorem spWordOk_any (k : Int) (who : ByteArray) (gs : List ByteArray) (t : ByteArray) (s : Sv) (w : World) (hx : Hid (RT w s.v gs)) (hl : gs.length ≤ 1048576) :
    Calls Tryd.prog 13 #[.agg #[.int .i64 k, .string who, .slice s.a s.n s.c, .string t]] w fun e w' => e = .returned (.bool (wdB k who gs t)) ∧ Below w.heap.size w w' := by
  obtain ⟨ao, cap, hv, hx0⟩ := hx.out
  unfold Sv.v at hv
  rw [hv]
  have HX0 : Hid (TextsAt w ao gs) := hx0
  clear hv hx hx0
  have LA : Hid (Bx (w.alloc (.cells #[.int .i64 k, .string who, .slice ao gs.length cap, .string t] 26)) w.heap.size 26 [.int .i64 k, .string who, .slice ao gs.length cap, .string t]) := by
    have h := Bx.new w 26 [.int .i64 k, .string who, .slice ao gs.length cap, .string t]
    exact h
  have BW : Hid (Below w.heap.size w (w.alloc (.cells #[.int .i64 k, .string who, .slice ao gs.length cap, .string t] 26))) := ((Below.refl _ _).alloc (by simp) _)
  have HX : Hid (TextsAt (w.alloc (.cells #[.int .i64 k, .string who, .slice ao gs.length cap, .string t] 26)) ao gs) := HX0.out.stays BW.out
  clear HX0
  go_enter Tryd.func13, Tryd.ntmps13
  have c0 := LA.out.cell 0
  simp only [List.getElem?_cons_succ, List.getElem?_cons_zero] at c0
  go_wp2_with fail
  generalize (w.alloc (.cells #[.int .i64 k, .string who, .slice ao gs.length cap, .string t] 26)) = W at *
  clear c0
  refine (in_any k 1 4 _).mono ?_
  rintro e w1 ⟨rfl, rfl⟩
  cases h1 : decide (1 ≤ k ∧ k ≤ 4) with
  | false =>
    have HV : Hid (wdB k who gs t = false) := (by unfold wdB; rw [h1]; rfl : _ = _)
    go_wp2_with fail
    go_ret
    exact ⟨by rw [HV.out]; rfl, BW.out⟩
  | true =>
    have H1 : Hid (decide (1 ≤ k ∧ k ≤ 4) = true) := h1
    clear h1
    have c1 := LA.out.cell 1
    simp only [List.getElem?_cons_succ, List.getElem?_cons_zero] at c1
    go_wp2_with fail
    clear c1
    refine (spPriv_any who _).mono ?_
    rintro e w2 ⟨rfl, b⟩
    have LA : Hid (Bx w2 w.heap.size 26 [.int .i64 k, .string who, .slice ao gs.length cap, .string t]) := LA.out.later b
    have BW : Hid (Below w.heap.size w w2) := bl_next BW.out b
    have HX : Hid (TextsAt w2 ao gs) := HX.out.stays b
    clear b
    cases h2 : prB who with
    | false =>
      have HV : Hid (wdB k who gs t = false) := (by unfold wdB; rw [H1.out, h2]; rfl : _ = _)
      clear h2
      go_wp2_with fail
      go_ret
      exact ⟨by rw [HV.out]; rfl, BW.out⟩
    | true =>
      have H2 : Hid (prB who = true) := h2
      clear h2
      have c2 := LA.out.cell 2
      simp only [List.getElem?_cons_succ, List.getElem?_cons_zero] at c2
      go_wp2_with fail
      clear c2
      refine (spNames_any ⟨ao, gs.length, cap⟩ gs _ (show Hid (RT _ _ gs) from ⟨ao, cap, rfl, HX.out⟩) hl).mono ?_
      rintro e w3 ⟨rfl, b⟩
      have LA : Hid (Bx w3 w.heap.size 26 [.int .i64 k, .string who, .slice ao gs.length cap, .string t]) := LA.out.later b
      have BW : Hid (Below w.heap.size w w3) := bl_next BW.out b
      have HX : Hid (TextsAt w3 ao gs) := HX.out.stays b
      clear b
      cases h3 : namesB gs with
      | false =>
        have HV : Hid (wdB k who gs t = false) := (by unfold wdB; rw [H1.out, H2.out, h3]; rfl : _ = _)
        clear h3
        go_wp2_with fail
        go_ret
        exact ⟨by rw [HV.out]; rfl, BW.out⟩
      | true =>
        have H3 : Hid (namesB gs = true) := h3
        clear h3
        have HV : Hid (wdB k who gs t = (if k = 4 then decide (1 ≤ (gs.length : Int) ∧ (gs.length : Int) ≤ 3) && decide (t.size ≤ 20) else if k = 3 then decide (gs.length = 0) && decide (t.size = 0) else decide (gs.length = 1) && decide (t.size = 0))) := (by unfold wdB; rw [H1.out, H2.out, H3.out]; rfl : _ = _)
        by_cases hk4 : k = 4
        · subst hk4
          have c0 := LA.out.cell 0
          have c2 := LA.out.cell 2
          have c3 := LA.out.cell 3
          simp only [List.getElem?_cons_succ, List.getElem?_cons_zero] at c0 c2 c3
          rw [if_pos rfl] at HV
          go_wp2_with fail
          clear c0 c2
          refine (in_any (gs.length : Int) 1 3 _).mono ?_
          rintro e w4 ⟨rfl, rfl⟩
          cases h4 : decide (1 ≤ (gs.length : Int) ∧ (gs.length : Int) ≤ 3) with
          | false =>
            have HV2 : Hid (wdB 4 who gs t = false) := (by rw [HV.out, h4]; rfl : _ = _)
            clear h4
            go_wp2_with fail
            go_ret
            exact ⟨by rw [HV2.out]; rfl, BW.out⟩
          | true =>
            cases h5 : decide (t.size ≤ 20) with
            | false =>
              have HV2 : Hid (wdB 4 who gs t = false) := (by rw [HV.out, h4, h5]; rfl : _ = _)
              have h6 : decide ((t.size : Int) ≤ 20) = false := by simp at h5 ⊢; omega
              clear h4 h5
              go_wp2_with fail
              go_ret
              exact ⟨by rw [HV2.out]; rfl, BW.out⟩
            | true =>
              have HV2 : Hid (wdB 4 who gs t = true) := (by rw [HV.out, h4, h5]; rfl : _ = _)
              have h6 : decide ((t.size : Int) ≤ 20) = true := by simp at h5 ⊢; omega
              clear h4 h5
              go_wp2_with fail
              go_ret
              exact ⟨by rw [HV2.out]; rfl, BW.out⟩
        rw [if_neg hk4] at HV
        by_cases hk3 : k = 3
        · subst hk3
          have c0 := LA.out.cell 0
          have c2 := LA.out.cell 2
          have c3 := LA.out.cell 3
          simp only [List.getElem?_cons_succ, List.getElem?_cons_zero] at c0 c2 c3
          rw [if_pos rfl] at HV
          cases h4 : decide (gs.length = 0) with
          | false =>
            have HV2 : Hid (wdB 3 who gs t = false) := (by rw [HV.out, h4]; rfl : _ = _)
            have h6 : ((gs.length : Int) == 0) = false := by simp at h4 ⊢; omega
            clear h4
            go_wp2_with fail
            go_ret
            exact ⟨by rw [HV2.out]; rfl, BW.out⟩
          | true =>
            have h6 : ((gs.length : Int) == 0) = true := by simp at h4 ⊢; omega
            cases h5 : decide (t.size = 0) with
            | false =>
              have HV2 : Hid (wdB 3 who gs t = false) := (by rw [HV.out, h4, h5]; rfl : _ = _)
              have h7 : (t.toList == []) = false := notEmpty (by have := of_decide_eq_false h5; omega)
              have h8 : t.toList.isEmpty = false := notEmpty' (by have := of_decide_eq_false h5; omega)
              clear h4 h5
              go_wp2_with fail
              go_ret
              exact ⟨by rw [HV2.out]; rfl, BW.out⟩
            | true =>
              have HV2 : Hid (wdB 3 who gs t = true) := (by rw [HV.out, h4, h5]; rfl : _ = _)
              obtain rfl : t = ⟨#[]⟩ := size_zero (of_decide_eq_true h5)
              clear h4 h5
              go_wp2_with fail
              go_ret
              exact ⟨by rw [HV2.out]; rfl, BW.out⟩
        rw [if_neg hk3] at HV
        have c0 := LA.out.cell 0
        have c2 := LA.out.cell 2
        have c3 := LA.out.cell 3
        simp only [List.getElem?_cons_succ, List.getElem?_cons_zero] at c0 c2 c3
        have g4 : (k == 4) = false := by simp; omega
        have g3 : (k == 3) = false := by simp; omega
        clear hk3 hk4
        cases h4 : decide (gs.length = 1) with
        | false =>
          have HV2 : Hid (wdB k who gs t = false) := (by rw [HV.out, h4]; rfl : _ = _)
          have h6 : ((gs.length : Int) == 1) = false := by simp at h4 ⊢; omega
          clear h4
          go_wp2_with fail
          go_ret
          exact ⟨by rw [HV2.out]; rfl, BW.out⟩
        | true =>
          have h6 : ((gs.length : Int) == 1) = true := by simp at h4 ⊢; omega
          cases h5 : decide (t.size = 0) with
          | false =>
            have HV2 : Hid (wdB k who gs t = false) := (by rw [HV.out, h4, h5]; rfl : _ = _)
            have h7 : (t.toList == []) = false := notEmpty (by have := of_decide_eq_false h5; omega)
            have h8 : t.toList.isEmpty = false := notEmpty' (by have := of_decide_eq_false h5; omega)
            clear h4 h5
            go_wp2_with fail
            go_ret
            exact ⟨by rw [HV2.out]; rfl, BW.out⟩
          | true =>
            have HV2 : Hid (wdB k who gs t = true) := (by rw [HV.out, h4, h5]; rfl : _ = _)
            obtain rfl : t = ⟨#[]⟩ := size_zero (of_decide_eq_true h5)
            clear h4 h5
            go_wp2_with fail
            go_ret
            exact ⟨by rw [HV2.out]; rfl, BW.out⟩
end Go.Proofs.YtmbjflhhffcjdaaDoor


/- The program's countOk, WordOk. Written by gen_ivb.py. -/
namespace Go.Proofs.YtmbjflhhffcjdaaDoor
open Go.RowKit Pl
set_option linter.unusedVariables false
set_option linter.unusedSimpArgs false

/-- has a word of this kind as many groups as it wants? -/
def cntB (k : Int) (n : Nat) : Bool := if k = 4 then decide (1 ≤ (n : Int) ∧ (n : Int) ≤ 3) else if k = 3 then decide ((n : Int) = 0) else if k = 1 ∨ k = 2 then decide ((n : Int) = 1) else false
theorem wdB_cnt {k : Int} {who : ByteArray} {gs : List ByteArray} {t : ByteArray} : wdB k who gs t = (prB who && (cntB k gs.length && (namesB gs && (decide (t.size ≤ 20) && (decide (k = 4) || decide (t.size = 0)))))) := by
  unfold wdB cntB
  have e0 : decide ((gs.length : Int) = 0) = decide (gs.length = 0) := by congr 1; apply propext; omega
  have e1 : decide ((gs.length : Int) = 1) = decide (gs.length = 1) := by congr 1; apply propext; omega
  rw [e0, e1]
  by_cases h4 : k = 4
  · subst h4
    cases prB who <;> cases namesB gs <;> simp
  · by_cases h3 : k = 3
    · subst h3
      by_cases ht : t.size = 0
      · have : t.size ≤ 20 := by omega
        cases prB who <;> cases namesB gs <;> simp [ht]
      · cases prB who <;> cases namesB gs <;> simp [ht]
    · by_cases h12 : k = 1 ∨ k = 2
      · have hk : 1 ≤ k ∧ k ≤ 4 := by omega
        by_cases ht : t.size = 0
        · have : t.size ≤ 20 := by omega
          cases prB who <;> cases namesB gs <;> simp [ht, h4, h3, h12, hk]
        · cases prB who <;> cases namesB gs <;> simp [ht, h4, h3, h12, hk]
      · have hk : ¬ (1 ≤ k ∧ k ≤ 4) := by omega
        cases prB who <;> cases namesB gs <;> simp [h4, h3, h12, hk]
theorem cnt4 (n : Nat) : cntB 4 n = (decide (1 ≤ (n : Int)) && decide ((n : Int) ≤ 3)) := by unfold cntB; rw [Bool.eq_iff_iff]; simp
theorem cnt3 (n : Nat) : cntB 3 n = ((n : Int) == 0) := by unfold cntB; rw [Bool.eq_iff_iff]; simp
theorem cnt1 (n : Nat) : cntB 1 n = ((n : Int) == 1) := by unfold cntB; rw [Bool.eq_iff_iff]; simp
theorem cnt2 (n : Nat) : cntB 2 n = ((n : Int) == 1) := by unfold cntB; rw [Bool.eq_iff_iff]; simp
set_option maxRecDepth 100000 in
set_option maxHeartbeats 8000000 in
theorem countOk_any (k : Int) (who : ByteArray) (gs : List ByteArray) (t : ByteArray) (s : Sv) (w : World) (hn : s.n = gs.length) :
    Calls Tryd.prog 50 #[.agg #[.int .i64 k, .string who, .slice s.a s.n s.c, .string t]] w fun e w' => e = .returned (.bool (cntB k gs.length)) ∧ Below w.heap.size w w' := by
  obtain ⟨a, n, c⟩ := s
  have hn : n = gs.length := hn
  subst hn
  dsimp only
  have LA : Hid (Bx (w.alloc (.cells #[.int .i64 k, .string who, .slice a gs.length c, .string t] 26)) w.heap.size 26 [.int .i64 k, .string who, .slice a gs.length c, .string t]) := by
    have h := Bx.new w 26 [.int .i64 k, .string who, .slice a gs.length c, .string t]
    exact h
  have BW : Hid (Below w.heap.size w (w.alloc (.cells #[.int .i64 k, .string who, .slice a gs.length c, .string t] 26))) := ((Below.refl _ _).alloc (by simp) _)
  have c0 := LA.out.cell 0
  have c2 := LA.out.cell 2
  simp only [List.getElem?_cons_succ, List.getElem?_cons_zero] at c0 c2
  by_cases h4 : k = 4
  · subst h4
    go_enter Tryd.func50, Tryd.ntmps50
    go_wp2_with fail
    refine (within_b (gs.length : Int) 1 3 _).mono ?_
    rintro e w1 ⟨rfl, b⟩
    go_wp2_with fail
    go_ret
    exact ⟨by rw [cnt4]; rfl, bl_next BW.out b⟩
  by_cases h3 : k = 3
  · subst h3
    go_enter Tryd.func50, Tryd.ntmps50
    go_wp2_with fail
    go_ret
    exact ⟨by rw [cnt3]; rfl, BW.out⟩
  by_cases h1 : k = 1
  · subst h1
    go_enter Tryd.func50, Tryd.ntmps50
    go_wp2_with fail
    go_ret
    exact ⟨by rw [cnt1]; rfl, BW.out⟩
  by_cases h2 : k = 2
  · subst h2
    go_enter Tryd.func50, Tryd.ntmps50
    go_wp2_with fail
    go_ret
    exact ⟨by rw [cnt2]; rfl, BW.out⟩
  have d1 : decide (k = 1) = false := by simp [h1]
  have d2 : decide (k = 2) = false := by simp [h2]
  have d3 : decide (k = 3) = false := by simp [h3]
  have d4 : decide (k = 4) = false := by simp [h4]
  go_enter Tryd.func50, Tryd.ntmps50
  go_wp2_with fail
  go_ret
  exact ⟨by simp [cntB, h1, h2, h3, h4], BW.out⟩
set_option maxRecDepth 100000 in
set_option maxHeartbeats 8000000 in
theorem wordOk_any (k : Int) (who : ByteArray) (gs : List ByteArray) (t : ByteArray) (s : Sv) (w : World) (hx : Hid (RT w s.v gs)) (hl : gs.length ≤ 1048576) (hz : Hid (∀ x ∈ gs, x.size ≤ 1048576)) (hw : who.size ≤ 1048576) :
    Calls Tryd.prog 14 #[.agg #[.int .i64 k, .string who, .slice s.a s.n s.c, .string t]] w fun e w' => e = .returned (.bool (wdB k who gs t)) ∧ Below w.heap.size w w' := by
  have hn : Hid (s.n = gs.length) := RT.len hx.out
  rw [wdB_cnt]
  have LA : Hid (Bx (w.alloc (.cells #[.int .i64 k, .string who, .slice s.a s.n s.c, .string t] 26)) w.heap.size 26 [.int .i64 k, .string who, .slice s.a s.n s.c, .string t]) := by
    have h := Bx.new w 26 [.int .i64 k, .string who, .slice s.a s.n s.c, .string t]
    exact h
  have BW : Hid (Below w.heap.size w (w.alloc (.cells #[.int .i64 k, .string who, .slice s.a s.n s.c, .string t] 26))) := ((Below.refl _ _).alloc (by simp) _)
  have HX : Hid (RT (w.alloc (.cells #[.int .i64 k, .string who, .slice s.a s.n s.c, .string t] 26)) s.v gs) := hx.out.stays BW.out
  clear hx
  have c1 := LA.out.cell 1
  simp only [List.getElem?_cons_succ, List.getElem?_cons_zero] at c1
  go_enter Tryd.func14, Tryd.ntmps14
  go_wp2_with fail
  clear c1
  generalize (w.alloc (.cells #[.int .i64 k, .string who, .slice s.a s.n s.c, .string t] 26)) = W at *
  refine (isPriv_any who _ hw).mono ?_
  rintro e w1 ⟨rfl, b⟩
  have z_w1 : W.heap.size ≤ w1.heap.size := b.size
  have LA : Hid (Bx w1 w.heap.size 26 [.int .i64 k, .string who, .slice s.a s.n s.c, .string t]) := LA.out.later b
  have BW : Hid (Below w.heap.size w w1) := bl_next BW.out b
  have HX : Hid (RT w1 s.v gs) := HX.out.stays b
  clear b
  cases h1 : prB who with
  | false =>
    have H1 : Hid (prB who = false) := h1
    clear h1
    go_wp2_with fail
    go_ret
    exact ⟨by simp [H1.out], BW.out⟩
  | true =>
    have H1 : Hid (prB who = true) := h1
    clear h1
    go_wp2_with (first | (refine wpList_ldG rfl 26 _ rfl w.heap.size 0 rfl 26 _ LA.out [.int .i64 k, .string who, .slice s.a s.n s.c, .string t] rfl _ Tryd.underlying26 rfl Tryd.sizeWd ?_))
    refine (countOk_any k who gs t s _ hn.out).mono ?_
    rintro e w2 ⟨rfl, b⟩
    have z_w2 : w1.heap.size ≤ w2.heap.size := b.size
    have LA : Hid (Bx w2 w.heap.size 26 [.int .i64 k, .string who, .slice s.a s.n s.c, .string t]) := LA.out.later b
    have BW : Hid (Below w.heap.size w w2) := bl_next BW.out b
    have HX : Hid (RT w2 s.v gs) := HX.out.stays b
    clear b
    cases h2 : cntB k gs.length with
    | false =>
      have H2 : Hid (cntB k gs.length = false) := h2
      clear h2
      go_wp2_with fail
      go_ret
      exact ⟨by simp [H2.out], BW.out⟩
    | true =>
      have H2 : Hid (cntB k gs.length = true) := h2
      clear h2
      have c2 := LA.out.cell 2
      simp only [List.getElem?_cons_succ, List.getElem?_cons_zero] at c2
      go_wp2_with fail
      clear c2
      refine (ascNames_any s gs _ HX hl hz).mono ?_
      rintro e w3 ⟨rfl, b⟩
      have z_w3 : w2.heap.size ≤ w3.heap.size := b.size
      have LA : Hid (Bx w3 w.heap.size 26 [.int .i64 k, .string who, .slice s.a s.n s.c, .string t]) := LA.out.later b
      have BW : Hid (Below w.heap.size w w3) := bl_next BW.out b
      have HX : Hid (RT w3 s.v gs) := HX.out.stays b
      clear b
      cases h3 : namesB gs with
      | false =>
        have H3 : Hid (namesB gs = false) := h3
        clear h3
        go_wp2_with fail
        go_ret
        exact ⟨by simp [H3.out], BW.out⟩
      | true =>
        have H3 : Hid (namesB gs = true) := h3
        clear h3
        have c0 := LA.out.cell 0
        have c3 := LA.out.cell 3
        simp only [List.getElem?_cons_succ, List.getElem?_cons_zero] at c0 c3
        by_cases ht : t.size ≤ 20
        case neg =>
          have hd : decide (t.size ≤ 20) = false := by simp; omega
          have HT : Hid (decide (t.size ≤ 20) = false) := hd
          go_wp2_with fail
          go_ret
          exact ⟨by first | (simp [HT.out]; done) | rfl, BW.out⟩
        have hd : decide (t.size ≤ 20) = true := by simp; omega
        have HT : Hid (decide (t.size ≤ 20) = true) := hd
        by_cases h4 : k = 4
        · subst h4
          go_wp2_with fail
          go_ret
          exact ⟨by first | (simp [H1.out, H2.out, H3.out, HT.out]; done) | rfl, BW.out⟩
        have H4 : Hid (¬ k = 4) := h4
        have d4 : (k == 4) = false := by simp [h4]
        clear h4
        by_cases h0 : t.size = 0
        · have h0' : t = ⟨#[]⟩ := size_zero h0
          subst h0'
          clear h0
          go_wp2_with fail
          go_ret
          exact ⟨by simp [H1.out, H2.out, H3.out, show (⟨#[]⟩ : ByteArray).size = 0 from rfl], BW.out⟩
        have H0 : Hid (¬ t.size = 0) := h0
        have H5 : Hid ((decide (k = 4) || decide (t.size = 0)) = false) := (by rw [decide_eq_false H4.out, decide_eq_false h0]; rfl : _ = _)
        have e0 : (t.toList == []) = false := notEmpty (by omega)
        have e1 : t.toList.isEmpty = false := notEmpty' (by omega)
        clear h0
        go_wp2_with fail
        go_ret
        exact ⟨by rw [H5.out]; simp only [Bool.and_false]; rfl, BW.out⟩
end Go.Proofs.YtmbjflhhffcjdaaDoor


/- The program's WordText. Written by gen_wtx.py. -/
namespace Go.Proofs.YtmbjflhhffcjdaaDoor
open Go.RowKit Pl
set_option linter.unusedVariables false
set_option linter.unusedSimpArgs false

theorem shortOf_any (s : ByteArray) (w : World) (hs : s.size ≤ 20000) :
    Calls Tryd.prog 39 #[.string s] w fun e w' => e = .returned (.string (shT s)) ∧ Below w.heap.size w w' := by
  go_enter Tryd.func39, Tryd.ntmps39
  go_wp2_with fail
  refine (implShort_in s _ hs).mono ?_
  rintro e w1 ⟨rfl, b⟩
  go_wp2_with fail
  go_ret
  exact ⟨rfl, b⟩
set_option maxRecDepth 100000 in
set_option maxHeartbeats 2000000 in
theorem textShorts_any (s : Sv) (ts : List ByteArray) (w : World) (hx : Hid (RT w s.v ts)) (hl : ts.length ≤ 3) (hz : Hid (∀ x ∈ ts, x.size ≤ 12)) :
    Calls Tryd.prog 40 #[.slice s.a s.n s.c] w fun e w' => e = .returned (.string (tsS (varS ts.length) ts)) ∧ Below w.heap.size w w' := by
  obtain ⟨ao, cap, hv, hx0⟩ := hx.out
  have HX : Hid (TextsAt w ao ts) := hx0
  unfold Sv.v at hv
  rw [hv]
  clear hv hx hx0
  have z0 : (varS ts.length).size ≤ 5 := by rw [rt_size, varS_list]; exact varL_len (by omega)
  go_enter Tryd.func40, Tryd.ntmps40
  go_wp2_with fail
  refine (varOf_any ts.length _ (by omega)).mono ?_
  rintro e w1 ⟨rfl, hb1⟩
  have B1 : Hid (Below w.heap.size w w1) := hb1
  clear hb1
  go_wp2_with fail
  go_loopw [3, 11] (fun tx i wr => ∃ (k : Nat) (S : ByteArray), k ≤ ts.length ∧ tx = .string S ∧ i = .int .i64 k ∧ S.size ≤ 5 + 17 * k ∧ Hid (S = tsS (varS ts.length) (ts.take k)) ∧ Hid (Below w.heap.size w wr)) (fun _ i _ => ts.length - (intOf i).toNat)
  case atStart => exact ⟨0, varS ts.length, Nat.zero_le _, rfl, rfl, by omega, rfl, B1.out⟩
  case round =>
    clear B1
    obtain ⟨k, S, hk, rfl, rfl, hS, hSS, hB⟩ := hrel
    by_cases hlt : k < ts.length
    · obtain ⟨b, off, rfl, hbb, c0⟩ := HX.out.stays hB.out k hlt
      obtain ⟨x, hxe⟩ : ∃ x, x = ts[k] := ⟨_, rfl⟩
      have XE : Hid (x = ts[k]) := hxe
      have hxz : x.size ≤ 12 := by rw [hxe]; exact hz.out _ (List.getElem_mem hlt)
      rw [← hxe] at c0
      clear hxe
      have i0 : (0 : Int) ≤ (k : Int) := by omega
      have i1 : (k : Int) < (ts.length : Int) := by omega
      go_wp2_with fail
      refine (shortOf_any x _ (by omega)).mono ?_
      rintro e w2 ⟨rfl, hb2⟩
      have B2 : Hid (Below w.heap.size w w2) := bl_next hB.out hb2
      have hz2 := shT_size (t := x) (by omega)
      clear hb2 c0 hB
      generalize hI : shT x = I at *
      have HII : Hid (shT x = I) := hI
      clear hI
      have mx : ¬9223372036854775807 < S.size + I.size := by omega
      go_wp2_with fail
      go_roundw
      case rel =>
        refine ⟨k + 1, _, by omega, rfl, by go_num, by rw [ByteArray.size_append]; omega, ?_, B2.out⟩
        show _ = _
        rw [tsS_next ts _ k hlt, ← hSS.out, ← XE.out, HII.out]
      case measure => simp [intOf]; omega
    · have HS : Hid (S = tsS (varS ts.length) ts) := by
        have := hSS.out
        rw [List.take_of_length_le (by omega)] at this
        exact this
      go_wp2_with fail
      go_ret
      exact ⟨by rw [HS.out]; rfl, hB.out⟩
set_option maxRecDepth 100000 in
set_option maxHeartbeats 2000000 in
theorem wordText_no (k : Int) (who : ByteArray) (gs : List ByteArray) (t : ByteArray) (s : Sv) (w : World) (hx : Hid (RT w s.v gs)) (hl : gs.length ≤ 1048576) (hz : Hid (∀ x ∈ gs, x.size ≤ 1048576)) (hw : who.size ≤ 1048576) (hk : Hid (wdB k who gs t = false)) :
    Calls Tryd.prog 11 #[.agg #[.int .i64 k, .string who, .slice s.a s.n s.c, .string t]] w fun e w' => e = .returned (.tuple #[.string ByteArray.empty, .bool false]) ∧ Below w.heap.size w w' := by
  have LA : Hid (Bx (w.alloc (.cells #[.int .i64 k, .string who, .slice s.a s.n s.c, .string t] 26)) w.heap.size 26 [.int .i64 k, .string who, .slice s.a s.n s.c, .string t]) := by
    have h := Bx.new w 26 [.int .i64 k, .string who, .slice s.a s.n s.c, .string t]
    exact h
  have BW : Hid (Below w.heap.size w (w.alloc (.cells #[.int .i64 k, .string who, .slice s.a s.n s.c, .string t] 26))) := ((Below.refl _ _).alloc (by simp) _)
  have HX : Hid (RT (w.alloc (.cells #[.int .i64 k, .string who, .slice s.a s.n s.c, .string t] 26)) s.v gs) := hx.out.stays BW.out
  clear hx
  go_enter Tryd.func11, Tryd.ntmps11
  go_wp2_with (first | (refine wpList_ldG rfl 26 _ rfl w.heap.size 0 rfl 26 _ LA.out [.int .i64 k, .string who, .slice s.a s.n s.c, .string t] rfl _ Tryd.underlying26 rfl Tryd.sizeWd ?_))
  refine (wordOk_any k who gs t s _ HX hl hz hw).mono ?_
  rintro e w1 ⟨rfl, b⟩
  rw [hk.out]
  have BW : Hid (Below w.heap.size w w1) := bl_next BW.out b
  clear b LA
  go_wp2_with fail
  go_ret2
  exact ⟨rfl, BW.out⟩
set_option maxRecDepth 100000 in
set_option maxHeartbeats 4000000 in
theorem wordText_yes (k : Nat) (who : ByteArray) (gs : List ByteArray) (t : ByteArray) (s : Sv) (w : World) (hx : Hid (RT w s.v gs)) (ho : Hid (WdOk k who gs t)) :
    Calls Tryd.prog 11 #[.agg #[.int .i64 (k : Int), .string who, .slice s.a s.n s.c, .string t]] w fun e w' => e = .returned (.tuple #[.string (wordS k who gs t), .bool true]) ∧ Below w.heap.size w w' := by
  obtain ⟨n1, n2, n3, n4, n5, n6⟩ := ho.out.nats
  have HZ : Hid (∀ x ∈ gs, x.size ≤ 12) := n5
  have HZ2 : Hid (∀ x ∈ gs, x.size ≤ 1048576) := fun x hx => by have := n5 x hx; omega
  have HK : Hid (wdB k who gs t = true) := ho.out
  have HE := wordS_impl k who gs t
  obtain ⟨K, hK⟩ : ∃ K, byteS k = K := ⟨_, rfl⟩
  obtain ⟨U, hU⟩ : ∃ U, shT who = U := ⟨_, rfl⟩
  obtain ⟨G, hG⟩ : ∃ G, tsS (varS gs.length) gs = G := ⟨_, rfl⟩
  obtain ⟨X, hX⟩ : ∃ X, shT t = X := ⟨_, rfl⟩
  have zK : K.size = 1 := by rw [← hK, rt_size, byteS_list]; rfl
  have zU : U.size ≤ 20 := by have := shT_size (t := who) (by omega); rw [hU] at this; omega
  have zX : X.size ≤ 25 := by have := shT_size (t := t) (by omega); rw [hX] at this; omega
  have zG : G.size ≤ 60 := by
    have z := tsS_size gs (varS gs.length) n5
    have z0 : (varS gs.length).size ≤ 5 := by rw [rt_size, varS_list]; exact varL_len (by omega)
    rw [hG] at z; omega
  rw [hK, hU, hG, hX] at HE
  have EE : Hid (K ++ U ++ G ++ X = wordS k who gs t) := HE
  have EK : Hid (byteS k = K) := hK
  have EU : Hid (shT who = U) := hU
  have EG : Hid (tsS (varS gs.length) gs = G) := hG
  have EX : Hid (shT t = X) := hX
  clear HE hK hU hG hX n5
  have x1 : (K ++ U).size = K.size + U.size := ByteArray.size_append
  have x2 : (K ++ U ++ G).size = K.size + U.size + G.size := by rw [ByteArray.size_append, x1]
  have m1 : 1 + U.size ≤ 9223372036854775807 := by omega
  have m2 : 1 + U.size + G.size ≤ 9223372036854775807 := by omega
  have m3 : 1 + U.size + G.size + X.size ≤ 9223372036854775807 := by omega
  have LA : Hid (Bx (w.alloc (.cells #[.int .i64 (k : Int), .string who, .slice s.a s.n s.c, .string t] 26)) w.heap.size 26 [.int .i64 (k : Int), .string who, .slice s.a s.n s.c, .string t]) := by
    have h := Bx.new w 26 [.int .i64 (k : Int), .string who, .slice s.a s.n s.c, .string t]
    exact h
  have BW : Hid (Below w.heap.size w (w.alloc (.cells #[.int .i64 (k : Int), .string who, .slice s.a s.n s.c, .string t] 26))) := ((Below.refl _ _).alloc (by simp) _)
  have HX : Hid (RT (w.alloc (.cells #[.int .i64 (k : Int), .string who, .slice s.a s.n s.c, .string t] 26)) s.v gs) := hx.out.stays BW.out
  clear hx
  go_enter Tryd.func11, Tryd.ntmps11
  go_wp2_with (first | (refine wpList_ldG rfl 26 _ rfl w.heap.size 0 rfl 26 _ LA.out [.int .i64 (k : Int), .string who, .slice s.a s.n s.c, .string t] rfl _ Tryd.underlying26 rfl Tryd.sizeWd ?_))
  generalize (w.alloc (.cells #[.int .i64 (k : Int), .string who, .slice s.a s.n s.c, .string t] 26)) = W0 at *
  refine (wordOk_any k who gs t s _ HX (by omega) HZ2 (by omega)).mono ?_
  rintro e w1 ⟨rfl, b⟩
  have z_w1 : W0.heap.size ≤ w1.heap.size := b.size
  have LA : Hid (Bx w1 w.heap.size 26 [.int .i64 (k : Int), .string who, .slice s.a s.n s.c, .string t]) := LA.out.later b
  have BW : Hid (Below w.heap.size w w1) := bl_next BW.out b
  have HX : Hid (RT w1 s.v gs) := HX.out.stays b
  clear b
  rw [HK.out]
  go_wp2_with fail
  refine quietC (C := fun w' => Below w1.heap.size w1 w') (by kernel_rfl) (by kernel_rfl) (Below.refl _ _).drew ?_
  go_big_quiet_want
  refine q_val (.pointer (some ⟨w.heap.size, 0, none⟩)) (fun w' hw' => by go_simp) ?_
  go_big_quiet_on
  simp only [Act.put, List.setIfInBounds_toArray, List.set_cons_zero, List.set_cons_succ]
  go_big_quiet_want
  refine q_val (.int .i64 k) (fun w' hw' => by have r0 : w'.cell? ⟨w.heap.size, 0, none⟩ = some (.int .i64 k) := (LA.out.later hw').cell 0; go_simp) ?_
  go_big_quiet_on
  simp only [Act.put, List.setIfInBounds_toArray, List.set_cons_zero, List.set_cons_succ]
  go_big_quiet_want
  refine q_callB (W := w1) (.string K) 38 #[(.int .i64 k)] (fun w' hw' => by go_simp) (fun w' hw' => (byteOf_any k w' (by omega)).mono fun e w'' ⟨h1, h2⟩ => ⟨by rw [h1, EK.out], h2⟩) ?_
  go_big_quiet_on
  simp only [Act.put, List.setIfInBounds_toArray, List.set_cons_zero, List.set_cons_succ]
  go_big_quiet_want
  refine q_val (.pointer (some ⟨w.heap.size, 1, none⟩)) (fun w' hw' => by go_simp) ?_
  go_big_quiet_on
  simp only [Act.put, List.setIfInBounds_toArray, List.set_cons_zero, List.set_cons_succ]
  go_big_quiet_want
  refine q_val (.string who) (fun w' hw' => by have r1 : w'.cell? ⟨w.heap.size, 1, none⟩ = some (.string who) := (LA.out.later hw').cell 1; go_simp) ?_
  go_big_quiet_on
  simp only [Act.put, List.setIfInBounds_toArray, List.set_cons_zero, List.set_cons_succ]
  go_big_quiet_want
  refine q_callB (W := w1) (.string U) 39 #[(.string who)] (fun w' hw' => by go_simp) (fun w' hw' => (shortOf_any who w' (by omega)).mono fun e w'' ⟨h1, h2⟩ => ⟨by rw [h1, EU.out], h2⟩) ?_
  go_big_quiet_on
  simp only [Act.put, List.setIfInBounds_toArray, List.set_cons_zero, List.set_cons_succ]
  go_big_quiet_want
  refine q_val (.string (K ++ U)) (fun w' hw' => by go_simp) ?_
  go_big_quiet_on
  simp only [Act.put, List.setIfInBounds_toArray, List.set_cons_zero, List.set_cons_succ]
  go_big_quiet_want
  refine q_val (.pointer (some ⟨w.heap.size, 2, none⟩)) (fun w' hw' => by go_simp) ?_
  go_big_quiet_on
  simp only [Act.put, List.setIfInBounds_toArray, List.set_cons_zero, List.set_cons_succ]
  go_big_quiet_want
  refine q_val (.slice s.a s.n s.c) (fun w' hw' => by have r2 : w'.cell? ⟨w.heap.size, 2, none⟩ = some (.slice s.a s.n s.c) := (LA.out.later hw').cell 2; go_simp) ?_
  go_big_quiet_on
  simp only [Act.put, List.setIfInBounds_toArray, List.set_cons_zero, List.set_cons_succ]
  go_big_quiet_want
  refine q_callB (W := w1) (.string G) 40 #[(.slice s.a s.n s.c)] (fun w' hw' => by go_simp) (fun w' hw' => (textShorts_any s gs w' (show Hid (RT w' s.v gs) from HX.out.stays hw') (by omega) HZ).mono fun e w'' ⟨h1, h2⟩ => ⟨by rw [h1, EG.out], h2⟩) ?_
  go_big_quiet_on
  simp only [Act.put, List.setIfInBounds_toArray, List.set_cons_zero, List.set_cons_succ]
  go_big_quiet_want
  refine q_val (.string (K ++ U ++ G)) (fun w' hw' => by go_simp) ?_
  go_big_quiet_on
  simp only [Act.put, List.setIfInBounds_toArray, List.set_cons_zero, List.set_cons_succ]
  go_big_quiet_want
  refine q_val (.pointer (some ⟨w.heap.size, 3, none⟩)) (fun w' hw' => by go_simp) ?_
  go_big_quiet_on
  simp only [Act.put, List.setIfInBounds_toArray, List.set_cons_zero, List.set_cons_succ]
  go_big_quiet_want
  refine q_val (.string t) (fun w' hw' => by have r3 : w'.cell? ⟨w.heap.size, 3, none⟩ = some (.string t) := (LA.out.later hw').cell 3; go_simp) ?_
  go_big_quiet_on
  simp only [Act.put, List.setIfInBounds_toArray, List.set_cons_zero, List.set_cons_succ]
  go_big_quiet_want
  refine q_callB (W := w1) (.string X) 39 #[(.string t)] (fun w' hw' => by go_simp) (fun w' hw' => (shortOf_any t w' (by omega)).mono fun e w'' ⟨h1, h2⟩ => ⟨by rw [h1, EX.out], h2⟩) ?_
  go_big_quiet_on
  simp only [Act.put, List.setIfInBounds_toArray, List.set_cons_zero, List.set_cons_succ]
  go_big_quiet_want
  refine q_val (.string (K ++ U ++ G ++ X)) (fun w' hw' => by go_simp) ?_
  go_big_quiet_on
  simp only [Act.put, List.setIfInBounds_toArray, List.set_cons_zero, List.set_cons_succ]
  go_big_quiet_want
  refine q_val (.string (K ++ U ++ G ++ X)) (fun w' hw' => by go_simp) ?_
  go_big_quiet_on
  simp only [Act.put, List.setIfInBounds_toArray, List.set_cons_zero, List.set_cons_succ]
  go_big_quiet_want
  refine q_val (.bool true) (fun w' hw' => by go_simp) ?_
  go_big_quiet_on
  simp only [Act.put, List.setIfInBounds_toArray, List.set_cons_zero, List.set_cons_succ]
  refine wpQuiet_nil ?_
  intro w2 c2
  go_wp2_with fail
  go_ret2
  exact ⟨by rw [← EE.out]; rfl, bl_next BW.out c2⟩
end Go.Proofs.YtmbjflhhffcjdaaDoor


/- The specification's WordText. Written by gen_wtx.py. -/
namespace Go.Proofs.YtmbjflhhffcjdaaDoor
open Go.RowKit Pl
set_option linter.unusedVariables false
set_option linter.unusedSimpArgs false

theorem lsh_any (s : ByteArray) (w : World) (hs : s.size ≤ 20000) :
    Calls Tryd.prog 61 #[.string s] w fun e w' => e = .returned (.string (shT s)) ∧ Below w.heap.size w w' := l05Short_any s w hs
set_option maxRecDepth 100000 in
set_option maxHeartbeats 2000000 in
theorem spWordText_no (k : Int) (who : ByteArray) (gs : List ByteArray) (t : ByteArray) (s : Sv) (w : World) (hx : Hid (RT w s.v gs)) (hl : gs.length ≤ 1048576) (hk : Hid (wdB k who gs t = false)) :
    Calls Tryd.prog 21 #[.agg #[.int .i64 k, .string who, .slice s.a s.n s.c, .string t]] w fun e w' => e = .returned (.tuple #[.string ByteArray.empty, .bool false]) ∧ Below w.heap.size w w' := by
  have LA : Hid (Bx (w.alloc (.cells #[.int .i64 k, .string who, .slice s.a s.n s.c, .string t] 26)) w.heap.size 26 [.int .i64 k, .string who, .slice s.a s.n s.c, .string t]) := by
    have h := Bx.new w 26 [.int .i64 k, .string who, .slice s.a s.n s.c, .string t]
    exact h
  have BW : Hid (Below w.heap.size w (w.alloc (.cells #[.int .i64 k, .string who, .slice s.a s.n s.c, .string t] 26))) := ((Below.refl _ _).alloc (by simp) _)
  have HX : Hid (RT (w.alloc (.cells #[.int .i64 k, .string who, .slice s.a s.n s.c, .string t] 26)) s.v gs) := hx.out.stays BW.out
  clear hx
  go_enter Tryd.func21, Tryd.ntmps21
  go_wp2_with (first | (refine wpList_ldG rfl 26 _ rfl w.heap.size 0 rfl 26 _ LA.out [.int .i64 k, .string who, .slice s.a s.n s.c, .string t] rfl _ Tryd.underlying26 rfl Tryd.sizeWd ?_))
  refine (spWordOk_any k who gs t s _ HX hl).mono ?_
  rintro e w1 ⟨rfl, b⟩
  rw [hk.out]
  have BW : Hid (Below w.heap.size w w1) := bl_next BW.out b
  clear b LA
  go_wp2_with fail
  go_ret2
  exact ⟨rfl, BW.out⟩
set_option maxRecDepth 100000 in
set_option maxHeartbeats 8000000 in
theorem spWordText_yes (k : Nat) (who : ByteArray) (gs : List ByteArray) (t : ByteArray) (s : Sv) (w : World) (hx : Hid (RT w s.v gs)) (ho : Hid (WdOk k who gs t)) :
    Calls Tryd.prog 21 #[.agg #[.int .i64 (k : Int), .string who, .slice s.a s.n s.c, .string t]] w fun e w' => e = .returned (.tuple #[.string (wordS k who gs t), .bool true]) ∧ Below w.heap.size w w' := by
  obtain ⟨n1, n2, n3, n4, n5, n6⟩ := ho.out.nats
  have HZ : Hid (∀ x ∈ gs, x.size ≤ 12) := n5
  have HK : Hid (wdB k who gs t = true) := ho.out
  obtain ⟨K, hK⟩ : ∃ K, byteS k = K := ⟨_, rfl⟩
  obtain ⟨U, hU⟩ : ∃ U, shT who = U := ⟨_, rfl⟩
  obtain ⟨N, hN⟩ : ∃ N, varS gs.length = N := ⟨_, rfl⟩
  obtain ⟨X, hX⟩ : ∃ X, shT t = X := ⟨_, rfl⟩
  have zK : K.size = 1 := by rw [← hK, rt_size, byteS_list]; rfl
  have zU : U.size ≤ 20 := by have := shT_size (t := who) (by omega); rw [hU] at this; omega
  have zX : X.size ≤ 25 := by have := shT_size (t := t) (by omega); rw [hX] at this; omega
  have zN : N.size ≤ 5 := by rw [← hN, rt_size, varS_list]; exact varL_len (by omega)
  have EE : Hid (tsS (K ++ U ++ N) gs ++ X = wordS k who gs t) := by rw [← hK, ← hU, ← hN, ← hX]; rfl
  have EK : Hid (byteS k = K) := hK
  have EU : Hid (shT who = U) := hU
  have EN : Hid (varS gs.length = N) := hN
  have EX : Hid (shT t = X) := hX
  clear hK hU hN hX n5
  have x1 : (K ++ U).size = K.size + U.size := ByteArray.size_append
  have x2 : (K ++ U ++ N).size = K.size + U.size + N.size := by rw [ByteArray.size_append, x1]
  have m1 : 1 + U.size ≤ 9223372036854775807 := by omega
  have m2 : 1 + U.size + N.size ≤ 9223372036854775807 := by omega
  have LA : Hid (Bx (w.alloc (.cells #[.int .i64 (k : Int), .string who, .slice s.a s.n s.c, .string t] 26)) w.heap.size 26 [.int .i64 (k : Int), .string who, .slice s.a s.n s.c, .string t]) := by
    have h := Bx.new w 26 [.int .i64 (k : Int), .string who, .slice s.a s.n s.c, .string t]
    exact h
  have BW : Hid (Below w.heap.size w (w.alloc (.cells #[.int .i64 (k : Int), .string who, .slice s.a s.n s.c, .string t] 26))) := ((Below.refl _ _).alloc (by simp) _)
  have HX : Hid (RT (w.alloc (.cells #[.int .i64 (k : Int), .string who, .slice s.a s.n s.c, .string t] 26)) s.v gs) := hx.out.stays BW.out
  have HNN : Hid (s.n = gs.length) := RT.len hx.out
  clear hx
  go_enter Tryd.func21, Tryd.ntmps21
  go_wp2_with (first | (refine wpList_ldG rfl 26 _ rfl w.heap.size 0 rfl 26 _ LA.out [.int .i64 (k : Int), .string who, .slice s.a s.n s.c, .string t] rfl _ Tryd.underlying26 rfl Tryd.sizeWd ?_))
  generalize (w.alloc (.cells #[.int .i64 (k : Int), .string who, .slice s.a s.n s.c, .string t] 26)) = W0 at *
  refine (spWordOk_any k who gs t s _ HX (by omega)).mono ?_
  rintro e w1 ⟨rfl, b⟩
  have z_w1 : W0.heap.size ≤ w1.heap.size := b.size
  have LA : Hid (Bx w1 w.heap.size 26 [.int .i64 (k : Int), .string who, .slice s.a s.n s.c, .string t]) := LA.out.later b
  have BW : Hid (Below w.heap.size w w1) := bl_next BW.out b
  have HX : Hid (RT w1 s.v gs) := HX.out.stays b
  clear b
  rw [HK.out]
  go_wp2_with fail
  refine quietC (C := fun w' => Below w1.heap.size w1 w') (by kernel_rfl) (by kernel_rfl) (Below.refl _ _).drew ?_
  go_big_quiet_want
  refine q_val (.pointer (some ⟨w.heap.size, 0, none⟩)) (fun w' hw' => by go_simp) ?_
  go_big_quiet_on
  simp only [Act.put, List.setIfInBounds_toArray, List.set_cons_zero, List.set_cons_succ]
  go_big_quiet_want
  refine q_val (.int .i64 k) (fun w' hw' => by have r0 : w'.cell? ⟨w.heap.size, 0, none⟩ = some (.int .i64 k) := (LA.out.later hw').cell 0; go_simp) ?_
  go_big_quiet_on
  simp only [Act.put, List.setIfInBounds_toArray, List.set_cons_zero, List.set_cons_succ]
  go_big_quiet_want
  refine q_callB (W := w1) (.string K) 60 #[(.int .i64 k)] (fun w' hw' => by go_simp) (fun w' hw' => (l05Byte_any k w' (by omega)).mono fun e w'' ⟨h1, h2⟩ => ⟨by rw [h1, EK.out], h2⟩) ?_
  go_big_quiet_on
  simp only [Act.put, List.setIfInBounds_toArray, List.set_cons_zero, List.set_cons_succ]
  go_big_quiet_want
  refine q_val (.pointer (some ⟨w.heap.size, 1, none⟩)) (fun w' hw' => by go_simp) ?_
  go_big_quiet_on
  simp only [Act.put, List.setIfInBounds_toArray, List.set_cons_zero, List.set_cons_succ]
  go_big_quiet_want
  refine q_val (.string who) (fun w' hw' => by have r1 : w'.cell? ⟨w.heap.size, 1, none⟩ = some (.string who) := (LA.out.later hw').cell 1; go_simp) ?_
  go_big_quiet_on
  simp only [Act.put, List.setIfInBounds_toArray, List.set_cons_zero, List.set_cons_succ]
  go_big_quiet_want
  refine q_callB (W := w1) (.string U) 61 #[(.string who)] (fun w' hw' => by go_simp) (fun w' hw' => (lsh_any who w' (by omega)).mono fun e w'' ⟨h1, h2⟩ => ⟨by rw [h1, EU.out], h2⟩) ?_
  go_big_quiet_on
  simp only [Act.put, List.setIfInBounds_toArray, List.set_cons_zero, List.set_cons_succ]
  go_big_quiet_want
  refine q_val (.string (K ++ U)) (fun w' hw' => by go_simp) ?_
  go_big_quiet_on
  simp only [Act.put, List.setIfInBounds_toArray, List.set_cons_zero, List.set_cons_succ]
  go_big_quiet_want
  refine q_val (.pointer (some ⟨w.heap.size, 2, none⟩)) (fun w' hw' => by go_simp) ?_
  go_big_quiet_on
  simp only [Act.put, List.setIfInBounds_toArray, List.set_cons_zero, List.set_cons_succ]
  go_big_quiet_want
  refine q_val (.slice s.a s.n s.c) (fun w' hw' => by have r2 : w'.cell? ⟨w.heap.size, 2, none⟩ = some (.slice s.a s.n s.c) := (LA.out.later hw').cell 2; go_simp) ?_
  go_big_quiet_on
  simp only [Act.put, List.setIfInBounds_toArray, List.set_cons_zero, List.set_cons_succ]
  go_big_quiet_want
  refine q_val (.int .i64 ((gs.length : Int))) (fun w' hw' => by have hn := HNN.out; go_simp) ?_
  go_big_quiet_on
  simp only [Act.put, List.setIfInBounds_toArray, List.set_cons_zero, List.set_cons_succ]
  go_big_quiet_want
  refine q_callB (W := w1) (.string N) 62 #[(.int .i64 ((gs.length : Int)))] (fun w' hw' => by go_simp) (fun w' hw' => (l01Var_any gs.length w' (by omega)).mono fun e w'' ⟨h1, h2⟩ => ⟨by rw [h1, EN.out], h2⟩) ?_
  go_big_quiet_on
  simp only [Act.put, List.setIfInBounds_toArray, List.set_cons_zero, List.set_cons_succ]
  go_big_quiet_want
  refine q_val (.string (K ++ U ++ N)) (fun w' hw' => by go_simp) ?_
  go_big_quiet_on
  simp only [Act.put, List.setIfInBounds_toArray, List.set_cons_zero, List.set_cons_succ]
  go_big_quiet_want
  refine q_val (.string (K ++ U ++ N)) (fun w' hw' => by go_simp) ?_
  go_big_quiet_on
  simp only [Act.put, List.setIfInBounds_toArray, List.set_cons_zero, List.set_cons_succ]
  refine wpQuiet_nil ?_
  intro w2 c2
  have z_w2 : w1.heap.size ≤ w2.heap.size := c2.size
  have LA : Hid (Bx w2 w.heap.size 26 [.int .i64 (k : Int), .string who, .slice s.a s.n s.c, .string t]) := LA.out.later c2
  have BW : Hid (Below w.heap.size w w2) := bl_next BW.out c2
  have HX : Hid (RT w2 s.v gs) := HX.out.stays c2
  clear c2
  go_wp2_with fail
  obtain ⟨T0, hT0⟩ : ∃ T0, K ++ U ++ N = T0 := ⟨_, rfl⟩
  rw [hT0] at EE x2 ⊢
  clear hT0 x1 m1 m2
  go_loopw [4, 5] (fun tx i wr => ∃ (j : Nat) (S : ByteArray), j ≤ gs.length ∧ tx = .string S ∧ i = .int .i64 j ∧ S.size ≤ T0.size + 17 * j ∧ Hid (S = tsS T0 (gs.take j)) ∧ Hid (Below w2.heap.size w2 wr)) (fun _ i _ => gs.length - (intOf i).toNat)
  case atStart => exact ⟨0, T0, Nat.zero_le _, rfl, rfl, by omega, rfl, Below.refl _ _⟩
  case round =>
    obtain ⟨j, S, hk, rfl, rfl, hS, hSS, hB⟩ := hrel
    have LB : Hid (Bx wr w.heap.size 26 [.int .i64 (k : Int), .string who, .slice s.a s.n s.c, .string t]) := LA.out.later hB.out
    have c2 := LB.out.cell 2
    have c3 := LB.out.cell 3
    simp only [List.getElem?_cons_succ, List.getElem?_cons_zero] at c2 c3
    have HX2 : Hid (RT wr s.v gs) := HX.out.stays hB.out
    by_cases hlt : j < gs.length
    · obtain ⟨ao, cap, hv, hx0⟩ := HX2.out
      have hv : Value.slice s.a s.n s.c = Value.slice ao gs.length cap := hv
      simp only [Value.slice.injEq] at hv
      obtain ⟨ha, hmid, hc⟩ := hv
      obtain ⟨b, off, rfl, hbb, c0⟩ := hx0 j hlt
      obtain ⟨x, hxe⟩ : ∃ x, x = gs[j] := ⟨_, rfl⟩
      have XE : Hid (x = gs[j]) := hxe
      have hxz : x.size ≤ 12 := by rw [hxe]; exact HZ.out _ (List.getElem_mem hlt)
      rw [← hxe] at c0
      have HC : Hid (wr.cell? ⟨b, off + j, none⟩ = some (.string x)) := c0
      rw [ha, HNN.out] at c2
      clear hxe hx0 c0 ha hc hmid
      have i0 : (0 : Int) ≤ (j : Int) := by omega
      have i1 : (j : Int) < (gs.length : Int) := by omega
      have c0 := HC.out
      go_wp2_with fail
      refine (lsh_any x _ (by omega)).mono ?_
      rintro e w3 ⟨rfl, b3⟩
      have B3 : Hid (Below w2.heap.size w2 w3) := bl_next hB.out b3
      have hz2 := shT_size (t := x) (by omega)
      clear b3 c0 c2 c3
      generalize hI : shT x = I at *
      have HII : Hid (shT x = I) := hI
      clear hI
      have mx : ¬9223372036854775807 < S.size + I.size := by omega
      go_wp2_with fail
      go_roundw
      case rel =>
        refine ⟨j + 1, _, by omega, rfl, by go_num, by rw [ByteArray.size_append]; omega, ?_, B3.out⟩
        show _ = _
        rw [tsS_next gs _ j hlt, ← hSS.out, ← XE.out, HII.out]
      case measure => simp [intOf]; omega
    · have HS : Hid (S = tsS T0 gs) := by
        have := hSS.out
        rw [List.take_of_length_le (by omega)] at this
        exact this
      obtain rfl : j = gs.length := by omega
      rw [HNN.out] at c2
      clear hlt
      go_wp2_with fail
      refine (lsh_any t _ (by omega)).mono ?_
      rintro e w3 ⟨rfl, b3⟩
      rw [EX.out]
      have B3 : Hid (Below w2.heap.size w2 w3) := bl_next hB.out b3
      have mx : ¬9223372036854775807 < S.size + X.size := by omega
      clear b3 c2 c3
      go_wp2_with fail
      go_ret2
      exact ⟨by rw [← EE.out, ← HS.out]; rfl, bl_next BW.out B3.out⟩
end Go.Proofs.YtmbjflhhffcjdaaDoor


/- The law on WordOk. Written by gen_lwo.py. -/
namespace Go.Proofs.YtmbjflhhffcjdaaDoor
open Go.RowKit Pl
set_option linter.unusedVariables false
set_option linter.unusedSimpArgs false

theorem Wd.small {e : Wd} {r : Nat} (h : r + e.sz ≤ 1048576) : e.S := by unfold Wd.sz at h; exact ⟨by omega, by omega, by omega⟩
theorem Wd.S.len {e : Wd} (h : e.S) : e.gs.length ≤ 1048576 := by have := h.2.1; unfold totS at this; omega
theorem Wd.S.each {e : Wd} (h : e.S) : ∀ x ∈ e.gs, x.size ≤ 1048576 := fun x hx => Nat.le_trans (sumS_mem hx) h.2.1
end Go.Proofs.YtmbjflhhffcjdaaDoor


/- The law on WordText. Written by gen_lwo.py. -/
namespace Go.Proofs.YtmbjflhhffcjdaaDoor
open Go.RowKit Pl
set_option linter.unusedVariables false
set_option linter.unusedSimpArgs false

set_option maxRecDepth 100000 in
set_option maxHeartbeats 32000000 in
theorem lawWordText_0 (e : Wd) (T : ByteArray) (R : Bool) (w : World) (h0 : Hid (e.R w)) (hL : Hid e.L) (SPC : Hid (∀ (u : Sv) (W : World), Hid (RT W u.v e.gs) → e.S → Calls Tryd.prog 21 #[.agg #[.int .i64 e.k, .string e.who, .slice u.a u.n u.c, .string e.t]] W fun x w' => x = .returned (.tuple #[.string T, .bool R]) ∧ Below W.heap.size W w')) (IMP : Hid (∀ (u : Sv) (W : World), Hid (RT W u.v e.gs) → e.S → Calls Tryd.prog 11 #[.agg #[.int .i64 e.k, .string e.who, .slice u.a u.n u.c, .string e.t]] W fun x w' => x = .returned (.tuple #[.string T, .bool R]) ∧ Below W.heap.size W w')) :
    Calls Tryd.prog 5 #[.agg #[.int .i64 e.k, .string e.who, .slice e.s.a e.s.n e.s.c, .string e.t]] w fun x w' => x = .returned (.bool true) ∧ Below w.heap.size w w' := by
  have dR : (R != R) = false := by simp
  have dT : (T.toList == T.toList) = true := by simp
  have dT2 : (!(T.toList == T.toList)) = false := by simp
  have LA : Hid (Bx (w.alloc (.cells #[.int .i64 e.k, .string e.who, .slice e.s.a e.s.n e.s.c, .string e.t] 35)) w.heap.size 35 [.int .i64 e.k, .string e.who, .slice e.s.a e.s.n e.s.c, .string e.t]) := by
    have h := Bx.new w 35 [.int .i64 e.k, .string e.who, .slice e.s.a e.s.n e.s.c, .string e.t]
    exact h
  have BW : Hid (Below w.heap.size w (w.alloc (.cells #[.int .i64 e.k, .string e.who, .slice e.s.a e.s.n e.s.c, .string e.t] 35))) := ((Below.refl _ _).alloc (by simp) _)
  have HR : Hid (e.R (w.alloc (.cells #[.int .i64 e.k, .string e.who, .slice e.s.a e.s.n e.s.c, .string e.t] 35))) := h0.out.stays BW.out
  go_enter Tryd.func5, Tryd.ntmps5
  go_wp2_with (first | (refine wpList_ldG rfl 35 _ rfl w.heap.size 0 rfl 35 _ LA.out [.int .i64 e.k, .string e.who, .slice e.s.a e.s.n e.s.c, .string e.t] rfl _ Tryd.underlying35 rfl Tryd.sizeLWd ?_))
  generalize (w.alloc (.cells #[.int .i64 e.k, .string e.who, .slice e.s.a e.s.n e.s.c, .string e.t] 35)) = W0 at *
  refine (szWd_any e 1048576 _ HR hL (by omega)).mono ?_
  rintro x w1 ⟨rfl | ⟨z1, rfl, hz1⟩, b⟩
  · go_wp2_with fail
    go_ret
    exact ⟨rfl, bl_next BW.out b⟩
  have hd1 : decide ((z1 : Int) < 0) = false := by simp
  have hS : e.S := Wd.small hz1
  have HS : Hid e.S := hS
  clear hz1
  have LA : Hid (Bx w1 w.heap.size 35 [.int .i64 e.k, .string e.who, .slice e.s.a e.s.n e.s.c, .string e.t]) := LA.out.later b
  have BW : Hid (Below w.heap.size w w1) := bl_next BW.out b
  have HR : Hid (e.R w1) := HR.out.stays b
  clear b
  go_wp2_with (first | (refine wpList_ldG rfl 35 _ rfl w.heap.size 0 rfl 35 _ LA.out [.int .i64 e.k, .string e.who, .slice e.s.a e.s.n e.s.c, .string e.t] rfl _ Tryd.underlying35 rfl Tryd.sizeLWd ?_))
  clear hd1
  refine (toWd_any e _ HR hS).mono ?_
  rintro e w2 ⟨u2, rfl, o2, b⟩
  have O2 : Hid (OwnS w2 w1.heap.size u2.v e.gs) := o2
  clear o2
  have z_w2 : w1.heap.size ≤ w2.heap.size := b.size
  have LA : Hid (Bx w2 w.heap.size 35 [.int .i64 e.k, .string e.who, .slice e.s.a e.s.n e.s.c, .string e.t]) := LA.out.later b
  have BW : Hid (Below w.heap.size w w2) := bl_next BW.out b
  have HR : Hid (e.R w2) := HR.out.stays b
  clear b
  go_wp2_with fail
  refine (SPC.out u2 _ (show Hid (RT _ u2.v e.gs) from OwnS.texts O2.out) hS).mono ?_
  rintro e w3 ⟨rfl, b⟩
  have z_w3 : w2.heap.size ≤ w3.heap.size := b.size
  have LA : Hid (Bx w3 w.heap.size 35 [.int .i64 e.k, .string e.who, .slice e.s.a e.s.n e.s.c, .string e.t]) := LA.out.later b
  have BW : Hid (Below w.heap.size w w3) := bl_next BW.out b
  have HR : Hid (e.R w3) := HR.out.stays b
  have O2 : Hid (OwnS w3 w1.heap.size u2.v e.gs) := OwnS.keep' O2.out fun y _ hy => Below.block b y hy
  clear b
  clear O2
  go_wp2_with (first | (refine wpList_ldG rfl 35 _ rfl w.heap.size 0 rfl 35 _ LA.out [.int .i64 e.k, .string e.who, .slice e.s.a e.s.n e.s.c, .string e.t] rfl _ Tryd.underlying35 rfl Tryd.sizeLWd ?_))
  refine (toWd_any e _ HR hS).mono ?_
  rintro e w4 ⟨ux, rfl, ox, b⟩
  have XO : Hid (OwnS w4 w3.heap.size ux.v e.gs) := ox
  clear ox
  have z_w4 : w3.heap.size ≤ w4.heap.size := b.size
  have LA : Hid (Bx w4 w.heap.size 35 [.int .i64 e.k, .string e.who, .slice e.s.a e.s.n e.s.c, .string e.t]) := LA.out.later b
  have BW : Hid (Below w.heap.size w w4) := bl_next BW.out b
  have HR : Hid (e.R w4) := HR.out.stays b
  clear b
  have hz : Hid (Bx (w4.alloc (.cells #[.int .i64 0, .string ⟨#[]⟩, .slice none 0 0, .string ⟨#[]⟩] 26)) w4.heap.size 26 [.int .i64 0, .string ⟨#[]⟩, .slice none 0 0, .string ⟨#[]⟩]) := Bx.new w4 26 _
  go_wp2_with (first | (refine wpList_stB rfl 26 _ _ rfl w4.heap.size 0 rfl 26 _ hz.out [.int .i64 e.k, .string e.who, .slice ux.a ux.n ux.c, .string e.t] rfl (by simp) Tryd.sizeWd rfl [.int .i64 e.k, .string e.who, .slice ux.a ux.n ux.c, .string e.t] rfl ?_; intro WX OB TB; have b : Below w4.heap.size w4 WX := ((Below.refl _ _).alloc (Nat.le_refl _) _).trans (TB.below (Nat.le_refl _)); have XB : Hid (Bx WX w4.heap.size 26 [.int .i64 e.k, .string e.who, .slice ux.a ux.n ux.c, .string e.t]) := OB; have z_WX : w4.heap.size ≤ WX.heap.size := b.size; have LA : Hid (Bx WX w.heap.size 35 [.int .i64 e.k, .string e.who, .slice e.s.a e.s.n e.s.c, .string e.t]) := LA.out.later b; have BW : Hid (Below w.heap.size w WX) := bl_next BW.out b; have HR : Hid (e.R WX) := HR.out.stays b; have XO : Hid (OwnS WX w3.heap.size ux.v e.gs) := OwnS.keep' XO.out fun y _ hy => Below.block b y hy; clear OB TB b; refine Stp.here ?_))
  refine Stp.go ?_
  clear hz
  have zl_XB : w4.heap.size < WX.heap.size := XB.out.lt
  generalize hg_XB : w4.heap.size = gXB at *
  go_wp2_with (first | (refine wpList_ldG rfl 26 _ rfl gXB 0 rfl 26 _ XB.out [.int .i64 e.k, .string e.who, .slice ux.a ux.n ux.c, .string e.t] rfl _ Tryd.underlying26 rfl Tryd.sizeWd ?_))
  refine (IMP.out ux _ (show Hid (RT _ ux.v e.gs) from OwnS.texts XO.out) hS).mono ?_
  rintro e w6 ⟨rfl, b⟩
  have z_w6 : WX.heap.size ≤ w6.heap.size := b.size
  have LA : Hid (Bx w6 w.heap.size 35 [.int .i64 e.k, .string e.who, .slice e.s.a e.s.n e.s.c, .string e.t]) := LA.out.later b
  have BW : Hid (Below w.heap.size w w6) := bl_next BW.out b
  have HR : Hid (e.R w6) := HR.out.stays b
  have XO : Hid (OwnS w6 w3.heap.size ux.v e.gs) := OwnS.keep' XO.out fun y _ hy => Below.block b y hy
  have XB : Hid (Bx w6 gXB 26 [.int .i64 e.k, .string e.who, .slice ux.a ux.n ux.c, .string e.t]) := XB.out.later b
  clear b
  go_wp2_with fail
  have c : Below w6.heap.size w6 w6.drew := (Below.refl _ _).drew
  refine wp_region_held_drew (S := fun w' => Below w6.heap.size w6 w') (by kernel_rfl) c (fun hHeld => ?_)
  refine wpAnyH_take (i := 0) (v := _) rfl (by kernel_rfl) (by kernel_rfl) (by kernel_rfl) (fun _ _ _ h => h) (ld_yield (by rfl) 26 _ rfl gXB 0 rfl 26 _ (fun w hS => XB.out.later hS) [.int .i64 e.k, .string e.who, .slice ux.a ux.n ux.c, .string e.t] rfl _ Tryd.underlying26 rfl Tryd.sizeWd) (by assumption) ?_
  try simp only [Act.put, List.getElem_toArray, List.getElem_cons_zero, List.getElem_cons_succ, List.setIfInBounds_toArray, List.set_cons_zero, List.set_cons_succ]
  refine wpAnyH_take (i := 1) (v := _) rfl (by kernel_rfl) (by kernel_rfl) (by kernel_rfl) (fun _ _ _ h => h) (ld_yield (by rfl) 35 _ rfl w.heap.size 0 rfl 35 _ (fun w hS => LA.out.later hS) [.int .i64 e.k, .string e.who, .slice e.s.a e.s.n e.s.c, .string e.t] rfl _ Tryd.underlying35 rfl Tryd.sizeLWd) (by assumption) ?_
  try simp only [Act.put, List.getElem_toArray, List.getElem_cons_zero, List.getElem_cons_succ, List.setIfInBounds_toArray, List.set_cons_zero, List.set_cons_succ]
  refine wpAnyH_ready (rs := [2]) (by kernel_rfl) (by simp) ?_
  refine AllReadyH.cons (i := 2) rfl (fun K hK => ?_) AllReadyH.nil
  rw [if_pos (by rfl)]
  simp only [List.getElem_toArray, List.getElem_cons_zero, List.getElem_cons_succ]
  go_simp
  refine (toWd_any e _ (show Hid (e.R w6.drew) from HR.out.stays c) hS).mono ?_
  rintro x y1 ⟨ut, rfl, ot, b1⟩
  have OT : Hid (OwnS y1 w6.drew.heap.size ut.v e.gs) := ot
  have c : Below w6.heap.size w6 y1 := bl_next c b1
  refine hK.out _ _ (c) (fun hHeld => ?_)
  clear hK K
  try simp only [Act.put, List.getElem_toArray, List.getElem_cons_zero, List.getElem_cons_succ, List.setIfInBounds_toArray, List.set_cons_zero, List.set_cons_succ]
  clear ot b1
  refine wpAnyH_ready (rs := [3]) (by kernel_rfl) (by simp) ?_
  refine AllReadyH.cons (i := 3) rfl (fun K hK => ?_) AllReadyH.nil
  rw [if_pos (by rfl)]
  simp only [List.getElem_toArray, List.getElem_cons_zero, List.getElem_cons_succ]
  go_simp
  refine (eqWd_same e ux ut _ _ _ HS (show Hid (OwnS y1 w3.heap.size ux.v e.gs) from OwnS.keep' XO.out fun y _ hy => Below.block c y hy) OT).mono ?_
  rintro x w7 ⟨rfl, b1⟩
  have c : Below w6.heap.size w6 w7 := bl_next c b1
  refine hK.out _ _ (c) (fun hHeld => ?_)
  clear hK K
  try simp only [Act.put, List.getElem_toArray, List.getElem_cons_zero, List.getElem_cons_succ, List.setIfInBounds_toArray, List.set_cons_zero, List.set_cons_succ]
  clear b1
  refine wpAnyH_take (i := 4) (v := ?v4b3) rfl (by kernel_rfl) (by kernel_rfl) (by kernel_rfl) (fun _ _ _ h => h) (Or.inl ⟨by rfl, ?hy4b3⟩) (by assumption) ?_
  case hy4b3 => (intro w hSw; (try dsimp only at hSw); simp only [List.getElem_toArray, List.getElem_cons_zero, List.getElem_cons_succ]; go_simp; try with_reducible rfl)
  try simp only [Act.put, List.getElem_toArray, List.getElem_cons_zero, List.getElem_cons_succ, List.setIfInBounds_toArray, List.set_cons_zero, List.set_cons_succ]
  refine wpAnyH_done (by kernel_rfl) ?_ _
  have BW : Hid (Below w.heap.size w w7) := bl_next BW.out c
  clear c hHeld OT
  go_wp2_with fail
  go_ret
  exact ⟨rfl, BW.out⟩
theorem lawWordText (e : Wd) (w : World) (h0 : Hid (e.R w)) (hL : Hid e.L) :
    Calls Tryd.prog 5 #[.agg #[.int .i64 e.k, .string e.who, .slice e.s.a e.s.n e.s.c, .string e.t]] w fun x w' => x = .returned (.bool true) ∧ Below w.heap.size w w' := by
  cases hk : wdB e.k e.who e.gs e.t with
  | false =>
    exact lawWordText_0 e ByteArray.empty false w h0 hL (fun u W h hs => spWordText_no e.k e.who e.gs e.t u W h hs.len hk) (fun u W h hs => wordText_no e.k e.who e.gs e.t u W h hs.len hs.each hs.1 hk)
  | true =>
    obtain ⟨K, hK, ho⟩ := wdB_nat hk
    have HO : Hid (WdOk K e.who e.gs e.t) := ho
    refine lawWordText_0 e (wordS K e.who e.gs e.t) true w h0 hL (fun u W h hs => ?_) (fun u W h hs => ?_)
    · rw [hK]; exact spWordText_yes K e.who e.gs e.t u W h HO
    · rw [hK]; exact wordText_yes K e.who e.gs e.t u W h HO
end Go.Proofs.YtmbjflhhffcjdaaDoor


