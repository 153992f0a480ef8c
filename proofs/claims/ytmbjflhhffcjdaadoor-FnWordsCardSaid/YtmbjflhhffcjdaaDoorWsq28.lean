/- Joined texts: CSvb CIvb CSvd CRbw CRbx CWdr CWts CWdy CWdz CWtx CSbw CLws. -/
import Derived.Test.YtmbjflhhffcjdaaDoorWsq23
import Derived.Test.YtmbjflhhffcjdaaDoorWsq27
import Derived.Test.YtmbjflhhffcjdaaDoorWsq22
import Derived.Test.YtmbjflhhffcjdaaDoorWsq19
import Derived.Test.YtmbjflhhffcjdaaDoorWsq13
import Derived.Test.YtmbjflhhffcjdaaDoorWsq20
import Derived.Test.YtmbjflhhffcjdaaDoorWsq11
import Derived.Test.YtmbjflhhffcjdaaDoorWsq8
import Derived.Test.YtmbjflhhffcjdaaDoorWsq14
import Derived.Test.YtmbjflhhffcjdaaDoorWsq10
import Derived.Test.YtmbjflhhffcjdaaDoorWsq4
import Derived.Test.YtmbjflhhffcjdaaDoorWsq5
import Derived.Test.YtmbjflhhffcjdaaDoorWsq3
/- The specification's WordOk. Written by gen_svb.py. -/
namespace Go.Proofs.YtmbjflhhffcjdaaDoor
open Go.RowKit Pl
set_option linter.unusedVariables false
set_option linter.unusedSimpArgs false

theorem size_zero {t : ByteArray} (h : t.size = 0) : t = ⟨#[]⟩ := ByteArray.ext (Array.eq_empty_of_size_eq_zero h)
set_option maxRecDepth 100000 in
set_option maxHeartbeats 8000000 in
theorem spWordOk_any (k : Int) (who : ByteArray) (gs : List ByteArray) (t : ByteArray) (s : Sv) (w : World) (hx : Hid (RT w s.v gs)) (hl : gs.length ≤ 1048576) :
    Calls Tryd.prog 13 #[.agg #[.int .i64 k, .string who, .slice s.a s.n s.c, .string t]] w fun e w' => e = .returned (.bool (wdB k who gs t)) ∧ Below w.heap.size w w' := by
  obtain ⟨ao, cap, hv, hx0⟩ := hx.out
  unfold Sv.v at hv
  rw [hv]
  have HX0 : Hid (TextsAt w ao gs) := hx0
  clear hv hx hx0
  have LA : Hid (Bx (w.alloc (.cells #[.int .i64 k, .string who, .slice ao gs.length cap, .string t] 26)) w.heap.size 26 [.int .i64 k, .string who, .slice ao gs.length cap, .string t]) := by
    have h := Bx.new w 26 [.int .i64 k, .string who, .slice ao gs.length cap, .string t]
    exact h
  have BW : Hid (Below w.heap.size w (w.alloc (.cells #[.int .i64 k, .string who, .slice ao gs.length cap, .string t] 26))) := ((Below.refl _ _).alloc (by simp) _)
  have HX : Hid (TextsAt (w.alloc (.cells #[.int .i64 k, .string who, .slice ao gs.length cap, .string t] 26)) ao gs) := HX0.out.stays BW.out
  clear HX0
  go_enter Tryd.func13, Tryd.ntmps13
  have c0 := LA.out.cell 0
  simp only [List.getElem?_cons_succ, List.getElem?_cons_zero] at c0
  go_wp2_with fail
  generalize (w.alloc (.cells #[.int .i64 k, .string who, .slice ao gs.length cap, .string t] 26)) = W at *
  clear c0
  refine (in_any k 1 4 _).mono ?_
  rintro e w1 ⟨rfl, rfl⟩
  cases h1 : decide (1 ≤ k ∧ k ≤ 4) with
  | false =>
    have HV : Hid (wdB k who gs t = false) := (by unfold wdB; rw [h1]; rfl : _ = _)
    go_wp2_with fail
    go_ret
    exact ⟨by rw [HV.out]; rfl, BW.out⟩
  | true =>
    have H1 : Hid (decide (1 ≤ k ∧ k ≤ 4) = true) := h1
    clear h1
    have c1 := LA.out.cell 1
    simp only [List.getElem?_cons_succ, List.getElem?_cons_zero] at c1
    go_wp2_with fail
    clear c1
    refine (spPriv_any who _).mono ?_
    rintro e w2 ⟨rfl, b⟩
    have LA : Hid (Bx w2 w.heap.size 26 [.int .i64 k, .string who, .slice ao gs.length cap, .string t]) := LA.out.later b
    have BW : Hid (Below w.heap.size w w2) := bl_next BW.out b
    have HX : Hid (TextsAt w2 ao gs) := HX.out.stays b
    clear b
    cases h2 : prB who with
    | false =>
      have HV : Hid (wdB k who gs t = false) := (by unfold wdB; rw [H1.out, h2]; rfl : _ = _)
      clear h2
      go_wp2_with fail
      go_ret
      exact ⟨by rw [HV.out]; rfl, BW.out⟩
    | true =>
      have H2 : Hid (prB who = true) := h2
      clear h2
      have c2 := LA.out.cell 2
      simp only [List.getElem?_cons_succ, List.getElem?_cons_zero] at c2
      go_wp2_with fail
      clear c2
      refine (spNames_any ⟨ao, gs.length, cap⟩ gs _ (show Hid (RT _ _ gs) from ⟨ao, cap, rfl, HX.out⟩) hl).mono ?_
      rintro e w3 ⟨rfl, b⟩
      have LA : Hid (Bx w3 w.heap.size 26 [.int .i64 k, .string who, .slice ao gs.length cap, .string t]) := LA.out.later b
      have BW : Hid (Below w.heap.size w w3) := bl_next BW.out b
      have HX : Hid (TextsAt w3 ao gs) := HX.out.stays b
      clear b
      cases h3 : namesB gs with
      | false =>
        have HV : Hid (wdB k who gs t = false) := (by unfold wdB; rw [H1.out, H2.out, h3]; rfl : _ = _)
        clear h3
        go_wp2_with fail
        go_ret
        exact ⟨by rw [HV.out]; rfl, BW.out⟩
      | true =>
        have H3 : Hid (namesB gs = true) := h3
        clear h3
        have HV : Hid (wdB k who gs t = (if k = 4 then decide (1 ≤ (gs.length : Int) ∧ (gs.length : Int) ≤ 3) && decide (t.size ≤ 20) else if k = 3 then decide (gs.length = 0) && decide (t.size = 0) else decide (gs.length = 1) && decide (t.size = 0))) := (by unfold wdB; rw [H1.out, H2.out, H3.out]; rfl : _ = _)
        by_cases hk4 : k = 4
        · subst hk4
          have c0 := LA.out.cell 0
          have c2 := LA.out.cell 2
          have c3 := LA.out.cell 3
          simp only [List.getElem?_cons_succ, List.getElem?_cons_zero] at c0 c2 c3
          rw [if_pos rfl] at HV
          go_wp2_with fail
          clear c0 c2
          refine (in_any (gs.length : Int) 1 3 _).mono ?_
          rintro e w4 ⟨rfl, rfl⟩
          cases h4 : decide (1 ≤ (gs.length : Int) ∧ (gs.length : Int) ≤ 3) with
          | false =>
            have HV2 : Hid (wdB 4 who gs t = false) := (by rw [HV.out, h4]; rfl : _ = _)
            clear h4
            go_wp2_with fail
            go_ret
            exact ⟨by rw [HV2.out]; rfl, BW.out⟩
          | true =>
            cases h5 : decide (t.size ≤ 20) with
            | false =>
              have HV2 : Hid (wdB 4 who gs t = false) := (by rw [HV.out, h4, h5]; rfl : _ = _)
              have h6 : decide ((t.size : Int) ≤ 20) = false := by simp at h5 ⊢; omega
              clear h4 h5
              go_wp2_with fail
              go_ret
              exact ⟨by rw [HV2.out]; rfl, BW.out⟩
            | true =>
              have HV2 : Hid (wdB 4 who gs t = true) := (by rw [HV.out, h4, h5]; rfl : _ = _)
              have h6 : decide ((t.size : Int) ≤ 20) = true := by simp at h5 ⊢; omega
              clear h4 h5
              go_wp2_with fail
              go_ret
              exact ⟨by rw [HV2.out]; rfl, BW.out⟩
        rw [if_neg hk4] at HV
        by_cases hk3 : k = 3
        · subst hk3
          have c0 := LA.out.cell 0
          have c2 := LA.out.cell 2
          have c3 := LA.out.cell 3
          simp only [List.getElem?_cons_succ, List.getElem?_cons_zero] at c0 c2 c3
          rw [if_pos rfl] at HV
          cases h4 : decide (gs.length = 0) with
          | false =>
            have HV2 : Hid (wdB 3 who gs t = false) := (by rw [HV.out, h4]; rfl : _ = _)
            have h6 : ((gs.length : Int) == 0) = false := by simp at h4 ⊢; omega
            clear h4
            go_wp2_with fail
            go_ret
            exact ⟨by rw [HV2.out]; rfl, BW.out⟩
          | true =>
            have h6 : ((gs.length : Int) == 0) = true := by simp at h4 ⊢; omega
            cases h5 : decide (t.size = 0) with
            | false =>
              have HV2 : Hid (wdB 3 who gs t = false) := (by rw [HV.out, h4, h5]; rfl : _ = _)
              have h7 : (t.toList == []) = false := notEmpty (by have := of_decide_eq_false h5; omega)
              have h8 : t.toList.isEmpty = false := notEmpty' (by have := of_decide_eq_false h5; omega)
              clear h4 h5
              go_wp2_with fail
              go_ret
              exact ⟨by rw [HV2.out]; rfl, BW.out⟩
            | true =>
              have HV2 : Hid (wdB 3 who gs t = true) := (by rw [HV.out, h4, h5]; rfl : _ = _)
              obtain rfl : t = ⟨#[]⟩ := size_zero (of_decide_eq_true h5)
              clear h4 h5
              go_wp2_with fail
              go_ret
              exact ⟨by rw [HV2.out]; rfl, BW.out⟩
        rw [if_neg hk3] at HV
        have c0 := LA.out.cell 0
        have c2 := LA.out.cell 2
        have c3 := LA.out.cell 3
        simp only [List.getElem?_cons_succ, List.getElem?_cons_zero] at c0 c2 c3
        have g4 : (k == 4) = false := by simp; omega
        have g3 : (k == 3) = false := by simp; omega
        clear hk3 hk4
        cases h4 : decide (gs.length = 1) with
        | false =>
          have HV2 : Hid (wdB k who gs t = false) := (by rw [HV.out, h4]; rfl : _ = _)
          have h6 : ((gs.length : Int) == 1) = false := by simp at h4 ⊢; omega
          clear h4
          go_wp2_with fail
          go_ret
          exact ⟨by rw [HV2.out]; rfl, BW.out⟩
        | true =>
          have h6 : ((gs.length : Int) == 1) = true := by simp at h4 ⊢; omega
          cases h5 : decide (t.size = 0) with
          | false =>
            have HV2 : Hid (wdB k who gs t = false) := (by rw [HV.out, h4, h5]; rfl : _ = _)
            have h7 : (t.toList == []) = false := notEmpty (by have := of_decide_eq_false h5; omega)
            have h8 : t.toList.isEmpty = false := notEmpty' (by have := of_decide_eq_false h5; omega)
            clear h4 h5
            go_wp2_with fail
            go_ret
            exact ⟨by rw [HV2.out]; rfl, BW.out⟩
          | true =>
            have HV2 : Hid (wdB k who gs t = true) := (by rw [HV.out, h4, h5]; rfl : _ = _)
            obtain rfl : t = ⟨#[]⟩ := size_zero (of_decide_eq_true h5)
            clear h4 h5
            go_wp2_with fail
            go_ret
            exact ⟨by rw [HV2.out]; rfl, BW.out⟩
end Go.Proofs.YtmbjflhhffcjdaaDoor


/- The program's countOk, WordOk. Written by gen_ivb.py. -/
namespace Go.Proofs.YtmbjflhhffcjdaaDoor
open Go.RowKit Pl
set_option linter.unusedVariables false
set_option linter.unusedSimpArgs false

/-- has a word of this kind as many groups as it wants? -/
def cntB (k : Int) (n : Nat) : Bool := if k = 4 then decide (1 ≤ (n : Int) ∧ (n : Int) ≤ 3) else if k = 3 then decide ((n : Int) = 0) else if k = 1 ∨ k = 2 then decide ((n : Int) = 1) else false
theorem wdB_cnt {k : Int} {who : ByteArray} {gs : List ByteArray} {t : ByteArray} : wdB k who gs t = (prB who && (cntB k gs.length && (namesB gs && (decide (t.size ≤ 20) && (decide (k = 4) || decide (t.size = 0)))))) := by
  unfold wdB cntB
  have e0 : decide ((gs.length : Int) = 0) = decide (gs.length = 0) := by congr 1; apply propext; omega
  have e1 : decide ((gs.length : Int) = 1) = decide (gs.length = 1) := by congr 1; apply propext; omega
  rw [e0, e1]
  by_cases h4 : k = 4
  · subst h4
    cases prB who <;> cases namesB gs <;> simp
  · by_cases h3 : k = 3
    · subst h3
      by_cases ht : t.size = 0
      · have : t.size ≤ 20 := by omega
        cases prB who <;> cases namesB gs <;> simp [ht]
      · cases prB who <;> cases namesB gs <;> simp [ht]
    · by_cases h12 : k = 1 ∨ k = 2
      · have hk : 1 ≤ k ∧ k ≤ 4 := by omega
        by_cases ht : t.size = 0
        · have : t.size ≤ 20 := by omega
          cases prB who <;> cases namesB gs <;> simp [ht, h4, h3, h12, hk]
        · cases prB who <;> cases namesB gs <;> simp [ht, h4, h3, h12, hk]
      · have hk : ¬ (1 ≤ k ∧ k ≤ 4) := by omega
        cases prB who <;> cases namesB gs <;> simp [h4, h3, h12, hk]
theorem cnt4 (n : Nat) : cntB 4 n = (decide (1 ≤ (n : Int)) && decide ((n : Int) ≤ 3)) := by unfold cntB; rw [Bool.eq_iff_iff]; simp
theorem cnt3 (n : Nat) : cntB 3 n = ((n : Int) == 0) := by unfold cntB; rw [Bool.eq_iff_iff]; simp
theorem cnt1 (n : Nat) : cntB 1 n = ((n : Int) == 1) := by unfold cntB; rw [Bool.eq_iff_iff]; simp
theorem cnt2 (n : Nat) : cntB 2 n = ((n : Int) == 1) := by unfold cntB; rw [Bool.eq_iff_iff]; simp
set_option maxRecDepth 100000 in
set_option maxHeartbeats 8000000 in
theorem countOk_any (k : Int) (who : ByteArray) (gs : List ByteArray) (t : ByteArray) (s : Sv) (w : World) (hn : s.n = gs.length) :
    Calls Tryd.prog 50 #[.agg #[.int .i64 k, .string who, .slice s.a s.n s.c, .string t]] w fun e w' => e = .returned (.bool (cntB k gs.length)) ∧ Below w.heap.size w w' := by
  obtain ⟨a, n, c⟩ := s
  have hn : n = gs.length := hn
  subst hn
  dsimp only
  have LA : Hid (Bx (w.alloc (.cells #[.int .i64 k, .string who, .slice a gs.length c, .string t] 26)) w.heap.size 26 [.int .i64 k, .string who, .slice a gs.length c, .string t]) := by
    have h := Bx.new w 26 [.int .i64 k, .string who, .slice a gs.length c, .string t]
    exact h
  have BW : Hid (Below w.heap.size w (w.alloc (.cells #[.int .i64 k, .string who, .slice a gs.length c, .string t] 26))) := ((Below.refl _ _).alloc (by simp) _)
  have c0 := LA.out.cell 0
  have c2 := LA.out.cell 2
  simp only [List.getElem?_cons_succ, List.getElem?_cons_zero] at c0 c2
  by_cases h4 : k = 4
  · subst h4
    go_enter Tryd.func50, Tryd.ntmps50
    go_wp2_with fail
    refine (within_b (gs.length : Int) 1 3 _).mono ?_
    rintro e w1 ⟨rfl, b⟩
    go_wp2_with fail
    go_ret
    exact ⟨by rw [cnt4]; rfl, bl_next BW.out b⟩
  by_cases h3 : k = 3
  · subst h3
    go_enter Tryd.func50, Tryd.ntmps50
    go_wp2_with fail
    go_ret
    exact ⟨by rw [cnt3]; rfl, BW.out⟩
  by_cases h1 : k = 1
  · subst h1
    go_enter Tryd.func50, Tryd.ntmps50
    go_wp2_with fail
    go_ret
    exact ⟨by rw [cnt1]; rfl, BW.out⟩
  by_cases h2 : k = 2
  · subst h2
    go_enter Tryd.func50, Tryd.ntmps50
    go_wp2_with fail
    go_ret
    exact ⟨by rw [cnt2]; rfl, BW.out⟩
  have d1 : decide (k = 1) = false := by simp [h1]
  have d2 : decide (k = 2) = false := by simp [h2]
  have d3 : decide (k = 3) = false := by simp [h3]
  have d4 : decide (k = 4) = false := by simp [h4]
  go_enter Tryd.func50, Tryd.ntmps50
  go_wp2_with fail
  go_ret
  exact ⟨by simp [cntB, h1, h2, h3, h4], BW.out⟩
set_option maxRecDepth 100000 in
set_option maxHeartbeats 8000000 in
theorem wordOk_any (k : Int) (who : ByteArray) (gs : List ByteArray) (t : ByteArray) (s : Sv) (w : World) (hx : Hid (RT w s.v gs)) (hl : gs.length ≤ 1048576) (hz : Hid (∀ x ∈ gs, x.size ≤ 1048576)) (hw : who.size ≤ 1048576) :
    Calls Tryd.prog 14 #[.agg #[.int .i64 k, .string who, .slice s.a s.n s.c, .string t]] w fun e w' => e = .returned (.bool (wdB k who gs t)) ∧ Below w.heap.size w w' := by
  have hn : Hid (s.n = gs.length) := RT.len hx.out
  rw [wdB_cnt]
  have LA : Hid (Bx (w.alloc (.cells #[.int .i64 k, .string who, .slice s.a s.n s.c, .string t] 26)) w.heap.size 26 [.int .i64 k, .string who, .slice s.a s.n s.c, .string t]) := by
    have h := Bx.new w 26 [.int .i64 k, .string who, .slice s.a s.n s.c, .string t]
    exact h
  have BW : Hid (Below w.heap.size w (w.alloc (.cells #[.int .i64 k, .string who, .slice s.a s.n s.c, .string t] 26))) := ((Below.refl _ _).alloc (by simp) _)
  have HX : Hid (RT (w.alloc (.cells #[.int .i64 k, .string who, .slice s.a s.n s.c, .string t] 26)) s.v gs) := hx.out.stays BW.out
  clear hx
  have c1 := LA.out.cell 1
  simp only [List.getElem?_cons_succ, List.getElem?_cons_zero] at c1
  go_enter Tryd.func14, Tryd.ntmps14
  go_wp2_with fail
  clear c1
  generalize (w.alloc (.cells #[.int .i64 k, .string who, .slice s.a s.n s.c, .string t] 26)) = W at *
  refine (isPriv_any who _ hw).mono ?_
  rintro e w1 ⟨rfl, b⟩
  have z_w1 : W.heap.size ≤ w1.heap.size := b.size
  have LA : Hid (Bx w1 w.heap.size 26 [.int .i64 k, .string who, .slice s.a s.n s.c, .string t]) := LA.out.later b
  have BW : Hid (Below w.heap.size w w1) := bl_next BW.out b
  have HX : Hid (RT w1 s.v gs) := HX.out.stays b
  clear b
  cases h1 : prB who with
  | false =>
    have H1 : Hid (prB who = false) := h1
    clear h1
    go_wp2_with fail
    go_ret
    exact ⟨by simp [H1.out], BW.out⟩
  | true =>
    have H1 : Hid (prB who = true) := h1
    clear h1
    go_wp2_with (first | (refine wpList_ldG rfl 26 _ rfl w.heap.size 0 rfl 26 _ LA.out [.int .i64 k, .string who, .slice s.a s.n s.c, .string t] rfl _ Tryd.underlying26 rfl Tryd.sizeWd ?_))
    refine (countOk_any k who gs t s _ hn.out).mono ?_
    rintro e w2 ⟨rfl, b⟩
    have z_w2 : w1.heap.size ≤ w2.heap.size := b.size
    have LA : Hid (Bx w2 w.heap.size 26 [.int .i64 k, .string who, .slice s.a s.n s.c, .string t]) := LA.out.later b
    have BW : Hid (Below w.heap.size w w2) := bl_next BW.out b
    have HX : Hid (RT w2 s.v gs) := HX.out.stays b
    clear b
    cases h2 : cntB k gs.length with
    | false =>
      have H2 : Hid (cntB k gs.length = false) := h2
      clear h2
      go_wp2_with fail
      go_ret
      exact ⟨by simp [H2.out], BW.out⟩
    | true =>
      have H2 : Hid (cntB k gs.length = true) := h2
      clear h2
      have c2 := LA.out.cell 2
      simp only [List.getElem?_cons_succ, List.getElem?_cons_zero] at c2
      go_wp2_with fail
      clear c2
      refine (ascNames_any s gs _ HX hl hz).mono ?_
      rintro e w3 ⟨rfl, b⟩
      have z_w3 : w2.heap.size ≤ w3.heap.size := b.size
      have LA : Hid (Bx w3 w.heap.size 26 [.int .i64 k, .string who, .slice s.a s.n s.c, .string t]) := LA.out.later b
      have BW : Hid (Below w.heap.size w w3) := bl_next BW.out b
      have HX : Hid (RT w3 s.v gs) := HX.out.stays b
      clear b
      cases h3 : namesB gs with
      | false =>
        have H3 : Hid (namesB gs = false) := h3
        clear h3
        go_wp2_with fail
        go_ret
        exact ⟨by simp [H3.out], BW.out⟩
      | true =>
        have H3 : Hid (namesB gs = true) := h3
        clear h3
        have c0 := LA.out.cell 0
        have c3 := LA.out.cell 3
        simp only [List.getElem?_cons_succ, List.getElem?_cons_zero] at c0 c3
        by_cases ht : t.size ≤ 20
        case neg =>
          have hd : decide (t.size ≤ 20) = false := by simp; omega
          have HT : Hid (decide (t.size ≤ 20) = false) := hd
          go_wp2_with fail
          go_ret
          exact ⟨by first | (simp [HT.out]; done) | rfl, BW.out⟩
        have hd : decide (t.size ≤ 20) = true := by simp; omega
        have HT : Hid (decide (t.size ≤ 20) = true) := hd
        by_cases h4 : k = 4
        · subst h4
          go_wp2_with fail
          go_ret
          exact ⟨by first | (simp [H1.out, H2.out, H3.out, HT.out]; done) | rfl, BW.out⟩
        have H4 : Hid (¬ k = 4) := h4
        have d4 : (k == 4) = false := by simp [h4]
        clear h4
        by_cases h0 : t.size = 0
        · have h0' : t = ⟨#[]⟩ := size_zero h0
          subst h0'
          clear h0
          go_wp2_with fail
          go_ret
          exact ⟨by simp [H1.out, H2.out, H3.out, show (⟨#[]⟩ : ByteArray).size = 0 from rfl], BW.out⟩
        have H0 : Hid (¬ t.size = 0) := h0
        have H5 : Hid ((decide (k = 4) || decide (t.size = 0)) = false) := (by rw [decide_eq_false H4.out, decide_eq_false h0]; rfl : _ = _)
        have e0 : (t.toList == []) = false := notEmpty (by omega)
        have e1 : t.toList.isEmpty = false := notEmpty' (by omega)
        clear h0
        go_wp2_with fail
        go_ret
        exact ⟨by rw [H5.out]; simp only [Bool.and_false]; rfl, BW.out⟩
end Go.Proofs.YtmbjflhhffcjdaaDoor


/- The specification's MembersOf, l17Without, l03Has. -/
namespace Go.Proofs.YtmbjflhhffcjdaaDoor
open Go.RowKit Pl
set_option linter.unusedVariables false
set_option linter.unusedSimpArgs false

theorem OwnS.svs {w : World} {B : Nat} {v : Value} {ss : List ByteArray} (h : OwnS w B v ss) : ∃ u : Sv, v = .slice u.a u.n u.c := by
  obtain ⟨ao, cap, rfl⟩ := OwnS.form h
  exact ⟨⟨ao, ss.length, cap⟩, rfl⟩
end Go.Proofs.YtmbjflhhffcjdaaDoor


/- The walks over the program's reader of several texts, over the closure that reads a word, over the reading of its packet and over ReadWord. Written by gen_rbw.py. -/
namespace Go.Proofs.YtmbjflhhffcjdaaDoor
open Go.RowKit Pl
set_option linter.unusedVariables false
set_option linter.unusedSimpArgs false

theorem Pl.varL_pos (n : Nat) : 0 < (varL n).length := by
  by_cases h : 127 < n
  · rw [varL_big h]; simp
  · rw [varL_small h]; simp
theorem Pl.rv_lt {s : ByteArray} {A n i : Nat} (hA : A ≤ s.size) (h : rv s A = some (n, i)) : A < i := by
  have hu : Upto s A (s.data.toList.take A) := ⟨s.data.toList.drop A, (List.take_append_drop _ _).symm, by rw [List.length_take, ← rt_size]; omega⟩
  obtain ⟨⟨q, h1, h2⟩, _⟩ := hu.rv h
  have := Pl.varL_pos n
  rw [List.length_append, List.length_take, ← rt_size] at h2
  omega
theorem Pl.shP_lt {s t : ByteArray} {A i : Nat} (hA : A ≤ s.size) (h : shP s A = some (t, i)) : A < i ∧ i ≤ s.size := by
  rcases h0 : Pl.rv s A with _ | ⟨n, k⟩
  · rw [shP_none h0] at h; cases h
  · have := Pl.rv_lt hA h0
    by_cases hb : n ≤ 20000 ∧ k + n ≤ s.size
    · rw [shP_some h0 hb.1 hb.2] at h
      simp only [Option.some.injEq, Prod.mk.injEq] at h
      omega
    · rw [shP_bad h0 (by omega)] at h; cases h
/-- several texts, their number ahead. -/
def shortsP (s : ByteArray) (A : Nat) : Option (List ByteArray × Nat) := (rv s A).bind fun x => txsP s x.2 x.1
theorem shortsP_none {s : ByteArray} {A : Nat} (h : rv s A = none) : shortsP s A = none := by unfold shortsP; rw [h]; rfl
theorem shortsP_some {s : ByteArray} {A k i : Nat} (h : rv s A = some (k, i)) : shortsP s A = txsP s i k := by unfold shortsP; rw [h]; rfl
/-- the state behind j texts. -/
def TSt (s : ByteArray) (A k j Aj : Nat) (xs : List ByteArray) : Prop := txsP s A k = (txsP s Aj (k - j)).map fun y => (xs ++ y.1, y.2)
theorem tst_start (s : ByteArray) (A k : Nat) : TSt s A k 0 A [] := by
  unfold TSt
  rcases h : txsP s A k with _ | y
  · simp
  · simp
theorem tst_next {s t : ByteArray} {A k j Aj i : Nat} {xs : List ByteArray} (h : TSt s A k j Aj xs) (hj : j < k) (hr : shP s Aj = some (t, i)) : TSt s A k (j + 1) i (xs ++ [t]) := by
  unfold TSt at h ⊢
  obtain ⟨m, hm⟩ : ∃ m, k - j = m + 1 := ⟨k - j - 1, by omega⟩
  have hm' : k - (j + 1) = m := by omega
  rw [h, hm, hm', txsP_some hr, Option.map_map]
  congr 1
  funext y
  simp
theorem tst_bad {s : ByteArray} {A k j Aj : Nat} {xs : List ByteArray} (h : TSt s A k j Aj xs) (hj : j < k) (hr : shP s Aj = none) : txsP s A k = none := by
  unfold TSt at h
  obtain ⟨m, hm⟩ : ∃ m, k - j = m + 1 := ⟨k - j - 1, by omega⟩
  rw [h, hm, txsP_no hr]; rfl
theorem tst_end {s : ByteArray} {A k Aj : Nat} {xs : List ByteArray} (h : TSt s A k k Aj xs) : txsP s A k = some (xs, Aj) := by
  unfold TSt at h
  rw [h, Nat.sub_self]
  simp [txsP]
theorem shP_small {s t : ByteArray} {A i : Nat} (hA : A ≤ s.size) (h : shP s A = some (t, i)) : t.size ≤ 20000 := by
  have hu : Upto s A (s.data.toList.take A) := ⟨s.data.toList.drop A, (List.take_append_drop _ _).symm, by rw [List.length_take, ← rt_size]; omega⟩
  exact (hu.sh h).2
theorem kbut_next {g : Nat} {a b c : World} (h : KeepBut g a b) (hb : Below a.heap.size b c) : KeepBut g a c :=
  ⟨hb.os.trans h.os, hb.tape.trans h.tape, hb.output.trans h.output, Nat.le_trans h.size hb.size, fun k hk hg => (hb.block k hk).trans (h.block k hk hg)⟩
theorem OwnS.keepg {w w' : World} {B g : Nat} {v : Value} {ts : List ByteArray} (h : OwnS w B v ts) (hk : KeepBut g w w') (hg : g < B) : OwnS w' B v ts :=
  OwnS.keep' h fun k e hl => hk.block k hl (by have := (OwnS.lt h k e).1; omega)
theorem PrAt.later {w w' : World} {g A : Nat} {s : ByteArray} (h : PrAt w g s A) (hb : Below w.heap.size w w') : PrAt w' g s A := h.stays hb h.lt

set_option maxRecDepth 100000 in
set_option maxHeartbeats 4000000 in
theorem shorts_any (s : ByteArray) (g A : Nat) (w : World) (hp : Hid (PrAt w g s A)) (hs : s.size ≤ 1048576) (hA : A ≤ s.size) :
    Calls Tryd.prog 45 #[.pointer (some ⟨g, 0, none⟩)] w fun e w' => (e = .panicked noPk ∧ shortsP s A = none ∧ KeepBut g w w') ∨
      ∃ (ts : List ByteArray) (i : Nat) (v : Value), e = .returned v ∧ shortsP s A = some (ts, i) ∧ ts.length ≤ 1048576 ∧ i ≤ s.size ∧ (∀ x ∈ ts, x.size ≤ 20000) ∧ OwnS w' w.heap.size v ts ∧ PrAt w' g s i ∧ KeepBut g w w' := by
  have hg := hp.out.lt
  have P0 : Hid (PrAt (w.alloc (.cells #[] 9)) g s A) := hp.out.stays ((Below.refl _ _).alloc (Nat.le_refl _) _) hg
  have V0 : Hid (OwnS (w.alloc (.cells #[] 9)) w.heap.size (.slice (some ⟨w.heap.size, 0, none⟩) 0 0) []) := OwnS.made w w.heap.size (Nat.le_refl _)
  have K0 : Hid (KeepBut g w (w.alloc (.cells #[] 9))) := keep_of_below ((Below.refl _ _).alloc (Nat.le_refl _) _)
  go_enter Tryd.func45, Tryd.ntmps45
  go_wp2_with fail
  generalize w.alloc (.cells #[] 9) = W0 at *
  rcases h0 : rv s A with _ | ⟨k, i⟩
  · refine (number_none s g A _ P0 hs hA h0).mono ?_
    rintro e w1 ⟨rfl, ht1⟩
    exact ⟨rfl, .inl ⟨rfl, shortsP_none h0, K0.out.trans ht1.keep⟩⟩
  have H0 : Hid (rv s A = some (k, i)) := h0
  obtain ⟨hk, hi⟩ := rv_le hA h0
  clear h0
  refine (number_some s g A k i _ P0 hs hA H0).mono ?_
  rintro e w1 ⟨rfl, hp1, ht1⟩
  have P1 : Hid (PrAt w1 g s i) := hp1
  have V1 : Hid (OwnS w1 w.heap.size (.slice (some ⟨w.heap.size, 0, none⟩) 0 0) []) := OwnS.keepg V0.out ht1.keep hg
  have K1 : Hid (KeepBut g w w1) := K0.out.trans ht1.keep
  clear hp1 ht1 P0 V0 K0
  go_wp2_with fail
  go_loopw [3, 7] (fun v ix wr => ∃ (j Aj : Nat) (xs : List ByteArray), j ≤ k ∧ ix = .int .i64 j ∧ xs.length ≤ j ∧ j ≤ xs.length ∧ j ≤ Aj ∧ Aj ≤ s.size ∧ Hid (∀ x ∈ xs, x.size ≤ 20000) ∧ Hid (TSt s i k j Aj xs) ∧ Hid (OwnS wr w.heap.size v xs) ∧ Hid (PrAt wr g s Aj) ∧ Hid (KeepBut g w wr)) (fun _ ix _ => k - (intOf ix).toNat)
  case atStart => exact ⟨0, i, [], Nat.zero_le _, rfl, Nat.zero_le _, Nat.zero_le _, Nat.zero_le _, hi, (fun x hx => absurd hx (by simp) : ∀ x ∈ ([] : List ByteArray), x.size ≤ 20000), tst_start s i k, V1.out, P1.out, K1.out⟩
  case round =>
    clear P1 V1 K1
    obtain ⟨j, Aj, xs, hj, rfl, hxl, hxl2, hjA, hAj, hxz, hst, hV, hP, hK⟩ := hrel
    by_cases hlt : j < k
    · go_wp2_with fail
      rcases h1 : shP s Aj with _ | ⟨t, i2⟩
      · refine (short_none s g Aj _ hP hs hAj h1).mono ?_
        rintro e w2 ⟨rfl, ht2⟩
        exact ⟨rfl, .inl ⟨rfl, by rw [shortsP_some H0.out]; exact tst_bad hst.out hlt h1, hK.out.trans ht2.keep⟩⟩
      have H1 : Hid (shP s Aj = some (t, i2)) := h1
      obtain ⟨hlt2, hi2⟩ := Pl.shP_lt hAj h1
      have htz := shP_small hAj h1
      clear h1
      refine (short_some s t g Aj i2 _ hP hs hAj H1).mono ?_
      rintro e w2 ⟨rfl, hp2, hk2⟩
      have P2 : Hid (PrAt w2 g s i2) := hp2
      have V2 : Hid (OwnS w2 w.heap.size u3 xs) := OwnS.keepg hV.out hk2 hg
      have K2 : Hid (KeepBut g w w2) := hK.out.trans hk2
      have hs2 := K2.out.size
      clear hp2 hk2 hP hV hK
      go_wp2_with (first | (at_builtin; refine wpList_pushS rfl _ _ 24 rfl Tryd.underlying24 Tryd.info9 w.heap.size _ xs rfl V2.out _ rfl (by omega) (by omega) ?_; intro v5 w5 O5 b5))
      have O5 : Hid (OwnS w5 w.heap.size v5 (xs ++ [t])) := O5
      have P5 : Hid (PrAt w5 g s i2) := P2.out.stays b5 hg
      have K5 : Hid (KeepBut g w w5) := kbut_next K2.out b5
      clear P2 V2 K2 b5
      go_roundw
      case rel => exact ⟨j + 1, i2, xs ++ [t], by omega, by go_num, by simp; omega, by simp; omega, by omega, hi2, (fun x hx => by rcases List.mem_append.1 hx with h | h; exact hxz.out x h; rw [List.mem_singleton.1 h]; exact htz : ∀ x ∈ xs ++ [t], x.size ≤ 20000), tst_next hst.out hlt H1.out, O5.out, P5.out, K5.out⟩
      case measure => simp [intOf]; omega
    · obtain rfl : j = k := by omega
      go_wp2_with fail
      go_ret
      exact .inr ⟨xs, Aj, _, rfl, by rw [shortsP_some H0.out]; exact tst_end hst.out, by omega, hAj, hxz.out, hV.out, hP.out, hK.out⟩

theorem wordP_n0 {s : ByteArray} (h : oneP s 0 = none) : wordP s = none := by simp [wordP, h]
theorem wordP_n1 {s : ByteArray} {k i0 : Nat} (h0 : oneP s 0 = some (k, i0)) (h : shP s i0 = none) : wordP s = none := by simp [wordP, h0, h]
theorem wordP_n2 {s who : ByteArray} {k i0 i1 : Nat} (h0 : oneP s 0 = some (k, i0)) (h1 : shP s i0 = some (who, i1)) (h : shortsP s i1 = none) : wordP s = none := by
  unfold shortsP at h
  rcases h3 : rv s i1 with _ | ⟨n, i2⟩
  · simp [wordP, h0, h1, h3]
  · rw [h3, Option.bind_some] at h
    simp [wordP, h0, h1, h3, h]
theorem wordP_n3 {s who : ByteArray} {k i0 i1 i3 : Nat} {gs : List ByteArray} (h0 : oneP s 0 = some (k, i0)) (h1 : shP s i0 = some (who, i1)) (h2 : shortsP s i1 = some (gs, i3)) (h : shP s i3 = none) : wordP s = none := by
  unfold shortsP at h2
  rcases h3 : rv s i1 with _ | ⟨n, i2⟩
  · rw [h3] at h2; cases h2
  · rw [h3, Option.bind_some] at h2
    simp [wordP, h0, h1, h3, h2, h]
theorem wordP_all {s who t : ByteArray} {k i0 i1 i3 A : Nat} {gs : List ByteArray} (h0 : oneP s 0 = some (k, i0)) (h1 : shP s i0 = some (who, i1)) (h2 : shortsP s i1 = some (gs, i3)) (h : shP s i3 = some (t, A)) : wordP s = some (k, who, gs, t, A) := by
  unfold shortsP at h2
  rcases h3 : rv s i1 with _ | ⟨n, i2⟩
  · rw [h3] at h2; cases h2
  · rw [h3, Option.bind_some] at h2
    exact wordP_some h0 h1 h3 h2 h

/-- what the closure answers. -/
def ClAnsW (s : ByteArray) (gm gr : Nat) (w : World) (e : Ending) (w' : World) : Prop :=
  (e = .panicked noPk ∧ wordP s = none ∧ Keep2 gm gr w w') ∨
  ∃ (k A : Nat) (who : ByteArray) (gs : List ByteArray) (t : ByteArray) (u : Sv), e = .returned (.tuple #[]) ∧ wordP s = some (k, who, gs, t, A) ∧ gs.length ≤ 1048576 ∧ (∀ x ∈ gs, x.size ≤ 20000) ∧ who.size ≤ 20000 ∧ Bx w' gm 26 [.int .i64 k, .string who, .slice u.a u.n u.c, .string t] ∧ OwnS w' w.heap.size u.v gs ∧ PrAt w' gr s A ∧ Keep2 gm gr w w'

set_option maxRecDepth 100000 in
set_option maxHeartbeats 4000000 in
theorem clWord_any (s : ByteArray) (gm gr : Nat) (w : World) (hm : Hid (Bx w gm 26 [.int .i64 0, .string ByteArray.empty, .slice none 0 0, .string ByteArray.empty])) (hp : Hid (PrAt w gr s 0)) (hne : gm < gr) (hs : s.size ≤ 1048576) :
    Calls Tryd.prog 42 #[.pointer (some ⟨gr, 0, none⟩), .pointer (some ⟨gm, 0, none⟩)] w fun e w' => ClAnsW s gm gr w e w' := by
  have hgr := hp.out.lt
  have KB : Hid (Keep2 gm gr w w) := (KeepBut.refl gm w).left
  have U : Hid (Upto s 0 []) := upto_start s
  have hi : (0 : Nat) ≤ s.size := Nat.zero_le _
  have MB : Hid (Bx w gm 26 [.int .i64 0, .string ByteArray.empty, .slice none 0 0, .string ByteArray.empty]) := hm
  have PB : Hid (PrAt w gr s 0) := hp
  clear hm hp
  go_enter Tryd.func42, Tryd.ntmps42
  go_wp2_with fail
  rcases h0 : oneP s 0 with _ | ⟨k, i0⟩
  · refine (oneB_no s gr 0 _ PB hs hi h0).mono ?_
    rintro e w1 ⟨rfl, ht⟩
    exact ⟨rfl, .inl ⟨rfl, wordP_n0 h0, KB.out.trans ht.keep.right⟩⟩
  have H0 : Hid (oneP s 0 = some (k, i0)) := h0
  obtain ⟨u0, _⟩ := U.out.one h0
  have hi := u0.le
  clear h0 u0 U
  refine (oneB_yes s gr 0 k i0 _ PB hs H0).mono ?_
  rintro e w1 ⟨rfl, hp1, ht⟩
  have KA : Hid (Keep2 gm gr w w1) := KB.out.trans ht.keep.right
  have MA : Hid (Bx w1 gm 26 [.int .i64 0, .string ByteArray.empty, .slice none 0 0, .string ByteArray.empty]) := MB.out.keepb ht.keep (by omega)
  have PA : Hid (PrAt w1 gr s i0) := hp1
  clear hp1 ht KB MB PB
  have c0 := MA.out.cell 0
  simp only [List.getElem?_cons_succ, List.getElem?_cons_zero] at c0
  have f0 := MA.out.frozen 0
  have T4 := (TurnAt.refl gm w1).setCell 0 (.int .i64 k)
  have MB : Hid (Bx (w1.setCell ⟨gm, 0, none⟩ (.int .i64 k)) gm 26 [.int .i64 k, .string ByteArray.empty, .slice none 0 0, .string ByteArray.empty]) := MA.out.set 0 (.int .i64 k)
  have PB : Hid (PrAt (w1.setCell ⟨gm, 0, none⟩ (.int .i64 k)) gr s i0) := PA.out.turn T4 (by omega)
  have KB : Hid (Keep2 gm gr w (w1.setCell ⟨gm, 0, none⟩ (.int .i64 k))) := KA.out.trans T4.keep.left
  clear T4
  go_wp2_with fail
  generalize (w1.setCell ⟨gm, 0, none⟩ (.int .i64 k)) = W0 at *
  clear MA PA KA c0 f0
  rcases h1 : shP s i0 with _ | ⟨who, i1⟩
  · refine (short_none s gr i0 _ PB hs hi h1).mono ?_
    rintro e w2 ⟨rfl, ht⟩
    exact ⟨rfl, .inl ⟨rfl, wordP_n1 H0.out h1, KB.out.trans ht.keep.right⟩⟩
  have H1 : Hid (shP s i0 = some (who, i1)) := h1
  have hwz : who.size ≤ 20000 := shP_small hi h1
  have hi1 : i1 ≤ s.size := (Pl.shP_lt hi h1).2
  clear h1
  refine (short_some s who gr i0 i1 _ PB hs hi H1).mono ?_
  rintro e w2 ⟨rfl, hp1, hk⟩
  have KA : Hid (Keep2 gm gr w w2) := KB.out.trans hk.right
  have MA : Hid (Bx w2 gm 26 [.int .i64 k, .string ByteArray.empty, .slice none 0 0, .string ByteArray.empty]) := MB.out.keepb hk (by omega)
  have PA : Hid (PrAt w2 gr s i1) := hp1
  clear hp1 hk KB MB PB
  have c0 := MA.out.cell 1
  simp only [List.getElem?_cons_succ, List.getElem?_cons_zero] at c0
  have f0 := MA.out.frozen 1
  have T4 := (TurnAt.refl gm w2).setCell 1 (.string who)
  have MB : Hid (Bx (w2.setCell ⟨gm, 1, none⟩ (.string who)) gm 26 [.int .i64 k, .string who, .slice none 0 0, .string ByteArray.empty]) := MA.out.set 1 (.string who)
  have PB : Hid (PrAt (w2.setCell ⟨gm, 1, none⟩ (.string who)) gr s i1) := PA.out.turn T4 (by omega)
  have KB : Hid (Keep2 gm gr w (w2.setCell ⟨gm, 1, none⟩ (.string who))) := KA.out.trans T4.keep.left
  clear T4
  go_wp2_with fail
  generalize (w2.setCell ⟨gm, 1, none⟩ (.string who)) = W1 at *
  clear MA PA KA c0 f0
  refine (shorts_any s gr i1 _ PB hs hi1).mono ?_
  rintro e w3 (⟨rfl, hn, hk⟩ | ⟨gs, i3, v, rfl, hn, hl, hi3, hgz, hv, hp4, hk⟩)
  · exact ⟨rfl, .inl ⟨rfl, wordP_n2 H0.out H1.out hn, KB.out.trans hk.right⟩⟩
  have HN : Hid (shortsP s i1 = some (gs, i3)) := hn
  have HGZ : Hid (∀ x ∈ gs, x.size ≤ 20000) := hgz
  have hsz := KB.out.size
  have KA : Hid (Keep2 gm gr w w3) := KB.out.trans hk.right
  have MA : Hid (Bx w3 gm 26 [.int .i64 k, .string who, .slice none 0 0, .string ByteArray.empty]) := MB.out.keepb hk (by omega)
  have VA : Hid (OwnS w3 w.heap.size v gs) := OwnS.down hv hsz
  have PA : Hid (PrAt w3 gr s i3) := hp4
  obtain ⟨u, rfl⟩ := OwnS.svs VA.out
  have hgmw : gm < w.heap.size := by omega
  clear hn hk hv hp4 KB MB PB hgz
  have c0 := MA.out.cell 2
  simp only [List.getElem?_cons_succ, List.getElem?_cons_zero] at c0
  have f0 := MA.out.frozen 2
  have T4 := (TurnAt.refl gm w3).setCell 2 (.slice u.a u.n u.c)
  have MB : Hid (Bx (w3.setCell ⟨gm, 2, none⟩ (.slice u.a u.n u.c)) gm 26 [.int .i64 k, .string who, .slice u.a u.n u.c, .string ByteArray.empty]) := MA.out.set 2 (.slice u.a u.n u.c)
  have PB : Hid (PrAt (w3.setCell ⟨gm, 2, none⟩ (.slice u.a u.n u.c)) gr s i3) := PA.out.turn T4 (by omega)
  have KB : Hid (Keep2 gm gr w (w3.setCell ⟨gm, 2, none⟩ (.slice u.a u.n u.c))) := KA.out.trans T4.keep.left
  have VB : Hid (OwnS (w3.setCell ⟨gm, 2, none⟩ (.slice u.a u.n u.c)) w.heap.size u.v gs) := OwnS.keepg VA.out T4.keep hgmw
  clear T4
  go_wp2_with fail
  generalize (w3.setCell ⟨gm, 2, none⟩ (.slice u.a u.n u.c)) = W2 at *
  clear MA PA KA c0 f0 VA
  rcases h3 : shP s i3 with _ | ⟨t, A⟩
  · refine (short_none s gr i3 _ PB hs hi3 h3).mono ?_
    rintro e w4 ⟨rfl, ht⟩
    exact ⟨rfl, .inl ⟨rfl, wordP_n3 H0.out H1.out HN.out h3, KB.out.trans ht.keep.right⟩⟩
  have H3 : Hid (shP s i3 = some (t, A)) := h3
  clear h3
  refine (short_some s t gr i3 A _ PB hs hi3 H3).mono ?_
  rintro e w4 ⟨rfl, hp1, hk⟩
  have KA : Hid (Keep2 gm gr w w4) := KB.out.trans hk.right
  have MA : Hid (Bx w4 gm 26 [.int .i64 k, .string who, .slice u.a u.n u.c, .string ByteArray.empty]) := MB.out.keepb hk (by omega)
  have PA : Hid (PrAt w4 gr s A) := hp1
  have VA : Hid (OwnS w4 w.heap.size u.v gs) := OwnS.keep' VB.out fun y hy hl => hk.block y hl (by have := (OwnS.lt VB.out y hy).1; have := PB.out.lt; omega)
  clear hp1 hk KB MB PB VB
  have c0 := MA.out.cell 3
  simp only [List.getElem?_cons_succ, List.getElem?_cons_zero] at c0
  have f0 := MA.out.frozen 3
  have T4 := (TurnAt.refl gm w4).setCell 3 (.string t)
  have MB : Hid (Bx (w4.setCell ⟨gm, 3, none⟩ (.string t)) gm 26 [.int .i64 k, .string who, .slice u.a u.n u.c, .string t]) := MA.out.set 3 (.string t)
  have PB : Hid (PrAt (w4.setCell ⟨gm, 3, none⟩ (.string t)) gr s A) := PA.out.turn T4 (by omega)
  have KB : Hid (Keep2 gm gr w (w4.setCell ⟨gm, 3, none⟩ (.string t))) := KA.out.trans T4.keep.left
  have VB : Hid (OwnS (w4.setCell ⟨gm, 3, none⟩ (.string t)) w.heap.size u.v gs) := OwnS.keepg VA.out T4.keep hgmw
  clear T4
  go_wp2_with fail
  go_end0
  exact .inr ⟨k, A, who, gs, t, u, rfl, wordP_all H0.out H1.out HN.out H3.out, hl, HGZ.out, hwz, MB.out, VB.out, PB.out, KB.out⟩

theorem kbut_out {w W w1 w2 : World} {gm : Nat} (h : Below w.heap.size w W) (hk : Keep2 gm (w.heap.size + 1) W w1) (ht : TurnAt w.heap.size w1 w2) : KeepBut gm w w2 :=
  ⟨ht.os.trans (hk.os.trans h.os), ht.tape.trans (hk.tape.trans h.tape), ht.output.trans (hk.output.trans h.output), by have := h.size; have := hk.size; have := ht.size; omega,
    fun k h1 h2 => (ht.block k (by omega)).trans ((hk.block k (Nat.lt_of_lt_of_le h1 h.size) h2 (by omega)).trans (h.block k h1))⟩
/-- what the reading of a word's packet answers. -/
def RpAnsW (s : ByteArray) (gm : Nat) (w : World) (e : Ending) (w' : World) : Prop :=
  (e = .returned (.bool false) ∧ wordP s = none ∧ KeepBut gm w w') ∨
  ∃ (k A : Nat) (who : ByteArray) (gs : List ByteArray) (t : ByteArray) (u : Sv), e = .returned (.bool ((A : Int) == (s.size : Int))) ∧ wordP s = some (k, who, gs, t, A) ∧ gs.length ≤ 1048576 ∧ (∀ x ∈ gs, x.size ≤ 20000) ∧ who.size ≤ 20000 ∧ Bx w' gm 26 [.int .i64 k, .string who, .slice u.a u.n u.c, .string t] ∧ OwnS w' w.heap.size u.v gs ∧ KeepBut gm w w'

set_option maxRecDepth 100000 in
set_option maxHeartbeats 4000000 in
theorem readPW_any (s : ByteArray) (gm : Nat) (w : World) (hm : Hid (Bx w gm 26 [.int .i64 0, .string ByteArray.empty, .slice none 0 0, .string ByteArray.empty])) (hs : s.size ≤ 1048576) :
    Calls Tryd.prog 41 #[.string s, .func (.func 42) #[] #[.pointer (some ⟨gm, 0, none⟩)]] w fun e w' => RpAnsW s gm w e w' := by
  have hmf : ∀ (fn : Fn) (first cap : Array Value) (w : World), (Instr.makeFunc fn first cap).run Tryd.prog w = .ok (.func fn first cap) w := fun _ _ _ _ => rfl
  have hlt := hm.out.lt
  have H1 : Hid (Bx ((w.alloc (.cells #[.bool false] 4)).alloc (.cells #[.string s, .int .i64 0] 105)) gm 26 [.int .i64 0, .string ByteArray.empty, .slice none 0 0, .string ByteArray.empty]) := (hm.out.stays ((Below.refl w.heap.size w).alloc (Nat.le_refl _) _) hlt).stays ((Below.refl (w.heap.size + 1) _).alloc (by simp) _) (by omega)
  have H2 : Hid (PrAt ((w.alloc (.cells #[.bool false] 4)).alloc (.cells #[.string s, .int .i64 0] 105)) (w.heap.size + 1) s 0) := by
    have := heap_alloc_new (w.alloc (.cells #[.bool false] 4)) (.cells #[.string s, .int .i64 0] 105)
    show PrAt _ _ _ _
    simpa [PrAt] using this
  have H3 : Hid (((w.alloc (.cells #[.bool false] 4)).alloc (.cells #[.string s, .int .i64 0] 105)).heap[w.heap.size]? = some (.cells #[.bool false] 4 (0, 0))) :=
    (((Below.refl (w.heap.size + 1) (w.alloc (.cells #[.bool false] 4))).alloc (by simp) _).block w.heap.size (by omega)).trans (heap_alloc_new w _)
  have H4 : Hid (Below w.heap.size w ((w.alloc (.cells #[.bool false] 4)).alloc (.cells #[.string s, .int .i64 0] 105))) := ((Below.refl _ _).alloc (Nat.le_refl _) _).alloc (by simp) _
  have H5 : Hid (((w.alloc (.cells #[.bool false] 4)).alloc (.cells #[.string s, .int .i64 0] 105)).heap.size = w.heap.size + 2) := by show _ = _; simp
  go_enter_defers Tryd.func41, Tryd.ntmps41
  go_wp2_with fail
  generalize (w.alloc (.cells #[.bool false] 4)).alloc (.cells #[.string s, .int .i64 0] 105) = W at *
  refine (clWord_any s gm (w.heap.size + 1) W H1 H2 (by omega) hs).mono ?_
  rintro e w1 (⟨rfl, hn, hk⟩ | ⟨k, A, who, gs, t, u, rfl, hq, hl, hgz, hwz, hi, hv, hp, hk⟩)
  · have hb : w1.heap[w.heap.size]? = some (.cells #[.bool false] 4 (0, 0)) := (hk.block w.heap.size (by have := H5.out; omega) (by omega) (by omega)).trans H3.out
    have hc : w1.cell? ⟨w.heap.size, 0, none⟩ = some (.bool false) := by rw [cell_of_row w1 w.heap.size 0 _ 4 (0, 0) hb]; rfl
    have hf := frozen_of_row w1 w.heap.size 0 _ 4 hb
    refine leaves_cons (f := 88) (args := #[.pointer (some ⟨w.heap.size, 0, none⟩)]) (by simp) (by simp [go_sem]) ?_
    refine (catch_panicking ⟨w.heap.size, 0, none⟩ false _ hc hf).mono ?_
    rintro e u' w'' ⟨rfl, rfl, rfl⟩
    have hsame : (w1.setCell ⟨w.heap.size, 0, none⟩ (.bool false)).cell? ⟨w.heap.size, 0, none⟩ = some (.bool false) := by
      rw [cell_of_row _ w.heap.size 0 _ 4 (0, 0) (heap_setCell_same w1 w.heap.size 0 _ 4 (.bool false) hb)]; rfl
    simp [Leaves, settle, results, Tryd.results41, go_sem, hsame]
    exact .inl ⟨rfl, hn, kbut_out H4.out hk ((TurnAt.refl _ _).setCell 0 _)⟩
  · have hb : w1.heap[w.heap.size]? = some (.cells #[.bool false] 4 (0, 0)) := (hk.block w.heap.size (by have := H5.out; omega) (by omega) (by omega)).trans H3.out
    have hc : w1.cell? ⟨w.heap.size, 0, none⟩ = some (.bool false) := by rw [cell_of_row w1 w.heap.size 0 _ 4 (0, 0) hb]; rfl
    have hf := frozen_of_row w1 w.heap.size 0 _ 4 hb
    obtain ⟨c0, c1, _, _⟩ := hp.cells
    have HB : Hid (w1.heap[w.heap.size]? = some (.cells #[.bool false] 4 (0, 0))) := hb
    have HI : Hid (Bx w1 gm 26 [.int .i64 k, .string who, .slice u.a u.n u.c, .string t]) := hi
    have HV : Hid (OwnS w1 (w.heap.size + 2) u.v gs) := by
      show OwnS _ _ _ _
      rw [← H5.out]
      exact hv
    have HK : Hid (Keep2 gm (w.heap.size + 1) W w1) := hk
    have HQ : Hid (wordP s = some (k, who, gs, t, A)) := hq
    clear hb hi hv hp hk hq H1 H2 H3 H5
    go_wp2_with fail
    have hsame : (w1.setCell ⟨w.heap.size, 0, none⟩ (.bool ((A : Int) == (s.size : Int)))).cell? ⟨w.heap.size, 0, none⟩ = some (.bool ((A : Int) == (s.size : Int))) := by
      rw [cell_of_row _ w.heap.size 0 _ 4 (0, 0) (heap_setCell_same w1 w.heap.size 0 _ 4 _ HB.out)]; rfl
    refine leaves_cons (f := 88) (args := #[.pointer (some ⟨w.heap.size, 0, none⟩)]) (by simp) (by simp [go_sem]) ?_
    refine (catch_idle ⟨w.heap.size, 0, none⟩ _).mono ?_
    rintro e u' w'' ⟨rfl, rfl, rfl⟩
    simp [Leaves, settle, results, Tryd.results41, go_sem, hsame]
    exact .inr ⟨k, A, who, gs, t, u, rfl, HQ.out, hl, hgz, hwz, HI.out.keepb ((TurnAt.refl w.heap.size w1).setCell 0 _).keep (by omega), OwnS.down (OwnS.keepg HV.out ((TurnAt.refl w.heap.size w1).setCell 0 _).keep (by omega)) (by omega), kbut_out H4.out HK.out ((TurnAt.refl _ _).setCell 0 _)⟩

end Go.Proofs.YtmbjflhhffcjdaaDoor


/- The program's ReadWord. Written by gen_rbx.py. -/
namespace Go.Proofs.YtmbjflhhffcjdaaDoor
open Go.RowKit Pl
set_option linter.unusedVariables false
set_option linter.unusedSimpArgs false

theorem OwnS.zero (w : World) (B : Nat) : OwnS w B (.slice none 0 0) [] := ⟨by simp, .inl ⟨rfl, rfl⟩⟩
set_option maxRecDepth 100000 in
set_option maxHeartbeats 8000000 in
theorem readWord_any (s : ByteArray) (w : World) (hs : s.size ≤ 1048576) :
    Calls Tryd.prog 12 #[.string s] w fun e w' => ∃ (k : Nat) (who : ByteArray) (gs : List ByteArray) (t : ByteArray) (ok : Bool) (u : Sv), e = .returned (.tuple #[.agg #[.int .i64 k, .string who, .slice u.a u.n u.c, .string t], .bool ok]) ∧ AnsW s k who gs t ok ∧ OwnS w' w.heap.size u.v gs ∧ Below w.heap.size w w' := by
  have hmf : ∀ (fn : Fn) (first cap : Array Value) (w : World), (Instr.makeFunc fn first cap).run Tryd.prog w = .ok (.func fn first cap) w := fun _ _ _ _ => rfl
  have hn1 : (w.alloc (.cells #[.int .i64 0, .string ⟨#[]⟩, .slice none 0 0, .string ⟨#[]⟩] 26)).heap.size = w.heap.size + 1 := by simp
  have R2 : Hid (Bx ((w.alloc (.cells #[.int .i64 0, .string ⟨#[]⟩, .slice none 0 0, .string ⟨#[]⟩] 26)).alloc (.cells #[.int .i64 0, .string ⟨#[]⟩, .slice none 0 0, .string ⟨#[]⟩] 26)) w.heap.size 26 [.int .i64 0, .string ⟨#[]⟩, .slice none 0 0, .string ⟨#[]⟩]) := by
    have h := Bx.new w 26 [.int .i64 0, .string ⟨#[]⟩, .slice none 0 0, .string ⟨#[]⟩]
    exact h.later ((Below.refl _ _).alloc (Nat.le_refl _) _)
  have M2 : Hid (Bx ((w.alloc (.cells #[.int .i64 0, .string ⟨#[]⟩, .slice none 0 0, .string ⟨#[]⟩] 26)).alloc (.cells #[.int .i64 0, .string ⟨#[]⟩, .slice none 0 0, .string ⟨#[]⟩] 26)) (w.heap.size + 1) 26 [.int .i64 0, .string ⟨#[]⟩, .slice none 0 0, .string ⟨#[]⟩]) := by
    have h := Bx.new (w.alloc (.cells #[.int .i64 0, .string ⟨#[]⟩, .slice none 0 0, .string ⟨#[]⟩] 26)) 26 [.int .i64 0, .string ⟨#[]⟩, .slice none 0 0, .string ⟨#[]⟩]
    rw [hn1] at h
    exact h
  have B2 : Hid (Below w.heap.size w ((w.alloc (.cells #[.int .i64 0, .string ⟨#[]⟩, .slice none 0 0, .string ⟨#[]⟩] 26)).alloc (.cells #[.int .i64 0, .string ⟨#[]⟩, .slice none 0 0, .string ⟨#[]⟩] 26))) := (((Below.refl _ _).alloc (by simp) _).alloc (by simp; try omega) _)
  have hN1 : w.heap.size < w.heap.size + 1 := by omega
  go_enter Tryd.func12, Tryd.ntmps12
  go_wp2_with fail
  generalize ((w.alloc (.cells #[.int .i64 0, .string ⟨#[]⟩, .slice none 0 0, .string ⟨#[]⟩] 26)).alloc (.cells #[.int .i64 0, .string ⟨#[]⟩, .slice none 0 0, .string ⟨#[]⟩] 26)) = W1 at *
  generalize hgm : w.heap.size + 1 = gm at *
  refine (readPW_any s gm W1 (show Hid (Bx W1 gm 26 [.int .i64 0, .string ByteArray.empty, .slice none 0 0, .string ByteArray.empty]) from M2) (by omega)).mono ?_
  rintro e w2 (⟨rfl, hn, hk⟩ | ⟨k, A, who, gs, t, u, rfl, hq, hl, hgz, hwz, hi, hv, hk⟩)
  · have R3 : Hid (Bx w2 w.heap.size 26 [.int .i64 0, .string ⟨#[]⟩, .slice none 0 0, .string ⟨#[]⟩]) := R2.out.keepb hk (by omega)
    have B3 : Hid (Below w.heap.size w w2) := B2.out.trans (hk.below (by omega) B2.out.size)
    have HN : Hid (wordP s = none) := hn
    clear hn hk R2 B2 M2
    go_wp2_with (first | (with_reducible refine wpList_haltS 26 _ _ rfl ?_))
    refine Stp.go ?_
    refine wpList_stB rfl 26 _ _ rfl w.heap.size 0 rfl 26 _ R3.out [.int .i64 0, .string ⟨#[]⟩, .slice none 0 0, .string ⟨#[]⟩] rfl (by simp) Tryd.sizeWd rfl [.int .i64 0, .string ⟨#[]⟩, .slice none 0 0, .string ⟨#[]⟩] rfl ?_
    intro W9 R9 T9
    have B9 : Hid (Below w.heap.size w W9) := B3.out.trans (T9.below (Nat.le_refl _))
    clear T9
    go_wp2_with fail
    refine bodyPost_ret (results_bt Tryd.results12 w.heap.size 26 [.int .i64 0, .string ⟨#[]⟩, .slice none 0 0, .string ⟨#[]⟩] _ rfl R9 Tryd.underlying26 rfl Tryd.sizeWd) rfl ?_
    exact ⟨0, ByteArray.empty, [], ByteArray.empty, false, ⟨none, 0, 0⟩, rfl, ansW_none HN.out, OwnS.zero _ _, B9.out⟩
  · have R3 : Hid (Bx w2 w.heap.size 26 [.int .i64 0, .string ⟨#[]⟩, .slice none 0 0, .string ⟨#[]⟩]) := R2.out.keepb hk (by omega)
    have B3 : Hid (Below w.heap.size w w2) := B2.out.trans (hk.below (by omega) B2.out.size)
    have HQ : Hid (wordP s = some (k, who, gs, t, A)) := hq
    have M3 : Hid (Bx w2 gm 26 [.int .i64 k, .string who, .slice u.a u.n u.c, .string t]) := hi
    have zW1 : w.heap.size < W1.heap.size := R2.out.lt
    have V3 : Hid (OwnS w2 W1.heap.size u.v gs) := hv
    have HGZ : Hid (∀ x ∈ gs, x.size ≤ 1048576) := fun x hx => by have := hgz x hx; omega
    clear hq hk hi hv R2 B2 M2 hgz
    by_cases hA : A = s.size
    · have hb : ((A : Int) == (s.size : Int)) = true := by rw [hA]; simp
      rw [hb]
      have HA : Hid (A = s.size) := hA
      clear hb hA
      go_wp2_with (first | (refine wpList_ldG rfl 26 _ rfl gm 0 rfl 26 _ M3.out [.int .i64 k, .string who, .slice u.a u.n u.c, .string t] rfl _ Tryd.underlying26 rfl Tryd.sizeWd ?_))
      refine (wordOk_any k who gs t u w2 (show Hid (RT w2 u.v gs) from OwnS.texts V3.out) hl HGZ (by omega)).mono ?_
      rintro e w3 ⟨rfl, hb3⟩
      have R4 : Hid (Bx w3 w.heap.size 26 [.int .i64 0, .string ⟨#[]⟩, .slice none 0 0, .string ⟨#[]⟩]) := R3.out.later hb3
      have M4 : Hid (Bx w3 gm 26 [.int .i64 k, .string who, .slice u.a u.n u.c, .string t]) := M3.out.later hb3
      have B4 : Hid (Below w.heap.size w w3) := bl_next B3.out hb3
      have V4 : Hid (OwnS w3 W1.heap.size u.v gs) := OwnS.keep' V3.out (fun y _ hy => Below.block hb3 y hy)
      clear hb3 R3 M3 B3 V3
      cases ho : wdB k who gs t with
      | true =>
        have HO : Hid (WdOk k who gs t) := ho
        clear ho
        go_wp2_with (first | (refine wpList_ldG rfl 26 _ rfl gm 0 rfl 26 _ M4.out [.int .i64 k, .string who, .slice u.a u.n u.c, .string t] rfl _ Tryd.underlying26 rfl Tryd.sizeWd ?_) | (with_reducible refine wpList_haltS 26 _ _ rfl ?_))
        refine Stp.go ?_
        refine wpList_stB rfl 26 _ _ rfl w.heap.size 0 rfl 26 _ R4.out [.int .i64 k, .string who, .slice u.a u.n u.c, .string t] rfl (by simp) Tryd.sizeWd rfl [.int .i64 k, .string who, .slice u.a u.n u.c, .string t] rfl ?_
        intro W9 R9 T9
        have B9 : Hid (Below w.heap.size w W9) := B4.out.trans (T9.below (Nat.le_refl _))
        have O9 : Hid (OwnS W9 w.heap.size u.v gs) := OwnS.down (OwnS.keep' V4.out fun y hy hl => T9.block y (by have := (OwnS.lt V4.out y hy).1; omega)) (Nat.le_of_lt zW1)
        clear T9
        go_wp2_with fail
        refine bodyPost_ret (results_bt Tryd.results12 w.heap.size 26 [.int .i64 k, .string who, .slice u.a u.n u.c, .string t] _ rfl R9 Tryd.underlying26 rfl Tryd.sizeWd) rfl ?_
        exact ⟨k, who, gs, t, true, u, rfl, ansW_good (by rw [← HA.out]; exact HQ.out) HO.out, O9.out, B9.out⟩
      | false =>
        have HO : Hid (¬ WdOk k who gs t) := by
          show ¬ _
          unfold WdOk
          rw [ho]
          exact Bool.false_ne_true
        clear ho
        go_wp2_with (first | (with_reducible refine wpList_haltS 26 _ _ rfl ?_))
        refine Stp.go ?_
        refine wpList_stB rfl 26 _ _ rfl w.heap.size 0 rfl 26 _ R4.out [.int .i64 0, .string ⟨#[]⟩, .slice none 0 0, .string ⟨#[]⟩] rfl (by simp) Tryd.sizeWd rfl [.int .i64 0, .string ⟨#[]⟩, .slice none 0 0, .string ⟨#[]⟩] rfl ?_
        intro W9 R9 T9
        have B9 : Hid (Below w.heap.size w W9) := B4.out.trans (T9.below (Nat.le_refl _))
        clear T9
        go_wp2_with fail
        refine bodyPost_ret (results_bt Tryd.results12 w.heap.size 26 [.int .i64 0, .string ⟨#[]⟩, .slice none 0 0, .string ⟨#[]⟩] _ rfl R9 Tryd.underlying26 rfl Tryd.sizeWd) rfl ?_
        exact ⟨0, ByteArray.empty, [], ByteArray.empty, false, ⟨none, 0, 0⟩, rfl, ansW_bad HQ.out (.inr HO.out), OwnS.zero _ _, B9.out⟩
    · have hb : ((A : Int) == (s.size : Int)) = false := by simp; omega
      rw [hb]
      have HA : Hid (A ≠ s.size) := hA
      clear hA hb M3 V3
      go_wp2_with (first | (with_reducible refine wpList_haltS 26 _ _ rfl ?_))
      refine Stp.go ?_
      refine wpList_stB rfl 26 _ _ rfl w.heap.size 0 rfl 26 _ R3.out [.int .i64 0, .string ⟨#[]⟩, .slice none 0 0, .string ⟨#[]⟩] rfl (by simp) Tryd.sizeWd rfl [.int .i64 0, .string ⟨#[]⟩, .slice none 0 0, .string ⟨#[]⟩] rfl ?_
      intro W9 R9 T9
      have B9 : Hid (Below w.heap.size w W9) := B3.out.trans (T9.below (Nat.le_refl _))
      clear T9
      go_wp2_with fail
      refine bodyPost_ret (results_bt Tryd.results12 w.heap.size 26 [.int .i64 0, .string ⟨#[]⟩, .slice none 0 0, .string ⟨#[]⟩] _ rfl R9 Tryd.underlying26 rfl Tryd.sizeWd) rfl ?_
      exact ⟨0, ByteArray.empty, [], ByteArray.empty, false, ⟨none, 0, 0⟩, rfl, ansW_bad HQ.out (.inl HA.out), OwnS.zero _ _, B9.out⟩
end Go.Proofs.YtmbjflhhffcjdaaDoor


/- The draws of words: who, groups, a word, any word. Written by gen_wdr.py. -/
namespace Go.Proofs.YtmbjflhhffcjdaaDoor
open Go.RowKit Pl
set_option linter.unusedVariables false
set_option linter.unusedSimpArgs false

theorem privS_size (d : Nat) (s : ByteArray) : (privS d s).size = s.size + 3 := by
  rw [rt_size, priv_list]
  simp only [List.length_cons]
  rw [← rt_size]
/-- a turn of another block than the cursor's. -/
theorem Drw.turn {w0 w w' : World} {B g k n cap : Nat} {ao : Option Addr} (h : Drw w0 w B g ao n cap) (ht : TurnAt k w w') (hk : k ≠ g) (hBk : B ≤ k) (hnew : w0.heap.size ≤ k) : Hid (Drw w0 w' B g ao n cap) := by
  obtain ⟨⟨i, q, h1, h2⟩, h3, h4⟩ := h
  refine ⟨⟨i, q, h1, (ht.block g (fun e => hk e.symm)).trans h2⟩, h3.stays (ht.below hBk) (Nat.le_refl _), ?_⟩
  exact ⟨ht.os.trans h4.os, ht.tape.trans h4.tape, ht.output.trans h4.output, by rw [ht.size]; exact h4.size, fun j hj hg => (ht.block j (by omega)).trans (h4.block j hj hg)⟩
theorem drw_below {w0 w w' : World} {B g n cap : Nat} {ao : Option Addr} (h : Drw w0 w B g ao n cap) (b : Below w0.heap.size w w') (hg : g < w0.heap.size) (hB : B ≤ w0.heap.size) : Hid (Drw w0 w' B g ao n cap) := by
  obtain ⟨⟨i, q, h1, h2⟩, h3, h4⟩ := h
  exact ⟨⟨i, q, h1, (b.block g hg).trans h2⟩, h3.stays b hB, ⟨b.os.trans h4.os, b.tape.trans h4.tape, b.output.trans h4.output, Nat.le_trans h4.size b.size, fun j hj hjg => (b.block j hj).trans (h4.block j hj hjg)⟩⟩
theorem row4 (W : World) (a b c d : ByteArray) (h1 : a.size ≤ 13) (h2 : b.size ≤ 13) (h3 : c.size ≤ 13) (h4 : d.size ≤ 13) : Hid (RowS (W.alloc (.cells #[.string a, .string b, .string c, .string d] 9)) W.heap.size 4) :=
  rowS_new W [a, b, c, d] 4 rfl (by simp [h1, h2, h3, h4])
theorem row3 (W : World) (a b c : ByteArray) (h1 : a.size ≤ 13) (h2 : b.size ≤ 13) (h3 : c.size ≤ 13) : Hid (RowS (W.alloc (.cells #[.string a, .string b, .string c] 9)) W.heap.size 3) :=
  rowS_new W [a, b, c] 3 rfl (by simp [h1, h2, h3])
theorem privB_size (d : Int) (s : ByteArray) (h : s.size ≤ 13) : (privB d s).size ≤ 40 := by
  unfold privB
  split
  · rw [privS_size]; omega
  · exact Nat.zero_le _

set_option maxRecDepth 100000 in
set_option maxHeartbeats 1000000 in
theorem who_any (w0 w : World) (B g n cap : Nat) (ao : Option Addr) (hn : n ≤ 1048576) (hB : B ≤ g) (hd : Hid (Drw w0 w B g ao n cap)) :
    Calls Tryd.prog 107 #[.pointer (some ⟨g, 0, none⟩)] w fun e w' => (∃ t : ByteArray, t.size ≤ 40 ∧ e = .returned (.string t)) ∧ Hid (Drw w0 w' B g ao n cap) := by
  go_enter Tryd.func107, Tryd.ntmps107
  go_wp2_with fail
  refine (below_small w0 _ B g n cap 3 ao hn hB (by omega) (by omega) hd).mono ?_
  rintro e w1 ⟨⟨x, hx, rfl⟩, hd1⟩
  clear hd
  go_wp2_with fail
  refine (nameZ_any w0 _ B g n cap ao hn hB hd1).mono ?_
  rintro e w2 ⟨⟨nm, hnm, rfl⟩, hd2⟩
  clear hd1
  go_wp2_with fail
  refine (specPriv _ nm _).mono ?_
  rintro e w3 ⟨rfl, b⟩
  have hd3 : Hid (Drw w0 w3 B g ao n cap) := hd2.out.step hB b
  clear hd2 b
  go_wp2_with fail
  go_ret
  exact ⟨⟨_, privB_size _ _ hnm, rfl⟩, hd3⟩

set_option maxRecDepth 100000 in
set_option maxHeartbeats 4000000 in
theorem groups_any (w0 w : World) (B g n cap : Nat) (ao : Option Addr) (hn : n ≤ 1048576) (hB : B ≤ g) (m : Nat) (hm0 : 0 < m) (hm : m ≤ 256) (hd : Hid (Drw w0 w B g ao n cap)) :
    Calls Tryd.prog 108 #[.pointer (some ⟨g, 0, none⟩), .int .i64 m] w fun e w' => ∃ (u : Sv) (us : List ByteArray), e = .returned (.slice u.a u.n u.c) ∧ us.length ≤ m ∧ (∀ x ∈ us, x.size ≤ 13) ∧ OwnS w' w.heap.size u.v us ∧ Hid (Drw w w' B g ao n cap) := by
  have hgl := hd.out.lt
  have D0 : Hid (Drw w (w.alloc (.cells #[] 9)) B g ao n cap) := hd.out.here.out.alloc hB _
  have O0 : Hid (OwnS (w.alloc (.cells #[] 9)) w.heap.size (.slice (some ⟨w.heap.size, 0, none⟩) 0 0) []) := OwnS.made w w.heap.size (Nat.le_refl _)
  have hr : ∀ (W : World), Hid (RowS (W.alloc (.cells #[.string ⟨#[103]⟩, .string ⟨#[104]⟩, .string ⟨#[107]⟩, .string ⟨#[109]⟩] 9)) W.heap.size 4) := fun W => row4 W _ _ _ _ (by decide) (by decide) (by decide) (by decide)
  go_enter Tryd.func108, Tryd.ntmps108
  go_wp2_with fail
  generalize (w.alloc (.cells #[] 9)) = W0 at *
  go_loopw [5, 6] (fun v i wr => ∃ (k : Nat) (xs : List ByteArray), k ≤ m ∧ i = .int .i64 k ∧ xs.length ≤ k ∧ k ≤ xs.length ∧ Hid (∀ x ∈ xs, x.size ≤ 13) ∧ Hid (OwnS wr w.heap.size v xs) ∧ Hid (Drw w wr B g ao n cap)) (fun _ i _ => m - (intOf i).toNat)
  case atStart => exact ⟨0, [], Nat.zero_le _, rfl, Nat.zero_le _, Nat.zero_le _, (fun x hx => absurd hx (by simp) : ∀ x ∈ ([] : List ByteArray), x.size ≤ 13), O0, D0⟩
  case round =>
    clear O0 D0 hd
    obtain ⟨k, xs, hk, rfl, hxl, hxl2, hxz, hO, hD⟩ := hrel
    go_wp2_with fail
    refine (below_small _ _ B g n cap m ao hn hB hm0 hm hD.out.here).mono ?_
    rintro e w1 ⟨⟨x, hx, rfl⟩, hd1⟩
    have z1 : wr.heap.size ≤ w1.heap.size := hd1.out.2.2.size
    have zr : w.heap.size ≤ wr.heap.size := hD.out.2.2.size
    have hO : Hid (OwnS w1 w.heap.size u5 xs) := OwnS.keepg hO.out hd1.out.2.2 hgl
    have hD : Hid (Drw w w1 B g ao n cap) := hD.out.back hd1.out
    clear hd1
    by_cases hlt : k < 1 + x
    · have hl2 : (k : Int) < 1 + (x : Int) := by omega
      have hal : Below w1.heap.size w1 (w1.alloc (.cells #[.string ⟨#[103]⟩, .string ⟨#[104]⟩, .string ⟨#[107]⟩, .string ⟨#[109]⟩] 9)) := (Below.refl _ _).alloc (Nat.le_refl _) _
      have hO2 : Hid (OwnS (w1.alloc (.cells #[.string ⟨#[103]⟩, .string ⟨#[104]⟩, .string ⟨#[107]⟩, .string ⟨#[109]⟩] 9)) w.heap.size u5 xs) := OwnS.keep' hO.out (fun y _ hy => Below.block hal y hy)
      have hD2 : Hid (Drw w (w1.alloc (.cells #[.string ⟨#[103]⟩, .string ⟨#[104]⟩, .string ⟨#[107]⟩, .string ⟨#[109]⟩] 9)) B g ao n cap) := hD.out.alloc hB _
      have hR := hr w1
      have hgl1 : g < w1.heap.size := by omega
      have hsz : (w1.alloc (.cells #[.string ⟨#[103]⟩, .string ⟨#[104]⟩, .string ⟨#[107]⟩, .string ⟨#[109]⟩] 9)).heap.size = w1.heap.size + 1 := by simp
      clear hal hO hD
      go_wp2_with fail
      refine (pick_any _ _ B g n cap w1.heap.size 4 ao hn hB (by omega) (by omega) (by omega) (by omega) hR hD2.out.here).mono ?_
      rintro e w2 ⟨⟨tt, htt, rfl⟩, hd2⟩
      have z2 : w1.heap.size + 1 ≤ w2.heap.size := by have := hd2.out.2.2.size; omega
      have hO : Hid (OwnS w2 w.heap.size u5 xs) := OwnS.keepg hO2.out hd2.out.2.2 hgl
      have hD : Hid (Drw w w2 B g ao n cap) := hD2.out.back hd2.out
      clear hd2 hO2 hD2 hR hsz
      go_wp2_with (first | (at_builtin; refine wpList_pushS rfl _ _ 24 rfl Tryd.underlying24 Tryd.info9 w.heap.size _ xs rfl hO.out _ rfl (by omega) (by omega) ?_; intro v5 w5 O5 b5))
      have O5 : Hid (OwnS w5 w.heap.size v5 (xs ++ [tt])) := O5
      have hD : Hid (Drw w w5 B g ao n cap) := drw_below hD.out b5 hgl (Nat.le_trans hB (Nat.le_of_lt hgl))
      clear hO b5
      go_roundw
      case rel => exact ⟨k + 1, xs ++ [tt], by omega, by go_num, by simp; omega, by simp; omega, (fun y hy => by rcases List.mem_append.1 hy with h | h; exact hxz.out y h; rw [List.mem_singleton.1 h]; exact htt : ∀ y ∈ xs ++ [tt], y.size ≤ 13), O5.out, hD⟩
      case measure => simp [intOf]; omega
    · have hl2 : ¬ (k : Int) < 1 + (x : Int) := by omega
      obtain ⟨u, hu⟩ := OwnS.svs hO.out
      subst hu
      obtain ⟨a2, c2, hv, htx⟩ := OwnS.texts hO.out
      have hv : Value.slice u.a u.n u.c = Value.slice a2 xs.length c2 := hv
      rw [hv]
      clear hv
      have HTX : Hid (TextsAt w1 a2 xs) := htx
      have hD2 : Hid (Drw w w1 B g ao n cap) := hD
      clear htx
      go_wp2_with fail
      refine (specSort w1 a2 c2 xs HTX.out (by omega)).mono ?_
      rintro e w2 ⟨v, us, rfl, hset, hul, hown, b⟩
      have HOW : Hid (OwnS w2 w1.heap.size v us) := hown
      have HSZ : Hid (∀ y ∈ us, y.size ≤ 13) := fun y hy => hxz.out y ((hset.2 y).1 hy)
      have hD : Hid (Drw w w2 B g ao n cap) := hD.out.step hB b
      clear hset hown b
      obtain ⟨u2, hu2⟩ := OwnS.svs HOW.out
      subst hu2
      go_wp2_with fail
      go_ret
      exact ⟨u2, us, rfl, by omega, HSZ.out, OwnS.down HOW.out (by omega), hD⟩
end Go.Proofs.YtmbjflhhffcjdaaDoor


/- The specification's WordText. Written by gen_wtx.py. -/
namespace Go.Proofs.YtmbjflhhffcjdaaDoor
open Go.RowKit Pl
set_option linter.unusedVariables false
set_option linter.unusedSimpArgs false

theorem lsh_any (s : ByteArray) (w : World) (hs : s.size ≤ 20000) :
    Calls Tryd.prog 61 #[.string s] w fun e w' => e = .returned (.string (shT s)) ∧ Below w.heap.size w w' := l05Short_any s w hs
set_option maxRecDepth 100000 in
set_option maxHeartbeats 2000000 in
theorem spWordText_no (k : Int) (who : ByteArray) (gs : List ByteArray) (t : ByteArray) (s : Sv) (w : World) (hx : Hid (RT w s.v gs)) (hl : gs.length ≤ 1048576) (hk : Hid (wdB k who gs t = false)) :
    Calls Tryd.prog 21 #[.agg #[.int .i64 k, .string who, .slice s.a s.n s.c, .string t]] w fun e w' => e = .returned (.tuple #[.string ByteArray.empty, .bool false]) ∧ Below w.heap.size w w' := by
  have LA : Hid (Bx (w.alloc (.cells #[.int .i64 k, .string who, .slice s.a s.n s.c, .string t] 26)) w.heap.size 26 [.int .i64 k, .string who, .slice s.a s.n s.c, .string t]) := by
    have h := Bx.new w 26 [.int .i64 k, .string who, .slice s.a s.n s.c, .string t]
    exact h
  have BW : Hid (Below w.heap.size w (w.alloc (.cells #[.int .i64 k, .string who, .slice s.a s.n s.c, .string t] 26))) := ((Below.refl _ _).alloc (by simp) _)
  have HX : Hid (RT (w.alloc (.cells #[.int .i64 k, .string who, .slice s.a s.n s.c, .string t] 26)) s.v gs) := hx.out.stays BW.out
  clear hx
  go_enter Tryd.func21, Tryd.ntmps21
  go_wp2_with (first | (refine wpList_ldG rfl 26 _ rfl w.heap.size 0 rfl 26 _ LA.out [.int .i64 k, .string who, .slice s.a s.n s.c, .string t] rfl _ Tryd.underlying26 rfl Tryd.sizeWd ?_))
  refine (spWordOk_any k who gs t s _ HX hl).mono ?_
  rintro e w1 ⟨rfl, b⟩
  rw [hk.out]
  have BW : Hid (Below w.heap.size w w1) := bl_next BW.out b
  clear b LA
  go_wp2_with fail
  go_ret2
  exact ⟨rfl, BW.out⟩
set_option maxRecDepth 100000 in
set_option maxHeartbeats 8000000 in
theorem spWordText_yes (k : Nat) (who : ByteArray) (gs : List ByteArray) (t : ByteArray) (s : Sv) (w : World) (hx : Hid (RT w s.v gs)) (ho : Hid (WdOk k who gs t)) :
    Calls Tryd.prog 21 #[.agg #[.int .i64 (k : Int), .string who, .slice s.a s.n s.c, .string t]] w fun e w' => e = .returned (.tuple #[.string (wordS k who gs t), .bool true]) ∧ Below w.heap.size w w' := by
  obtain ⟨n1, n2, n3, n4, n5, n6⟩ := ho.out.nats
  have HZ : Hid (∀ x ∈ gs, x.size ≤ 12) := n5
  have HK : Hid (wdB k who gs t = true) := ho.out
  obtain ⟨K, hK⟩ : ∃ K, byteS k = K := ⟨_, rfl⟩
  obtain ⟨U, hU⟩ : ∃ U, shT who = U := ⟨_, rfl⟩
  obtain ⟨N, hN⟩ : ∃ N, varS gs.length = N := ⟨_, rfl⟩
  obtain ⟨X, hX⟩ : ∃ X, shT t = X := ⟨_, rfl⟩
  have zK : K.size = 1 := by rw [← hK, rt_size, byteS_list]; rfl
  have zU : U.size ≤ 20 := by have := shT_size (t := who) (by omega); rw [hU] at this; omega
  have zX : X.size ≤ 25 := by have := shT_size (t := t) (by omega); rw [hX] at this; omega
  have zN : N.size ≤ 5 := by rw [← hN, rt_size, varS_list]; exact varL_len (by omega)
  have EE : Hid (tsS (K ++ U ++ N) gs ++ X = wordS k who gs t) := by rw [← hK, ← hU, ← hN, ← hX]; rfl
  have EK : Hid (byteS k = K) := hK
  have EU : Hid (shT who = U) := hU
  have EN : Hid (varS gs.length = N) := hN
  have EX : Hid (shT t = X) := hX
  clear hK hU hN hX n5
  have x1 : (K ++ U).size = K.size + U.size := ByteArray.size_append
  have x2 : (K ++ U ++ N).size = K.size + U.size + N.size := by rw [ByteArray.size_append, x1]
  have m1 : 1 + U.size ≤ 9223372036854775807 := by omega
  have m2 : 1 + U.size + N.size ≤ 9223372036854775807 := by omega
  have LA : Hid (Bx (w.alloc (.cells #[.int .i64 (k : Int), .string who, .slice s.a s.n s.c, .string t] 26)) w.heap.size 26 [.int .i64 (k : Int), .string who, .slice s.a s.n s.c, .string t]) := by
    have h := Bx.new w 26 [.int .i64 (k : Int), .string who, .slice s.a s.n s.c, .string t]
    exact h
  have BW : Hid (Below w.heap.size w (w.alloc (.cells #[.int .i64 (k : Int), .string who, .slice s.a s.n s.c, .string t] 26))) := ((Below.refl _ _).alloc (by simp) _)
  have HX : Hid (RT (w.alloc (.cells #[.int .i64 (k : Int), .string who, .slice s.a s.n s.c, .string t] 26)) s.v gs) := hx.out.stays BW.out
  have HNN : Hid (s.n = gs.length) := RT.len hx.out
  clear hx
  go_enter Tryd.func21, Tryd.ntmps21
  go_wp2_with (first | (refine wpList_ldG rfl 26 _ rfl w.heap.size 0 rfl 26 _ LA.out [.int .i64 (k : Int), .string who, .slice s.a s.n s.c, .string t] rfl _ Tryd.underlying26 rfl Tryd.sizeWd ?_))
  generalize (w.alloc (.cells #[.int .i64 (k : Int), .string who, .slice s.a s.n s.c, .string t] 26)) = W0 at *
  refine (spWordOk_any k who gs t s _ HX (by omega)).mono ?_
  rintro e w1 ⟨rfl, b⟩
  have z_w1 : W0.heap.size ≤ w1.heap.size := b.size
  have LA : Hid (Bx w1 w.heap.size 26 [.int .i64 (k : Int), .string who, .slice s.a s.n s.c, .string t]) := LA.out.later b
  have BW : Hid (Below w.heap.size w w1) := bl_next BW.out b
  have HX : Hid (RT w1 s.v gs) := HX.out.stays b
  clear b
  rw [HK.out]
  go_wp2_with fail
  refine quietC (C := fun w' => Below w1.heap.size w1 w') (by kernel_rfl) (by kernel_rfl) (Below.refl _ _).drew ?_
  go_big_quiet_want
  refine q_val (.pointer (some ⟨w.heap.size, 0, none⟩)) (fun w' hw' => by go_simp) ?_
  go_big_quiet_on
  simp only [Act.put, List.setIfInBounds_toArray, List.set_cons_zero, List.set_cons_succ]
  go_big_quiet_want
  refine q_val (.int .i64 k) (fun w' hw' => by have r0 : w'.cell? ⟨w.heap.size, 0, none⟩ = some (.int .i64 k) := (LA.out.later hw').cell 0; go_simp) ?_
  go_big_quiet_on
  simp only [Act.put, List.setIfInBounds_toArray, List.set_cons_zero, List.set_cons_succ]
  go_big_quiet_want
  refine q_callB (W := w1) (.string K) 60 #[(.int .i64 k)] (fun w' hw' => by go_simp) (fun w' hw' => (l05Byte_any k w' (by omega)).mono fun e w'' ⟨h1, h2⟩ => ⟨by rw [h1, EK.out], h2⟩) ?_
  go_big_quiet_on
  simp only [Act.put, List.setIfInBounds_toArray, List.set_cons_zero, List.set_cons_succ]
  go_big_quiet_want
  refine q_val (.pointer (some ⟨w.heap.size, 1, none⟩)) (fun w' hw' => by go_simp) ?_
  go_big_quiet_on
  simp only [Act.put, List.setIfInBounds_toArray, List.set_cons_zero, List.set_cons_succ]
  go_big_quiet_want
  refine q_val (.string who) (fun w' hw' => by have r1 : w'.cell? ⟨w.heap.size, 1, none⟩ = some (.string who) := (LA.out.later hw').cell 1; go_simp) ?_
  go_big_quiet_on
  simp only [Act.put, List.setIfInBounds_toArray, List.set_cons_zero, List.set_cons_succ]
  go_big_quiet_want
  refine q_callB (W := w1) (.string U) 61 #[(.string who)] (fun w' hw' => by go_simp) (fun w' hw' => (lsh_any who w' (by omega)).mono fun e w'' ⟨h1, h2⟩ => ⟨by rw [h1, EU.out], h2⟩) ?_
  go_big_quiet_on
  simp only [Act.put, List.setIfInBounds_toArray, List.set_cons_zero, List.set_cons_succ]
  go_big_quiet_want
  refine q_val (.string (K ++ U)) (fun w' hw' => by go_simp) ?_
  go_big_quiet_on
  simp only [Act.put, List.setIfInBounds_toArray, List.set_cons_zero, List.set_cons_succ]
  go_big_quiet_want
  refine q_val (.pointer (some ⟨w.heap.size, 2, none⟩)) (fun w' hw' => by go_simp) ?_
  go_big_quiet_on
  simp only [Act.put, List.setIfInBounds_toArray, List.set_cons_zero, List.set_cons_succ]
  go_big_quiet_want
  refine q_val (.slice s.a s.n s.c) (fun w' hw' => by have r2 : w'.cell? ⟨w.heap.size, 2, none⟩ = some (.slice s.a s.n s.c) := (LA.out.later hw').cell 2; go_simp) ?_
  go_big_quiet_on
  simp only [Act.put, List.setIfInBounds_toArray, List.set_cons_zero, List.set_cons_succ]
  go_big_quiet_want
  refine q_val (.int .i64 ((gs.length : Int))) (fun w' hw' => by have hn := HNN.out; go_simp) ?_
  go_big_quiet_on
  simp only [Act.put, List.setIfInBounds_toArray, List.set_cons_zero, List.set_cons_succ]
  go_big_quiet_want
  refine q_callB (W := w1) (.string N) 62 #[(.int .i64 ((gs.length : Int)))] (fun w' hw' => by go_simp) (fun w' hw' => (l01Var_any gs.length w' (by omega)).mono fun e w'' ⟨h1, h2⟩ => ⟨by rw [h1, EN.out], h2⟩) ?_
  go_big_quiet_on
  simp only [Act.put, List.setIfInBounds_toArray, List.set_cons_zero, List.set_cons_succ]
  go_big_quiet_want
  refine q_val (.string (K ++ U ++ N)) (fun w' hw' => by go_simp) ?_
  go_big_quiet_on
  simp only [Act.put, List.setIfInBounds_toArray, List.set_cons_zero, List.set_cons_succ]
  go_big_quiet_want
  refine q_val (.string (K ++ U ++ N)) (fun w' hw' => by go_simp) ?_
  go_big_quiet_on
  simp only [Act.put, List.setIfInBounds_toArray, List.set_cons_zero, List.set_cons_succ]
  refine wpQuiet_nil ?_
  intro w2 c2
  have z_w2 : w1.heap.size ≤ w2.heap.size := c2.size
  have LA : Hid (Bx w2 w.heap.size 26 [.int .i64 (k : Int), .string who, .slice s.a s.n s.c, .string t]) := LA.out.later c2
  have BW : Hid (Below w.heap.size w w2) := bl_next BW.out c2
  have HX : Hid (RT w2 s.v gs) := HX.out.stays c2
  clear c2
  go_wp2_with fail
  obtain ⟨T0, hT0⟩ : ∃ T0, K ++ U ++ N = T0 := ⟨_, rfl⟩
  rw [hT0] at EE x2 ⊢
  clear hT0 x1 m1 m2
  go_loopw [4, 5] (fun tx i wr => ∃ (j : Nat) (S : ByteArray), j ≤ gs.length ∧ tx = .string S ∧ i = .int .i64 j ∧ S.size ≤ T0.size + 17 * j ∧ Hid (S = tsS T0 (gs.take j)) ∧ Hid (Below w2.heap.size w2 wr)) (fun _ i _ => gs.length - (intOf i).toNat)
  case atStart => exact ⟨0, T0, Nat.zero_le _, rfl, rfl, by omega, rfl, Below.refl _ _⟩
  case round =>
    obtain ⟨j, S, hk, rfl, rfl, hS, hSS, hB⟩ := hrel
    have LB : Hid (Bx wr w.heap.size 26 [.int .i64 (k : Int), .string who, .slice s.a s.n s.c, .string t]) := LA.out.later hB.out
    have c2 := LB.out.cell 2
    have c3 := LB.out.cell 3
    simp only [List.getElem?_cons_succ, List.getElem?_cons_zero] at c2 c3
    have HX2 : Hid (RT wr s.v gs) := HX.out.stays hB.out
    by_cases hlt : j < gs.length
    · obtain ⟨ao, cap, hv, hx0⟩ := HX2.out
      have hv : Value.slice s.a s.n s.c = Value.slice ao gs.length cap := hv
      simp only [Value.slice.injEq] at hv
      obtain ⟨ha, hmid, hc⟩ := hv
      obtain ⟨b, off, rfl, hbb, c0⟩ := hx0 j hlt
      obtain ⟨x, hxe⟩ : ∃ x, x = gs[j] := ⟨_, rfl⟩
      have XE : Hid (x = gs[j]) := hxe
      have hxz : x.size ≤ 12 := by rw [hxe]; exact HZ.out _ (List.getElem_mem hlt)
      rw [← hxe] at c0
      have HC : Hid (wr.cell? ⟨b, off + j, none⟩ = some (.string x)) := c0
      rw [ha, HNN.out] at c2
      clear hxe hx0 c0 ha hc hmid
      have i0 : (0 : Int) ≤ (j : Int) := by omega
      have i1 : (j : Int) < (gs.length : Int) := by omega
      have c0 := HC.out
      go_wp2_with fail
      refine (lsh_any x _ (by omega)).mono ?_
      rintro e w3 ⟨rfl, b3⟩
      have B3 : Hid (Below w2.heap.size w2 w3) := bl_next hB.out b3
      have hz2 := shT_size (t := x) (by omega)
      clear b3 c0 c2 c3
      generalize hI : shT x = I at *
      have HII : Hid (shT x = I) := hI
      clear hI
      have mx : ¬9223372036854775807 < S.size + I.size := by omega
      go_wp2_with fail
      go_roundw
      case rel =>
        refine ⟨j + 1, _, by omega, rfl, by go_num, by rw [ByteArray.size_append]; omega, ?_, B3.out⟩
        show _ = _
        rw [tsS_next gs _ j hlt, ← hSS.out, ← XE.out, HII.out]
      case measure => simp [intOf]; omega
    · have HS : Hid (S = tsS T0 gs) := by
        have := hSS.out
        rw [List.take_of_length_le (by omega)] at this
        exact this
      obtain rfl : j = gs.length := by omega
      rw [HNN.out] at c2
      clear hlt
      go_wp2_with fail
      refine (lsh_any t _ (by omega)).mono ?_
      rintro e w3 ⟨rfl, b3⟩
      rw [EX.out]
      have B3 : Hid (Below w2.heap.size w2 w3) := bl_next hB.out b3
      have mx : ¬9223372036854775807 < S.size + X.size := by omega
      clear b3 c2 c3
      go_wp2_with fail
      go_ret2
      exact ⟨by rw [← EE.out, ← HS.out]; rfl, bl_next BW.out B3.out⟩
end Go.Proofs.YtmbjflhhffcjdaaDoor


/- The draws of a word, of any word, of the laws' arguments. Written by gen_wdy.py. -/
namespace Go.Proofs.YtmbjflhhffcjdaaDoor
open Go.RowKit Pl
set_option linter.unusedVariables false
set_option linter.unusedSimpArgs false

/-- a word that is drawn: nothing of it is long. -/
def WFew (who : ByteArray) (gs : List ByteArray) (t : ByteArray) : Prop := who.size ≤ 40 ∧ gs.length ≤ 10 ∧ (∀ x ∈ gs, x.size ≤ 40) ∧ t.size ≤ 61
set_option maxRecDepth 100000 in
set_option maxHeartbeats 8000000 in
theorem word17_any (w0 w : World) (B g n cap : Nat) (ao : Option Addr) (hn : n ≤ 1048576) (hB : B ≤ g) (hd : Hid (Drw w0 w B g ao n cap)) :
    Calls Tryd.prog 81 #[.pointer (some ⟨g, 0, none⟩)] w fun e w' => ∃ (k : Int) (who : ByteArray) (gs : List ByteArray) (t : ByteArray) (u : Sv), e = .returned (.agg #[.int .i64 k, .string who, .slice u.a u.n u.c, .string t]) ∧ WFew who gs t ∧ gs.length ≤ 3 ∧ OwnS w' w.heap.size u.v gs ∧ Hid (Drw w w' B g ao n cap) := by
  have hgl := hd.out.lt
  have hn1 : (w.alloc (.cells #[.int .i64 0, .string ⟨#[]⟩, .slice none 0 0, .string ⟨#[]⟩] 26)).heap.size = w.heap.size + 1 := by simp
  have R : Hid (Bx ((w.alloc (.cells #[.int .i64 0, .string ⟨#[]⟩, .slice none 0 0, .string ⟨#[]⟩] 26)).alloc (.cells #[.int .i64 1, .int .i64 1, .int .i64 1, .int .i64 2, .int .i64 3, .int .i64 4, .int .i64 4] 3)) w.heap.size 26 [.int .i64 0, .string ⟨#[]⟩, .slice none 0 0, .string ⟨#[]⟩]) := by
    have h := Bx.new w 26 [.int .i64 0, .string ⟨#[]⟩, .slice none 0 0, .string ⟨#[]⟩]
    exact h.later ((Below.refl _ _).alloc (Nat.le_refl _) _)
  have D : Hid (Drw w ((w.alloc (.cells #[.int .i64 0, .string ⟨#[]⟩, .slice none 0 0, .string ⟨#[]⟩] 26)).alloc (.cells #[.int .i64 1, .int .i64 1, .int .i64 1, .int .i64 2, .int .i64 3, .int .i64 4, .int .i64 4] 3)) B g ao n cap) := Drw.alloc (hd.out.here.out.alloc hB _) hB _
  have hr : Hid (RowI ((w.alloc (.cells #[.int .i64 0, .string ⟨#[]⟩, .slice none 0 0, .string ⟨#[]⟩] 26)).alloc (.cells #[.int .i64 1, .int .i64 1, .int .i64 1, .int .i64 2, .int .i64 3, .int .i64 4, .int .i64 4] 3)) (w.heap.size + 1) 7) := by
    have h := rowI_new (w.alloc (.cells #[.int .i64 0, .string ⟨#[]⟩, .slice none 0 0, .string ⟨#[]⟩] 26)) [1, 1, 1, 2, 3, 4, 4] 7 rfl
    rw [hn1] at h
    exact h
  have hsz : ((w.alloc (.cells #[.int .i64 0, .string ⟨#[]⟩, .slice none 0 0, .string ⟨#[]⟩] 26)).alloc (.cells #[.int .i64 1, .int .i64 1, .int .i64 1, .int .i64 2, .int .i64 3, .int .i64 4, .int .i64 4] 3)).heap.size = w.heap.size + 2 := by simp
  go_enter Tryd.func81, Tryd.ntmps81
  go_wp2_with fail
  generalize ((w.alloc (.cells #[.int .i64 0, .string ⟨#[]⟩, .slice none 0 0, .string ⟨#[]⟩] 26)).alloc (.cells #[.int .i64 1, .int .i64 1, .int .i64 1, .int .i64 2, .int .i64 3, .int .i64 4, .int .i64 4] 3)) = W2 at *
  clear hn1
  refine (pickInt_any W2 W2 B g n cap (w.heap.size + 1) 7 ao hn hB (by omega) (by omega) (by omega) (by omega) hr D.out.here).mono ?_
  rintro e w1 ⟨⟨z, rfl⟩, hdn⟩
  have kn : KeepBut g W2 w1 := hdn.out.2.2
  have z_w1 : W2.heap.size ≤ w1.heap.size := kn.size
  have R : Hid (Bx w1 w.heap.size 26 [.int .i64 0, .string ⟨#[]⟩, .slice none 0 0, .string ⟨#[]⟩]) := R.out.keepb kn (by omega)
  have D : Hid (Drw w w1 B g ao n cap) := D.out.back hdn.out
  clear hdn kn
  clear hr
  go_wp2_with fail
  refine (who_any w1 w1 B g n cap ao hn hB D.out.here).mono ?_
  rintro e w2 ⟨⟨who, hwho, rfl⟩, hdn⟩
  have kn : KeepBut g w1 w2 := hdn.out.2.2
  have z_w2 : w1.heap.size ≤ w2.heap.size := kn.size
  have R : Hid (Bx w2 w.heap.size 26 [.int .i64 0, .string ⟨#[]⟩, .slice none 0 0, .string ⟨#[]⟩]) := R.out.keepb kn (by omega)
  have D : Hid (Drw w w2 B g ao n cap) := D.out.back hdn.out
  clear hdn kn
  have D3 : Below w2.heap.size w2 (w2.alloc (.cells #[.int .i64 z, .string who, .slice none 0 0, .string ⟨#[]⟩] 26)) := (Below.refl _ _).alloc (Nat.le_refl _) _
  have G : Hid (Bx (w2.alloc (.cells #[.int .i64 z, .string who, .slice none 0 0, .string ⟨#[]⟩] 26)) w2.heap.size 26 [.int .i64 z, .string who, .slice none 0 0, .string ⟨#[]⟩]) := Bx.new w2 26 _
  have R : Hid (Bx (w2.alloc (.cells #[.int .i64 z, .string who, .slice none 0 0, .string ⟨#[]⟩] 26)) w.heap.size 26 [.int .i64 0, .string ⟨#[]⟩, .slice none 0 0, .string ⟨#[]⟩]) := R.out.later D3
  have D : Hid (Drw w (w2.alloc (.cells #[.int .i64 z, .string who, .slice none 0 0, .string ⟨#[]⟩] 26)) B g ao n cap) := D.out.alloc hB _
  have hsz3 : (w2.alloc (.cells #[.int .i64 z, .string who, .slice none 0 0, .string ⟨#[]⟩] 26)).heap.size = w2.heap.size + 1 := by simp
  have c0 := G.out.cell 0
  simp only [List.getElem?_cons_succ, List.getElem?_cons_zero] at c0
  clear D3
  by_cases h4 : z = 4
  · subst h4
    skip
    go_wp2_with fail
    generalize w2.alloc (.cells #[.int .i64 4, .string who, .slice none 0 0, .string ⟨#[]⟩] 26) = W3 at *
    generalize hgm : w2.heap.size = gm at *
    clear c0
    refine (groups_any W3 W3 B g n cap ao hn hB 3 (by omega) (by omega) D.out.here).mono ?_
    rintro e v1 ⟨u, us, rfl, hul, huz, ho, hdn⟩
    have HUZ : Hid (∀ x ∈ us, x.size ≤ 40) := fun x hx => Nat.le_trans (huz x hx) (by omega)
    have kn : KeepBut g W3 v1 := hdn.out.2.2
    have z_v1 : W3.heap.size ≤ v1.heap.size := kn.size
    have R : Hid (Bx v1 w.heap.size 26 [.int .i64 0, .string ⟨#[]⟩, .slice none 0 0, .string ⟨#[]⟩]) := R.out.keepb kn (by omega)
    have G : Hid (Bx v1 gm 26 [.int .i64 4, .string who, .slice none 0 0, .string ⟨#[]⟩]) := G.out.keepb kn (by omega)
    have D : Hid (Drw w v1 B g ao n cap) := D.out.back hdn.out
    have zO : gm < W3.heap.size := by omega
    have O : Hid (OwnS v1 W3.heap.size u.v us) := ho
    clear hdn kn huz ho
    have c0 := G.out.cell 2
    simp only [List.getElem?_cons_succ, List.getElem?_cons_zero] at c0
    have f0 := G.out.frozen 2
    have T5 := (TurnAt.refl gm v1).setCell 2 (.slice u.a u.n u.c)
    have R : Hid (Bx (v1.setCell ⟨gm, 2, none⟩ (.slice u.a u.n u.c)) w.heap.size 26 [.int .i64 0, .string ⟨#[]⟩, .slice none 0 0, .string ⟨#[]⟩]) := R.out.turn T5 (by omega)
    have O : Hid (OwnS (v1.setCell ⟨gm, 2, none⟩ (.slice u.a u.n u.c)) W3.heap.size u.v us) := OwnS.keepg O.out T5.keep (by omega)
    have D : Hid (Drw w (v1.setCell ⟨gm, 2, none⟩ (.slice u.a u.n u.c)) B g ao n cap) := D.out.other (by omega) T5 (by omega) (by omega)
    have G : Hid (Bx (v1.setCell ⟨gm, 2, none⟩ (.slice u.a u.n u.c)) gm 26 [.int .i64 4, .string who, .slice u.a u.n u.c, .string ⟨#[]⟩]) := G.out.set 2 (.slice u.a u.n u.c)
    have zs : (v1.setCell ⟨gm, 2, none⟩ (.slice u.a u.n u.c)).heap.size = v1.heap.size := T5.size
    clear T5
    go_wp2_with fail
    skip
    generalize (v1.setCell ⟨gm, 2, none⟩ (.slice u.a u.n u.c)) = V1 at *
    clear c0 f0
    have hR3 : ∀ (W : World), Hid (RowS (W.alloc (.cells #[.string ⟨#[]⟩, .string ⟨#[104, 105]⟩, .string ⟨#[119, 104, 97, 116]⟩] 9)) W.heap.size 3) := fun W => row3 W _ _ _ (by decide) (by decide) (by decide)
    have hr := hR3 V1
    have bA : Below V1.heap.size V1 (V1.alloc (.cells #[.string ⟨#[]⟩, .string ⟨#[104, 105]⟩, .string ⟨#[119, 104, 97, 116]⟩] 9)) := (Below.refl _ _).alloc (Nat.le_refl _) _
    have hszA : (V1.alloc (.cells #[.string ⟨#[]⟩, .string ⟨#[104, 105]⟩, .string ⟨#[119, 104, 97, 116]⟩] 9)).heap.size = V1.heap.size + 1 := by simp
    have R : Hid (Bx (V1.alloc (.cells #[.string ⟨#[]⟩, .string ⟨#[104, 105]⟩, .string ⟨#[119, 104, 97, 116]⟩] 9)) w.heap.size 26 [.int .i64 0, .string ⟨#[]⟩, .slice none 0 0, .string ⟨#[]⟩]) := R.out.later bA
    have G : Hid (Bx (V1.alloc (.cells #[.string ⟨#[]⟩, .string ⟨#[104, 105]⟩, .string ⟨#[119, 104, 97, 116]⟩] 9)) gm 26 [.int .i64 4, .string who, .slice u.a u.n u.c, .string ⟨#[]⟩]) := G.out.later bA
    have O : Hid (OwnS (V1.alloc (.cells #[.string ⟨#[]⟩, .string ⟨#[104, 105]⟩, .string ⟨#[119, 104, 97, 116]⟩] 9)) W3.heap.size u.v us) := OwnS.keep' O.out (fun y _ hy => Below.block bA y hy)
    have D : Hid (Drw w (V1.alloc (.cells #[.string ⟨#[]⟩, .string ⟨#[104, 105]⟩, .string ⟨#[119, 104, 97, 116]⟩] 9)) B g ao n cap) := D.out.alloc hB _
    clear bA hR3
    generalize (V1.alloc (.cells #[.string ⟨#[]⟩, .string ⟨#[104, 105]⟩, .string ⟨#[119, 104, 97, 116]⟩] 9)) = V2 at *
    have hr : Hid (RowS V2 v1.heap.size 3) := by rw [← zs]; exact hr
    refine (pick_any V2 V2 B g n cap v1.heap.size 3 ao hn hB (by omega) (by omega) (by omega) (by omega) hr D.out.here).mono ?_
    rintro e v2 ⟨⟨tt, htt, rfl⟩, hdn⟩
    have kn : KeepBut g V2 v2 := hdn.out.2.2
    have z_v2 : V2.heap.size ≤ v2.heap.size := kn.size
    have R : Hid (Bx v2 w.heap.size 26 [.int .i64 0, .string ⟨#[]⟩, .slice none 0 0, .string ⟨#[]⟩]) := R.out.keepb kn (by omega)
    have G : Hid (Bx v2 gm 26 [.int .i64 4, .string who, .slice u.a u.n u.c, .string ⟨#[]⟩]) := G.out.keepb kn (by omega)
    have O : Hid (OwnS v2 W3.heap.size u.v us) := OwnS.keepg O.out kn (by omega)
    have D : Hid (Drw w v2 B g ao n cap) := D.out.back hdn.out
    clear hdn kn
    clear hr
    have c0 := G.out.cell 3
    simp only [List.getElem?_cons_succ, List.getElem?_cons_zero] at c0
    have f0 := G.out.frozen 3
    have T5 := (TurnAt.refl gm v2).setCell 3 (.string tt)
    have R : Hid (Bx (v2.setCell ⟨gm, 3, none⟩ (.string tt)) w.heap.size 26 [.int .i64 0, .string ⟨#[]⟩, .slice none 0 0, .string ⟨#[]⟩]) := R.out.turn T5 (by omega)
    have O : Hid (OwnS (v2.setCell ⟨gm, 3, none⟩ (.string tt)) W3.heap.size u.v us) := OwnS.keepg O.out T5.keep (by omega)
    have D : Hid (Drw w (v2.setCell ⟨gm, 3, none⟩ (.string tt)) B g ao n cap) := D.out.other (by omega) T5 (by omega) (by omega)
    have G : Hid (Bx (v2.setCell ⟨gm, 3, none⟩ (.string tt)) gm 26 [.int .i64 4, .string who, .slice u.a u.n u.c, .string tt]) := G.out.set 3 (.string tt)
    have zs : (v2.setCell ⟨gm, 3, none⟩ (.string tt)).heap.size = v2.heap.size := T5.size
    clear T5
    go_wp2_with (first | (refine wpList_ldG rfl 26 _ rfl gm 0 rfl 26 _ G.out [.int .i64 4, .string who, .slice u.a u.n u.c, .string tt] rfl _ Tryd.underlying26 rfl Tryd.sizeWd ?_) | (refine wpList_stB rfl 26 _ _ rfl w.heap.size 0 rfl 26 _ R.out [.int .i64 4, .string who, .slice u.a u.n u.c, .string tt] rfl (by simp) Tryd.sizeWd rfl [.int .i64 4, .string who, .slice u.a u.n u.c, .string tt] rfl ?_; intro W9 R9 T9; refine Stp.here ?_))
    refine Stp.go ?_
    generalize (v2.setCell ⟨gm, 3, none⟩ (.string tt)) = V3 at *
    clear c0 f0
    have O9 : Hid (OwnS W9 W3.heap.size u.v us) := OwnS.keepg O.out T9.keep (by omega)
    have D9 : Hid (Drw w W9 B g ao n cap) := D.out.other (by omega) T9 (Nat.le_refl _) (by omega)
    clear T9
    go_wp2_with fail
    refine bodyPost_ret (results_b Tryd.results81 w.heap.size 26 [.int .i64 4, .string who, .slice u.a u.n u.c, .string tt] _ rfl R9 Tryd.underlying26 rfl Tryd.sizeWd) rfl ?_
    exact ⟨4, who, us, tt, u, rfl, ⟨hwho, by omega, HUZ.out, by omega⟩, by omega, OwnS.down O9.out (by omega), D9⟩
  by_cases h1 : z = 1
  · subst h1
    skip
    go_wp2_with fail
    generalize w2.alloc (.cells #[.int .i64 1, .string who, .slice none 0 0, .string ⟨#[]⟩] 26) = W3 at *
    generalize hgm : w2.heap.size = gm at *
    clear c0
    refine (groups_any W3 W3 B g n cap ao hn hB 1 (by omega) (by omega) D.out.here).mono ?_
    rintro e v1 ⟨u, us, rfl, hul, huz, ho, hdn⟩
    have HUZ : Hid (∀ x ∈ us, x.size ≤ 40) := fun x hx => Nat.le_trans (huz x hx) (by omega)
    have kn : KeepBut g W3 v1 := hdn.out.2.2
    have z_v1 : W3.heap.size ≤ v1.heap.size := kn.size
    have R : Hid (Bx v1 w.heap.size 26 [.int .i64 0, .string ⟨#[]⟩, .slice none 0 0, .string ⟨#[]⟩]) := R.out.keepb kn (by omega)
    have G : Hid (Bx v1 gm 26 [.int .i64 1, .string who, .slice none 0 0, .string ⟨#[]⟩]) := G.out.keepb kn (by omega)
    have D : Hid (Drw w v1 B g ao n cap) := D.out.back hdn.out
    have zO : gm < W3.heap.size := by omega
    have O : Hid (OwnS v1 W3.heap.size u.v us) := ho
    clear hdn kn huz ho
    have c0 := G.out.cell 2
    simp only [List.getElem?_cons_succ, List.getElem?_cons_zero] at c0
    have f0 := G.out.frozen 2
    have T5 := (TurnAt.refl gm v1).setCell 2 (.slice u.a u.n u.c)
    have R : Hid (Bx (v1.setCell ⟨gm, 2, none⟩ (.slice u.a u.n u.c)) w.heap.size 26 [.int .i64 0, .string ⟨#[]⟩, .slice none 0 0, .string ⟨#[]⟩]) := R.out.turn T5 (by omega)
    have O : Hid (OwnS (v1.setCell ⟨gm, 2, none⟩ (.slice u.a u.n u.c)) W3.heap.size u.v us) := OwnS.keepg O.out T5.keep (by omega)
    have D : Hid (Drw w (v1.setCell ⟨gm, 2, none⟩ (.slice u.a u.n u.c)) B g ao n cap) := D.out.other (by omega) T5 (by omega) (by omega)
    have G : Hid (Bx (v1.setCell ⟨gm, 2, none⟩ (.slice u.a u.n u.c)) gm 26 [.int .i64 1, .string who, .slice u.a u.n u.c, .string ⟨#[]⟩]) := G.out.set 2 (.slice u.a u.n u.c)
    have zs : (v1.setCell ⟨gm, 2, none⟩ (.slice u.a u.n u.c)).heap.size = v1.heap.size := T5.size
    clear T5
    go_wp2_with (first | (refine wpList_ldG rfl 26 _ rfl gm 0 rfl 26 _ G.out [.int .i64 1, .string who, .slice u.a u.n u.c, .string ⟨#[]⟩] rfl _ Tryd.underlying26 rfl Tryd.sizeWd ?_) | (refine wpList_stB rfl 26 _ _ rfl w.heap.size 0 rfl 26 _ R.out [.int .i64 1, .string who, .slice u.a u.n u.c, .string ⟨#[]⟩] rfl (by simp) Tryd.sizeWd rfl [.int .i64 1, .string who, .slice u.a u.n u.c, .string ⟨#[]⟩] rfl ?_; intro W9 R9 T9; refine Stp.here ?_))
    refine Stp.go ?_
    generalize (v1.setCell ⟨gm, 2, none⟩ (.slice u.a u.n u.c)) = V1 at *
    clear c0 f0
    have O9 : Hid (OwnS W9 W3.heap.size u.v us) := OwnS.keepg O.out T9.keep (by omega)
    have D9 : Hid (Drw w W9 B g ao n cap) := D.out.other (by omega) T9 (Nat.le_refl _) (by omega)
    clear T9
    go_wp2_with fail
    refine bodyPost_ret (results_b Tryd.results81 w.heap.size 26 [.int .i64 1, .string who, .slice u.a u.n u.c, .string ⟨#[]⟩] _ rfl R9 Tryd.underlying26 rfl Tryd.sizeWd) rfl ?_
    exact ⟨1, who, us, ⟨#[]⟩, u, rfl, ⟨hwho, by omega, HUZ.out, by decide⟩, by omega, OwnS.down O9.out (by omega), D9⟩
  by_cases h2 : z = 2
  · subst h2
    skip
    go_wp2_with fail
    generalize w2.alloc (.cells #[.int .i64 2, .string who, .slice none 0 0, .string ⟨#[]⟩] 26) = W3 at *
    generalize hgm : w2.heap.size = gm at *
    clear c0
    refine (groups_any W3 W3 B g n cap ao hn hB 1 (by omega) (by omega) D.out.here).mono ?_
    rintro e v1 ⟨u, us, rfl, hul, huz, ho, hdn⟩
    have HUZ : Hid (∀ x ∈ us, x.size ≤ 40) := fun x hx => Nat.le_trans (huz x hx) (by omega)
    have kn : KeepBut g W3 v1 := hdn.out.2.2
    have z_v1 : W3.heap.size ≤ v1.heap.size := kn.size
    have R : Hid (Bx v1 w.heap.size 26 [.int .i64 0, .string ⟨#[]⟩, .slice none 0 0, .string ⟨#[]⟩]) := R.out.keepb kn (by omega)
    have G : Hid (Bx v1 gm 26 [.int .i64 2, .string who, .slice none 0 0, .string ⟨#[]⟩]) := G.out.keepb kn (by omega)
    have D : Hid (Drw w v1 B g ao n cap) := D.out.back hdn.out
    have zO : gm < W3.heap.size := by omega
    have O : Hid (OwnS v1 W3.heap.size u.v us) := ho
    clear hdn kn huz ho
    have c0 := G.out.cell 2
    simp only [List.getElem?_cons_succ, List.getElem?_cons_zero] at c0
    have f0 := G.out.frozen 2
    have T5 := (TurnAt.refl gm v1).setCell 2 (.slice u.a u.n u.c)
    have R : Hid (Bx (v1.setCell ⟨gm, 2, none⟩ (.slice u.a u.n u.c)) w.heap.size 26 [.int .i64 0, .string ⟨#[]⟩, .slice none 0 0, .string ⟨#[]⟩]) := R.out.turn T5 (by omega)
    have O : Hid (OwnS (v1.setCell ⟨gm, 2, none⟩ (.slice u.a u.n u.c)) W3.heap.size u.v us) := OwnS.keepg O.out T5.keep (by omega)
    have D : Hid (Drw w (v1.setCell ⟨gm, 2, none⟩ (.slice u.a u.n u.c)) B g ao n cap) := D.out.other (by omega) T5 (by omega) (by omega)
    have G : Hid (Bx (v1.setCell ⟨gm, 2, none⟩ (.slice u.a u.n u.c)) gm 26 [.int .i64 2, .string who, .slice u.a u.n u.c, .string ⟨#[]⟩]) := G.out.set 2 (.slice u.a u.n u.c)
    have zs : (v1.setCell ⟨gm, 2, none⟩ (.slice u.a u.n u.c)).heap.size = v1.heap.size := T5.size
    clear T5
    go_wp2_with (first | (refine wpList_ldG rfl 26 _ rfl gm 0 rfl 26 _ G.out [.int .i64 2, .string who, .slice u.a u.n u.c, .string ⟨#[]⟩] rfl _ Tryd.underlying26 rfl Tryd.sizeWd ?_) | (refine wpList_stB rfl 26 _ _ rfl w.heap.size 0 rfl 26 _ R.out [.int .i64 2, .string who, .slice u.a u.n u.c, .string ⟨#[]⟩] rfl (by simp) Tryd.sizeWd rfl [.int .i64 2, .string who, .slice u.a u.n u.c, .string ⟨#[]⟩] rfl ?_; intro W9 R9 T9; refine Stp.here ?_))
    refine Stp.go ?_
    generalize (v1.setCell ⟨gm, 2, none⟩ (.slice u.a u.n u.c)) = V1 at *
    clear c0 f0
    have O9 : Hid (OwnS W9 W3.heap.size u.v us) := OwnS.keepg O.out T9.keep (by omega)
    have D9 : Hid (Drw w W9 B g ao n cap) := D.out.other (by omega) T9 (Nat.le_refl _) (by omega)
    clear T9
    go_wp2_with fail
    refine bodyPost_ret (results_b Tryd.results81 w.heap.size 26 [.int .i64 2, .string who, .slice u.a u.n u.c, .string ⟨#[]⟩] _ rfl R9 Tryd.underlying26 rfl Tryd.sizeWd) rfl ?_
    exact ⟨2, who, us, ⟨#[]⟩, u, rfl, ⟨hwho, by omega, HUZ.out, by decide⟩, by omega, OwnS.down O9.out (by omega), D9⟩
  have d1 : (z == 1) = false := by simp [h1]
  have d2 : (z == 2) = false := by simp [h2]
  have d4 : (z == 4) = false := by simp [h4]
  have e1 : decide (z = 1) = false := by simp [h1]
  have e2 : decide (z = 2) = false := by simp [h2]
  have e4 : decide (z = 4) = false := by simp [h4]
  clear h1 h2 h4
  go_wp2_with (first | (refine wpList_ldG rfl 26 _ rfl w2.heap.size 0 rfl 26 _ G.out [.int .i64 z, .string who, .slice none 0 0, .string ⟨#[]⟩] rfl _ Tryd.underlying26 rfl Tryd.sizeWd ?_) | (refine wpList_stB rfl 26 _ _ rfl w.heap.size 0 rfl 26 _ R.out [.int .i64 z, .string who, .slice none 0 0, .string ⟨#[]⟩] rfl (by simp) Tryd.sizeWd rfl [.int .i64 z, .string who, .slice none 0 0, .string ⟨#[]⟩] rfl ?_; intro W9 R9 T9; refine Stp.here ?_))
  refine Stp.go ?_
  have D9 : Hid (Drw w W9 B g ao n cap) := D.out.other (by omega) T9 (Nat.le_refl _) (by omega)
  clear T9
  go_wp2_with fail
  refine bodyPost_ret (results_b Tryd.results81 w.heap.size 26 [.int .i64 z, .string who, .slice none 0 0, .string ⟨#[]⟩] _ rfl R9 Tryd.underlying26 rfl Tryd.sizeWd) rfl ?_
  exact ⟨z, who, [], ⟨#[]⟩, ⟨none, 0, 0⟩, rfl, ⟨hwho, Nat.zero_le _, (fun x hx => absurd hx (by simp)), by decide⟩, Nat.zero_le _, OwnS.zero _ _, D9⟩
theorem long20 (y : Nat) (w : World) (hy : y < 2) : Calls Tryd.prog 85 #[.int .i64 (20 + (y : Int)), .int .u8 65] w fun e w' => (∃ t : ByteArray, t.size = 20 + y ∧ e = .returned (.string t)) ∧ Below w.heap.size w w' := by
  have h := long_any (20 + y) w (by omega)
  rwa [show ((20 + y : Nat) : Int) = 20 + (y : Int) by omega] at h
theorem drw_grown {w0 w w' : World} {B g n cap : Nat} {ao : Option Addr} {row : Option Nat} (h : Drw w0 w B g ao n cap) (k : w.grownBy w' row) {N : Nat} (hg : g < N) (hB : B ≤ w0.heap.size ∧ w0.heap.size ≤ N) (hr : ∀ j, row = some j → N ≤ j) : Hid (Drw w0 w' B g ao n cap) := by
  have b : Below N w w' ∨ True := .inr trivial
  obtain ⟨⟨i, q, h1, h2⟩, h3, h4⟩ := h
  have hgl : g < w.heap.size := (Array.getElem?_eq_some_iff.1 h2).1
  have hw : w0.heap.size ≤ w.heap.size := h4.size
  have b : Below w0.heap.size w w' := ⟨k.os, k.tape, k.output, k.size, fun j hj => k.block j (by omega) (fun e => by have := hr j e.symm; omega)⟩
  exact ⟨⟨i, q, h1, (k.block g hgl (fun e => by have := hr g e.symm; omega)).trans h2⟩, h3.stays b hB.1, ⟨b.os.trans h4.os, b.tape.trans h4.tape, b.output.trans h4.output, Nat.le_trans h4.size b.size, fun j hj hjg => (b.block j hj).trans (h4.block j hj hjg)⟩⟩
set_option maxRecDepth 100000 in
set_option maxHeartbeats 16000000 in
theorem anyWord_any (w0 w : World) (B g n cap : Nat) (ao : Option Addr) (hn : n ≤ 1048576) (hB : B ≤ g) (hd : Hid (Drw w0 w B g ao n cap)) :
    Calls Tryd.prog 36 #[.pointer (some ⟨g, 0, none⟩)] w fun e w' => ∃ (k : Int) (who : ByteArray) (gs : List ByteArray) (t : ByteArray) (u : Sv), e = .returned (.agg #[.int .i64 k, .string who, .slice u.a u.n u.c, .string t]) ∧ WFew who gs t ∧ OwnS w' w.heap.size u.v gs ∧ Hid (Drw w w' B g ao n cap) := by
  have hgl := hd.out.lt
  have R : Hid (Bx (w.alloc (.cells #[.int .i64 0, .string ⟨#[]⟩, .slice none 0 0, .string ⟨#[]⟩] 26)) w.heap.size 26 [.int .i64 0, .string ⟨#[]⟩, .slice none 0 0, .string ⟨#[]⟩]) := Bx.new w 26 _
  have D : Hid (Drw w (w.alloc (.cells #[.int .i64 0, .string ⟨#[]⟩, .slice none 0 0, .string ⟨#[]⟩] 26)) B g ao n cap) := hd.out.here.out.alloc hB _
  have hsz : (w.alloc (.cells #[.int .i64 0, .string ⟨#[]⟩, .slice none 0 0, .string ⟨#[]⟩] 26)).heap.size = w.heap.size + 1 := by simp
  go_enter Tryd.func36, Tryd.ntmps36
  go_wp2_with fail
  generalize (w.alloc (.cells #[.int .i64 0, .string ⟨#[]⟩, .slice none 0 0, .string ⟨#[]⟩] 26)) = W1 at *
  refine (word17_any W1 W1 B g n cap ao hn hB D.out.here).mono ?_
  rintro e w1 ⟨k0, who, gs, t, u, rfl, hfew, hg3, ho, hdn⟩
  have HF : Hid (WFew who gs t) := hfew
  have kn : KeepBut g W1 w1 := hdn.out.2.2
  have z_w1 : W1.heap.size ≤ w1.heap.size := kn.size
  have R : Hid (Bx w1 w.heap.size 26 [.int .i64 0, .string ⟨#[]⟩, .slice none 0 0, .string ⟨#[]⟩]) := R.out.keepb kn (by omega)
  have O : Hid (OwnS w1 W1.heap.size u.v gs) := ho
  have O0 : Hid (OwnS w1 W1.heap.size u.v gs) := ho
  have D : Hid (Drw w w1 B g ao n cap) := D.out.back hdn.out
  have zg1 : g < W1.heap.size := by omega
  clear hdn kn hfew ho
  have D3 : Below w1.heap.size w1 (w1.alloc (.cells #[.int .i64 k0, .string who, .slice u.a u.n u.c, .string t] 26)) := (Below.refl _ _).alloc (Nat.le_refl _) _
  have G : Hid (Bx (w1.alloc (.cells #[.int .i64 k0, .string who, .slice u.a u.n u.c, .string t] 26)) w1.heap.size 26 [.int .i64 k0, .string who, .slice u.a u.n u.c, .string t]) := Bx.new w1 26 _
  have R : Hid (Bx (w1.alloc (.cells #[.int .i64 k0, .string who, .slice u.a u.n u.c, .string t] 26)) w.heap.size 26 [.int .i64 0, .string ⟨#[]⟩, .slice none 0 0, .string ⟨#[]⟩]) := R.out.later D3
  have O : Hid (OwnS (w1.alloc (.cells #[.int .i64 k0, .string who, .slice u.a u.n u.c, .string t] 26)) W1.heap.size u.v gs) := OwnS.keep' O.out (fun y _ hy => Below.block D3 y hy)
  have OL : Hid (∀ y, u.v.ownBlock = some y → y < w1.heap.size) := fun y hy => (OwnS.lt O0.out y hy).2
  have D : Hid (Drw w (w1.alloc (.cells #[.int .i64 k0, .string who, .slice u.a u.n u.c, .string t] 26)) B g ao n cap) := D.out.alloc hB _
  have hsz3 : (w1.alloc (.cells #[.int .i64 k0, .string who, .slice u.a u.n u.c, .string t] 26)).heap.size = w1.heap.size + 1 := by simp
  clear D3
  go_wp2_with fail
  generalize w1.alloc (.cells #[.int .i64 k0, .string who, .slice u.a u.n u.c, .string t] 26) = W3 at *
  generalize hgm : w1.heap.size = gm at *
  clear O0
  refine (below_small W3 W3 B g n cap 20 ao hn hB (by omega) (by omega) D.out.here).mono ?_
  rintro e w2 ⟨⟨x, hx, rfl⟩, hdn⟩
  have kn : KeepBut g W3 w2 := hdn.out.2.2
  have z_w2 : W3.heap.size ≤ w2.heap.size := kn.size
  have R : Hid (Bx w2 w.heap.size 26 [.int .i64 0, .string ⟨#[]⟩, .slice none 0 0, .string ⟨#[]⟩]) := R.out.keepb kn (by omega)
  have G : Hid (Bx w2 gm 26 [.int .i64 k0, .string who, .slice u.a u.n u.c, .string t]) := G.out.keepb kn (by omega)
  have O : Hid (OwnS w2 W1.heap.size u.v gs) := OwnS.keepg O.out kn (by omega)
  have D : Hid (Drw w w2 B g ao n cap) := D.out.back hdn.out
  clear hdn kn
  obtain ⟨hf1, hf2, hf3, hf4⟩ := HF.out
  have HF3 : Hid (∀ y ∈ gs, y.size ≤ 40) := hf3
  clear hf3
  have OG : Hid (u.v.ownBlock ≠ some gm) := fun h => by have := OL.out _ h; omega
  by_cases h0 : x = 0
  · subst h0
    have hr : Hid (RowI (w2.alloc (.cells #[.int .i64 0, .int .i64 1, .int .i64 3, .int .i64 5] 3)) w2.heap.size 4) := rowI_new w2 [0, 1, 3, 5] 4 rfl
    have bA : Below w2.heap.size w2 (w2.alloc (.cells #[.int .i64 0, .int .i64 1, .int .i64 3, .int .i64 5] 3)) := (Below.refl _ _).alloc (Nat.le_refl _) _
    have hszA : (w2.alloc (.cells #[.int .i64 0, .int .i64 1, .int .i64 3, .int .i64 5] 3)).heap.size = w2.heap.size + 1 := by simp
    have R : Hid (Bx (w2.alloc (.cells #[.int .i64 0, .int .i64 1, .int .i64 3, .int .i64 5] 3)) w.heap.size 26 [.int .i64 0, .string ⟨#[]⟩, .slice none 0 0, .string ⟨#[]⟩]) := R.out.later bA
    have G : Hid (Bx (w2.alloc (.cells #[.int .i64 0, .int .i64 1, .int .i64 3, .int .i64 5] 3)) gm 26 [.int .i64 k0, .string who, .slice u.a u.n u.c, .string t]) := G.out.later bA
    have O : Hid (OwnS (w2.alloc (.cells #[.int .i64 0, .int .i64 1, .int .i64 3, .int .i64 5] 3)) W1.heap.size u.v gs) := OwnS.keep' O.out (fun y _ hy => Below.block bA y hy)
    have D : Hid (Drw w (w2.alloc (.cells #[.int .i64 0, .int .i64 1, .int .i64 3, .int .i64 5] 3)) B g ao n cap) := D.out.alloc hB _
    clear bA
    go_wp2_with fail
    generalize (w2.alloc (.cells #[.int .i64 0, .int .i64 1, .int .i64 3, .int .i64 5] 3)) = V2 at *
    refine (pickInt_any V2 V2 B g n cap w2.heap.size 4 ao hn hB (by omega) (by omega) (by omega) (by omega) hr D.out.here).mono ?_
    rintro e v2 ⟨⟨z, rfl⟩, hdn⟩
    have kn : KeepBut g V2 v2 := hdn.out.2.2
    have z_v2 : V2.heap.size ≤ v2.heap.size := kn.size
    have R : Hid (Bx v2 w.heap.size 26 [.int .i64 0, .string ⟨#[]⟩, .slice none 0 0, .string ⟨#[]⟩]) := R.out.keepb kn (by omega)
    have G : Hid (Bx v2 gm 26 [.int .i64 k0, .string who, .slice u.a u.n u.c, .string t]) := G.out.keepb kn (by omega)
    have O : Hid (OwnS v2 W1.heap.size u.v gs) := OwnS.keepg O.out kn (by omega)
    have D : Hid (Drw w v2 B g ao n cap) := D.out.back hdn.out
    clear hdn kn
    clear hr
    have c0 := G.out.cell 0
    simp only [List.getElem?_cons_succ, List.getElem?_cons_zero] at c0
    have f0 := G.out.frozen 0
    have T5 := (TurnAt.refl gm v2).setCell 0 (.int .i64 z)
    have R : Hid (Bx (v2.setCell ⟨gm, 0, none⟩ (.int .i64 z)) w.heap.size 26 [.int .i64 0, .string ⟨#[]⟩, .slice none 0 0, .string ⟨#[]⟩]) := R.out.turn T5 (by omega)
    have O : Hid (OwnS (v2.setCell ⟨gm, 0, none⟩ (.int .i64 z)) W1.heap.size u.v gs) := OwnS.keep' O.out fun y hy hl => T5.block y (fun e => OG.out (e ▸ hy))
    have D : Hid (Drw w (v2.setCell ⟨gm, 0, none⟩ (.int .i64 z)) B g ao n cap) := D.out.other (by omega) T5 (by omega) (by omega)
    have G : Hid (Bx (v2.setCell ⟨gm, 0, none⟩ (.int .i64 z)) gm 26 [.int .i64 z, .string who, .slice u.a u.n u.c, .string t]) := G.out.set 0 (.int .i64 z)
    have zs : (v2.setCell ⟨gm, 0, none⟩ (.int .i64 z)).heap.size = v2.heap.size := T5.size
    clear T5
    go_wp2_with (first | (refine wpList_ldG rfl 26 _ rfl gm 0 rfl 26 _ G.out [.int .i64 z, .string who, .slice u.a u.n u.c, .string t] rfl _ Tryd.underlying26 rfl Tryd.sizeWd ?_) | (refine wpList_stB rfl 26 _ _ rfl w.heap.size 0 rfl 26 _ R.out [.int .i64 z, .string who, .slice u.a u.n u.c, .string t] rfl (by simp) Tryd.sizeWd rfl [.int .i64 z, .string who, .slice u.a u.n u.c, .string t] rfl ?_; intro W9 R9 T9; refine Stp.here ?_))
    refine Stp.go ?_
    generalize (v2.setCell ⟨gm, 0, none⟩ (.int .i64 z)) = V3 at *
    clear c0 f0
    have O9 : Hid (OwnS W9 W1.heap.size u.v gs) := OwnS.keepg O.out T9.keep (by omega)
    have D9 : Hid (Drw w W9 B g ao n cap) := D.out.other (by omega) T9 (Nat.le_refl _) (by omega)
    clear T9
    go_wp2_with fail
    refine bodyPost_ret (results_b Tryd.results36 w.heap.size 26 [.int .i64 z, .string who, .slice u.a u.n u.c, .string t] _ rfl R9 Tryd.underlying26 rfl Tryd.sizeWd) rfl ?_
    exact ⟨z, who, gs, t, u, rfl, ⟨hf1, by omega, HF3.out, by omega⟩, OwnS.down O9.out (by omega), D9⟩
  by_cases h1 : x = 1
  · subst h1
    have hr : Hid (RowS (w2.alloc (.cells #[.string ⟨#[]⟩, .string ⟨#[97, 110, 110]⟩, .string ⟨#[35, 48, 35, 97]⟩] 9)) w2.heap.size 3) := row3 w2 _ _ _ (by decide) (by decide) (by decide)
    have bA : Below w2.heap.size w2 (w2.alloc (.cells #[.string ⟨#[]⟩, .string ⟨#[97, 110, 110]⟩, .string ⟨#[35, 48, 35, 97]⟩] 9)) := (Below.refl _ _).alloc (Nat.le_refl _) _
    have hszA : (w2.alloc (.cells #[.string ⟨#[]⟩, .string ⟨#[97, 110, 110]⟩, .string ⟨#[35, 48, 35, 97]⟩] 9)).heap.size = w2.heap.size + 1 := by simp
    have R : Hid (Bx (w2.alloc (.cells #[.string ⟨#[]⟩, .string ⟨#[97, 110, 110]⟩, .string ⟨#[35, 48, 35, 97]⟩] 9)) w.heap.size 26 [.int .i64 0, .string ⟨#[]⟩, .slice none 0 0, .string ⟨#[]⟩]) := R.out.later bA
    have G : Hid (Bx (w2.alloc (.cells #[.string ⟨#[]⟩, .string ⟨#[97, 110, 110]⟩, .string ⟨#[35, 48, 35, 97]⟩] 9)) gm 26 [.int .i64 k0, .string who, .slice u.a u.n u.c, .string t]) := G.out.later bA
    have O : Hid (OwnS (w2.alloc (.cells #[.string ⟨#[]⟩, .string ⟨#[97, 110, 110]⟩, .string ⟨#[35, 48, 35, 97]⟩] 9)) W1.heap.size u.v gs) := OwnS.keep' O.out (fun y _ hy => Below.block bA y hy)
    have D : Hid (Drw w (w2.alloc (.cells #[.string ⟨#[]⟩, .string ⟨#[97, 110, 110]⟩, .string ⟨#[35, 48, 35, 97]⟩] 9)) B g ao n cap) := D.out.alloc hB _
    clear bA
    go_wp2_with fail
    generalize (w2.alloc (.cells #[.string ⟨#[]⟩, .string ⟨#[97, 110, 110]⟩, .string ⟨#[35, 48, 35, 97]⟩] 9)) = V2 at *
    refine (pick_any V2 V2 B g n cap w2.heap.size 3 ao hn hB (by omega) (by omega) (by omega) (by omega) hr D.out.here).mono ?_
    rintro e v2 ⟨⟨tt, htt, rfl⟩, hdn⟩
    have kn : KeepBut g V2 v2 := hdn.out.2.2
    have z_v2 : V2.heap.size ≤ v2.heap.size := kn.size
    have R : Hid (Bx v2 w.heap.size 26 [.int .i64 0, .string ⟨#[]⟩, .slice none 0 0, .string ⟨#[]⟩]) := R.out.keepb kn (by omega)
    have G : Hid (Bx v2 gm 26 [.int .i64 k0, .string who, .slice u.a u.n u.c, .string t]) := G.out.keepb kn (by omega)
    have O : Hid (OwnS v2 W1.heap.size u.v gs) := OwnS.keepg O.out kn (by omega)
    have D : Hid (Drw w v2 B g ao n cap) := D.out.back hdn.out
    clear hdn kn
    clear hr
    have c0 := G.out.cell 1
    simp only [List.getElem?_cons_succ, List.getElem?_cons_zero] at c0
    have f0 := G.out.frozen 1
    have T5 := (TurnAt.refl gm v2).setCell 1 (.string tt)
    have R : Hid (Bx (v2.setCell ⟨gm, 1, none⟩ (.string tt)) w.heap.size 26 [.int .i64 0, .string ⟨#[]⟩, .slice none 0 0, .string ⟨#[]⟩]) := R.out.turn T5 (by omega)
    have O : Hid (OwnS (v2.setCell ⟨gm, 1, none⟩ (.string tt)) W1.heap.size u.v gs) := OwnS.keep' O.out fun y hy hl => T5.block y (fun e => OG.out (e ▸ hy))
    have D : Hid (Drw w (v2.setCell ⟨gm, 1, none⟩ (.string tt)) B g ao n cap) := D.out.other (by omega) T5 (by omega) (by omega)
    have G : Hid (Bx (v2.setCell ⟨gm, 1, none⟩ (.string tt)) gm 26 [.int .i64 k0, .string tt, .slice u.a u.n u.c, .string t]) := G.out.set 1 (.string tt)
    have zs : (v2.setCell ⟨gm, 1, none⟩ (.string tt)).heap.size = v2.heap.size := T5.size
    clear T5
    go_wp2_with (first | (refine wpList_ldG rfl 26 _ rfl gm 0 rfl 26 _ G.out [.int .i64 k0, .string tt, .slice u.a u.n u.c, .string t] rfl _ Tryd.underlying26 rfl Tryd.sizeWd ?_) | (refine wpList_stB rfl 26 _ _ rfl w.heap.size 0 rfl 26 _ R.out [.int .i64 k0, .string tt, .slice u.a u.n u.c, .string t] rfl (by simp) Tryd.sizeWd rfl [.int .i64 k0, .string tt, .slice u.a u.n u.c, .string t] rfl ?_; intro W9 R9 T9; refine Stp.here ?_))
    refine Stp.go ?_
    generalize (v2.setCell ⟨gm, 1, none⟩ (.string tt)) = V3 at *
    clear c0 f0
    have O9 : Hid (OwnS W9 W1.heap.size u.v gs) := OwnS.keepg O.out T9.keep (by omega)
    have D9 : Hid (Drw w W9 B g ao n cap) := D.out.other (by omega) T9 (Nat.le_refl _) (by omega)
    clear T9
    go_wp2_with fail
    refine bodyPost_ret (results_b Tryd.results36 w.heap.size 26 [.int .i64 k0, .string tt, .slice u.a u.n u.c, .string t] _ rfl R9 Tryd.underlying26 rfl Tryd.sizeWd) rfl ?_
    exact ⟨k0, tt, gs, t, u, rfl, ⟨by omega, by omega, HF3.out, by omega⟩, OwnS.down O9.out (by omega), D9⟩
  by_cases h2 : x = 2
  · subst h2
    have cl6 : Hid (Bx w2.drew gm 26 [.int .i64 k0, .string who, .slice u.a u.n u.c, .string t]) := G.out.later (Below.refl _ _).drew
    go_wp2_with fail
    refine wp_region_heldLast (S := fun w' => Bx w' gm 26 [.int .i64 k0, .string who, .slice u.a u.n u.c, .string t]) _ (by simp) (by kernel_rfl) (by rfl) (by rfl) (by kernel_rfl) (by kernel_rfl) cl6.out (fun hHeld => ?_)
    simp only [List.dropLast_cons_cons, List.dropLast_singleton, List.getLast_cons_cons, List.getLast_singleton, List.cons_append, List.nil_append, List.length_cons, List.length_nil]
    refine wpAnyH_take (i := 0) (v := ?v0) rfl (by kernel_rfl) (by kernel_rfl) (by kernel_rfl) (fun _ _ _ h => h) (Or.inl ⟨by rfl, ?hy0⟩) (by assumption) ?_
    case hy0 => (intro w hSw; (try dsimp only at hSw); simp only [List.getElem_toArray, List.getElem_cons_zero, List.getElem_cons_succ]; go_simp; try with_reducible rfl)
    try simp only [Act.put, List.getElem_toArray, List.getElem_cons_zero, List.getElem_cons_succ, List.setIfInBounds_toArray, List.set_cons_zero, List.set_cons_succ]
    refine wpAnyH_take (i := 1) (v := _) rfl (by kernel_rfl) (by kernel_rfl) (by kernel_rfl) (fun _ _ _ h => h) (ld1_yield (by rfl) 24 _ rfl gm 2 rfl 26 _ (fun w hS => hS) (.slice u.a u.n u.c) rfl _ Tryd.underlying24 rfl) (by assumption) ?_
    try simp only [Act.put, List.getElem_toArray, List.getElem_cons_zero, List.getElem_cons_succ, List.setIfInBounds_toArray, List.set_cons_zero, List.set_cons_succ]
    refine wpAnyH_take (i := 2) (v := ?v2) rfl (by kernel_rfl) (by kernel_rfl) (by kernel_rfl) (fun _ _ _ h => h) (Or.inl ⟨by rfl, ?hy2⟩) (by assumption) ?_
    case hy2 => (intro w hSw; (try dsimp only at hSw); simp only [List.getElem_toArray, List.getElem_cons_zero, List.getElem_cons_succ]; go_simp; try with_reducible rfl)
    try simp only [Act.put, List.getElem_toArray, List.getElem_cons_zero, List.getElem_cons_succ, List.setIfInBounds_toArray, List.set_cons_zero, List.set_cons_succ]
    have D : Hid (Drw w w2.drew B g ao n cap) := D.out.drew.out
    have R : Hid (Bx w2.drew w.heap.size 26 [.int .i64 0, .string ⟨#[]⟩, .slice none 0 0, .string ⟨#[]⟩]) := R.out.later (Below.refl _ _).drew
    have G : Hid (Bx w2.drew gm 26 [.int .i64 k0, .string who, .slice u.a u.n u.c, .string t]) := cl6
    have O : Hid (OwnS w2.drew W1.heap.size u.v gs) := OwnS.keep' O.out (fun y _ hy => Below.block (Below.refl w2.heap.size w2).drew y hy)
    have hr : Hid (RowS (w2.drew.alloc (.cells #[.string ⟨#[]⟩, .string ⟨#[122, 122]⟩, .string ⟨#[97]⟩] 9)) w2.drew.heap.size 3) := row3 w2.drew _ _ _ (by decide) (by decide) (by decide)
    have bA : Below w2.drew.heap.size w2.drew (w2.drew.alloc (.cells #[.string ⟨#[]⟩, .string ⟨#[122, 122]⟩, .string ⟨#[97]⟩] 9)) := (Below.refl _ _).alloc (Nat.le_refl _) _
    have hszA : (w2.drew.alloc (.cells #[.string ⟨#[]⟩, .string ⟨#[122, 122]⟩, .string ⟨#[97]⟩] 9)).heap.size = w2.drew.heap.size + 1 := by simp
    have R : Hid (Bx (w2.drew.alloc (.cells #[.string ⟨#[]⟩, .string ⟨#[122, 122]⟩, .string ⟨#[97]⟩] 9)) w.heap.size 26 [.int .i64 0, .string ⟨#[]⟩, .slice none 0 0, .string ⟨#[]⟩]) := R.out.later bA
    have G : Hid (Bx (w2.drew.alloc (.cells #[.string ⟨#[]⟩, .string ⟨#[122, 122]⟩, .string ⟨#[97]⟩] 9)) gm 26 [.int .i64 k0, .string who, .slice u.a u.n u.c, .string t]) := G.out.later bA
    have O : Hid (OwnS (w2.drew.alloc (.cells #[.string ⟨#[]⟩, .string ⟨#[122, 122]⟩, .string ⟨#[97]⟩] 9)) W1.heap.size u.v gs) := OwnS.keep' O.out (fun y _ hy => Below.block bA y hy)
    have D : Hid (Drw w (w2.drew.alloc (.cells #[.string ⟨#[]⟩, .string ⟨#[122, 122]⟩, .string ⟨#[97]⟩] 9)) B g ao n cap) := D.out.alloc hB _
    clear bA
    refine wpAnyH_ready (rs := [3]) (by kernel_rfl) (by simp) ?_
    refine AllReadyH.cons (i := 3) rfl (fun K hK => ?_) AllReadyH.nil
    rw [if_pos (by rfl)]
    simp only [List.getElem_toArray, List.getElem_cons_zero, List.getElem_cons_succ]
    go_simp
    refine hK.out _ _ (G.out) (fun hHeld => ?_)
    clear hK K
    try simp only [Act.put, List.getElem_toArray, List.getElem_cons_zero, List.getElem_cons_succ, List.setIfInBounds_toArray, List.set_cons_zero, List.set_cons_succ]
    have hzd : w2.drew.heap.size = w2.heap.size := rfl
    refine wpAnyH_ready (rs := [4]) (by kernel_rfl) (by simp) ?_
    refine AllReadyH.cons (i := 4) rfl (fun K hK => ?_) AllReadyH.nil
    rw [if_pos (by rfl)]
    simp only [List.getElem_toArray, List.getElem_cons_zero, List.getElem_cons_succ]
    go_simp
    refine (pick_any (w2.drew.alloc (.cells #[.string ⟨#[]⟩, .string ⟨#[122, 122]⟩, .string ⟨#[97]⟩] 9)) (w2.drew.alloc (.cells #[.string ⟨#[]⟩, .string ⟨#[122, 122]⟩, .string ⟨#[97]⟩] 9)) B g n cap w2.drew.heap.size 3 ao hn hB (by omega) (by omega) (by omega) (by omega) hr D.out.here).mono ?_
    rintro e v5 ⟨⟨tt, htt, rfl⟩, hdn⟩
    have kn : KeepBut g (w2.drew.alloc (.cells #[.string ⟨#[]⟩, .string ⟨#[122, 122]⟩, .string ⟨#[97]⟩] 9)) v5 := hdn.out.2.2
    have z_v5 : (w2.drew.alloc (.cells #[.string ⟨#[]⟩, .string ⟨#[122, 122]⟩, .string ⟨#[97]⟩] 9)).heap.size ≤ v5.heap.size := kn.size
    have R : Hid (Bx v5 w.heap.size 26 [.int .i64 0, .string ⟨#[]⟩, .slice none 0 0, .string ⟨#[]⟩]) := R.out.keepb kn (by omega)
    have G : Hid (Bx v5 gm 26 [.int .i64 k0, .string who, .slice u.a u.n u.c, .string t]) := G.out.keepb kn (by omega)
    have O : Hid (OwnS v5 W1.heap.size u.v gs) := OwnS.keepg O.out kn (by omega)
    have D : Hid (Drw w v5 B g ao n cap) := D.out.back hdn.out
    clear hdn kn
    refine hK.out _ _ (G.out) (fun hHeld => ?_)
    clear hK K
    try simp only [Act.put, List.getElem_toArray, List.getElem_cons_zero, List.getElem_cons_succ, List.setIfInBounds_toArray, List.set_cons_zero, List.set_cons_succ]
    clear hr
    have GA : Hid (Bx (v5.alloc (.cells #[.string tt] 9)) gm 26 [.int .i64 k0, .string who, .slice u.a u.n u.c, .string t]) := G.out.later ((Below.refl _ _).alloc (Nat.le_refl _) _)
    refine wpAnyH_ready (rs := [5]) (by kernel_rfl) (by simp) ?_
    refine AllReadyH.cons (i := 5) rfl (fun K hK => ?_) AllReadyH.nil
    rw [if_pos (by rfl)]
    simp only [List.getElem_toArray, List.getElem_cons_zero, List.getElem_cons_succ]
    go_simp
    refine hK.out _ _ (GA.out) (fun hHeld => ?_)
    clear hK K
    try simp only [Act.put, List.getElem_toArray, List.getElem_cons_zero, List.getElem_cons_succ, List.setIfInBounds_toArray, List.set_cons_zero, List.set_cons_succ]
    refine wpAnyH_ready (rs := [6]) (by kernel_rfl) (by simp) ?_
    refine AllReadyH.cons (i := 6) rfl (fun K hK => ?_) AllReadyH.nil
    rw [if_pos (by rfl)]
    simp only [List.getElem_toArray, List.getElem_cons_zero, List.getElem_cons_succ]
    refine wp_pushSb _ _ 24 rfl Tryd.underlying24 Tryd.info9 W1.heap.size (.slice u.a u.n u.c) gs rfl O.out tt rfl (by omega) (by omega) ?_
    intro v8 w8 o8 g8 nb8
    have Xtx : Hid (OwnS w8 W1.heap.size v8 (gs ++ [tt])) := o8
    have NB : Hid (v8.ownBlock = u.v.ownBlock ∨ v8.ownBlock = some (v5.heap.size + 1)) := nb8
    have G8 : Hid ((v5.alloc (.cells #[.string tt] 9)).grownBy w8 u.v.ownBlock) := g8
    clear o8 g8 nb8
    obtain ⟨un, hf⟩ := OwnS.svs Xtx.out
    subst hf
    have KK := grown_after G8.out
    have N1 : Hid (∀ k, (u.v).ownBlock = some k → W1.heap.size ≤ k ∧ k < v5.heap.size) := OwnS.lt O.out
    have R : Hid (Bx w8 w.heap.size 26 [.int .i64 0, .string ⟨#[]⟩, .slice none 0 0, .string ⟨#[]⟩]) := R.out.grown KK (fun e => by have := (N1.out _ e.symm).1; omega)
    have G : Hid (Bx w8 gm 26 [.int .i64 k0, .string who, .slice u.a u.n u.c, .string t]) := G.out.grown KK (fun e => OG.out e.symm)
    have D : Hid (Drw w w8 B g ao n cap) := drw_grown D.out KK zg1 (by omega) (fun k hk => by have := (N1.out k hk).1; omega)
    have z8 : v5.heap.size ≤ w8.heap.size := KK.size
    have ON : Hid (un.v.ownBlock ≠ some gm) := fun h => by rcases NB.out with e | e; exact OG.out (e ▸ h); have h2 : some (v5.heap.size + 1) = some gm := e.symm.trans h; injection h2 with h2; omega
    refine hK.out _ _ (G.out) (fun hHeld => ?_)
    clear hK K
    try simp only [Act.put, List.getElem_toArray, List.getElem_cons_zero, List.getElem_cons_succ, List.setIfInBounds_toArray, List.set_cons_zero, List.set_cons_succ]
    clear G8 KK GA cl6 NB
    refine wpAnyH_take (i := 7) (v := ?v7) rfl (by kernel_rfl) (by kernel_rfl) (by kernel_rfl) (fun _ _ _ h => h) (Or.inl ⟨by rfl, ?hy7⟩) (by assumption) ?_
    case hy7 => (intro w hSw; (try dsimp only at hSw); simp only [List.getElem_toArray, List.getElem_cons_zero, List.getElem_cons_succ]; go_simp; try with_reducible rfl)
    try simp only [Act.put, List.getElem_toArray, List.getElem_cons_zero, List.getElem_cons_succ, List.setIfInBounds_toArray, List.set_cons_zero, List.set_cons_succ]
    refine wpAnyH_take (i := 8) (v := ?v8) rfl (by kernel_rfl) (by kernel_rfl) (by kernel_rfl) (fun _ _ _ h => h) (Or.inl ⟨by rfl, ?hy8⟩) (by assumption) ?_
    case hy8 => (intro w hSw; (try dsimp only at hSw); simp only [List.getElem_toArray, List.getElem_cons_zero, List.getElem_cons_succ]; go_simp; try with_reducible rfl)
    try simp only [Act.put, List.getElem_toArray, List.getElem_cons_zero, List.getElem_cons_succ, List.setIfInBounds_toArray, List.set_cons_zero, List.set_cons_succ]
    refine wpAnyH_done (by kernel_rfl) ?_ _
    refine lastQ_of rfl rfl ?_
    refine wp_st1 24 _ _ rfl gm 2 rfl 26 _ G.out (.slice un.a un.n un.c) rfl (by simp) rfl Tryd.sizeStrs [.int .i64 k0, .string who, .slice un.a un.n un.c, .string t] rfl ?_
    intro w9 OB TB
    have R : Hid (Bx w9 w.heap.size 26 [.int .i64 0, .string ⟨#[]⟩, .slice none 0 0, .string ⟨#[]⟩]) := R.out.turn TB (by omega)
    have O : Hid (OwnS w9 W1.heap.size un.v (gs ++ [tt])) := OwnS.keep' Xtx.out fun y hy hl => TB.block y (fun e => ON.out (e ▸ hy))
    have D : Hid (Drw w w9 B g ao n cap) := D.out.other (by omega) TB (by omega) (by omega)
    have G : Hid (Bx w9 gm 26 [.int .i64 k0, .string who, .slice un.a un.n un.c, .string t]) := OB
    have z9 : w9.heap.size = w8.heap.size := TB.size
    clear OB TB hHeld Xtx N1
    go_wp2_with (first | (refine wpList_ldG rfl 26 _ rfl gm 0 rfl 26 _ G.out [.int .i64 k0, .string who, .slice un.a un.n un.c, .string t] rfl _ Tryd.underlying26 rfl Tryd.sizeWd ?_) | (refine wpList_stB rfl 26 _ _ rfl w.heap.size 0 rfl 26 _ R.out [.int .i64 k0, .string who, .slice un.a un.n un.c, .string t] rfl (by simp) Tryd.sizeWd rfl [.int .i64 k0, .string who, .slice un.a un.n un.c, .string t] rfl ?_; intro W9 R9 T9; refine Stp.here ?_))
    refine Stp.go ?_
    have O9 : Hid (OwnS W9 W1.heap.size un.v (gs ++ [tt])) := OwnS.keepg O.out T9.keep (by omega)
    have D9 : Hid (Drw w W9 B g ao n cap) := D.out.other (by omega) T9 (Nat.le_refl _) (by omega)
    clear T9
    go_wp2_with fail
    refine bodyPost_ret (results_b Tryd.results36 w.heap.size 26 [.int .i64 k0, .string who, .slice un.a un.n un.c, .string t] _ rfl R9 Tryd.underlying26 rfl Tryd.sizeWd) rfl ?_
    exact ⟨k0, who, gs ++ [tt], t, un, rfl, ⟨hf1, by simp; omega, (fun y hy => by rcases List.mem_append.1 hy with h | h; exact HF3.out y h; rw [List.mem_singleton.1 h]; omega), by omega⟩, OwnS.down O9.out (by omega), D9⟩
  by_cases h3 : x = 3
  · subst h3
    go_wp2_with fail
    refine (below_small w2 w2 B g n cap 2 ao hn hB (by omega) (by omega) D.out.here).mono ?_
    rintro e v1 ⟨⟨y, hy, rfl⟩, hdn⟩
    have kn : KeepBut g w2 v1 := hdn.out.2.2
    have z_v1 : w2.heap.size ≤ v1.heap.size := kn.size
    have R : Hid (Bx v1 w.heap.size 26 [.int .i64 0, .string ⟨#[]⟩, .slice none 0 0, .string ⟨#[]⟩]) := R.out.keepb kn (by omega)
    have G : Hid (Bx v1 gm 26 [.int .i64 k0, .string who, .slice u.a u.n u.c, .string t]) := G.out.keepb kn (by omega)
    have O : Hid (OwnS v1 W1.heap.size u.v gs) := OwnS.keepg O.out kn (by omega)
    have D : Hid (Drw w v1 B g ao n cap) := D.out.back hdn.out
    clear hdn kn
    go_wp2_with fail
    refine (long20 y v1 (by omega)).mono ?_
    rintro e v2 ⟨⟨tt, htt, rfl⟩, b⟩
    have R : Hid (Bx v2 w.heap.size 26 [.int .i64 0, .string ⟨#[]⟩, .slice none 0 0, .string ⟨#[]⟩]) := R.out.later b
    have G : Hid (Bx v2 gm 26 [.int .i64 k0, .string who, .slice u.a u.n u.c, .string t]) := G.out.later b
    have O : Hid (OwnS v2 W1.heap.size u.v gs) := OwnS.keep' O.out (fun y _ hy => Below.block b y hy)
    have D : Hid (Drw w v2 B g ao n cap) := D.out.step hB b
    have z_v2 : v1.heap.size ≤ v2.heap.size := b.size
    clear b
    have c0 := G.out.cell 3
    simp only [List.getElem?_cons_succ, List.getElem?_cons_zero] at c0
    have f0 := G.out.frozen 3
    have T5 := (TurnAt.refl gm v2).setCell 3 (.string tt)
    have R : Hid (Bx (v2.setCell ⟨gm, 3, none⟩ (.string tt)) w.heap.size 26 [.int .i64 0, .string ⟨#[]⟩, .slice none 0 0, .string ⟨#[]⟩]) := R.out.turn T5 (by omega)
    have O : Hid (OwnS (v2.setCell ⟨gm, 3, none⟩ (.string tt)) W1.heap.size u.v gs) := OwnS.keep' O.out fun y hy hl => T5.block y (fun e => OG.out (e ▸ hy))
    have D : Hid (Drw w (v2.setCell ⟨gm, 3, none⟩ (.string tt)) B g ao n cap) := D.out.other (by omega) T5 (by omega) (by omega)
    have G : Hid (Bx (v2.setCell ⟨gm, 3, none⟩ (.string tt)) gm 26 [.int .i64 k0, .string who, .slice u.a u.n u.c, .string tt]) := G.out.set 3 (.string tt)
    have zs : (v2.setCell ⟨gm, 3, none⟩ (.string tt)).heap.size = v2.heap.size := T5.size
    clear T5
    go_wp2_with (first | (refine wpList_ldG rfl 26 _ rfl gm 0 rfl 26 _ G.out [.int .i64 k0, .string who, .slice u.a u.n u.c, .string tt] rfl _ Tryd.underlying26 rfl Tryd.sizeWd ?_) | (refine wpList_stB rfl 26 _ _ rfl w.heap.size 0 rfl 26 _ R.out [.int .i64 k0, .string who, .slice u.a u.n u.c, .string tt] rfl (by simp) Tryd.sizeWd rfl [.int .i64 k0, .string who, .slice u.a u.n u.c, .string tt] rfl ?_; intro W9 R9 T9; refine Stp.here ?_))
    refine Stp.go ?_
    generalize (v2.setCell ⟨gm, 3, none⟩ (.string tt)) = V3 at *
    clear c0 f0
    have O9 : Hid (OwnS W9 W1.heap.size u.v gs) := OwnS.keepg O.out T9.keep (by omega)
    have D9 : Hid (Drw w W9 B g ao n cap) := D.out.other (by omega) T9 (Nat.le_refl _) (by omega)
    clear T9
    go_wp2_with fail
    refine bodyPost_ret (results_b Tryd.results36 w.heap.size 26 [.int .i64 k0, .string who, .slice u.a u.n u.c, .string tt] _ rfl R9 Tryd.underlying26 rfl Tryd.sizeWd) rfl ?_
    exact ⟨k0, who, gs, tt, u, rfl, ⟨hf1, by omega, HF3.out, by omega⟩, OwnS.down O9.out (by omega), D9⟩
  have d0 : ¬ x = 0 := h0
  go_wp2_with (first | (refine wpList_ldG rfl 26 _ rfl gm 0 rfl 26 _ G.out [.int .i64 k0, .string who, .slice u.a u.n u.c, .string t] rfl _ Tryd.underlying26 rfl Tryd.sizeWd ?_) | (refine wpList_stB rfl 26 _ _ rfl w.heap.size 0 rfl 26 _ R.out [.int .i64 k0, .string who, .slice u.a u.n u.c, .string t] rfl (by simp) Tryd.sizeWd rfl [.int .i64 k0, .string who, .slice u.a u.n u.c, .string t] rfl ?_; intro W9 R9 T9; refine Stp.here ?_))
  refine Stp.go ?_
  have O9 : Hid (OwnS W9 W1.heap.size u.v gs) := OwnS.keepg O.out T9.keep (by omega)
  have D9 : Hid (Drw w W9 B g ao n cap) := D.out.other (by omega) T9 (Nat.le_refl _) (by omega)
  clear T9
  go_wp2_with fail
  refine bodyPost_ret (results_b Tryd.results36 w.heap.size 26 [.int .i64 k0, .string who, .slice u.a u.n u.c, .string t] _ rfl R9 Tryd.underlying26 rfl Tryd.sizeWd) rfl ?_
  exact ⟨k0, who, gs, t, u, rfl, ⟨hf1, by omega, HF3.out, by omega⟩, OwnS.down O9.out (by omega), D9⟩
end Go.Proofs.YtmbjflhhffcjdaaDoor


/- DrawWordText, DrawReadWord. Written by gen_wdz.py. -/
namespace Go.Proofs.YtmbjflhhffcjdaaDoor
open Go.RowKit Pl
set_option linter.unusedVariables false
set_option linter.unusedSimpArgs false

theorem code_upw {w : World} {B B' : Nat} {ao : Option Addr} {n : Nat} (h : CodeAt w B ao n) (hB : B ≤ B') : Hid (CodeAt w B' ao n) := by
  intro i hi
  obtain ⟨b, off, z, h1, h2, h3⟩ := h i hi
  exact ⟨b, off, z, h1, Nat.lt_of_lt_of_le h2 hB, h3⟩
set_option maxRecDepth 100000 in
set_option maxHeartbeats 4000000 in
theorem drawWT_any (w : World) (n cap : Nat) (ao : Option Addr) (hn : n ≤ 1048576) (hk : Hid (CodeAt w w.heap.size ao n)) :
    Calls Tryd.prog 10 #[.slice ao n cap] w fun e w' => ∃ (k : Int) (who : ByteArray) (gs : List ByteArray) (t : ByteArray) (u : Sv), e = .returned (.agg #[.int .i64 k, .string who, .slice u.a u.n u.c, .string t]) ∧ WFew who gs t ∧ OwnS w' w.heap.size u.v gs ∧ Below w.heap.size w w' := by
  have HB0 : Hid (Below w.heap.size w (w.alloc (.cells #[.int .i64 0, .string ⟨#[]⟩, .slice none 0 0, .string ⟨#[]⟩] 26))) := (Below.refl _ _).alloc (Nat.le_refl _) _
  have R0 : Hid (Bx (w.alloc (.cells #[.int .i64 0, .string ⟨#[]⟩, .slice none 0 0, .string ⟨#[]⟩] 26)) w.heap.size 26 [.int .i64 0, .string ⟨#[]⟩, .slice none 0 0, .string ⟨#[]⟩]) := Bx.new w 26 _
  go_enter Tryd.func10, Tryd.ntmps10
  go_wp2_with fail
  generalize w.alloc (.cells #[.int .i64 0, .string ⟨#[]⟩, .slice none 0 0, .string ⟨#[]⟩] 26) = W0 at *
  have hW0 := R0.out.lt
  have K0 : Hid (CodeAt W0 w.heap.size ao n) := hk.out.stays HB0.out (Nat.le_refl _)
  refine (new_any W0 n cap ao hn (code_upw K0.out (Nat.le_of_lt hW0))).mono ?_
  rintro e w1 ⟨rfl, hc1, hb1, hs1⟩
  have R1 : Hid (Bx w1 w.heap.size 26 [.int .i64 0, .string ⟨#[]⟩, .slice none 0 0, .string ⟨#[]⟩]) := R0.out.later hb1
  have D1 : Hid (Drw w1 w1 w.heap.size W0.heap.size ao n cap) := Drw.start hc1.out (K0.out.stays hb1 (Nat.le_of_lt hW0))
  have B1 : Hid (Below w.heap.size w w1) := HB0.out.trans (hb1.mono HB0.out.size)
  clear hc1 hb1 R0 K0 HB0 hk
  go_wp2_with fail
  generalize W0.heap.size = gc at *
  refine (anyWord_any w1 w1 w.heap.size gc n cap ao hn (by omega) D1).mono ?_
  rintro e w2 ⟨k, who, gs, t, u, rfl, hf, hv, hd2⟩
  have R2 : Hid (Bx w2 w.heap.size 26 [.int .i64 0, .string ⟨#[]⟩, .slice none 0 0, .string ⟨#[]⟩]) := R1.out.keepb hd2.out.2.2 (by omega)
  have B2 : Hid (Below w.heap.size w w2) := B1.out.trans (hd2.out.2.2.below (by omega) B1.out.size)
  have V2 : Hid (OwnS w2 w1.heap.size u.v gs) := hv
  have HF : Hid (WFew who gs t) := hf
  have zz : w.heap.size < w1.heap.size := R1.out.lt
  clear hd2 D1 R1 B1 hv hf
  go_wp2_with (first | (with_reducible refine wpList_haltS 26 _ _ rfl ?_))
  refine Stp.go ?_
  refine wpList_stB rfl 26 _ _ rfl w.heap.size 0 rfl 26 _ R2.out [.int .i64 k, .string who, .slice u.a u.n u.c, .string t] rfl (by simp) Tryd.sizeWd rfl [.int .i64 k, .string who, .slice u.a u.n u.c, .string t] rfl ?_
  intro W9 R9 T9
  have B9 : Hid (Below w.heap.size w W9) := B2.out.trans (T9.below (Nat.le_refl _))
  have V9 : Hid (OwnS W9 w1.heap.size u.v gs) := OwnS.keepg V2.out T9.keep (by omega)
  clear T9
  go_wp2_with fail
  refine bodyPost_ret (results_b Tryd.results10 w.heap.size 26 [.int .i64 k, .string who, .slice u.a u.n u.c, .string t] _ rfl R9 Tryd.underlying26 rfl Tryd.sizeWd) rfl ?_
  exact ⟨k, who, gs, t, u, rfl, HF.out, OwnS.down V9.out (Nat.le_of_lt zz), B9.out⟩
theorem spText_few (k : Int) (who : ByteArray) (gs : List ByteArray) (t : ByteArray) (u : Sv) (w : World) (hx : Hid (RT w u.v gs)) (hl : gs.length ≤ 1048576) :
    Calls Tryd.prog 21 #[.agg #[.int .i64 k, .string who, .slice u.a u.n u.c, .string t]] w fun e w' => (∃ (T : ByteArray) (K : Bool), e = .returned (.tuple #[.string T, .bool K]) ∧ T.size ≤ 200) ∧ Below w.heap.size w w' := by
  cases hk : wdB k who gs t with
  | false => exact (spWordText_no k who gs t u w hx hl hk).mono fun e w' ⟨h1, h2⟩ => ⟨⟨_, _, h1, by decide⟩, h2⟩
  | true =>
    obtain ⟨K, rfl, ho⟩ := wdB_nat hk
    exact (spWordText_yes K who gs t u w hx ho).mono fun e w' ⟨h1, h2⟩ => ⟨⟨_, _, h1, wordS_size ho⟩, h2⟩
set_option maxRecDepth 100000 in
set_option maxHeartbeats 4000000 in
theorem drawRW_any (w : World) (n cap : Nat) (ao : Option Addr) (hn : n ≤ 1048576) (hk : Hid (CodeAt w w.heap.size ao n)) :
    Calls Tryd.prog 16 #[.slice ao n cap] w fun e w' => (∃ t : ByteArray, t.size ≤ 9000 ∧ e = .returned (.string t)) ∧ Below w.heap.size w w' := by
  go_enter Tryd.func16, Tryd.ntmps16
  go_wp2_with fail
  refine (new_any w n cap ao hn hk).mono ?_
  rintro e w1 ⟨rfl, hc1, hb1, hs1⟩
  have D1 : Hid (Drw w1 w1 w.heap.size w.heap.size ao n cap) := Drw.start hc1.out (hk.out.stays hb1 (Nat.le_refl _))
  have B1 : Hid (Below w.heap.size w w1) := hb1
  clear hc1 hb1 hk
  go_wp2_with fail
  refine (anyWord_any w1 w1 w.heap.size w.heap.size n cap ao hn (Nat.le_refl _) D1).mono ?_
  rintro e w2 ⟨k, who, gs, t, u, rfl, hf, hv, hd2⟩
  have V2 : Hid (OwnS w2 w1.heap.size u.v gs) := hv
  have D2 : Hid (Drw w1 w2 w.heap.size w.heap.size ao n cap) := hd2
  obtain ⟨hf1, hf2, hf3, hf4⟩ := hf
  clear hd2 D1 hv hf3
  go_wp2_with fail
  refine (spText_few k who gs t u w2 (show Hid (RT w2 u.v gs) from OwnS.texts V2.out) (by omega)).mono ?_
  rintro e w3 ⟨⟨T, K, rfl, hT⟩, b⟩
  have D3 : Hid (Drw w1 w3 w.heap.size w.heap.size ao n cap) := D2.out.step (Nat.le_refl _) b
  clear b V2 D2
  go_wp2_with fail
  refine (spoilt_big w1 w3 w.heap.size w.heap.size n cap ao T hn (Nat.le_refl _) (by omega) D3).mono ?_
  rintro e w4 ⟨⟨tt, htt, rfl⟩, hd4⟩
  have B4 : Hid (Below w.heap.size w w4) := B1.out.trans (hd4.out.2.2.below (Nat.le_refl _) B1.out.size)
  clear hd4 D3
  go_wp2_with fail
  go_ret
  exact ⟨⟨tt, by omega, rfl⟩, B4.out⟩
end Go.Proofs.YtmbjflhhffcjdaaDoor


/- The program's WordText. Written by gen_wtx.py. -/
namespace Go.Proofs.YtmbjflhhffcjdaaDoor
open Go.RowKit Pl
set_option linter.unusedVariables false
set_option linter.unusedSimpArgs false

theorem shortOf_any (s : ByteArray) (w : World) (hs : s.size ≤ 20000) :
    Calls Tryd.prog 39 #[.string s] w fun e w' => e = .returned (.string (shT s)) ∧ Below w.heap.size w w' := by
  go_enter Tryd.func39, Tryd.ntmps39
  go_wp2_with fail
  refine (implShort_in s _ hs).mono ?_
  rintro e w1 ⟨rfl, b⟩
  go_wp2_with fail
  go_ret
  exact ⟨rfl, b⟩
set_option maxRecDepth 100000 in
set_option maxHeartbeats 2000000 in
theorem textShorts_any (s : Sv) (ts : List ByteArray) (w : World) (hx : Hid (RT w s.v ts)) (hl : ts.length ≤ 3) (hz : Hid (∀ x ∈ ts, x.size ≤ 12)) :
    Calls Tryd.prog 40 #[.slice s.a s.n s.c] w fun e w' => e = .returned (.string (tsS (varS ts.length) ts)) ∧ Below w.heap.size w w' := by
  obtain ⟨ao, cap, hv, hx0⟩ := hx.out
  have HX : Hid (TextsAt w ao ts) := hx0
  unfold Sv.v at hv
  rw [hv]
  clear hv hx hx0
  have z0 : (varS ts.length).size ≤ 5 := by rw [rt_size, varS_list]; exact varL_len (by omega)
  go_enter Tryd.func40, Tryd.ntmps40
  go_wp2_with fail
  refine (varOf_any ts.length _ (by omega)).mono ?_
  rintro e w1 ⟨rfl, hb1⟩
  have B1 : Hid (Below w.heap.size w w1) := hb1
  clear hb1
  go_wp2_with fail
  go_loopw [3, 11] (fun tx i wr => ∃ (k : Nat) (S : ByteArray), k ≤ ts.length ∧ tx = .string S ∧ i = .int .i64 k ∧ S.size ≤ 5 + 17 * k ∧ Hid (S = tsS (varS ts.length) (ts.take k)) ∧ Hid (Below w.heap.size w wr)) (fun _ i _ => ts.length - (intOf i).toNat)
  case atStart => exact ⟨0, varS ts.length, Nat.zero_le _, rfl, rfl, by omega, rfl, B1.out⟩
  case round =>
    clear B1
    obtain ⟨k, S, hk, rfl, rfl, hS, hSS, hB⟩ := hrel
    by_cases hlt : k < ts.length
    · obtain ⟨b, off, rfl, hbb, c0⟩ := HX.out.stays hB.out k hlt
      obtain ⟨x, hxe⟩ : ∃ x, x = ts[k] := ⟨_, rfl⟩
      have XE : Hid (x = ts[k]) := hxe
      have hxz : x.size ≤ 12 := by rw [hxe]; exact hz.out _ (List.getElem_mem hlt)
      rw [← hxe] at c0
      clear hxe
      have i0 : (0 : Int) ≤ (k : Int) := by omega
      have i1 : (k : Int) < (ts.length : Int) := by omega
      go_wp2_with fail
      refine (shortOf_any x _ (by omega)).mono ?_
      rintro e w2 ⟨rfl, hb2⟩
      have B2 : Hid (Below w.heap.size w w2) := bl_next hB.out hb2
      have hz2 := shT_size (t := x) (by omega)
      clear hb2 c0 hB
      generalize hI : shT x = I at *
      have HII : Hid (shT x = I) := hI
      clear hI
      have mx : ¬9223372036854775807 < S.size + I.size := by omega
      go_wp2_with fail
      go_roundw
      case rel =>
        refine ⟨k + 1, _, by omega, rfl, by go_num, by rw [ByteArray.size_append]; omega, ?_, B2.out⟩
        show _ = _
        rw [tsS_next ts _ k hlt, ← hSS.out, ← XE.out, HII.out]
      case measure => simp [intOf]; omega
    · have HS : Hid (S = tsS (varS ts.length) ts) := by
        have := hSS.out
        rw [List.take_of_length_le (by omega)] at this
        exact this
      go_wp2_with fail
      go_ret
      exact ⟨by rw [HS.out]; rfl, hB.out⟩
set_option maxRecDepth 100000 in
set_option maxHeartbeats 2000000 in
theorem wordText_no (k : Int) (who : ByteArray) (gs : List ByteArray) (t : ByteArray) (s : Sv) (w : World) (hx : Hid (RT w s.v gs)) (hl : gs.length ≤ 1048576) (hz : Hid (∀ x ∈ gs, x.size ≤ 1048576)) (hw : who.size ≤ 1048576) (hk : Hid (wdB k who gs t = false)) :
    Calls Tryd.prog 11 #[.agg #[.int .i64 k, .string who, .slice s.a s.n s.c, .string t]] w fun e w' => e = .returned (.tuple #[.string ByteArray.empty, .bool false]) ∧ Below w.heap.size w w' := by
  have LA : Hid (Bx (w.alloc (.cells #[.int .i64 k, .string who, .slice s.a s.n s.c, .string t] 26)) w.heap.size 26 [.int .i64 k, .string who, .slice s.a s.n s.c, .string t]) := by
    have h := Bx.new w 26 [.int .i64 k, .string who, .slice s.a s.n s.c, .string t]
    exact h
  have BW : Hid (Below w.heap.size w (w.alloc (.cells #[.int .i64 k, .string who, .slice s.a s.n s.c, .string t] 26))) := ((Below.refl _ _).alloc (by simp) _)
  have HX : Hid (RT (w.alloc (.cells #[.int .i64 k, .string who, .slice s.a s.n s.c, .string t] 26)) s.v gs) := hx.out.stays BW.out
  clear hx
  go_enter Tryd.func11, Tryd.ntmps11
  go_wp2_with (first | (refine wpList_ldG rfl 26 _ rfl w.heap.size 0 rfl 26 _ LA.out [.int .i64 k, .string who, .slice s.a s.n s.c, .string t] rfl _ Tryd.underlying26 rfl Tryd.sizeWd ?_))
  refine (wordOk_any k who gs t s _ HX hl hz hw).mono ?_
  rintro e w1 ⟨rfl, b⟩
  rw [hk.out]
  have BW : Hid (Below w.heap.size w w1) := bl_next BW.out b
  clear b LA
  go_wp2_with fail
  go_ret2
  exact ⟨rfl, BW.out⟩
set_option maxRecDepth 100000 in
set_option maxHeartbeats 4000000 in
theorem wordText_yes (k : Nat) (who : ByteArray) (gs : List ByteArray) (t : ByteArray) (s : Sv) (w : World) (hx : Hid (RT w s.v gs)) (ho : Hid (WdOk k who gs t)) :
    Calls Tryd.prog 11 #[.agg #[.int .i64 (k : Int), .string who, .slice s.a s.n s.c, .string t]] w fun e w' => e = .returned (.tuple #[.string (wordS k who gs t), .bool true]) ∧ Below w.heap.size w w' := by
  obtain ⟨n1, n2, n3, n4, n5, n6⟩ := ho.out.nats
  have HZ : Hid (∀ x ∈ gs, x.size ≤ 12) := n5
  have HZ2 : Hid (∀ x ∈ gs, x.size ≤ 1048576) := fun x hx => by have := n5 x hx; omega
  have HK : Hid (wdB k who gs t = true) := ho.out
  have HE := wordS_impl k who gs t
  obtain ⟨K, hK⟩ : ∃ K, byteS k = K := ⟨_, rfl⟩
  obtain ⟨U, hU⟩ : ∃ U, shT who = U := ⟨_, rfl⟩
  obtain ⟨G, hG⟩ : ∃ G, tsS (varS gs.length) gs = G := ⟨_, rfl⟩
  obtain ⟨X, hX⟩ : ∃ X, shT t = X := ⟨_, rfl⟩
  have zK : K.size = 1 := by rw [← hK, rt_size, byteS_list]; rfl
  have zU : U.size ≤ 20 := by have := shT_size (t := who) (by omega); rw [hU] at this; omega
  have zX : X.size ≤ 25 := by have := shT_size (t := t) (by omega); rw [hX] at this; omega
  have zG : G.size ≤ 60 := by
    have z := tsS_size gs (varS gs.length) n5
    have z0 : (varS gs.length).size ≤ 5 := by rw [rt_size, varS_list]; exact varL_len (by omega)
    rw [hG] at z; omega
  rw [hK, hU, hG, hX] at HE
  have EE : Hid (K ++ U ++ G ++ X = wordS k who gs t) := HE
  have EK : Hid (byteS k = K) := hK
  have EU : Hid (shT who = U) := hU
  have EG : Hid (tsS (varS gs.length) gs = G) := hG
  have EX : Hid (shT t = X) := hX
  clear HE hK hU hG hX n5
  have x1 : (K ++ U).size = K.size + U.size := ByteArray.size_append
  have x2 : (K ++ U ++ G).size = K.size + U.size + G.size := by rw [ByteArray.size_append, x1]
  have m1 : 1 + U.size ≤ 9223372036854775807 := by omega
  have m2 : 1 + U.size + G.size ≤ 9223372036854775807 := by omega
  have m3 : 1 + U.size + G.size + X.size ≤ 9223372036854775807 := by omega
  have LA : Hid (Bx (w.alloc (.cells #[.int .i64 (k : Int), .string who, .slice s.a s.n s.c, .string t] 26)) w.heap.size 26 [.int .i64 (k : Int), .string who, .slice s.a s.n s.c, .string t]) := by
    have h := Bx.new w 26 [.int .i64 (k : Int), .string who, .slice s.a s.n s.c, .string t]
    exact h
  have BW : Hid (Below w.heap.size w (w.alloc (.cells #[.int .i64 (k : Int), .string who, .slice s.a s.n s.c, .string t] 26))) := ((Below.refl _ _).alloc (by simp) _)
  have HX : Hid (RT (w.alloc (.cells #[.int .i64 (k : Int), .string who, .slice s.a s.n s.c, .string t] 26)) s.v gs) := hx.out.stays BW.out
  clear hx
  go_enter Tryd.func11, Tryd.ntmps11
  go_wp2_with (first | (refine wpList_ldG rfl 26 _ rfl w.heap.size 0 rfl 26 _ LA.out [.int .i64 (k : Int), .string who, .slice s.a s.n s.c, .string t] rfl _ Tryd.underlying26 rfl Tryd.sizeWd ?_))
  generalize (w.alloc (.cells #[.int .i64 (k : Int), .string who, .slice s.a s.n s.c, .string t] 26)) = W0 at *
  refine (wordOk_any k who gs t s _ HX (by omega) HZ2 (by omega)).mono ?_
  rintro e w1 ⟨rfl, b⟩
  have z_w1 : W0.heap.size ≤ w1.heap.size := b.size
  have LA : Hid (Bx w1 w.heap.size 26 [.int .i64 (k : Int), .string who, .slice s.a s.n s.c, .string t]) := LA.out.later b
  have BW : Hid (Below w.heap.size w w1) := bl_next BW.out b
  have HX : Hid (RT w1 s.v gs) := HX.out.stays b
  clear b
  rw [HK.out]
  go_wp2_with fail
  refine quietC (C := fun w' => Below w1.heap.size w1 w') (by kernel_rfl) (by kernel_rfl) (Below.refl _ _).drew ?_
  go_big_quiet_want
  refine q_val (.pointer (some ⟨w.heap.size, 0, none⟩)) (fun w' hw' => by go_simp) ?_
  go_big_quiet_on
  simp only [Act.put, List.setIfInBounds_toArray, List.set_cons_zero, List.set_cons_succ]
  go_big_quiet_want
  refine q_val (.int .i64 k) (fun w' hw' => by have r0 : w'.cell? ⟨w.heap.size, 0, none⟩ = some (.int .i64 k) := (LA.out.later hw').cell 0; go_simp) ?_
  go_big_quiet_on
  simp only [Act.put, List.setIfInBounds_toArray, List.set_cons_zero, List.set_cons_succ]
  go_big_quiet_want
  refine q_callB (W := w1) (.string K) 38 #[(.int .i64 k)] (fun w' hw' => by go_simp) (fun w' hw' => (byteOf_any k w' (by omega)).mono fun e w'' ⟨h1, h2⟩ => ⟨by rw [h1, EK.out], h2⟩) ?_
  go_big_quiet_on
  simp only [Act.put, List.setIfInBounds_toArray, List.set_cons_zero, List.set_cons_succ]
  go_big_quiet_want
  refine q_val (.pointer (some ⟨w.heap.size, 1, none⟩)) (fun w' hw' => by go_simp) ?_
  go_big_quiet_on
  simp only [Act.put, List.setIfInBounds_toArray, List.set_cons_zero, List.set_cons_succ]
  go_big_quiet_want
  refine q_val (.string who) (fun w' hw' => by have r1 : w'.cell? ⟨w.heap.size, 1, none⟩ = some (.string who) := (LA.out.later hw').cell 1; go_simp) ?_
  go_big_quiet_on
  simp only [Act.put, List.setIfInBounds_toArray, List.set_cons_zero, List.set_cons_succ]
  go_big_quiet_want
  refine q_callB (W := w1) (.string U) 39 #[(.string who)] (fun w' hw' => by go_simp) (fun w' hw' => (shortOf_any who w' (by omega)).mono fun e w'' ⟨h1, h2⟩ => ⟨by rw [h1, EU.out], h2⟩) ?_
  go_big_quiet_on
  simp only [Act.put, List.setIfInBounds_toArray, List.set_cons_zero, List.set_cons_succ]
  go_big_quiet_want
  refine q_val (.string (K ++ U)) (fun w' hw' => by go_simp) ?_
  go_big_quiet_on
  simp only [Act.put, List.setIfInBounds_toArray, List.set_cons_zero, List.set_cons_succ]
  go_big_quiet_want
  refine q_val (.pointer (some ⟨w.heap.size, 2, none⟩)) (fun w' hw' => by go_simp) ?_
  go_big_quiet_on
  simp only [Act.put, List.setIfInBounds_toArray, List.set_cons_zero, List.set_cons_succ]
  go_big_quiet_want
  refine q_val (.slice s.a s.n s.c) (fun w' hw' => by have r2 : w'.cell? ⟨w.heap.size, 2, none⟩ = some (.slice s.a s.n s.c) := (LA.out.later hw').cell 2; go_simp) ?_
  go_big_quiet_on
  simp only [Act.put, List.setIfInBounds_toArray, List.set_cons_zero, List.set_cons_succ]
  go_big_quiet_want
  refine q_callB (W := w1) (.string G) 40 #[(.slice s.a s.n s.c)] (fun w' hw' => by go_simp) (fun w' hw' => (textShorts_any s gs w' (show Hid (RT w' s.v gs) from HX.out.stays hw') (by omega) HZ).mono fun e w'' ⟨h1, h2⟩ => ⟨by rw [h1, EG.out], h2⟩) ?_
  go_big_quiet_on
  simp only [Act.put, List.setIfInBounds_toArray, List.set_cons_zero, List.set_cons_succ]
  go_big_quiet_want
  refine q_val (.string (K ++ U ++ G)) (fun w' hw' => by go_simp) ?_
  go_big_quiet_on
  simp only [Act.put, List.setIfInBounds_toArray, List.set_cons_zero, List.set_cons_succ]
  go_big_quiet_want
  refine q_val (.pointer (some ⟨w.heap.size, 3, none⟩)) (fun w' hw' => by go_simp) ?_
  go_big_quiet_on
  simp only [Act.put, List.setIfInBounds_toArray, List.set_cons_zero, List.set_cons_succ]
  go_big_quiet_want
  refine q_val (.string t) (fun w' hw' => by have r3 : w'.cell? ⟨w.heap.size, 3, none⟩ = some (.string t) := (LA.out.later hw').cell 3; go_simp) ?_
  go_big_quiet_on
  simp only [Act.put, List.setIfInBounds_toArray, List.set_cons_zero, List.set_cons_succ]
  go_big_quiet_want
  refine q_callB (W := w1) (.string X) 39 #[(.string t)] (fun w' hw' => by go_simp) (fun w' hw' => (shortOf_any t w' (by omega)).mono fun e w'' ⟨h1, h2⟩ => ⟨by rw [h1, EX.out], h2⟩) ?_
  go_big_quiet_on
  simp only [Act.put, List.setIfInBounds_toArray, List.set_cons_zero, List.set_cons_succ]
  go_big_quiet_want
  refine q_val (.string (K ++ U ++ G ++ X)) (fun w' hw' => by go_simp) ?_
  go_big_quiet_on
  simp only [Act.put, List.setIfInBounds_toArray, List.set_cons_zero, List.set_cons_succ]
  go_big_quiet_want
  refine q_val (.string (K ++ U ++ G ++ X)) (fun w' hw' => by go_simp) ?_
  go_big_quiet_on
  simp only [Act.put, List.setIfInBounds_toArray, List.set_cons_zero, List.set_cons_succ]
  go_big_quiet_want
  refine q_val (.bool true) (fun w' hw' => by go_simp) ?_
  go_big_quiet_on
  simp only [Act.put, List.setIfInBounds_toArray, List.set_cons_zero, List.set_cons_succ]
  refine wpQuiet_nil ?_
  intro w2 c2
  go_wp2_with fail
  go_ret2
  exact ⟨by rw [← EE.out]; rfl, bl_next BW.out c2⟩
end Go.Proofs.YtmbjflhhffcjdaaDoor


/- The specification's ReadWord. Written by gen_sbw.py. -/
namespace Go.Proofs.YtmbjflhhffcjdaaDoor
open Go.RowKit Pl
set_option linter.unusedVariables false
set_option linter.unusedSimpArgs false

theorem ShF.good {s t t' : ByteArray} {A i j : Nat} {b : Bool} (h : ShF s A false t i b) (hr : shP s A = some (t', j)) : t = t' ∧ i = j ∧ b = false := by
  obtain ⟨n, k, b1, h1, h2⟩ := h
  rcases h0 : rv s A with _ | ⟨m, p⟩
  · rw [shP_none h0] at hr; cases hr
  · obtain ⟨rfl, rfl, rfl⟩ := h1.good h0
    by_cases hb : n ≤ 20000 ∧ k + n ≤ s.size
    · rw [shP_some h0 hb.1 hb.2] at hr
      simp only [Option.some.injEq, Prod.mk.injEq] at hr
      obtain ⟨rfl, rfl⟩ := hr
      exact h2.good hb.2
    · rw [shP_bad h0 (by omega)] at hr; cases hr
theorem ne_list {a b : ByteArray} (h : a ≠ b) : (a.toList == b.toList) = false := by
  rw [ByteArray.toList_eq, ByteArray.toList_eq, beq_eq_false_iff_ne]
  intro e
  exact h (rt_ext e)
/-- the state of the specification's loop behind j texts. -/
def SpT (s : ByteArray) (A0 : Nat) (b0 : Bool) (n j Aj : Nat) (bj : Bool) (xs : List ByteArray) : Prop :=
  ∀ (ts : List ByteArray) (i : Nat), n ≤ 20 → b0 = false → txsP s A0 n = some (ts, i) → bj = false ∧ ∃ l, txsP s Aj (n - j) = some (l, i) ∧ ts = xs ++ l
theorem spt_start (s : ByteArray) (A0 : Nat) (b0 : Bool) (n : Nat) : SpT s A0 b0 n 0 A0 b0 [] := fun ts i _ hb h => ⟨hb, ts, h, rfl⟩
theorem spt_next {s t : ByteArray} {A0 n j Aj i2 : Nat} {b0 b2 : Bool} {xs : List ByteArray} (h : SpT s A0 b0 n j Aj false xs) (hj : j < n) (hv : ShF s Aj false t i2 b2) : SpT s A0 b0 n (j + 1) i2 b2 (xs ++ [t]) := by
  intro ts i hn hb hp
  obtain ⟨_, ll, h1, h2⟩ := h ts i hn hb hp
  obtain ⟨d, hd⟩ : ∃ d, n - j = d + 1 := ⟨n - j - 1, by omega⟩
  have hd' : n - (j + 1) = d := by omega
  rw [hd] at h1
  rw [hd']
  rcases h0 : shP s Aj with _ | ⟨t', i'⟩
  · rw [txsP_no h0] at h1; cases h1
  · obtain ⟨rfl, rfl, rfl⟩ := hv.good h0
    rw [txsP_some h0] at h1
    rcases h3 : txsP s i2 d with _ | ⟨l', e⟩
    · rw [h3] at h1; cases h1
    · rw [h3] at h1
      simp only [Option.map_some, Option.some.injEq, Prod.mk.injEq] at h1
      obtain ⟨rfl, rfl⟩ := h1
      exact ⟨rfl, l', rfl, by rw [h2]; simp⟩
theorem spt_end {s : ByteArray} {A0 n j Aj : Nat} {b0 bj : Bool} {xs : List ByteArray} (h : SpT s A0 b0 n j Aj bj xs) (hj : j ≤ n) (he : n ≤ j ∨ 20 ≤ j ∨ bj = true) : ∀ (ts : List ByteArray) (i : Nat), n ≤ 20 → b0 = false → txsP s A0 n = some (ts, i) → bj = false ∧ xs = ts ∧ Aj = i := by
  intro ts i hn hb hp
  obtain ⟨h0, l, h1, h2⟩ := h ts i hn hb hp
  have : n - j = 0 := by
    rcases he with he | he | he
    · omega
    · omega
    · rw [h0] at he; cases he
  rw [this] at h1
  simp only [txsP, Option.some.injEq, Prod.mk.injEq] at h1
  obtain ⟨rfl, rfl⟩ := h1
  exact ⟨h0, by rw [h2]; simp, rfl⟩
/-- what the specification's reader has found of a word. -/
def FndW (s : ByteArray) (k : Nat) (who : ByteArray) (gs : List ByteArray) (t : ByteArray) (bad : Bool) : Prop :=
  ∃ i0 b1 i1 b2 n i2 b3 Aj bj iz, OneF s 0 false k i0 b1 ∧ ShF s i0 b1 who i1 b2 ∧ VarF s i1 b2 n i2 b3 ∧ (∀ (ts : List ByteArray) (i : Nat), n ≤ 20 → b3 = false → txsP s i2 n = some (ts, i) → bj = false ∧ gs = ts ∧ Aj = i) ∧ ShF s Aj bj t iz bad
theorem FndW.found {s who t who' t' : ByteArray} {k k' : Nat} {gs gs' : List ByteArray} {bad : Bool} (h : FndW s k who gs t bad) (hs : s.data.toList = wordL k' who' gs' t') (ho : WdOk k' who' gs' t') : k = k' ∧ who = who' ∧ gs = gs' ∧ t = t' ∧ bad = false := by
  obtain ⟨j0, j1, j2, j3, h0, h1, h2, h3, h4⟩ := word_at hs ho
  obtain ⟨_, _, _, n3, _⟩ := ho.nats
  obtain ⟨i0, b1, i1, b2, n, i2, b3, Aj, bj, iz, g0, g1, g2, g3, g4⟩ := h
  obtain ⟨rfl, rfl, rfl⟩ := g0.good h0
  obtain ⟨rfl, rfl, rfl⟩ := g1.good h1
  obtain ⟨rfl, rfl, rfl⟩ := g2.good h2
  obtain ⟨rfl, rfl, rfl⟩ := g3 _ _ (by omega) rfl h3
  obtain ⟨rfl, _, rfl⟩ := g4.good h4
  exact ⟨rfl, rfl, rfl, rfl, rfl⟩
theorem ansW_missed {s who t : ByteArray} {k : Nat} {gs : List ByteArray} {bad : Bool} (h : FndW s k who gs t bad) (hb : bad = true ∨ ¬ WdOk k who gs t ∨ wordS k who gs t ≠ s) : AnsW s 0 ByteArray.empty [] ByteArray.empty false := by
  refine .inr ⟨rfl, rfl, rfl, rfl, rfl, fun k' who' gs' t' ho e => ?_⟩
  obtain ⟨rfl, rfl, rfl, rfl, rfl⟩ := h.found e ho
  rcases hb with hb | hb | hb
  · cases hb
  · exact hb ho
  · exact hb (rt_ext ((wordS_list k who gs t).trans e.symm))
theorem spWordText_two (k : Nat) (who : ByteArray) (gs : List ByteArray) (t : ByteArray) (hl : gs.length ≤ 1048576) : ∃ (T : ByteArray) (K : Bool), ((K = true ∧ WdOk k who gs t ∧ T = wordS k who gs t) ∨ (K = false ∧ ¬ WdOk k who gs t ∧ T = ByteArray.empty)) ∧
    ∀ (u : Sv) (w : World), Hid (RT w u.v gs) → Calls Tryd.prog 21 #[.agg #[.int .i64 k, .string who, .slice u.a u.n u.c, .string t]] w fun e w' => e = .returned (.tuple #[.string T, .bool K]) ∧ Below w.heap.size w w' := by
  cases hk : wdB k who gs t with
  | false => exact ⟨_, _, .inr ⟨rfl, by unfold WdOk; rw [hk]; exact Bool.false_ne_true, rfl⟩, fun u w h => spWordText_no k who gs t u w h hl hk⟩
  | true => exact ⟨_, _, .inl ⟨rfl, hk, rfl⟩, fun u w h => spWordText_yes k who gs t u w h hk⟩

set_option maxRecDepth 100000 in
set_option maxHeartbeats 16000000 in
theorem spReadWord_any (s : ByteArray) (w : World) (hs : s.size ≤ 1048576) :
    Calls Tryd.prog 17 #[.string s] w fun e w' => ∃ (k : Nat) (who : ByteArray) (gs : List ByteArray) (t : ByteArray) (ok : Bool) (u : Sv), e = .returned (.tuple #[.agg #[.int .i64 k, .string who, .slice u.a u.n u.c, .string t], .bool ok]) ∧ AnsW s k who gs t ok ∧ OwnS w' w.heap.size u.v gs ∧ Below w.heap.size w w' := by
  have hn1 : (w.alloc (.cells #[.int .i64 0, .string ⟨#[]⟩, .slice none 0 0, .string ⟨#[]⟩] 26)).heap.size = w.heap.size + 1 := by simp
  have R2 : Hid (Bx ((w.alloc (.cells #[.int .i64 0, .string ⟨#[]⟩, .slice none 0 0, .string ⟨#[]⟩] 26)).alloc (.cells #[.string s, .int .i64 0, .bool false] 79)) w.heap.size 26 [.int .i64 0, .string ⟨#[]⟩, .slice none 0 0, .string ⟨#[]⟩]) := by
    have h := Bx.new w 26 [.int .i64 0, .string ⟨#[]⟩, .slice none 0 0, .string ⟨#[]⟩]
    exact h.later ((Below.refl _ _).alloc (Nat.le_refl _) _)
  have P2 : Hid (PcAt ((w.alloc (.cells #[.int .i64 0, .string ⟨#[]⟩, .slice none 0 0, .string ⟨#[]⟩] 26)).alloc (.cells #[.string s, .int .i64 0, .bool false] 79)) (w.heap.size + 1) s 0 false) := by
    have h := heap_alloc_new (w.alloc (.cells #[.int .i64 0, .string ⟨#[]⟩, .slice none 0 0, .string ⟨#[]⟩] 26)) (.cells #[.string s, .int .i64 0, .bool false] 79)
    rw [hn1] at h
    exact h
  have B2 : Hid (Below w.heap.size w ((w.alloc (.cells #[.int .i64 0, .string ⟨#[]⟩, .slice none 0 0, .string ⟨#[]⟩] 26)).alloc (.cells #[.string s, .int .i64 0, .bool false] 79))) := (((Below.refl _ _).alloc (by simp) _).alloc (by simp; try omega) _)
  go_enter Tryd.func17, Tryd.ntmps17
  go_wp2_with fail
  generalize ((w.alloc (.cells #[.int .i64 0, .string ⟨#[]⟩, .slice none 0 0, .string ⟨#[]⟩] 26)).alloc (.cells #[.string s, .int .i64 0, .bool false] 79)) = W1 at *
  have hgc : w.heap.size < w.heap.size + 1 := by omega
  generalize w.heap.size + 1 = gc at *
  clear hn1
  refine (one_any s gc 0 false W1 P2 (by omega) (Nat.zero_le _)).mono ?_
  rintro e w2 ⟨k, i0, b1, rfl, hk, hi0, hp, ht, hF⟩
  have F0 : Hid (OneF s 0 false k i0 b1) := hF
  have R3 : Hid (Bx w2 w.heap.size 26 [.int .i64 0, .string ⟨#[]⟩, .slice none 0 0, .string ⟨#[]⟩]) := R2.out.turn ht (by omega)
  have P3 : Hid (PcAt w2 gc s i0 b1) := hp
  have B3 : Hid (Below w.heap.size w w2) := B2.out.trans (ht.below (by omega))
  have hN3 := P3.out.lt
  clear hF hp ht R2 P2 B2
  have D3 : Below w2.heap.size w2 (w2.alloc (.cells #[.int .i64 k, .string ⟨#[]⟩, .slice none 0 0, .string ⟨#[]⟩] 26)) := (Below.refl _ _).alloc (Nat.le_refl _) _
  have R4 : Hid (Bx (w2.alloc (.cells #[.int .i64 k, .string ⟨#[]⟩, .slice none 0 0, .string ⟨#[]⟩] 26)) w.heap.size 26 [.int .i64 0, .string ⟨#[]⟩, .slice none 0 0, .string ⟨#[]⟩]) := R3.out.later D3
  have G4 : Hid (Bx (w2.alloc (.cells #[.int .i64 k, .string ⟨#[]⟩, .slice none 0 0, .string ⟨#[]⟩] 26)) w2.heap.size 26 [.int .i64 k, .string ⟨#[]⟩, .slice none 0 0, .string ⟨#[]⟩]) := Bx.new w2 26 _
  have P4 : Hid (PcAt (w2.alloc (.cells #[.int .i64 k, .string ⟨#[]⟩, .slice none 0 0, .string ⟨#[]⟩] 26)) gc s i0 b1) := P3.out.stays D3 hN3
  have B4 : Hid (Below w.heap.size w (w2.alloc (.cells #[.int .i64 k, .string ⟨#[]⟩, .slice none 0 0, .string ⟨#[]⟩] 26))) := bl_next B3.out D3
  clear D3 R3 P3 B3
  go_wp2_with fail
  generalize w2.alloc (.cells #[.int .i64 k, .string ⟨#[]⟩, .slice none 0 0, .string ⟨#[]⟩] 26) = W4 at *
  generalize w2.heap.size = gm at *
  refine (lshort_any s gc i0 b1 W4 P4 (by omega) hi0).mono ?_
  rintro e v1 ⟨who, i1, b2, rfl, hi1, hp, hkb, hF⟩
  have F1 : Hid (ShF s i0 b1 who i1 b2) := hF
  have R5 : Hid (Bx v1 w.heap.size 26 [.int .i64 0, .string ⟨#[]⟩, .slice none 0 0, .string ⟨#[]⟩]) := R4.out.keepb hkb (by omega)
  have G5 : Hid (Bx v1 gm 26 [.int .i64 k, .string ⟨#[]⟩, .slice none 0 0, .string ⟨#[]⟩]) := G4.out.keepb hkb (by omega)
  have P5 : Hid (PcAt v1 gc s i1 b2) := hp
  have B5 : Hid (Below w.heap.size w v1) := B4.out.trans (hkb.below (by omega) B4.out.size)
  have c0 := G5.out.cell 1
  simp only [List.getElem?_cons_succ, List.getElem?_cons_zero] at c0
  have f0 := G5.out.frozen 1
  clear hF hp hkb R4 G4 P4 B4
  have T5 := (TurnAt.refl gm v1).setCell 1 (.string who)
  have R6 : Hid (Bx (v1.setCell ⟨gm, 1, none⟩ (.string who)) w.heap.size 26 [.int .i64 0, .string ⟨#[]⟩, .slice none 0 0, .string ⟨#[]⟩]) := R5.out.turn T5 (by omega)
  have G6 : Hid (Bx (v1.setCell ⟨gm, 1, none⟩ (.string who)) gm 26 [.int .i64 k, .string who, .slice none 0 0, .string ⟨#[]⟩]) := G5.out.set 1 (.string who)
  have P6 : Hid (PcAt (v1.setCell ⟨gm, 1, none⟩ (.string who)) gc s i1 b2) := P5.out.keep T5 (by omega)
  have B6 : Hid (Below w.heap.size w (v1.setCell ⟨gm, 1, none⟩ (.string who))) := B5.out.trans (T5.below (by omega))
  clear T5
  go_wp2_with fail
  generalize (v1.setCell ⟨gm, 1, none⟩ (.string who)) = V1 at *
  clear R5 G5 P5 B5 c0 f0
  refine (lvar_any s gc i1 b2 V1 P6 (by omega) hi1).mono ?_
  rintro e v2 ⟨n, i2, b3, rfl, hn, hi2, hp, hkb, hF⟩
  have F2 : Hid (VarF s i1 b2 n i2 b3) := hF
  have R7 : Hid (Bx v2 w.heap.size 26 [.int .i64 0, .string ⟨#[]⟩, .slice none 0 0, .string ⟨#[]⟩]) := R6.out.keepb hkb (by omega)
  have G7 : Hid (Bx v2 gm 26 [.int .i64 k, .string who, .slice none 0 0, .string ⟨#[]⟩]) := G6.out.keepb hkb (by omega)
  have P7 : Hid (PcAt v2 gc s i2 b3) := hp
  have B7 : Hid (Below w.heap.size w v2) := B6.out.trans (hkb.below (by omega) B6.out.size)
  have zV2 : gm < v2.heap.size := G7.out.lt
  clear hF hp hkb R6 G6 P6 B6
  go_wp2_with fail
  go_loopw [7] (fun ix wr => ∃ (j Aj : Nat) (bj : Bool) (xs : List ByteArray) (u : Sv), j ≤ n ∧ j ≤ 20 ∧ ix = .int .i64 j ∧ xs.length ≤ j ∧ Aj ≤ s.size ∧ v2.heap.size ≤ wr.heap.size ∧ Hid (SpT s i2 b3 n j Aj bj xs) ∧ Hid (Bx wr w.heap.size 26 [.int .i64 0, .string ⟨#[]⟩, .slice none 0 0, .string ⟨#[]⟩]) ∧ Hid (Bx wr gm 26 [.int .i64 k, .string who, .slice u.a u.n u.c, .string ⟨#[]⟩]) ∧ Hid (PcAt wr gc s Aj bj) ∧ Hid (OwnS wr v2.heap.size u.v xs) ∧ Hid (Below w.heap.size w wr)) (fun ix _ => 21 - (intOf ix).toNat)
  case atStart => exact ⟨0, i2, b3, [], ⟨none, 0, 0⟩, Nat.zero_le _, by omega, rfl, Nat.zero_le _, hi2, Nat.le_refl _, spt_start s i2 b3 n, R7.out, G7.out, P7.out, OwnS.zero _ _, B7.out⟩
  case round =>
    clear R7 G7 P7 B7
    obtain ⟨j, Aj, bj, xs, u, hj, hj20, rfl, hxl, hAj, hzr, hst, HR, HG, HP, HO, HB⟩ := hrel
    obtain ⟨c0, c1, c2, f0, f1, f2⟩ := HP.out.cells
    by_cases hgo : j < n ∧ j < 20 ∧ bj = false
    · obtain ⟨hlt, hlt2, rfl⟩ := hgo
      have hd1 : decide ((j : Int) < (n : Int)) = true := by simp; omega
      have hd2 : decide ((j : Int) < 20) = true := by simp; omega
      have cl6 : Hid (Bx wr.drew gm 26 [.int .i64 k, .string who, .slice u.a u.n u.c, .string ⟨#[]⟩]) := HG.out.later (Below.refl _ _).drew
      go_wp2_with fail
      clear c0 c1 c2 f0 f1 f2 hd1 hd2
      refine wp_region_heldLast (S := fun w' => Bx w' gm 26 [.int .i64 k, .string who, .slice u.a u.n u.c, .string ⟨#[]⟩]) _ (by simp) (by kernel_rfl) (by rfl) (by rfl) (by kernel_rfl) (by kernel_rfl) cl6.out (fun hHeld => ?_)
      simp only [List.dropLast_cons_cons, List.dropLast_singleton, List.getLast_cons_cons, List.getLast_singleton, List.cons_append, List.nil_append, List.length_cons, List.length_nil]
      refine wpAnyH_take (i := 0) (v := ?v0) rfl (by kernel_rfl) (by kernel_rfl) (by kernel_rfl) (fun _ _ _ h => h) (Or.inl ⟨by rfl, ?hy0⟩) (by assumption) ?_
      case hy0 => (intro w hSw; (try dsimp only at hSw); simp only [List.getElem_toArray, List.getElem_cons_zero, List.getElem_cons_succ]; go_simp; try with_reducible rfl)
      try simp only [Act.put, List.getElem_toArray, List.getElem_cons_zero, List.getElem_cons_succ, List.setIfInBounds_toArray, List.set_cons_zero, List.set_cons_succ]
      refine wpAnyH_take (i := 1) (v := _) rfl (by kernel_rfl) (by kernel_rfl) (by kernel_rfl) (fun _ _ _ h => h) (ld1_yield (by rfl) 24 _ rfl gm 2 rfl 26 _ (fun w hS => hS) (.slice u.a u.n u.c) rfl _ Tryd.underlying24 rfl) (by assumption) ?_
      try simp only [Act.put, List.getElem_toArray, List.getElem_cons_zero, List.getElem_cons_succ, List.setIfInBounds_toArray, List.set_cons_zero, List.set_cons_succ]
      refine wpAnyH_take (i := 2) (v := ?v2) rfl (by kernel_rfl) (by kernel_rfl) (by kernel_rfl) (fun _ _ _ h => h) (Or.inl ⟨by rfl, ?hy2⟩) (by assumption) ?_
      case hy2 => (intro w hSw; (try dsimp only at hSw); simp only [List.getElem_toArray, List.getElem_cons_zero, List.getElem_cons_succ]; go_simp; try with_reducible rfl)
      try simp only [Act.put, List.getElem_toArray, List.getElem_cons_zero, List.getElem_cons_succ, List.setIfInBounds_toArray, List.set_cons_zero, List.set_cons_succ]
      refine wpAnyH_ready (rs := [3]) (by kernel_rfl) (by simp) ?_
      refine AllReadyH.cons (i := 3) rfl (fun K hK => ?_) AllReadyH.nil
      rw [if_pos (by rfl)]
      simp only [List.getElem_toArray, List.getElem_cons_zero, List.getElem_cons_succ]
      go_simp
      refine (lshort_any s gc Aj false _ (show Hid (PcAt wr.drew gc s Aj false) from HP.out) (by omega) hAj).mono ?_
      rintro e w5 ⟨tt, i5, b5, rfl, hi5, hp5, hk5, hF5⟩
      have k5 : KeepBut gc wr w5 := (keep_of_below (Below.refl _ _).drew).trans hk5
      have z5 : wr.heap.size ≤ w5.heap.size := k5.size
      have F5 : Hid (ShF s Aj false tt i5 b5) := hF5
      have HG : Hid (Bx w5 gm 26 [.int .i64 k, .string who, .slice u.a u.n u.c, .string ⟨#[]⟩]) := HG.out.keepb k5 (by omega)
      have HR : Hid (Bx w5 w.heap.size 26 [.int .i64 0, .string ⟨#[]⟩, .slice none 0 0, .string ⟨#[]⟩]) := HR.out.keepb k5 (by omega)
      have HP : Hid (PcAt w5 gc s i5 b5) := hp5
      have HB : Hid (Below w.heap.size w w5) := HB.out.trans (k5.below (by omega) HB.out.size)
      have HO : Hid (OwnS w5 v2.heap.size u.v xs) := OwnS.keepg HO.out k5 (by omega)
      refine hK.out _ _ (HG.out) (fun hHeld => ?_)
      clear hK K
      try simp only [Act.put, List.getElem_toArray, List.getElem_cons_zero, List.getElem_cons_succ, List.setIfInBounds_toArray, List.set_cons_zero, List.set_cons_succ]
      clear hp5 hk5 hF5 k5
      have GA : Hid (Bx (w5.alloc (.cells #[.string tt] 9)) gm 26 [.int .i64 k, .string who, .slice u.a u.n u.c, .string ⟨#[]⟩]) := HG.out.later ((Below.refl _ _).alloc (Nat.le_refl _) _)
      refine wpAnyH_ready (rs := [4]) (by kernel_rfl) (by simp) ?_
      refine AllReadyH.cons (i := 4) rfl (fun K hK => ?_) AllReadyH.nil
      rw [if_pos (by rfl)]
      simp only [List.getElem_toArray, List.getElem_cons_zero, List.getElem_cons_succ]
      go_simp
      refine hK.out _ _ (GA.out) (fun hHeld => ?_)
      clear hK K
      try simp only [Act.put, List.getElem_toArray, List.getElem_cons_zero, List.getElem_cons_succ, List.setIfInBounds_toArray, List.set_cons_zero, List.set_cons_succ]
      refine wpAnyH_ready (rs := [5]) (by kernel_rfl) (by simp) ?_
      refine AllReadyH.cons (i := 5) rfl (fun K hK => ?_) AllReadyH.nil
      rw [if_pos (by rfl)]
      simp only [List.getElem_toArray, List.getElem_cons_zero, List.getElem_cons_succ]
      refine wp_pushSb _ _ 24 rfl Tryd.underlying24 Tryd.info9 v2.heap.size (.slice u.a u.n u.c) xs rfl HO.out tt rfl (by omega) (by omega) ?_
      intro v8 w8 o8 g8 _
      have Xtx : Hid (OwnS w8 v2.heap.size v8 (xs ++ [tt])) := o8
      have G8 : Hid ((w5.alloc (.cells #[.string tt] 9)).grownBy w8 u.v.ownBlock) := g8
      clear o8 g8
      obtain ⟨utx, hf⟩ := OwnS.svs Xtx.out
      subst hf
      have KK := grown_after G8.out
      have N1 : Hid (∀ k, (u.v).ownBlock = some k → v2.heap.size ≤ k ∧ k < w5.heap.size) := OwnS.lt HO.out
      have ng : some gm ≠ u.v.ownBlock := fun e => by have := (N1.out _ e.symm).1; omega
      have HR : Hid (Bx w8 w.heap.size 26 [.int .i64 0, .string ⟨#[]⟩, .slice none 0 0, .string ⟨#[]⟩]) := HR.out.grown KK (fun e => by have := (N1.out _ e.symm).1; omega)
      have HP : Hid (PcAt w8 gc s i5 b5) := (KK.block gc HP.out.lt (fun e => by have := (N1.out _ e.symm).1; omega)).trans HP.out
      have HG : Hid (Bx w8 gm 26 [.int .i64 k, .string who, .slice u.a u.n u.c, .string ⟨#[]⟩]) := HG.out.grown KK ng
      have HB : Hid (Below w.heap.size w w8) := HB.out.grown KK HB.out.size (fun k hk => by have := (N1.out k hk).1; omega)
      have z8 : w5.heap.size ≤ w8.heap.size := KK.size
      refine hK.out _ _ (HG.out) (fun hHeld => ?_)
      clear hK K
      try simp only [Act.put, List.getElem_toArray, List.getElem_cons_zero, List.getElem_cons_succ, List.setIfInBounds_toArray, List.set_cons_zero, List.set_cons_succ]
      clear G8 KK ng GA cl6
      refine wpAnyH_take (i := 6) (v := ?v6) rfl (by kernel_rfl) (by kernel_rfl) (by kernel_rfl) (fun _ _ _ h => h) (Or.inl ⟨by rfl, ?hy6⟩) (by assumption) ?_
      case hy6 => (intro w hSw; (try dsimp only at hSw); simp only [List.getElem_toArray, List.getElem_cons_zero, List.getElem_cons_succ]; go_simp; try with_reducible rfl)
      try simp only [Act.put, List.getElem_toArray, List.getElem_cons_zero, List.getElem_cons_succ, List.setIfInBounds_toArray, List.set_cons_zero, List.set_cons_succ]
      refine wpAnyH_take (i := 7) (v := ?v7) rfl (by kernel_rfl) (by kernel_rfl) (by kernel_rfl) (fun _ _ _ h => h) (Or.inl ⟨by rfl, ?hy7⟩) (by assumption) ?_
      case hy7 => (intro w hSw; (try dsimp only at hSw); simp only [List.getElem_toArray, List.getElem_cons_zero, List.getElem_cons_succ]; go_simp; try with_reducible rfl)
      try simp only [Act.put, List.getElem_toArray, List.getElem_cons_zero, List.getElem_cons_succ, List.setIfInBounds_toArray, List.set_cons_zero, List.set_cons_succ]
      refine wpAnyH_done (by kernel_rfl) ?_ _
      refine lastQ_of rfl rfl ?_
      refine wp_st1 24 _ _ rfl gm 2 rfl 26 _ HG.out (.slice utx.a utx.n utx.c) rfl (by simp) rfl Tryd.sizeStrs [.int .i64 k, .string who, .slice utx.a utx.n utx.c, .string ⟨#[]⟩] rfl ?_
      intro w9 OB TB
      have HR : Hid (Bx w9 w.heap.size 26 [.int .i64 0, .string ⟨#[]⟩, .slice none 0 0, .string ⟨#[]⟩]) := HR.out.turn TB (by omega)
      have HP : Hid (PcAt w9 gc s i5 b5) := HP.out.keep TB (by omega)
      have HO : Hid (OwnS w9 v2.heap.size utx.v (xs ++ [tt])) := OwnS.keepg Xtx.out TB.keep (by omega)
      have HB : Hid (Below w.heap.size w w9) := HB.out.trans (TB.below (by omega))
      have HG : Hid (Bx w9 gm 26 [.int .i64 k, .string who, .slice utx.a utx.n utx.c, .string ⟨#[]⟩]) := OB
      have z9 : w8.heap.size ≤ w9.heap.size := TB.keep.size
      clear OB TB hHeld Xtx N1
      go_wp2_with fail
      go_roundw
      case rel => exact ⟨j + 1, i5, b5, xs ++ [tt], utx, by omega, by omega, by go_num, by simp; omega, hi5, by omega, spt_next hst.out hlt F5.out, HR.out, HG.out, HP.out, HO.out, HB.out⟩
      case measure => simp [intOf]; omega
    · have hEnd : n ≤ j ∨ 20 ≤ j ∨ bj = true := by
        cases bj with
        | true => exact .inr (.inr rfl)
        | false =>
          by_cases h1 : j < n
          · by_cases h2 : j < 20
            · exact absurd ⟨h1, h2, rfl⟩ hgo
            · exact .inr (.inl (by omega))
          · exact .inl (by omega)
      have HF : Hid (∀ (ts : List ByteArray) (i : Nat), n ≤ 20 → b3 = false → txsP s i2 n = some (ts, i) → bj = false ∧ xs = ts ∧ Aj = i) := spt_end hst.out hj hEnd
      have hways : (¬ j < n) ∨ (j < n ∧ ¬ j < 20) ∨ (j < n ∧ j < 20 ∧ bj = true) := by
        by_cases h1 : j < n
        · by_cases h2 : j < 20
          · refine .inr (.inr ⟨h1, h2, ?_⟩)
            rcases hEnd with h | h | h
            · omega
            · omega
            · exact h
          · exact .inr (.inl ⟨h1, h2⟩)
        · exact .inl h1
      clear hgo hst hEnd
      rcases hways with hd1 | ⟨hd1, hd2⟩ | ⟨hd1, hd2, rfl⟩
      all_goals
        go_wp2_with fail
        clear c0 c1 c2 f0 f1 f2
        refine (lshort_any s gc Aj _ _ HP (by omega) hAj).mono ?_
        rintro e v3 ⟨t, iz, bad, rfl, hiz, hp, hkb, hF⟩
        have FW : Hid (FndW s k who xs t bad) := ⟨i0, b1, i1, b2, n, i2, b3, Aj, _, iz, F0.out, F1.out, F2.out, HF.out, hF⟩
        have HG : Hid (Bx v3 gm 26 [.int .i64 k, .string who, .slice u.a u.n u.c, .string ⟨#[]⟩]) := HG.out.keepb hkb (by omega)
        have HR : Hid (Bx v3 w.heap.size 26 [.int .i64 0, .string ⟨#[]⟩, .slice none 0 0, .string ⟨#[]⟩]) := HR.out.keepb hkb (by omega)
        have HB : Hid (Below w.heap.size w v3) := HB.out.trans (hkb.below (by omega) HB.out.size)
        have HO : Hid (OwnS v3 v2.heap.size u.v xs) := OwnS.keepg HO.out hkb (by omega)
        have HP : Hid (PcAt v3 gc s iz bad) := hp
        have e0 := HG.out.cell 3
        simp only [List.getElem?_cons_succ, List.getElem?_cons_zero] at e0
        have f0 := HG.out.frozen 3
        clear hp hkb hF HF F0 F1 F2
        have T5 := (TurnAt.refl gm v3).setCell 3 (.string t)
        have HR : Hid (Bx (v3.setCell ⟨gm, 3, none⟩ (.string t)) w.heap.size 26 [.int .i64 0, .string ⟨#[]⟩, .slice none 0 0, .string ⟨#[]⟩]) := HR.out.turn T5 (by omega)
        have HO : Hid (OwnS (v3.setCell ⟨gm, 3, none⟩ (.string t)) v2.heap.size u.v xs) := OwnS.keepg HO.out T5.keep (by omega)
        have HP : Hid (PcAt (v3.setCell ⟨gm, 3, none⟩ (.string t)) gc s iz bad) := HP.out.keep T5 (by omega)
        have HB : Hid (Below w.heap.size w (v3.setCell ⟨gm, 3, none⟩ (.string t))) := HB.out.trans (T5.below (by omega))
        have HG : Hid (Bx (v3.setCell ⟨gm, 3, none⟩ (.string t)) gm 26 [.int .i64 k, .string who, .slice u.a u.n u.c, .string t]) := HG.out.set 3 (.string t)
        clear T5
        obtain ⟨T, K, hTK, hsp⟩ := spWordText_two k who xs t (by omega)
        have HSP : Hid _ := hsp
        have HTK : Hid ((K = true ∧ WdOk k who xs t ∧ T = wordS k who xs t) ∨ (K = false ∧ ¬ WdOk k who xs t ∧ T = ByteArray.empty)) := hTK
        clear hsp hTK
        go_wp2_with (first | (refine wpList_ldG rfl 26 _ rfl gm 0 rfl 26 _ HG.out [.int .i64 k, .string who, .slice u.a u.n u.c, .string t] rfl _ Tryd.underlying26 rfl Tryd.sizeWd ?_))
        generalize (v3.setCell ⟨gm, 3, none⟩ (.string t)) = V3 at *
        refine (HSP.out u V3 (show Hid (RT V3 u.v xs) from OwnS.texts HO.out)).mono ?_
        rintro e v4 ⟨rfl, b⟩
        have HR : Hid (Bx v4 w.heap.size 26 [.int .i64 0, .string ⟨#[]⟩, .slice none 0 0, .string ⟨#[]⟩]) := HR.out.later b
        have HG : Hid (Bx v4 gm 26 [.int .i64 k, .string who, .slice u.a u.n u.c, .string t]) := HG.out.later b
        have HP : Hid (PcAt v4 gc s iz bad) := HP.out.stays b HP.out.lt
        have HO : Hid (OwnS v4 v2.heap.size u.v xs) := OwnS.keep' HO.out (fun y _ hy => Below.block b y hy)
        have HB : Hid (Below w.heap.size w v4) := bl_next HB.out b
        clear b e0 f0 HSP
        obtain ⟨c0, c1, c2, f0, f1, f2⟩ := HP.out.cells
        have zz : w.heap.size ≤ v2.heap.size := by omega
        cases bad with
        | true =>
          go_wp2_with (first | (with_reducible refine wpList_haltS 26 _ _ rfl ?_))
          refine Stp.go ?_
          refine wpList_stB rfl 26 _ _ rfl w.heap.size 0 rfl 26 _ HR.out [.int .i64 0, .string ⟨#[]⟩, .slice none 0 0, .string ⟨#[]⟩] rfl (by simp) Tryd.sizeWd rfl [.int .i64 0, .string ⟨#[]⟩, .slice none 0 0, .string ⟨#[]⟩] rfl ?_
          intro W9 R9 T9
          have B9 : Hid (Below w.heap.size w W9) := HB.out.trans (T9.below (Nat.le_refl _))
          clear T9
          go_wp2_with fail
          refine bodyPost_ret (results_bt Tryd.results17 w.heap.size 26 [.int .i64 0, .string ⟨#[]⟩, .slice none 0 0, .string ⟨#[]⟩] _ rfl R9 Tryd.underlying26 rfl Tryd.sizeWd) rfl ?_
          exact ⟨0, ByteArray.empty, [], ByteArray.empty, false, ⟨none, 0, 0⟩, rfl, ansW_missed FW.out (.inl rfl), OwnS.zero _ _, B9.out⟩
        | false =>
          cases K with
          | false =>
            have HN : Hid (¬ WdOk k who xs t) := (by rcases HTK.out with ⟨h, _⟩ | ⟨_, h, _⟩; exact absurd h (by simp); exact h : ¬ WdOk k who xs t)
            go_wp2_with (first | (with_reducible refine wpList_haltS 26 _ _ rfl ?_))
            refine Stp.go ?_
            refine wpList_stB rfl 26 _ _ rfl w.heap.size 0 rfl 26 _ HR.out [.int .i64 0, .string ⟨#[]⟩, .slice none 0 0, .string ⟨#[]⟩] rfl (by simp) Tryd.sizeWd rfl [.int .i64 0, .string ⟨#[]⟩, .slice none 0 0, .string ⟨#[]⟩] rfl ?_
            intro W9 R9 T9
            have B9 : Hid (Below w.heap.size w W9) := HB.out.trans (T9.below (Nat.le_refl _))
            clear T9
            go_wp2_with fail
            refine bodyPost_ret (results_bt Tryd.results17 w.heap.size 26 [.int .i64 0, .string ⟨#[]⟩, .slice none 0 0, .string ⟨#[]⟩] _ rfl R9 Tryd.underlying26 rfl Tryd.sizeWd) rfl ?_
            exact ⟨0, ByteArray.empty, [], ByteArray.empty, false, ⟨none, 0, 0⟩, rfl, ansW_missed FW.out (.inr (.inl HN.out)), OwnS.zero _ _, B9.out⟩
          | true =>
            have HW : Hid (WdOk k who xs t ∧ T = wordS k who xs t) := (by rcases HTK.out with ⟨_, h⟩ | ⟨h, _⟩; exact h; exact absurd h (by simp) : WdOk k who xs t ∧ T = wordS k who xs t)
            by_cases hTs : T = s
            · have HE : Hid (wordS k who xs t = s) := (HW.out.2.symm.trans hTs : wordS k who xs t = s)
              subst hTs
              have hq : (T.toList == T.toList) = true := by simp
              go_wp2_with (first | (refine wpList_ldG rfl 26 _ rfl gm 0 rfl 26 _ HG.out [.int .i64 k, .string who, .slice u.a u.n u.c, .string t] rfl _ Tryd.underlying26 rfl Tryd.sizeWd ?_) | (with_reducible refine wpList_haltS 26 _ _ rfl ?_))
              refine Stp.go ?_
              refine wpList_stB rfl 26 _ _ rfl w.heap.size 0 rfl 26 _ HR.out [.int .i64 k, .string who, .slice u.a u.n u.c, .string t] rfl (by simp) Tryd.sizeWd rfl [.int .i64 k, .string who, .slice u.a u.n u.c, .string t] rfl ?_
              intro W9 R9 T9
              have B9 : Hid (Below w.heap.size w W9) := HB.out.trans (T9.below (Nat.le_refl _))
              have O9 : Hid (OwnS W9 w.heap.size u.v xs) := OwnS.down (OwnS.keep' HO.out fun y hy hl => T9.block y (by have := (OwnS.lt HO.out y hy).1; omega)) zz
              clear T9
              go_wp2_with fail
              refine bodyPost_ret (results_bt Tryd.results17 w.heap.size 26 [.int .i64 k, .string who, .slice u.a u.n u.c, .string t] _ rfl R9 Tryd.underlying26 rfl Tryd.sizeWd) rfl ?_
              exact ⟨k, who, xs, t, true, u, rfl, ansW_hit HW.out.1 HE.out, O9.out, B9.out⟩
            · have HE : Hid (wordS k who xs t ≠ s) := (fun h => hTs (HW.out.2.trans h) : wordS k who xs t ≠ s)
              have hq : (T.toList == s.toList) = false := ne_list hTs
              clear hTs
              go_wp2_with (first | (with_reducible refine wpList_haltS 26 _ _ rfl ?_))
              refine Stp.go ?_
              refine wpList_stB rfl 26 _ _ rfl w.heap.size 0 rfl 26 _ HR.out [.int .i64 0, .string ⟨#[]⟩, .slice none 0 0, .string ⟨#[]⟩] rfl (by simp) Tryd.sizeWd rfl [.int .i64 0, .string ⟨#[]⟩, .slice none 0 0, .string ⟨#[]⟩] rfl ?_
              intro W9 R9 T9
              have B9 : Hid (Below w.heap.size w W9) := HB.out.trans (T9.below (Nat.le_refl _))
              clear T9
              go_wp2_with fail
              refine bodyPost_ret (results_bt Tryd.results17 w.heap.size 26 [.int .i64 0, .string ⟨#[]⟩, .slice none 0 0, .string ⟨#[]⟩] _ rfl R9 Tryd.underlying26 rfl Tryd.sizeWd) rfl ?_
              exact ⟨0, ByteArray.empty, [], ByteArray.empty, false, ⟨none, 0, 0⟩, rfl, ansW_missed FW.out (.inr (.inr HE.out)), OwnS.zero _ _, B9.out⟩
end Go.Proofs.YtmbjflhhffcjdaaDoor


/- The law on words that are drawn. Written by gen_lws.py. -/
namespace Go.Proofs.YtmbjflhhffcjdaaDoor
open Go.RowKit Pl
set_option linter.unusedVariables false
set_option linter.unusedSimpArgs false

theorem wordText_two (k : Int) (who : ByteArray) (gs : List ByteArray) (t : ByteArray) (hl : gs.length ≤ 1048576) (hz : Hid (∀ x ∈ gs, x.size ≤ 1048576)) (hw : who.size ≤ 1048576) : ∃ (T : ByteArray) (K : Bool), wdB k who gs t = K ∧ T.size ≤ 200 ∧ (K = true → ∃ N : Nat, k = N ∧ WdOk N who gs t ∧ T = wordS N who gs t) ∧
    ∀ (u : Sv) (w : World), Hid (RT w u.v gs) → Calls Tryd.prog 11 #[.agg #[.int .i64 k, .string who, .slice u.a u.n u.c, .string t]] w fun e w' => e = .returned (.tuple #[.string T, .bool K]) ∧ Below w.heap.size w w' := by
  cases hk : wdB k who gs t with
  | false => exact ⟨ByteArray.empty, false, rfl, by decide, fun h => absurd h (by simp), fun u w h => wordText_no k who gs t u w h hl hz hw hk⟩
  | true =>
    obtain ⟨N, rfl, ho⟩ := wdB_nat hk
    exact ⟨wordS N who gs t, true, rfl, wordS_size ho, fun _ => ⟨N, rfl, ho, rfl⟩, fun u w h => wordText_yes N who gs t u w h ho⟩
theorem ansW_text {s who x T : ByteArray} {k : Nat} {gs : List ByteArray} {ok K : Bool} (h : AnsW s k who gs x ok) (h0 : ok = true) (hK : wdB (k : Int) who gs x = K) (hT : K = true → ∃ N : Nat, (k : Int) = N ∧ WdOk N who gs x ∧ T = wordS N who gs x) : T = s := by
  rcases h with ⟨_, h1, h2⟩ | ⟨h1, _⟩
  · unfold WdOk at h1
    rw [hK] at h1
    obtain ⟨N, hN, ho, hT⟩ := hT h1
    have : k = N := by omega
    subst this
    rw [hT]
    exact rt_ext ((wordS_list _ _ _ _).trans h2.symm)
  · rw [h0] at h1; cases h1
theorem sameTexts_s (a b : Sv) (gs : List ByteArray) (B1 B2 : Nat) (w : World) (h1 : OwnS w B1 a.v gs) (h2 : OwnS w B2 b.v gs) (hl : gs.length ≤ 1048577) :
    Calls Tryd.prog 15 #[.slice a.a a.n a.c, .slice b.a b.n b.c] w fun e w' => e = .returned (.bool true) ∧ Below w.heap.size w w' := by
  obtain ⟨a1, c1, e1, x1⟩ := OwnS.texts h1
  obtain ⟨a2, c2, e2, x2⟩ := OwnS.texts h2
  have e1 : Value.slice a.a a.n a.c = .slice a1 gs.length c1 := e1
  have e2 : Value.slice b.a b.n b.c = .slice a2 gs.length c2 := e2
  rw [e1, e2]
  exact sameT_any a1 a2 c1 c2 gs w x1 x2 hl
set_option maxRecDepth 100000 in
set_option maxHeartbeats 32000000 in
theorem lawWords (ao : Option Addr) (n cap : Nat) (w : World) (hk : Hid (CodeAt w w.heap.size ao n)) :
    Calls Tryd.prog 3 #[.slice ao n cap] w fun e w' => e = .returned (.bool true) ∧ Below w.heap.size w w' := by
  by_cases hl : 1048576 < n
  · go_enter Tryd.func3, Tryd.ntmps3
    go_wp2_with fail
    refine (big_any w n cap ao true (by simp; omega)).mono ?_
    rintro e w1 ⟨rfl, rfl⟩
    go_wp2_with fail
    go_ret
    exact ⟨rfl, Below.refl _ _⟩
  have hn : n ≤ 1048576 := by omega
  clear hl
  have BW : Hid (Below w.heap.size w w) := Below.refl _ _
  go_enter Tryd.func3, Tryd.ntmps3
  go_wp2_with fail
  refine (big_any w n cap ao false (by simp; omega)).mono ?_
  rintro e w0 ⟨rfl, rfl⟩
  go_wp2_with fail
  refine (drawWT_any w0 n cap ao hn hk).mono ?_
  rintro e w1 ⟨k, who, gs, t, v0, rfl, hf, o, b⟩
  obtain ⟨f1, f2, f3, f4⟩ := hf
  have WO : Hid (OwnS w1 w0.heap.size v0.v gs) := o
  have HZ : Hid (∀ x ∈ gs, x.size ≤ 1048576) := fun x hx => by have := f3 x hx; omega
  clear o f3
  have z_w1 : w0.heap.size ≤ w1.heap.size := b.size
  have BW : Hid (Below w0.heap.size w0 w1) := bl_next BW.out b
  clear b
  obtain ⟨T, K, hK, hT, hTK, him⟩ := wordText_two k who gs t (by omega) HZ (by omega)
  have HI : Hid _ := him
  have HTK : Hid (K = true → ∃ N : Nat, k = N ∧ WdOk N who gs t ∧ T = wordS N who gs t) := hTK
  have HK : Hid (wdB k who gs t = K) := hK
  clear him hTK hK
  have hz : Hid (Bx (w1.alloc (.cells #[.int .i64 0, .string ⟨#[]⟩, .slice none 0 0, .string ⟨#[]⟩] 26)) w1.heap.size 26 [.int .i64 0, .string ⟨#[]⟩, .slice none 0 0, .string ⟨#[]⟩]) := Bx.new w1 26 _
  go_wp2_with (first | (refine wpList_stB rfl 26 _ _ rfl w1.heap.size 0 rfl 26 _ hz.out [.int .i64 k, .string who, .slice v0.a v0.n v0.c, .string t] rfl (by simp) Tryd.sizeWd rfl [.int .i64 k, .string who, .slice v0.a v0.n v0.c, .string t] rfl ?_; intro wM OB TB; have b : Below w1.heap.size w1 wM := ((Below.refl _ _).alloc (Nat.le_refl _) _).trans (TB.below (Nat.le_refl _)); have MB : Hid (Bx wM w1.heap.size 26 [.int .i64 k, .string who, .slice v0.a v0.n v0.c, .string t]) := OB; have z_wM : w1.heap.size ≤ wM.heap.size := b.size; have BW : Hid (Below w0.heap.size w0 wM) := bl_next BW.out b; have WO : Hid (OwnS wM w0.heap.size v0.v gs) := OwnS.keep' WO.out fun y _ hy => Below.block b y hy; clear OB TB b; refine Stp.here ?_))
  refine Stp.go ?_
  clear hz
  have zl_MB : w1.heap.size < wM.heap.size := MB.out.lt
  generalize hg_MB : w1.heap.size = gMB at *
  go_wp2_with (first | (refine wpList_ldG rfl 26 _ rfl gMB 0 rfl 26 _ MB.out [.int .i64 k, .string who, .slice v0.a v0.n v0.c, .string t] rfl _ Tryd.underlying26 rfl Tryd.sizeWd ?_))
  refine (HI.out v0 _ (show Hid (RT _ v0.v gs) from OwnS.texts WO.out)).mono ?_
  rintro e w2 ⟨rfl, b⟩
  have z_w2 : wM.heap.size ≤ w2.heap.size := b.size
  have BW : Hid (Below w0.heap.size w0 w2) := bl_next BW.out b
  have WO : Hid (OwnS w2 w0.heap.size v0.v gs) := OwnS.keep' WO.out fun y _ hy => Below.block b y hy
  have MB : Hid (Bx w2 gMB 26 [.int .i64 k, .string who, .slice v0.a v0.n v0.c, .string t]) := MB.out.later b
  clear b
  clear HI
  go_wp2_with fail
  refine (readWord_any T _ (by omega)).mono ?_
  rintro e w3 ⟨k1, who1, gs1, t1, ok1, vx, rfl, ha, o, b⟩
  have HA : Hid (AnsW T k1 who1 gs1 t1 ok1) := ha
  have XO : Hid (OwnS w3 w2.heap.size vx.v gs1) := o
  clear o ha
  have z_w3 : w2.heap.size ≤ w3.heap.size := b.size
  have BW : Hid (Below w0.heap.size w0 w3) := bl_next BW.out b
  have WO : Hid (OwnS w3 w0.heap.size v0.v gs) := OwnS.keep' WO.out fun y _ hy => Below.block b y hy
  have MB : Hid (Bx w3 gMB 26 [.int .i64 k, .string who, .slice v0.a v0.n v0.c, .string t]) := MB.out.later b
  clear b
  have hz : Hid (Bx (w3.alloc (.cells #[.int .i64 0, .string ⟨#[]⟩, .slice none 0 0, .string ⟨#[]⟩] 26)) w3.heap.size 26 [.int .i64 0, .string ⟨#[]⟩, .slice none 0 0, .string ⟨#[]⟩]) := Bx.new w3 26 _
  go_wp2_with (first | (refine wpList_stB rfl 26 _ _ rfl w3.heap.size 0 rfl 26 _ hz.out [.int .i64 (k1 : Int), .string who1, .slice vx.a vx.n vx.c, .string t1] rfl (by simp) Tryd.sizeWd rfl [.int .i64 (k1 : Int), .string who1, .slice vx.a vx.n vx.c, .string t1] rfl ?_; intro wX OB TB; have b : Below w3.heap.size w3 wX := ((Below.refl _ _).alloc (Nat.le_refl _) _).trans (TB.below (Nat.le_refl _)); have XB : Hid (Bx wX w3.heap.size 26 [.int .i64 (k1 : Int), .string who1, .slice vx.a vx.n vx.c, .string t1]) := OB; have z_wX : w3.heap.size ≤ wX.heap.size := b.size; have BW : Hid (Below w0.heap.size w0 wX) := bl_next BW.out b; have WO : Hid (OwnS wX w0.heap.size v0.v gs) := OwnS.keep' WO.out fun y _ hy => Below.block b y hy; have MB : Hid (Bx wX gMB 26 [.int .i64 k, .string who, .slice v0.a v0.n v0.c, .string t]) := MB.out.later b; have XO : Hid (OwnS wX w2.heap.size vx.v gs1) := OwnS.keep' XO.out fun y _ hy => Below.block b y hy; clear OB TB b; refine Stp.here ?_))
  refine Stp.go ?_
  clear hz
  have zl_XB : w3.heap.size < wX.heap.size := XB.out.lt
  generalize hg_XB : w3.heap.size = gXB at *
  go_wp2_with (first | (refine wpList_ldG rfl 26 _ rfl gMB 0 rfl 26 _ MB.out [.int .i64 k, .string who, .slice v0.a v0.n v0.c, .string t] rfl _ Tryd.underlying26 rfl Tryd.sizeWd ?_))
  refine (spWordOk_any k who gs t v0 _ (show Hid (RT _ v0.v gs) from OwnS.texts WO.out) (by omega)).mono ?_
  rintro e w4 ⟨rfl, b⟩
  have z_w4 : wX.heap.size ≤ w4.heap.size := b.size
  have BW : Hid (Below w0.heap.size w0 w4) := bl_next BW.out b
  have WO : Hid (OwnS w4 w0.heap.size v0.v gs) := OwnS.keep' WO.out fun y _ hy => Below.block b y hy
  have MB : Hid (Bx w4 gMB 26 [.int .i64 k, .string who, .slice v0.a v0.n v0.c, .string t]) := MB.out.later b
  have XO : Hid (OwnS w4 w2.heap.size vx.v gs1) := OwnS.keep' XO.out fun y _ hy => Below.block b y hy
  have XB : Hid (Bx w4 gXB 26 [.int .i64 (k1 : Int), .string who1, .slice vx.a vx.n vx.c, .string t1]) := XB.out.later b
  clear b
  rw [HK.out]
  have dK : (K != K) = false := by simp
  go_wp2_with (first | (refine wpList_ldG rfl 26 _ rfl gMB 0 rfl 26 _ MB.out [.int .i64 k, .string who, .slice v0.a v0.n v0.c, .string t] rfl _ Tryd.underlying26 rfl Tryd.sizeWd ?_))
  refine (wordOk_any k who gs t v0 _ (show Hid (RT _ v0.v gs) from OwnS.texts WO.out) (by omega) HZ (by omega)).mono ?_
  rintro e w5 ⟨rfl, b⟩
  have z_w5 : w4.heap.size ≤ w5.heap.size := b.size
  have BW : Hid (Below w0.heap.size w0 w5) := bl_next BW.out b
  have WO : Hid (OwnS w5 w0.heap.size v0.v gs) := OwnS.keep' WO.out fun y _ hy => Below.block b y hy
  have MB : Hid (Bx w5 gMB 26 [.int .i64 k, .string who, .slice v0.a v0.n v0.c, .string t]) := MB.out.later b
  have XO : Hid (OwnS w5 w2.heap.size vx.v gs1) := OwnS.keep' XO.out fun y _ hy => Below.block b y hy
  have XB : Hid (Bx w5 gXB 26 [.int .i64 (k1 : Int), .string who1, .slice vx.a vx.n vx.c, .string t1]) := XB.out.later b
  clear b
  rw [HK.out]
  cases K with
  | false =>
    go_wp2_with fail
    refine (drawRW_any _ n cap ao hn (show Hid (CodeAt _ _ ao n) from code_upw (hk.out.stays BW.out (Nat.le_refl _)) BW.out.size)).mono ?_
    rintro e y1 ⟨⟨tt, htt, rfl⟩, b⟩
    have z_y1 : w5.heap.size ≤ y1.heap.size := b.size
    have BW : Hid (Below w0.heap.size w0 y1) := bl_next BW.out b
    have WO : Hid (OwnS y1 w0.heap.size v0.v gs) := OwnS.keep' WO.out fun y _ hy => Below.block b y hy
    have MB : Hid (Bx y1 gMB 26 [.int .i64 k, .string who, .slice v0.a v0.n v0.c, .string t]) := MB.out.later b
    have XO : Hid (OwnS y1 w2.heap.size vx.v gs1) := OwnS.keep' XO.out fun y _ hy => Below.block b y hy
    have XB : Hid (Bx y1 gXB 26 [.int .i64 (k1 : Int), .string who1, .slice vx.a vx.n vx.c, .string t1]) := XB.out.later b
    clear b
    go_wp2_with fail
    refine (readWord_any tt _ (by omega)).mono ?_
    rintro e y2 ⟨k2, who2, gs2, x2, ok2, vy, rfl, ha, o, b⟩
    have HA2 : Hid (AnsW tt k2 who2 gs2 x2 ok2) := ha
    have YO : Hid (OwnS y2 y1.heap.size vy.v gs2) := o
    clear o ha
    have z_y2 : y1.heap.size ≤ y2.heap.size := b.size
    have BW : Hid (Below w0.heap.size w0 y2) := bl_next BW.out b
    have WO : Hid (OwnS y2 w0.heap.size v0.v gs) := OwnS.keep' WO.out fun y _ hy => Below.block b y hy
    have MB : Hid (Bx y2 gMB 26 [.int .i64 k, .string who, .slice v0.a v0.n v0.c, .string t]) := MB.out.later b
    have XO : Hid (OwnS y2 w2.heap.size vx.v gs1) := OwnS.keep' XO.out fun y _ hy => Below.block b y hy
    have XB : Hid (Bx y2 gXB 26 [.int .i64 (k1 : Int), .string who1, .slice vx.a vx.n vx.c, .string t1]) := XB.out.later b
    clear b
    obtain ⟨q1, q2, q3, q4, q5⟩ := HA2.out.few
    have HZ2 : Hid (∀ x ∈ gs2, x.size ≤ 1048576) := fun x hx => by have := q4 x hx; omega
    obtain ⟨T2, K2, hK2, hT2, hTK2, him2⟩ := wordText_two (k2 : Int) who2 gs2 x2 (by omega) HZ2 (by omega)
    have HI2 : Hid _ := him2
    have HT2 : Hid (ok2 = true → T2 = tt) := (fun h => by exact ansW_text HA2.out h hK2 hTK2 : ok2 = true → T2 = tt)
    clear him2 hTK2 hK2 q4
    have hz : Hid (Bx (y2.alloc (.cells #[.int .i64 0, .string ⟨#[]⟩, .slice none 0 0, .string ⟨#[]⟩] 26)) y2.heap.size 26 [.int .i64 0, .string ⟨#[]⟩, .slice none 0 0, .string ⟨#[]⟩]) := Bx.new y2 26 _
    go_wp2_with (first | (refine wpList_stB rfl 26 _ _ rfl y2.heap.size 0 rfl 26 _ hz.out [.int .i64 (k2 : Int), .string who2, .slice vy.a vy.n vy.c, .string x2] rfl (by simp) Tryd.sizeWd rfl [.int .i64 (k2 : Int), .string who2, .slice vy.a vy.n vy.c, .string x2] rfl ?_; intro tY OB TB; have b : Below y2.heap.size y2 tY := ((Below.refl _ _).alloc (Nat.le_refl _) _).trans (TB.below (Nat.le_refl _)); have YB : Hid (Bx tY y2.heap.size 26 [.int .i64 (k2 : Int), .string who2, .slice vy.a vy.n vy.c, .string x2]) := OB; have z_tY : y2.heap.size ≤ tY.heap.size := b.size; have BW : Hid (Below w0.heap.size w0 tY) := bl_next BW.out b; have WO : Hid (OwnS tY w0.heap.size v0.v gs) := OwnS.keep' WO.out fun y _ hy => Below.block b y hy; have MB : Hid (Bx tY gMB 26 [.int .i64 k, .string who, .slice v0.a v0.n v0.c, .string t]) := MB.out.later b; have XO : Hid (OwnS tY w2.heap.size vx.v gs1) := OwnS.keep' XO.out fun y _ hy => Below.block b y hy; have XB : Hid (Bx tY gXB 26 [.int .i64 (k1 : Int), .string who1, .slice vx.a vx.n vx.c, .string t1]) := XB.out.later b; have YO : Hid (OwnS tY y1.heap.size vy.v gs2) := OwnS.keep' YO.out fun y _ hy => Below.block b y hy; clear OB TB b; refine Stp.here ?_))
    refine Stp.go ?_
    clear hz
    have zl_YB : y2.heap.size < tY.heap.size := YB.out.lt
    generalize hg_YB : y2.heap.size = gYB at *
    go_wp2_with fail
    refine (spReadWord_any tt _ (by omega)).mono ?_
    rintro e y3 ⟨k', who', gs', t', ok', vz, rfl, ha, o, b⟩
    obtain ⟨rfl, rfl, rfl, rfl, rfl⟩ := HA2.out.same ha
    clear o ha
    have z_y3 : tY.heap.size ≤ y3.heap.size := b.size
    have BW : Hid (Below w0.heap.size w0 y3) := bl_next BW.out b
    have WO : Hid (OwnS y3 w0.heap.size v0.v gs) := OwnS.keep' WO.out fun y _ hy => Below.block b y hy
    have MB : Hid (Bx y3 gMB 26 [.int .i64 k, .string who, .slice v0.a v0.n v0.c, .string t]) := MB.out.later b
    have XO : Hid (OwnS y3 w2.heap.size vx.v gs1) := OwnS.keep' XO.out fun y _ hy => Below.block b y hy
    have XB : Hid (Bx y3 gXB 26 [.int .i64 (k1 : Int), .string who1, .slice vx.a vx.n vx.c, .string t1]) := XB.out.later b
    have YO : Hid (OwnS y3 y1.heap.size vy.v gs2) := OwnS.keep' YO.out fun y _ hy => Below.block b y hy
    have YB : Hid (Bx y3 gYB 26 [.int .i64 (k2 : Int), .string who2, .slice vy.a vy.n vy.c, .string x2]) := YB.out.later b
    clear b
    have hz : Hid (Bx (y3.alloc (.cells #[.int .i64 0, .string ⟨#[]⟩, .slice none 0 0, .string ⟨#[]⟩] 26)) y3.heap.size 26 [.int .i64 0, .string ⟨#[]⟩, .slice none 0 0, .string ⟨#[]⟩]) := Bx.new y3 26 _
    go_wp2_with (first | (refine wpList_stB rfl 26 _ _ rfl y3.heap.size 0 rfl 26 _ hz.out [.int .i64 (k2 : Int), .string who2, .slice vz.a vz.n vz.c, .string x2] rfl (by simp) Tryd.sizeWd rfl [.int .i64 (k2 : Int), .string who2, .slice vz.a vz.n vz.c, .string x2] rfl ?_; intro tZ OB TB; have b : Below y3.heap.size y3 tZ := ((Below.refl _ _).alloc (Nat.le_refl _) _).trans (TB.below (Nat.le_refl _)); have ZB : Hid (Bx tZ y3.heap.size 26 [.int .i64 (k2 : Int), .string who2, .slice vz.a vz.n vz.c, .string x2]) := OB; have z_tZ : y3.heap.size ≤ tZ.heap.size := b.size; have BW : Hid (Below w0.heap.size w0 tZ) := bl_next BW.out b; have WO : Hid (OwnS tZ w0.heap.size v0.v gs) := OwnS.keep' WO.out fun y _ hy => Below.block b y hy; have MB : Hid (Bx tZ gMB 26 [.int .i64 k, .string who, .slice v0.a v0.n v0.c, .string t]) := MB.out.later b; have XO : Hid (OwnS tZ w2.heap.size vx.v gs1) := OwnS.keep' XO.out fun y _ hy => Below.block b y hy; have XB : Hid (Bx tZ gXB 26 [.int .i64 (k1 : Int), .string who1, .slice vx.a vx.n vx.c, .string t1]) := XB.out.later b; have YO : Hid (OwnS tZ y1.heap.size vy.v gs2) := OwnS.keep' YO.out fun y _ hy => Below.block b y hy; have YB : Hid (Bx tZ gYB 26 [.int .i64 (k2 : Int), .string who2, .slice vy.a vy.n vy.c, .string x2]) := YB.out.later b; clear OB TB b; refine Stp.here ?_))
    refine Stp.go ?_
    clear hz
    have zl_ZB : y3.heap.size < tZ.heap.size := ZB.out.lt
    generalize hg_ZB : y3.heap.size = gZB at *
    go_wp2_with (first | (refine wpList_ldG rfl 26 _ rfl gYB 0 rfl 26 _ YB.out [.int .i64 (k2 : Int), .string who2, .slice vy.a vy.n vy.c, .string x2] rfl _ Tryd.underlying26 rfl Tryd.sizeWd ?_))
    refine (HI2.out vy _ (show Hid (RT _ vy.v gs2) from OwnS.texts YO.out)).mono ?_
    rintro e y4 ⟨rfl, b⟩
    have BW : Hid (Below w0.heap.size w0 y4) := bl_next BW.out b
    clear b HI2
    cases ok2 with
    | false =>
      go_wp2_with fail
      go_ret
      exact ⟨rfl, BW.out⟩
    | true =>
      have hE : T2 = tt := HT2.out rfl
      subst hE
      have hq : (T2.toList == T2.toList) = true := by simp
      go_wp2_with fail
      go_ret
      exact ⟨rfl, BW.out⟩
  | true =>
    obtain ⟨N, hN, ho, hTw⟩ := HTK.out rfl
    subst hN
    subst hTw
    obtain ⟨rfl, rfl, rfl, rfl, rfl⟩ := HA.out.same (ansW_hit ho rfl)
    have HO : Hid (WdOk k1 who1 gs1 t1) := ho
    clear ho
    have m0 := MB.out.cell 0
    have m1 := MB.out.cell 1
    have m2 := MB.out.cell 2
    have m3 := MB.out.cell 3
    have x0 := XB.out.cell 0
    have x1 := XB.out.cell 1
    have x2 := XB.out.cell 2
    have x3 := XB.out.cell 3
    simp only [List.getElem?_cons_succ, List.getElem?_cons_zero] at m0 m1 m2 m3 x0 x1 x2 x3
    have e1 : (who1.toList == who1.toList) = true := by simp
    have e2 : (t1.toList == t1.toList) = true := by simp
    go_wp2_with fail
    refine (sameTexts_s vx v0 gs1 _ _ _ XO.out WO.out (by omega)).mono ?_
    rintro e w6 ⟨rfl, b⟩
    have z_w6 : w5.heap.size ≤ w6.heap.size := b.size
    have BW : Hid (Below w0.heap.size w0 w6) := bl_next BW.out b
    have WO : Hid (OwnS w6 w0.heap.size v0.v gs1) := OwnS.keep' WO.out fun y _ hy => Below.block b y hy
    have MB : Hid (Bx w6 gMB 26 [.int .i64 (k1 : Int), .string who1, .slice v0.a v0.n v0.c, .string t1]) := MB.out.later b
    have XO : Hid (OwnS w6 w2.heap.size vx.v gs1) := OwnS.keep' XO.out fun y _ hy => Below.block b y hy
    have XB : Hid (Bx w6 gXB 26 [.int .i64 (k1 : Int), .string who1, .slice vx.a vx.n vx.c, .string t1]) := XB.out.later b
    clear b
    clear m0 m1 m2 m3 x0 x1 x2 x3
    have m3 := MB.out.cell 3
    have x3 := XB.out.cell 3
    simp only [List.getElem?_cons_succ, List.getElem?_cons_zero] at m3 x3
    go_wp2_with fail
    clear m3 x3
    refine (drawRW_any _ n cap ao hn (show Hid (CodeAt _ _ ao n) from code_upw (hk.out.stays BW.out (Nat.le_refl _)) BW.out.size)).mono ?_
    rintro e y1 ⟨⟨tt, htt, rfl⟩, b⟩
    have z_y1 : w6.heap.size ≤ y1.heap.size := b.size
    have BW : Hid (Below w0.heap.size w0 y1) := bl_next BW.out b
    have WO : Hid (OwnS y1 w0.heap.size v0.v gs1) := OwnS.keep' WO.out fun y _ hy => Below.block b y hy
    have MB : Hid (Bx y1 gMB 26 [.int .i64 (k1 : Int), .string who1, .slice v0.a v0.n v0.c, .string t1]) := MB.out.later b
    have XO : Hid (OwnS y1 w2.heap.size vx.v gs1) := OwnS.keep' XO.out fun y _ hy => Below.block b y hy
    have XB : Hid (Bx y1 gXB 26 [.int .i64 (k1 : Int), .string who1, .slice vx.a vx.n vx.c, .string t1]) := XB.out.later b
    clear b
    go_wp2_with fail
    refine (readWord_any tt _ (by omega)).mono ?_
    rintro e y2 ⟨k2, who2, gs2, x2, ok2, vy, rfl, ha, o, b⟩
    have HA2 : Hid (AnsW tt k2 who2 gs2 x2 ok2) := ha
    have YO : Hid (OwnS y2 y1.heap.size vy.v gs2) := o
    clear o ha
    have z_y2 : y1.heap.size ≤ y2.heap.size := b.size
    have BW : Hid (Below w0.heap.size w0 y2) := bl_next BW.out b
    have WO : Hid (OwnS y2 w0.heap.size v0.v gs1) := OwnS.keep' WO.out fun y _ hy => Below.block b y hy
    have MB : Hid (Bx y2 gMB 26 [.int .i64 (k1 : Int), .string who1, .slice v0.a v0.n v0.c, .string t1]) := MB.out.later b
    have XO : Hid (OwnS y2 w2.heap.size vx.v gs1) := OwnS.keep' XO.out fun y _ hy => Below.block b y hy
    have XB : Hid (Bx y2 gXB 26 [.int .i64 (k1 : Int), .string who1, .slice vx.a vx.n vx.c, .string t1]) := XB.out.later b
    clear b
    obtain ⟨q1, q2, q3, q4, q5⟩ := HA2.out.few
    have HZ2 : Hid (∀ x ∈ gs2, x.size ≤ 1048576) := fun x hx => by have := q4 x hx; omega
    obtain ⟨T2, K2, hK2, hT2, hTK2, him2⟩ := wordText_two (k2 : Int) who2 gs2 x2 (by omega) HZ2 (by omega)
    have HI2 : Hid _ := him2
    have HT2 : Hid (ok2 = true → T2 = tt) := (fun h => by exact ansW_text HA2.out h hK2 hTK2 : ok2 = true → T2 = tt)
    clear him2 hTK2 hK2 q4
    have hz : Hid (Bx (y2.alloc (.cells #[.int .i64 0, .string ⟨#[]⟩, .slice none 0 0, .string ⟨#[]⟩] 26)) y2.heap.size 26 [.int .i64 0, .string ⟨#[]⟩, .slice none 0 0, .string ⟨#[]⟩]) := Bx.new y2 26 _
    go_wp2_with (first | (refine wpList_stB rfl 26 _ _ rfl y2.heap.size 0 rfl 26 _ hz.out [.int .i64 (k2 : Int), .string who2, .slice vy.a vy.n vy.c, .string x2] rfl (by simp) Tryd.sizeWd rfl [.int .i64 (k2 : Int), .string who2, .slice vy.a vy.n vy.c, .string x2] rfl ?_; intro tY OB TB; have b : Below y2.heap.size y2 tY := ((Below.refl _ _).alloc (Nat.le_refl _) _).trans (TB.below (Nat.le_refl _)); have YB : Hid (Bx tY y2.heap.size 26 [.int .i64 (k2 : Int), .string who2, .slice vy.a vy.n vy.c, .string x2]) := OB; have z_tY : y2.heap.size ≤ tY.heap.size := b.size; have BW : Hid (Below w0.heap.size w0 tY) := bl_next BW.out b; have WO : Hid (OwnS tY w0.heap.size v0.v gs1) := OwnS.keep' WO.out fun y _ hy => Below.block b y hy; have MB : Hid (Bx tY gMB 26 [.int .i64 (k1 : Int), .string who1, .slice v0.a v0.n v0.c, .string t1]) := MB.out.later b; have XO : Hid (OwnS tY w2.heap.size vx.v gs1) := OwnS.keep' XO.out fun y _ hy => Below.block b y hy; have XB : Hid (Bx tY gXB 26 [.int .i64 (k1 : Int), .string who1, .slice vx.a vx.n vx.c, .string t1]) := XB.out.later b; have YO : Hid (OwnS tY y1.heap.size vy.v gs2) := OwnS.keep' YO.out fun y _ hy => Below.block b y hy; clear OB TB b; refine Stp.here ?_))
    refine Stp.go ?_
    clear hz
    have zl_YB : y2.heap.size < tY.heap.size := YB.out.lt
    generalize hg_YB : y2.heap.size = gYB at *
    go_wp2_with fail
    refine (spReadWord_any tt _ (by omega)).mono ?_
    rintro e y3 ⟨k', who', gs', t', ok', vz, rfl, ha, o, b⟩
    obtain ⟨rfl, rfl, rfl, rfl, rfl⟩ := HA2.out.same ha
    clear o ha
    have z_y3 : tY.heap.size ≤ y3.heap.size := b.size
    have BW : Hid (Below w0.heap.size w0 y3) := bl_next BW.out b
    have WO : Hid (OwnS y3 w0.heap.size v0.v gs1) := OwnS.keep' WO.out fun y _ hy => Below.block b y hy
    have MB : Hid (Bx y3 gMB 26 [.int .i64 (k1 : Int), .string who1, .slice v0.a v0.n v0.c, .string t1]) := MB.out.later b
    have XO : Hid (OwnS y3 w2.heap.size vx.v gs1) := OwnS.keep' XO.out fun y _ hy => Below.block b y hy
    have XB : Hid (Bx y3 gXB 26 [.int .i64 (k1 : Int), .string who1, .slice vx.a vx.n vx.c, .string t1]) := XB.out.later b
    have YO : Hid (OwnS y3 y1.heap.size vy.v gs2) := OwnS.keep' YO.out fun y _ hy => Below.block b y hy
    have YB : Hid (Bx y3 gYB 26 [.int .i64 (k2 : Int), .string who2, .slice vy.a vy.n vy.c, .string x2]) := YB.out.later b
    clear b
    have hz : Hid (Bx (y3.alloc (.cells #[.int .i64 0, .string ⟨#[]⟩, .slice none 0 0, .string ⟨#[]⟩] 26)) y3.heap.size 26 [.int .i64 0, .string ⟨#[]⟩, .slice none 0 0, .string ⟨#[]⟩]) := Bx.new y3 26 _
    go_wp2_with (first | (refine wpList_stB rfl 26 _ _ rfl y3.heap.size 0 rfl 26 _ hz.out [.int .i64 (k2 : Int), .string who2, .slice vz.a vz.n vz.c, .string x2] rfl (by simp) Tryd.sizeWd rfl [.int .i64 (k2 : Int), .string who2, .slice vz.a vz.n vz.c, .string x2] rfl ?_; intro tZ OB TB; have b : Below y3.heap.size y3 tZ := ((Below.refl _ _).alloc (Nat.le_refl _) _).trans (TB.below (Nat.le_refl _)); have ZB : Hid (Bx tZ y3.heap.size 26 [.int .i64 (k2 : Int), .string who2, .slice vz.a vz.n vz.c, .string x2]) := OB; have z_tZ : y3.heap.size ≤ tZ.heap.size := b.size; have BW : Hid (Below w0.heap.size w0 tZ) := bl_next BW.out b; have WO : Hid (OwnS tZ w0.heap.size v0.v gs1) := OwnS.keep' WO.out fun y _ hy => Below.block b y hy; have MB : Hid (Bx tZ gMB 26 [.int .i64 (k1 : Int), .string who1, .slice v0.a v0.n v0.c, .string t1]) := MB.out.later b; have XO : Hid (OwnS tZ w2.heap.size vx.v gs1) := OwnS.keep' XO.out fun y _ hy => Below.block b y hy; have XB : Hid (Bx tZ gXB 26 [.int .i64 (k1 : Int), .string who1, .slice vx.a vx.n vx.c, .string t1]) := XB.out.later b; have YO : Hid (OwnS tZ y1.heap.size vy.v gs2) := OwnS.keep' YO.out fun y _ hy => Below.block b y hy; have YB : Hid (Bx tZ gYB 26 [.int .i64 (k2 : Int), .string who2, .slice vy.a vy.n vy.c, .string x2]) := YB.out.later b; clear OB TB b; refine Stp.here ?_))
    refine Stp.go ?_
    clear hz
    have zl_ZB : y3.heap.size < tZ.heap.size := ZB.out.lt
    generalize hg_ZB : y3.heap.size = gZB at *
    go_wp2_with (first | (refine wpList_ldG rfl 26 _ rfl gYB 0 rfl 26 _ YB.out [.int .i64 (k2 : Int), .string who2, .slice vy.a vy.n vy.c, .string x2] rfl _ Tryd.underlying26 rfl Tryd.sizeWd ?_))
    refine (HI2.out vy _ (show Hid (RT _ vy.v gs2) from OwnS.texts YO.out)).mono ?_
    rintro e y4 ⟨rfl, b⟩
    have BW : Hid (Below w0.heap.size w0 y4) := bl_next BW.out b
    clear b HI2
    cases ok2 with
    | false =>
      go_wp2_with fail
      go_ret
      exact ⟨rfl, BW.out⟩
    | true =>
      have hE : T2 = tt := HT2.out rfl
      subst hE
      have hq : (T2.toList == T2.toList) = true := by simp
      go_wp2_with fail
      go_ret
      exact ⟨rfl, BW.out⟩
end Go.Proofs.YtmbjflhhffcjdaaDoor


