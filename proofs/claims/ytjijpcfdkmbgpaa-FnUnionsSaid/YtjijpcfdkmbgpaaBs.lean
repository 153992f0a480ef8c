/- The search by halves: the walks over cmp.Compare, the closure and slices.BinarySearchFunc. -/
import Derived.Test.YtjijpcfdkmbgpaaA1
namespace Go.Proofs.Ytjijpcfdkmbgpaa
open Go.RowKit Pl
set_option linter.unusedVariables false

/-- how two numbers stand. -/
def cmpP (a b : Int) : Int := if a < b then -1 else if b < a then 1 else 0
theorem cmpP_neg {a b : Int} : cmpP a b < 0 ↔ a < b := by
  unfold cmpP
  split
  · simp_all
  · split <;> simp_all
theorem cmpP_zero {a b : Int} : cmpP a b = 0 ↔ a = b := by
  unfold cmpP
  split
  · simp; omega
  · split
    · simp; omega
    · simp; omega

set_option maxRecDepth 100000 in
set_option maxHeartbeats 1000000 in
theorem isNaN_any (a : Int) (w : World) : Calls Try.prog 77 #[.int .i64 a] w fun e w' => e = .returned (.bool false) ∧ w' = w := by
  go_enter Try.func77, Try.ntmps77
  go_wp2_with fail
  go_ret
  exact ⟨rfl, rfl⟩
set_option maxRecDepth 100000 in
set_option maxHeartbeats 1000000 in
theorem cmp_any (a b : Int) (w : World) : Calls Try.prog 72 #[.int .i64 a, .int .i64 b] w fun e w' => e = .returned (.int .i64 (cmpP a b)) ∧ w' = w := by
  go_enter Try.func72, Try.ntmps72
  go_wp2_with fail
  refine (isNaN_any a w).mono ?_
  rintro e w1 ⟨rfl, h1⟩
  obtain rfl := h1.symm
  go_wp2_with fail
  refine (isNaN_any b w).mono ?_
  rintro e w2 ⟨rfl, h2⟩
  obtain rfl := h2.symm
  by_cases hab : a < b
  · have HC : Hid (cmpP a b = -1) := (by unfold cmpP; rw [if_pos hab] : cmpP a b = -1)
    go_wp2_with fail
    go_ret
    exact ⟨by rw [HC.out]; rfl, rfl⟩
  · by_cases hba : b < a
    · have HC : Hid (cmpP a b = 1) := (by unfold cmpP; rw [if_neg hab, if_pos hba] : cmpP a b = 1)
      go_wp2_with fail
      go_ret
      exact ⟨by rw [HC.out]; rfl, rfl⟩
    · have HC : Hid (cmpP a b = 0) := (by unfold cmpP; rw [if_neg hab, if_neg hba] : cmpP a b = 0)
      go_wp2_with fail
      go_ret
      exact ⟨by rw [HC.out]; rfl, rfl⟩

set_option maxRecDepth 100000 in
set_option maxHeartbeats 1000000 in
theorem putc_any (q f l : Int) (t : ByteArray) (n : Int) (w : World) :
    Calls Try.prog 71 #[.agg #[.int .i64 q, .int .i64 f, .int .i64 l, .string t], .int .i64 n] w fun e w' => e = .returned (.int .i64 (cmpP q n)) ∧ Below w.heap.size w w' := by
  have B0 : Hid (Below w.heap.size w (w.alloc (.cells #[.int .i64 q, .int .i64 f, .int .i64 l, .string t] 26))) := (Below.refl _ _).alloc (Nat.le_refl _) _
  have mn := mNum (w.alloc (.cells #[.int .i64 q, .int .i64 f, .int .i64 l, .string t] 26)) (.agg #[.int .i64 q, .int .i64 f, .int .i64 l, .string t])
  go_enter Try.func71, Try.ntmps71
  go_wp2_with fail
  clear mn
  generalize w.alloc (.cells #[.int .i64 q, .int .i64 f, .int .i64 l, .string t] 26) = W0 at *
  refine (number_any q f l t W0).mono ?_
  rintro e w1 ⟨rfl, b1⟩
  have B1 : Hid (Below w.heap.size w w1) := B0.out.trans (b1.mono B0.out.size)
  clear b1 B0
  go_wp2_with fail
  refine (cmp_any q n w1).mono ?_
  rintro e w2 ⟨rfl, h2⟩
  obtain rfl := h2.symm
  go_wp2_with fail
  go_ret
  exact ⟨rfl, B1.out⟩

/-- where a list that ascends parts at n. -/
def Parts (ts : List It) (n : Int) (p : Nat) : Prop := p ≤ ts.length ∧ (∀ x ∈ ts.take p, x.1 < n) ∧ ∀ x ∈ ts.drop p, n ≤ x.1
/-- ascending. -/
def Asc (ts : List It) : Prop := ts.Pairwise fun a b => a.1 < b.1
theorem Asc.at {ts : List It} (h : Asc ts) {i j : Nat} (hij : i < j) (hj : j < ts.length) : (ts[i]'(by omega)).1 < ts[j].1 := List.pairwise_iff_getElem.1 h i j (by omega) hj hij
theorem ahead {ts : List It} (h : Asc ts) {n : Int} {k : Nat} (hk : k < ts.length) (hlt : ts[k].1 < n) : ∀ x ∈ ts.take (k + 1), x.1 < n := by
  intro x hx
  obtain ⟨i, hi, rfl⟩ := List.mem_take_iff_getElem.1 hx
  have hi2 : i < ts.length := by omega
  by_cases hik : i = k
  · subst hik; exact hlt
  · have := h.at (i := i) (j := k) (by omega) hk
    omega
theorem behind {ts : List It} (h : Asc ts) {n : Int} {k : Nat} (hk : k < ts.length) (hge : n ≤ ts[k].1) : ∀ x ∈ ts.drop k, n ≤ x.1 := by
  intro x hx
  obtain ⟨i, hi, rfl⟩ := List.mem_drop_iff_getElem.1 hx
  by_cases hi0 : i = 0
  · subst hi0; simpa using hge
  · have := h.at (i := k) (j := k + i) (by omega) (by omega)
    omega

set_option maxRecDepth 100000 in
set_option maxHeartbeats 2000000 in
theorem bsf_any (ao : Option Addr) (cap : Nat) (ts : List It) (n : Int) (w : World) (hx : Hid (ItemsAt w ao ts)) (hl : ts.length ≤ 1048576) (ha : Hid (Asc ts)) :
    Calls Try.prog 70 #[.slice ao ts.length cap, .int .i64 n, .func (Fn.func 71) #[] #[]] w fun e w' => (∃ (p : Nat), Parts ts n p ∧ e = .returned (.tuple #[.int .i64 (p : Int), .bool (decide (∃ h : p < ts.length, ts[p].1 = n))])) ∧ Below w.heap.size w w' := by
  go_enter Try.func70, Try.ntmps70
  go_wp2
  go_loopw [9, 10] (fun a b wr => ∃ (i j : Nat), i ≤ j ∧ j ≤ ts.length ∧ a = .int .i64 i ∧ b = .int .i64 j ∧ Hid (∀ x ∈ ts.take i, x.1 < n) ∧ Hid (∀ x ∈ ts.drop j, n ≤ x.1) ∧ Hid (Below w.heap.size w wr)) (fun a b _ => (intOf b).toNat - (intOf a).toNat)
  case atStart => exact ⟨0, ts.length, Nat.zero_le _, Nat.le_refl _, rfl, rfl, (fun x hx => by simp at hx : ∀ x ∈ ts.take 0, x.1 < n), (fun x hx => by simp at hx : ∀ x ∈ ts.drop ts.length, n ≤ x.1), Below.refl _ _⟩
  case round =>
    obtain ⟨i, j, hij, hj, rfl, rfl, h1, h2, hb⟩ := hrel
    by_cases hlt : i < j
    · have hi1 : i ≤ (i + j) / 2 := by omega
      have hi2 : (i + j) / 2 < j := by omega
      have hi3 : (i + j) / 2 < ts.length := by omega
      obtain ⟨b, off, rfl, hbb, c0, c1, c2, c3⟩ := hx.out.stays hb.out ((i + j) / 2) hi3
      have HP : Hid (∃ x : It, x = ts[(i + j) / 2]) := ⟨_, rfl⟩
      obtain ⟨⟨q, f, lv, tx⟩, hp⟩ := HP.out
      rw [← hp] at c0 c1 c2 c3
      have HQ : Hid ((q, f, lv, tx) = ts[(i + j) / 2]) := hp
      clear hp HP
      dsimp only at c0 c1 c2 c3
      go_wp2_with fail
      refine (putc_any q f lv tx n wr).mono ?_
      rintro e w1 ⟨rfl, hb1⟩
      have B1 : Hid (Below w.heap.size w w1) := hb.out.trans (hb1.mono hb.out.size)
      clear hb1 c0 c1 c2 c3
      by_cases hq : q < n
      · have hc : cmpP q n < 0 := cmpP_neg.2 hq
        have H1 : Hid (∀ x ∈ ts.take ((i + j) / 2 + 1), x.1 < n) := ahead ha.out hi3 (by rw [← HQ.out]; exact hq)
        go_wp2_with fail
        go_roundw
        case rel => exact ⟨(i + j) / 2 + 1, j, by omega, hj, by go_num, rfl, H1, h2, B1⟩
        case measure => simp [intOf]; omega
      · have hc : ¬ cmpP q n < 0 := fun h => hq (cmpP_neg.1 h)
        have H2 : Hid (∀ x ∈ ts.drop ((i + j) / 2), n ≤ x.1) := behind ha.out hi3 (by rw [← HQ.out]; show n ≤ q; omega)
        go_wp2_with fail
        go_roundw
        case rel => exact ⟨i, (i + j) / 2, by omega, by omega, rfl, by go_num, h1, H2, B1⟩
        case measure => simp [intOf]; omega
    · obtain rfl : i = j := by omega
      have HPa : Hid (Parts ts n i) := (⟨hj, h1.out, h2.out⟩ : Parts ts n i)
      by_cases hlt2 : i < ts.length
      · obtain ⟨b, off, rfl, hbb, c0, c1, c2, c3⟩ := hx.out.stays hb.out i hlt2
        have HP : Hid (∃ x : It, x = ts[i]) := ⟨_, rfl⟩
        obtain ⟨⟨q, f, lv, tx⟩, hp⟩ := HP.out
        rw [← hp] at c0 c1 c2 c3
        have HQ : Hid ((q, f, lv, tx) = ts[i]) := hp
        clear hp HP
        dsimp only at c0 c1 c2 c3
        have HD : Hid (decide (∃ h : i < ts.length, ts[i].1 = n) = decide (cmpP q n = 0)) := by
          have e : (∃ h : i < ts.length, ts[i].1 = n) ↔ cmpP q n = 0 := by
            rw [cmpP_zero]
            constructor
            · rintro ⟨_, e⟩; rw [← HQ.out] at e; exact e
            · intro e; exact ⟨hlt2, by rw [← HQ.out]; exact e⟩
          show decide _ = decide _
          exact decide_eq_decide.2 e
        go_wp2_with fail
        refine (putc_any q f lv tx n wr).mono ?_
        rintro e w1 ⟨rfl, hb1⟩
        have B1 : Hid (Below w.heap.size w w1) := hb.out.trans (hb1.mono hb.out.size)
        clear hb1 c0 c1 c2 c3
        go_wp2_with fail
        refine bodyPost_ret (v := .tuple #[.int .i64 (i : Int), .bool (decide (cmpP q n = 0))]) (by simp [results, Try.results70, go_sem]; rfl) rfl ⟨?_, ?_⟩
        · exact ⟨i, HPa.out, by rw [HD.out]⟩
        · exact B1.out
      · have HD : Hid (decide (∃ h : i < ts.length, ts[i].1 = n) = false) := (decide_eq_false (fun ⟨h, _⟩ => hlt2 h) : decide (∃ h : i < ts.length, ts[i].1 = n) = false)
        go_wp2_with fail
        refine bodyPost_ret (v := .tuple #[.int .i64 (i : Int), .bool false]) (by simp [results, Try.results70, go_sem]) rfl ⟨?_, ?_⟩
        · exact ⟨i, HPa.out, by rw [HD.out]⟩
        · exact hb.out
end Go.Proofs.Ytjijpcfdkmbgpaa
