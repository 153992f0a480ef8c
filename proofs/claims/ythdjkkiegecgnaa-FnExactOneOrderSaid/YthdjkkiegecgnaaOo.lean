/- Items held against each other: lists that are alike, one that is the beginning of another one. Written by gen_oo.py. -/
import Derived.Test.YthdjkkiegecgnaaSs
namespace Go.Proofs.Ythdjkkiegecgnaa
open Go.RowKit Pl
set_option linter.unusedVariables false
set_option linter.unusedSimpArgs false

/-- what an item is held against another one by. -/
def ky (x : It) : Int × Int × Int × List UInt8 := (x.1, x.2.1, x.2.2.1, x.2.2.2.toList)
def alB (a b : List It) : Bool := decide (a.map ky = b.map ky)
def begB (a b : List It) : Bool := decide (a.length ≤ b.length) && alB a (b.take a.length)
theorem ky_at {a b : List It} (h : a.map ky = b.map ky) (k : Nat) (ha : k < a.length) (hb : k < b.length) : ky a[k] = ky b[k] := by
  have h1 : (a.map ky)[k]? = (b.map ky)[k]? := by rw [h]
  simpa [List.getElem?_map, List.getElem?_eq_getElem ha, List.getElem?_eq_getElem hb] using h1
theorem alB_no {a b : List It} {k : Nat} (ha : k < a.length) (hb : k < b.length) (hn : ky a[k] ≠ ky b[k]) : alB a b = false := by
  unfold alB; exact decide_eq_false fun h => hn (ky_at h k ha hb)
theorem alB_yes {a b : List It} (hl : a.length = b.length) (h : ∀ k (ha : k < a.length) (hb : k < b.length), ky a[k] = ky b[k]) : alB a b = true := by
  unfold alB
  refine decide_eq_true (List.ext_getElem (by simpa using hl) fun k h1 h2 => ?_)
  rw [List.getElem_map, List.getElem_map]
  exact h k _ _
theorem alB_len {a b : List It} (h : a.length ≠ b.length) : alB a b = false := by
  unfold alB; exact decide_eq_false fun e => h (by have := congrArg List.length e; simpa using this)
theorem begB_no {a b : List It} {k : Nat} (ha : k < a.length) (hb : k < b.length) (hn : ky a[k] ≠ ky b[k]) : begB a b = false := by
  unfold begB
  rw [alB_no (b := b.take a.length) (k := k) ha (by rw [List.length_take]; omega) (by rw [List.getElem_take]; exact hn), Bool.and_false]
theorem begB_yes {a b : List It} (hl : a.length ≤ b.length) (h : ∀ k (ha : k < a.length) (hb : k < b.length), ky a[k] = ky b[k]) : begB a b = true := by
  unfold begB
  rw [alB_yes (by rw [List.length_take]; omega) fun k h1 h2 => by rw [List.getElem_take]; exact h k h1 (by omega), decide_eq_true hl]; rfl
theorem begB_len {a b : List It} (h : ¬ a.length ≤ b.length) : begB a b = false := by
  unfold begB; rw [decide_eq_false h]; rfl

set_option maxRecDepth 100000 in
set_option maxHeartbeats 2000000 in
theorem slEq_any (a1 a2 : Option Addr) (c1 c2 : Nat) (xs ys : List It) (w : World) (A1 : Hid (ItemsAt w a1 xs)) (A2 : Hid (ItemsAt w a2 ys)) (hl : xs.length ≤ 1048576) (hl2 : ys.length ≤ 1048576) :
    Calls Try.prog 102 #[.slice a1 xs.length c1, .slice a2 ys.length c2] w fun e w' => e = .returned (.bool (alB xs ys)) ∧ Below w.heap.size w w' := by
  obtain ⟨n, hn1⟩ : ∃ n, n = xs.length := ⟨_, rfl⟩
  obtain ⟨m, hn2⟩ : ∃ n, n = ys.length := ⟨_, rfl⟩
  obtain ⟨R, hR⟩ : ∃ R, R = alB xs ys := ⟨_, rfl⟩
  rw [← hn1, ← hn2, ← hR]
  have N1 : Hid (n = xs.length) := hn1
  have N2 : Hid (m = ys.length) := hn2
  have HR : Hid (R = alB xs ys) := hR
  have hl : n ≤ 1048576 := by omega
  have hl2 : m ≤ 1048576 := by omega
  by_cases hnm : n ≠ m
  · have hR : R = false := by rw [hR]; exact alB_len (by rw [← hn1, ← hn2]; exact hnm)
    subst hR
    clear hn1 hn2
    go_enter Try.func102, Try.ntmps102
    go_wp2_with fail
    go_ret
    exact ⟨rfl, Below.refl _ _⟩
  have hnm : n = m := by omega
  subst hnm
  clear hn1 hn2 hR
  go_enter Try.func102, Try.ntmps102
  go_wp2_with fail
  go_loopw [13] (fun i wr => ∃ k : Nat, k ≤ n ∧ i = .int .i64 k ∧ Hid (∀ j (h1 : j < xs.length) (h2 : j < ys.length), j < k → ky xs[j] = ky ys[j]) ∧ Hid (Below w.heap.size w wr)) (fun i _ => n - (intOf i).toNat)
  case atStart => exact ⟨0, by omega, rfl, fun j _ _ h => absurd h (by omega), Below.refl _ _⟩
  case round =>
    obtain ⟨k, hk, rfl, hal, hb⟩ := hrel
    by_cases hlt : k < n
    · have hx : k < xs.length := by rw [← N1.out]; exact hlt
      have hy : k < ys.length := by rw [← N2.out]; omega
      obtain ⟨b1, off1, rfl, hbb1, h0, h1, h2, h3⟩ := A1.out.stays hb.out k hx
      obtain ⟨b2, off2, rfl, hbb2, g0, g1, g2, g3⟩ := A2.out.stays hb.out k hy
      have HP : Hid (∃ x : It, x = xs[k]) := ⟨_, rfl⟩
      obtain ⟨⟨q, f, lv, tx⟩, hp⟩ := HP.out
      have HP2 : Hid (∃ x : It, x = ys[k]) := ⟨_, rfl⟩
      obtain ⟨⟨q', f', lv', tx'⟩, hp'⟩ := HP2.out
      rw [← hp] at h0 h1 h2 h3
      rw [← hp'] at g0 g1 g2 g3
      have K1 : Hid (ky xs[k] = (q, f, lv, tx.toList)) := (by rw [← hp]; rfl : ky xs[k] = (q, f, lv, tx.toList))
      have K2 : Hid (ky ys[k] = (q', f', lv', tx'.toList)) := (by rw [← hp']; rfl : ky ys[k] = (q', f', lv', tx'.toList))
      clear hp HP hp' HP2
      dsimp only at h0 h1 h2 h3 g0 g1 g2 g3
      have i0 : (0 : Int) ≤ (k : Int) := by omega
      have i1 : (k : Int) < (n : Int) := by omega
      have i2 : (k : Int) < (n : Int) := by omega
      have B1 : Hid (Below w.heap.size w wr.drew) := hb.out.drew
      by_cases e0 : q = q'
      rotate_left
      · go_wp2_with fail
        go_region
        clear h0 h1 h2 h3 g0 g1 g2 g3
        generalize wr.drew = W1 at *
        have hRf : R = false := by rw [HR.out]; exact alB_no hx hy (by rw [K1.out, K2.out]; simp [e0])
        subst hRf
        go_wp2_with fail
        go_ret
        exact ⟨rfl, B1.out⟩
      by_cases e1 : f = f'
      rotate_left
      · go_wp2_with fail
        go_region
        clear h0 h1 h2 h3 g0 g1 g2 g3
        generalize wr.drew = W1 at *
        have hRf : R = false := by rw [HR.out]; exact alB_no hx hy (by rw [K1.out, K2.out]; simp [e1])
        subst hRf
        go_wp2_with fail
        go_ret
        exact ⟨rfl, B1.out⟩
      by_cases e2 : lv = lv'
      rotate_left
      · go_wp2_with fail
        go_region
        clear h0 h1 h2 h3 g0 g1 g2 g3
        generalize wr.drew = W1 at *
        have hRf : R = false := by rw [HR.out]; exact alB_no hx hy (by rw [K1.out, K2.out]; simp [e2])
        subst hRf
        go_wp2_with fail
        go_ret
        exact ⟨rfl, B1.out⟩
      by_cases e3 : tx.toList = tx'.toList
      rotate_left
      · go_wp2_with fail
        go_region
        clear h0 h1 h2 h3 g0 g1 g2 g3
        generalize wr.drew = W1 at *
        have hRf : R = false := by rw [HR.out]; exact alB_no hx hy (by rw [K1.out, K2.out]; simp [e3])
        subst hRf
        go_wp2_with fail
        go_ret
        exact ⟨rfl, B1.out⟩
      have hal' : Hid (∀ j (h1 : j < xs.length) (h2 : j < ys.length), j < k + 1 → ky xs[j] = ky ys[j]) := fun j h1 h2 hj => by
        by_cases hjk : j = k
        · subst hjk; rw [K1.out, K2.out, e0, e1, e2, e3]
        · exact hal.out j h1 h2 (by omega)
      go_wp2_with fail
      go_region
      clear h0 h1 h2 h3 g0 g1 g2 g3 e0 e1 e2 e3 hal
      generalize wr.drew = W1 at *
      go_wp2_with fail
      go_roundw
      case rel => exact ⟨k + 1, by omega, by go_num, hal', B1⟩
      case measure => simp [intOf]; omega
    · have hRt : R = true := by
        rw [HR.out]
        exact alB_yes (by have := N1.out; have := N2.out; omega) fun j h1 h2 => hal.out j h1 h2 (by rw [← N1.out] at h1; omega)
      subst hRt
      go_wp2_with fail
      go_ret
      exact ⟨rfl, hb.out⟩

set_option maxRecDepth 100000 in
set_option maxHeartbeats 2000000 in
theorem begins_any (a1 a2 : Option Addr) (c1 c2 : Nat) (xs ys : List It) (w : World) (A1 : Hid (ItemsAt w a1 xs)) (A2 : Hid (ItemsAt w a2 ys)) (hl : xs.length ≤ 1048576) (hl2 : ys.length ≤ 1048576) :
    Calls Try.prog 100 #[.slice a1 xs.length c1, .slice a2 ys.length c2] w fun e w' => e = .returned (.bool (begB xs ys)) ∧ Below w.heap.size w w' := by
  obtain ⟨n, hn1⟩ : ∃ n, n = xs.length := ⟨_, rfl⟩
  obtain ⟨m, hn2⟩ : ∃ n, n = ys.length := ⟨_, rfl⟩
  obtain ⟨R, hR⟩ : ∃ R, R = begB xs ys := ⟨_, rfl⟩
  rw [← hn1, ← hn2, ← hR]
  have N1 : Hid (n = xs.length) := hn1
  have N2 : Hid (m = ys.length) := hn2
  have HR : Hid (R = begB xs ys) := hR
  have hl : n ≤ 1048576 := by omega
  have hl2 : m ≤ 1048576 := by omega
  by_cases hnm : m < n
  · have hR : R = false := by rw [hR]; exact begB_len (by rw [← hn1, ← hn2]; omega)
    subst hR
    clear hn1 hn2
    go_enter Try.func100, Try.ntmps100
    go_wp2_with fail
    go_ret
    exact ⟨rfl, Below.refl _ _⟩
  have hnm : n ≤ m := by omega
  clear hn1 hn2 hR
  go_enter Try.func100, Try.ntmps100
  go_wp2_with fail
  go_loopw [5] (fun i wr => ∃ k : Nat, k ≤ n ∧ i = .int .i64 k ∧ Hid (∀ j (h1 : j < xs.length) (h2 : j < ys.length), j < k → ky xs[j] = ky ys[j]) ∧ Hid (Below w.heap.size w wr)) (fun i _ => n - (intOf i).toNat)
  case atStart => exact ⟨0, by omega, rfl, fun j _ _ h => absurd h (by omega), Below.refl _ _⟩
  case round =>
    obtain ⟨k, hk, rfl, hal, hb⟩ := hrel
    by_cases hlt : k < n
    · have hx : k < xs.length := by rw [← N1.out]; exact hlt
      have hy : k < ys.length := by rw [← N2.out]; omega
      obtain ⟨b1, off1, rfl, hbb1, h0, h1, h2, h3⟩ := A1.out.stays hb.out k hx
      obtain ⟨b2, off2, rfl, hbb2, g0, g1, g2, g3⟩ := A2.out.stays hb.out k hy
      have HP : Hid (∃ x : It, x = xs[k]) := ⟨_, rfl⟩
      obtain ⟨⟨q, f, lv, tx⟩, hp⟩ := HP.out
      have HP2 : Hid (∃ x : It, x = ys[k]) := ⟨_, rfl⟩
      obtain ⟨⟨q', f', lv', tx'⟩, hp'⟩ := HP2.out
      rw [← hp] at h0 h1 h2 h3
      rw [← hp'] at g0 g1 g2 g3
      have K1 : Hid (ky xs[k] = (q, f, lv, tx.toList)) := (by rw [← hp]; rfl : ky xs[k] = (q, f, lv, tx.toList))
      have K2 : Hid (ky ys[k] = (q', f', lv', tx'.toList)) := (by rw [← hp']; rfl : ky ys[k] = (q', f', lv', tx'.toList))
      clear hp HP hp' HP2
      dsimp only at h0 h1 h2 h3 g0 g1 g2 g3
      have i0 : (0 : Int) ≤ (k : Int) := by omega
      have i1 : (k : Int) < (n : Int) := by omega
      have i2 : (k : Int) < (m : Int) := by omega
      have B1 : Hid (Below w.heap.size w wr.drew) := hb.out.drew
      by_cases e0 : q = q'
      rotate_left
      · go_wp2_with fail
        go_region
        clear h0 h1 h2 h3 g0 g1 g2 g3
        generalize wr.drew = W1 at *
        have hRf : R = false := by rw [HR.out]; exact begB_no hx hy (by rw [K1.out, K2.out]; simp [e0])
        subst hRf
        go_wp2_with fail
        go_ret
        exact ⟨rfl, B1.out⟩
      by_cases e1 : f = f'
      rotate_left
      · go_wp2_with fail
        go_region
        clear h0 h1 h2 h3 g0 g1 g2 g3
        generalize wr.drew = W1 at *
        have hRf : R = false := by rw [HR.out]; exact begB_no hx hy (by rw [K1.out, K2.out]; simp [e1])
        subst hRf
        go_wp2_with fail
        go_ret
        exact ⟨rfl, B1.out⟩
      by_cases e2 : lv = lv'
      rotate_left
      · go_wp2_with fail
        go_region
        clear h0 h1 h2 h3 g0 g1 g2 g3
        generalize wr.drew = W1 at *
        have hRf : R = false := by rw [HR.out]; exact begB_no hx hy (by rw [K1.out, K2.out]; simp [e2])
        subst hRf
        go_wp2_with fail
        go_ret
        exact ⟨rfl, B1.out⟩
      by_cases e3 : tx.toList = tx'.toList
      rotate_left
      · go_wp2_with fail
        go_region
        clear h0 h1 h2 h3 g0 g1 g2 g3
        generalize wr.drew = W1 at *
        have hRf : R = false := by rw [HR.out]; exact begB_no hx hy (by rw [K1.out, K2.out]; simp [e3])
        subst hRf
        go_wp2_with fail
        go_ret
        exact ⟨rfl, B1.out⟩
      have hal' : Hid (∀ j (h1 : j < xs.length) (h2 : j < ys.length), j < k + 1 → ky xs[j] = ky ys[j]) := fun j h1 h2 hj => by
        by_cases hjk : j = k
        · subst hjk; rw [K1.out, K2.out, e0, e1, e2, e3]
        · exact hal.out j h1 h2 (by omega)
      go_wp2_with fail
      go_region
      clear h0 h1 h2 h3 g0 g1 g2 g3 e0 e1 e2 e3 hal
      generalize wr.drew = W1 at *
      go_wp2_with fail
      go_roundw
      case rel => exact ⟨k + 1, by omega, by go_num, hal', B1⟩
      case measure => simp [intOf]; omega
    · have hRt : R = true := by
        rw [HR.out]
        exact begB_yes (by have := N1.out; have := N2.out; omega) fun j h1 h2 => hal.out j h1 h2 (by rw [← N1.out] at h1; omega)
      subst hRt
      go_wp2_with fail
      go_ret
      exact ⟨rfl, hb.out⟩
end Go.Proofs.Ythdjkkiegecgnaa
