/- The member behind another: slices.Index and both NextOf. -/
import Derived.Test.YthdjkkiegecgnaaRh
namespace Go.Proofs.Ythdjkkiegecgnaa
open Go.RowKit Pl
set_option linter.unusedVariables false

/-- the first place of d is k. -/
def FirstAt (ms : List Int) (d : Int) (k : Nat) : Prop := ∃ h : k < ms.length, ms[k] = d ∧ ∀ j (hj : j < k), ms[j]'(by omega) ≠ d
/-- d has no place among the first k. -/
def NoneUpto (ms : List Int) (d : Int) (k : Nat) : Prop := ∀ j (hj : j < ms.length), j < k → ms[j] ≠ d
theorem first_or_none (ms : List Int) (d : Int) : (∃ k, FirstAt ms d k) ∨ NoneUpto ms d ms.length := by
  have : ∀ n, n ≤ ms.length → (∃ k, FirstAt ms d k) ∨ NoneUpto ms d n := by
    intro n
    induction n with
    | zero => intro _; exact .inr fun j _ h => by omega
    | succ n ih =>
      intro hn
      rcases ih (by omega) with h | h
      · exact .inl h
      · by_cases e : ms[n]'(by omega) = d
        · exact .inl ⟨n, by omega, e, fun j hj => h j (by omega) hj⟩
        · refine .inr fun j hj hjn => ?_
          by_cases e2 : j = n
          · subst e2; exact e
          · exact h j hj (by omega)
  exact this _ (Nat.le_refl _)

/-- the member behind d. -/
def nextP (i : Int) (ms : List Int) (d : Int) : Int :=
  if ringB i ms then (match ms.findIdx? (fun x => x == d) with | some k => ms.getD ((k + 1) % ms.length) 0 | none => 0) else 0
theorem nextP_bad {i : Int} {ms : List Int} {d : Int} (h : ringB i ms = false) : nextP i ms d = 0 := by simp [nextP, h]
theorem nextP_none {i : Int} {ms : List Int} {d : Int} (h : NoneUpto ms d ms.length) : nextP i ms d = 0 := by
  have : ms.findIdx? (fun x => x == d) = none := by
    rw [List.findIdx?_eq_none_iff]
    intro x hx
    obtain ⟨j, hj, rfl⟩ := List.getElem_of_mem hx
    simpa using h j hj hj
  simp [nextP, this]
theorem nextP_at {i : Int} {ms : List Int} {d : Int} {k : Nat} (h : FirstAt ms d k) (hr : ringB i ms = true) : nextP i ms d = ms[(k + 1) % ms.length]'(Nat.mod_lt _ (by obtain ⟨h, _⟩ := h; omega)) := by
  obtain ⟨hk, he, hf⟩ := h
  have : ms.findIdx? (fun x => x == d) = some k := by
    rw [List.findIdx?_eq_some_iff_getElem]
    exact ⟨hk, by simp [he], fun j hj => by simpa using hf j hj⟩
  have hm : (k + 1) % ms.length < ms.length := Nat.mod_lt _ (by omega)
  simp [nextP, this, hr, hm]

set_option maxRecDepth 100000 in
set_option maxHeartbeats 1000000 in
theorem index_at (ao : Option Addr) (cap : Nat) (ws : List Int) (d : Int) (n : Nat) (w : World) (hx : Hid (IntsAt w ao ws)) (hl : ws.length ≤ 1048576) (hf : Hid (FirstAt ws d n)) :
    Calls Try.prog 159 #[.slice ao ws.length cap, .int .i64 d] w fun e w' => e = .returned (.int .i64 (n : Int)) ∧ w' = w := by
  go_enter Try.func159, Try.ntmps159
  go_wp2
  go_loop [8] (fun i => ∃ (k : Nat), k ≤ n ∧ i = .int .i64 k) (fun i => ws.length - (intOf i).toNat)
  case atStart => exact ⟨0, Nat.zero_le _, rfl⟩
  case round =>
    obtain ⟨k, hk, rfl⟩ := hrel
    have hn : n < ws.length := by obtain ⟨h, _⟩ := hf.out; exact h
    have hlt : k < ws.length := by omega
    obtain ⟨b, off, rfl, hbb, hc⟩ := hx.out k hlt
    obtain ⟨x, ht⟩ : ∃ x, x = ws[k] := ⟨_, rfl⟩
    rw [← ht] at hc
    have HT : Hid (x = ws[k]) := ht
    clear ht
    by_cases h1 : k = n
    · have h2 : d = x := by obtain ⟨h, he, _⟩ := hf.out; rw [HT.out]; subst h1; exact he.symm
      subst h2
      subst h1
      go_wp2
      go_ret
      exact ⟨rfl, rfl⟩
    · have h2 : ¬ d = x := by obtain ⟨h, he, hq⟩ := hf.out; rw [HT.out]; exact fun e => hq k (by omega) e.symm
      go_wp2
      go_round
      case rel => exact ⟨k + 1, by omega, by go_num⟩
      case measure => simp [intOf]; omega

set_option maxRecDepth 100000 in
set_option maxHeartbeats 1000000 in
theorem index_none (ao : Option Addr) (cap : Nat) (ws : List Int) (d : Int) (w : World) (hx : Hid (IntsAt w ao ws)) (hl : ws.length ≤ 1048576) (hf : Hid (NoneUpto ws d ws.length)) :
    Calls Try.prog 159 #[.slice ao ws.length cap, .int .i64 d] w fun e w' => e = .returned (.int .i64 (-1)) ∧ w' = w := by
  go_enter Try.func159, Try.ntmps159
  go_wp2
  go_loop [8] (fun i => ∃ (k : Nat), k ≤ ws.length ∧ i = .int .i64 k) (fun i => ws.length - (intOf i).toNat)
  case atStart => exact ⟨0, Nat.zero_le _, rfl⟩
  case round =>
    obtain ⟨k, hk, rfl⟩ := hrel
    by_cases hlt : k < ws.length
    · obtain ⟨b, off, rfl, hbb, hc⟩ := hx.out k hlt
      obtain ⟨x, ht⟩ : ∃ x, x = ws[k] := ⟨_, rfl⟩
      rw [← ht] at hc
      have HT : Hid (x = ws[k]) := ht
      clear ht
      have h2 : ¬ d = x := by rw [HT.out]; exact fun e => hf.out k hlt hlt e.symm
      go_wp2
      go_round
      case rel => exact ⟨k + 1, by omega, by go_num⟩
      case measure => simp [intOf]; omega
    · go_wp2
      go_ret
      exact ⟨rfl, rfl⟩

theorem mod_wrap {k n : Nat} (hk : k < n) (hn : n ≤ 1048576) : IntKind.i64.wrap (IntKind.i64.wrap ((k : Int) + 1)) = ((k + 1 : Nat) : Int) := by
  rw [IntKind.wrap_i64, IntKind.wrap_i64]; omega
end Go.Proofs.Ythdjkkiegecgnaa
