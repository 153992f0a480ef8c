/- What a token numbers, in plain words. -/
import Derived.Test.YtnhnpneedcjcfaaGv
import Derived.Test.YtnhnpneedcjcfaaTx
namespace Go.Proofs.Ytnhnpneedcjcfaa
open Go.RowKit Pl
set_option linter.unusedVariables false

def lvP (lv : List Int) (k : Nat) : Int := if lv[k]? = some 2 then 2 else 1
def numGo (f : Int) (lv : List Int) : Int → Nat → List ByteArray → List It
  | _, _, [] => []
  | q, k, t :: ts => if k < 3 ∧ q < 60 ∧ t.size ≤ 60 then (q + 1, f, lvP lv k, t) :: numGo f lv (q + 1) (k + 1) ts else []
theorem numGo_stop {f : Int} {lv : List Int} {q : Int} {k : Nat} {ts : List ByteArray} (h : ∀ t, ts.head? = some t → ¬ (k < 3 ∧ q < 60 ∧ t.size ≤ 60)) : numGo f lv q k ts = [] := by
  cases ts with
  | nil => rfl
  | cons t ts => unfold numGo; rw [if_neg (h t rfl)]
theorem numGo_step {f : Int} {lv : List Int} {q : Int} {k : Nat} {t : ByteArray} {ts : List ByteArray} (h : k < 3 ∧ q < 60 ∧ t.size ≤ 60) : numGo f lv q k (t :: ts) = (q + 1, f, lvP lv k, t) :: numGo f lv (q + 1) (k + 1) ts := by
  rw [numGo, if_pos h]

/-- the first k of them are numbered: L. -/
def NSt (f : Int) (lv : List Int) (q : Int) (ts : List ByteArray) (k : Nat) (L : List It) : Prop :=
  L.length = k ∧ k ≤ 3 ∧ k ≤ ts.length ∧ (0 ≤ q ∧ q + (k : Int) ≤ 60) ∧ numGo f lv q 0 ts = L ++ numGo f lv (q + (k : Int)) k (ts.drop k)
theorem nSt_start {f : Int} {lv : List Int} {q : Int} {ts : List ByteArray} (h0 : 0 ≤ q) (h1 : q ≤ 60) : NSt f lv q ts 0 [] :=
  ⟨rfl, by omega, by omega, ⟨h0, by simpa using h1⟩, by simp⟩
theorem nSt_stop {f : Int} {lv : List Int} {q : Int} {ts : List ByteArray} {k : Nat} {L : List It} (h : NSt f lv q ts k L) (hs : ∀ (hk : k < ts.length), ¬ (k < 3 ∧ q + (k : Int) < 60 ∧ ts[k].size ≤ 60)) : numGo f lv q 0 ts = L := by
  rw [h.2.2.2.2, numGo_stop, List.append_nil]
  intro t ht
  by_cases hk : k < ts.length
  · rw [List.head?_drop, List.getElem?_eq_getElem hk] at ht
    cases ht
    exact hs hk
  · rw [List.drop_of_length_le (by omega)] at ht
    cases ht
theorem nSt_next {f : Int} {lv : List Int} {q : Int} {ts : List ByteArray} {k : Nat} {L : List It} (h : NSt f lv q ts k L) (hk : k < ts.length) (hs : k < 3 ∧ q + (k : Int) < 60 ∧ ts[k].size ≤ 60) : NSt f lv q ts (k + 1) (L ++ [(q + (k : Int) + 1, f, lvP lv k, ts[k])]) := by
  obtain ⟨h1, h2, h3, h4, h5⟩ := h
  refine ⟨by simp [h1], by omega, by omega, ⟨h4.1, by omega⟩, ?_⟩
  rw [h5, List.drop_eq_getElem_cons hk, numGo_step hs, List.append_assoc, List.singleton_append]
  rw [show q + (k : Int) + 1 = q + ((k + 1 : Nat) : Int) by omega]
theorem nSt_len {f : Int} {lv : List Int} {q : Int} {ts : List ByteArray} {k : Nat} {L : List It} (h : NSt f lv q ts k L) (he : numGo f lv q 0 ts = L) : (numGo f lv q 0 ts).length = k := by rw [he]; exact h.1

set_option maxRecDepth 100000 in
set_option maxHeartbeats 1000000 in
theorem level_any (al : Option Addr) (cl : Nat) (lv : List Int) (k : Nat) (w : World) (hx : Hid (IntsAt w al lv)) (hl : lv.length ≤ 1048576) (hk : k ≤ 1048576) :
    Calls Try.prog 66 #[.slice al lv.length cl, .int .i64 k] w fun e w' => e = .returned (.int .i64 (lvP lv k)) ∧ w' = w := by
  unfold lvP
  by_cases h1 : k < lv.length
  · have e1 : lv[k]? = some lv[k] := List.getElem?_eq_getElem h1
    obtain ⟨b, off, rfl, hbb, hc⟩ := hx.out k h1
    obtain ⟨x, ht⟩ : ∃ x, x = lv[k] := ⟨_, rfl⟩
    rw [← ht] at hc e1
    have HE : Hid (lv[k]? = some x) := e1
    have i1 : (k : Int) < (lv.length : Int) := by omega
    clear e1 ht
    by_cases h2 : x = 2
    · subst h2
      rw [if_pos HE.out]
      go_enter Try.func66, Try.ntmps66
      go_wp2
      go_ret
      exact ⟨rfl, rfl⟩
    · rw [if_neg (by rw [HE.out]; simpa using h2)]
      go_enter Try.func66, Try.ntmps66
      go_wp2
      go_ret
      exact ⟨rfl, rfl⟩
  · rw [if_neg (by rw [List.getElem?_eq_none (by omega)]; simp)]
    have i1 : ¬ (k : Int) < (lv.length : Int) := by omega
    go_enter Try.func66, Try.ntmps66
    go_wp2
    go_ret
    exact ⟨rfl, rfl⟩
end Go.Proofs.Ytnhnpneedcjcfaa
