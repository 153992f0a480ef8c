/- Joined texts: Cu. -/
import Derived.Test.YtfefjkldjaabbaaPj6
import Derived.Test.YtfefjkldjaabbaaPj11
import Derived.Test.YtfefjkldjaabbaaPj14
import Derived.Deep.DeepCutAuto
/- Texts cut in parts: in plain words, and the walk over the program's cutInParts. -/
namespace Go.Proofs.Ytfefjkldjaabbaa
open Go.RowKit Pl
set_option linter.unusedVariables false

/-- how many pieces a text of m bytes has, and how long each is. -/
def cntN (m : Nat) : Nat := if m = 0 then 1 else (m + 39) / 40
def lenN (m i : Nat) : Nat := min 40 (m - 40 * i)
def partP (s : ByteArray) (i : Nat) : ByteArray := s.extract (40 * i) (40 * i + lenN s.size i)
def pcS (num : Nat) (s : ByteArray) (i : Nat) : ByteArray := varS num ++ varS i ++ varS (cntN s.size) ++ partP s i
def pcsL (num : Nat) (s : ByteArray) : List ByteArray := (List.range (cntN s.size)).map (pcS num s)
/-- the parts, as slices of one block. -/
def cutR (g m n : Nat) : List (List Value) := (List.range n).map fun i => [Value.slice (some ⟨g, 40 * i, none⟩) (lenN m i) (lenN m i)]
theorem cutR_len (g m n : Nat) : (cutR g m n).length = n := by simp [cutR]
theorem cutR_succ (g m n : Nat) : cutR g m (n + 1) = cutR g m n ++ [[Value.slice (some ⟨g, 40 * n, none⟩) (lenN m n) (lenN m n)]] := by simp [cutR, List.range_succ]
def lenV : Value → Nat
  | .slice _ n _ => n
  | _ => 0
theorem Try.info22 : (Try.prog.info? 22).map (fun i => (i.zero, i.size, i.bytes)) = some (some (.slice none 0 0), 1, 24) := by kernel_rfl

set_option maxRecDepth 100000 in
set_option maxHeartbeats 2000000 in
theorem cutParts_any (g m cap : Nat) (w : World) (hm : m ≤ 400) (hc : m ≤ cap) :
    Calls Try.prog 38 #[.slice (some ⟨g, 0, none⟩) m cap] w fun e w' => ∃ v, e = .returned v ∧ SlN w' 22 1 w.heap.size v (cutR g m (cntN m)) ∧ Below w.heap.size w w' := by
  have S0 : Hid (SlN (w.alloc (.cells #[] 22)) 22 1 w.heap.size (.slice (some ⟨w.heap.size, 0, none⟩) 0 0) (cutR g m 0)) := SlN.made w 22 1 w.heap.size (Nat.le_refl _)
  have B0 : Hid (Below w.heap.size w (w.alloc (.cells #[] 22))) := (Below.refl _ _).alloc (Nat.le_refl _) _
  go_enter Try.func38, Try.ntmps38
  go_wp2_with fail
  go_loopw [0, 3] (fun wh v wr => ∃ k o l c : Nat, wh = .slice (some ⟨g, o, none⟩) l c ∧ Hid (o = 40 * k ∧ m = o + l ∧ (0 < l ∨ k = 0)) ∧ l ≤ c ∧ l ≤ 400 ∧ Hid (SlN wr 22 1 w.heap.size v (cutR g m k)) ∧ Hid (Below w.heap.size w wr)) (fun wh _ _ => lenV wh)
  case atStart => exact ⟨0, 0, m, cap, rfl, ⟨rfl, by omega, .inr rfl⟩, hc, hm, S0, B0⟩
  case round =>
    clear S0 B0
    obtain ⟨k, o, l, c, rfl, hst, hlc, hl4, hS, hB⟩ := hrel
    have z1 : w.heap.size ≤ wr.heap.size := hB.out.size
    have hk : (cutR g m k).length ≤ 1048576 := by rw [cutR_len]; have := hst.out; omega
    have SO := hS.out
    by_cases hl : 40 < l
    · have hc40 : 40 < c := by omega
      have hr1 : [Value.slice (some ⟨g, o, none⟩) 40 40].length = 1 := rfl
      go_wp2_with (at_builtin; refine wpList_pushN rfl _ _ 57 rfl (.slice none 0 0) 24 Try.underlying57 Try.info22 rfl (by decide) w.heap.size u3 (cutR g m k) rfl SO [.slice (some ⟨g, o, none⟩) 40 40] rfl rfl rfl hk z1 ?_; intro v2 w2 S2 G2 b2 N2)
      go_roundw
      case rel =>
        refine ⟨k + 1, o + 40, l - 40, c - 40, rfl, ⟨?_, ?_, .inl (by omega)⟩, by omega, by omega, ?_, hB.out.trans b2⟩
        · have := hst.out; omega
        · have := hst.out; omega
        · rw [cutR_succ]
          have e1 : 40 * k = o := by have := hst.out; omega
          have e2 : lenN m k = 40 := by unfold lenN; have := hst.out; omega
          rw [e1, e2]; exact S2
      case measure => simp [lenV]; omega
    · go_wp2_with (at_builtin; refine wpList_pushN rfl _ _ 57 rfl (.slice none 0 0) 24 Try.underlying57 Try.info22 rfl (by decide) w.heap.size u3 (cutR g m k) rfl SO [.slice (some ⟨g, o, none⟩) l l] rfl rfl rfl hk z1 ?_; intro v2 w2 S2 G2 b2 N2)
      go_ret
      refine ⟨_, rfl, ?_, hB.out.trans b2⟩
      have e0 : cntN m = k + 1 := by unfold cntN; have := hst.out; split <;> omega
      have e1 : 40 * k = o := by have := hst.out; omega
      have e2 : lenN m k = l := by unfold lenN; have := hst.out; omega
      rw [e0, cutR_succ, e1, e2]; exact S2
end Go.Proofs.Ytfefjkldjaabbaa

