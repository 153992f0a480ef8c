/- Joined texts: S2. -/
import Derived.Test.YtlflcjdpdbdbkaaDoorBj19
import Derived.Test.YtlflcjdpdbdbkaaDoorBj2
import Derived.Test.YtlflcjdpdbdbkaaDoorBj6
import Derived.Lib.Strings
import Derived.Lib.BufferWrite
import Derived.Lib.UnsafeStr
import Derived.Laws.MakeOwn
import Derived.Deep.RegionHeld3
import Derived.Deep.QuietTactic
import Derived.BigQuiet
/- The walks over a sum's four bytes, strings.Clone, Sealed and Unsealed, of the program and of the specification, and the laws on Sealed and Unsealed. -/
namespace Go.Proofs.YtlflcjdpdbdbkaaDoor
open Go.RowKit Pl
set_option linter.unusedVariables false

theorem below_drewN {B : Nat} {a w : World} (h : Below B a w) (n : Nat) : Below B a (w.drewN n) := h.trans ⟨rfl, rfl, rfl, Nat.le_refl _, fun _ _ => rfl⟩

theorem strOf_four {w : World} {a b c d : Int} : (convert 22 9 (.slice (some ⟨w.heap.size, 0, none⟩) 4 4)).run Tryd.prog (w.alloc (.cells #[.int .u8 a, .int .u8 b, .int .u8 c, .int .u8 d] 5)) = .ok (.string (strOfNums [a, b, c, d])) (w.alloc (.cells #[.int .u8 a, .int .u8 b, .int .u8 c, .int .u8 d] 5)) := by
  refine run_convert_bytes_arg _ 22 5 Tryd.underlying22 Tryd.underlying5 w.heap.size 0 4 4 [a, b, c, d] rfl ?_ 9 Tryd.underlying9
  intro i hi
  have : i = 0 ∨ i = 1 ∨ i = 2 ∨ i = 3 := by omega
  rcases this with rfl | rfl | rfl | rfl <;> simp

theorem four_lit (x : Nat) (hx : x < 4294967296) : strOfNums [(x : Int) / 16777216, (x : Int) / 65536 % 256, (x : Int) / 256 % 256, (x : Int) % 256] = fourS x := by
  have h : (x : Int) / 16777216 = ((x / 16777216 % 256 : Nat) : Int) := by omega
  rw [h]; rfl

set_option maxHeartbeats 400000 in
theorem seal_any (x : Nat) (w : World) (hx : x < 4294967296) :
    Calls Tryd.prog 58 #[.int .u32 x] w fun e w' => e = .returned (.string (fourS x)) ∧ Below w.heap.size w w' := by
  have hone := fun a b c d => strOf_four (w := w) (a := a) (b := b) (c := c) (d := d)
  go_enter Tryd.func58, Tryd.ntmps58
  go_wp2
  go_ret
  exact ⟨by rw [← four_lit x hx]; rfl, (Below.refl _ _).alloc (Nat.le_refl _) _⟩

set_option maxHeartbeats 400000 in
theorem four_any (x : Nat) (w : World) (hx : x < 4294967296) :
    Calls Tryd.prog 68 #[.int .u32 x] w fun e w' => e = .returned (.string (fourS x)) ∧ Below w.heap.size w w' := by
  have hone := fun a b c d => strOf_four (w := w) (a := a) (b := b) (c := c) (d := d)
  go_enter Tryd.func68, Tryd.ntmps68
  go_wp2
  go_ret
  exact ⟨by rw [← four_lit x hx]; rfl, (Below.refl _ _).alloc (Nat.le_refl _) _⟩

set_option maxRecDepth 100000 in
set_option maxHeartbeats 400000 in
theorem implSeal_long (t : ByteArray) (w : World) (hl : 20000 < t.size) :
    Calls Tryd.prog 23 #[.string t] w fun e w' => e = .returned (.tuple #[.string ByteArray.empty, .bool false]) ∧ Below w.heap.size w w' := by
  go_enter Tryd.func23, Tryd.ntmps23
  go_wp2
  go_ret2
  exact ⟨rfl, Below.refl _ _⟩
set_option maxRecDepth 100000 in
set_option maxHeartbeats 400000 in
theorem specSeal_long (t : ByteArray) (w : World) (hl : 20000 < t.size) :
    Calls Tryd.prog 35 #[.string t] w fun e w' => e = .returned (.tuple #[.string ByteArray.empty, .bool false]) ∧ Below w.heap.size w w' := by
  go_enter Tryd.func35, Tryd.ntmps35
  go_wp2
  go_ret2
  exact ⟨rfl, Below.refl _ _⟩
set_option maxRecDepth 100000 in
set_option maxHeartbeats 400000 in
theorem implSeal_any (t : ByteArray) (w : World) (hl : t.size ≤ 20000) (ht : Hid (Tab w)) :
    Calls Tryd.prog 23 #[.string t] w fun e w' => e = .returned (.tuple #[.string (sealS t), .bool true]) ∧ Below w.heap.size w w' := by
  have h4 := fourS_size (sumT t)
  have hlt := sumT_lt t
  go_enter Tryd.func23, Tryd.ntmps23
  go_wp2_with (first | (go_at_call 57; refine (implOf t _ (by omega) ht).mono ?_; rintro e w1 ⟨rfl, rfl⟩) | (go_at_call 58; refine (seal_any _ _ hlt).mono ?_; rintro e w2 ⟨rfl, hb2⟩))
  go_ret2
  exact ⟨rfl, hb2⟩
set_option maxRecDepth 100000 in
set_option maxHeartbeats 400000 in
theorem specSeal_any (t : ByteArray) (w : World) (hl : t.size ≤ 20000) :
    Calls Tryd.prog 35 #[.string t] w fun e w' => e = .returned (.tuple #[.string (sealS t), .bool true]) ∧ Below w.heap.size w w' := by
  have h4 := fourS_size (sumT t)
  have hlt := sumT_lt t
  go_enter Tryd.func35, Tryd.ntmps35
  go_wp2_with (first | (go_at_call 69; refine (specOf t _ (by omega)).mono ?_; rintro e w1 ⟨rfl, rfl⟩) | (go_at_call 68; refine (four_any _ _ hlt).mono ?_; rintro e w2 ⟨rfl, hb2⟩))
  go_ret2
  exact ⟨rfl, hb2⟩

theorem cmp_yes {t : ByteArray} {n : Nat} (hn : t.size = n + 4) (h : (!(t.extract n t.size).toList == (fourS (sumT (t.extract 0 n))).toList) = false) : IsSeal t := by
  have h1 : (t.extract n t.size).toList = (fourS (sumT (t.extract 0 n))).toList := by simpa using h
  unfold IsSeal
  rw [show t.size - 4 = n by omega]
  rw [ByteArray.toList_eq, ByteArray.toList_eq] at h1
  exact ext_list h1
theorem cmp_no {t : ByteArray} {n : Nat} (hn : t.size = n + 4) (h : (!(t.extract n t.size).toList == (fourS (sumT (t.extract 0 n))).toList) = true) : ¬ IsSeal t := by
  intro hg
  unfold IsSeal at hg
  rw [show t.size - 4 = n by omega] at hg
  rw [hg] at h
  simp at h

/-- what Unsealed answers of a text of n bytes and four more. -/
def UnAns (t : ByteArray) (n : Nat) (e : Ending) : Prop :=
  (IsSeal t ∧ e = .returned (.tuple #[.string (t.extract 0 n), .bool true])) ∨ (¬ IsSeal t ∧ e = .returned (.tuple #[.string ByteArray.empty, .bool false]))

set_option maxRecDepth 100000 in
set_option maxHeartbeats 1000000 in
theorem implUn_short (t : ByteArray) (w : World) (hl : t.size < 4) :
    Calls Tryd.prog 26 #[.string t] w fun e w' => e = .returned (.tuple #[.string ByteArray.empty, .bool false]) ∧ Below w.heap.size w w' := by
  have hd : decide ((t.size : Int) - 4 < 0) = true := by simp; omega
  go_enter Tryd.func26, Tryd.ntmps26
  go_wp2
  skip
  go_ret2
  exact ⟨rfl, Below.refl _ _⟩
set_option maxRecDepth 100000 in
set_option maxHeartbeats 1000000 in
theorem implUn_long (t : ByteArray) (w : World) (hl : 20004 < t.size) (hs : t.size ≤ 1048576) :
    Calls Tryd.prog 26 #[.string t] w fun e w' => e = .returned (.tuple #[.string ByteArray.empty, .bool false]) ∧ Below w.heap.size w w' := by
  have hd : decide ((t.size : Int) - 4 < 0) = false := by simp; omega
  have hd2 : decide (20000 < (t.size : Int) - 4) = true := by simp; omega
  go_enter Tryd.func26, Tryd.ntmps26
  go_wp2
  skip
  go_ret2
  exact ⟨rfl, Below.refl _ _⟩

set_option maxRecDepth 100000 in
set_option maxHeartbeats 1000000 in
theorem specUn_short (t : ByteArray) (w : World) (hl : t.size < 4) :
    Calls Tryd.prog 41 #[.string t] w fun e w' => e = .returned (.tuple #[.string ByteArray.empty, .bool false]) ∧ Below w.heap.size w w' := by
  have hd : decide ((t.size : Int) - 4 < 0) = true := by simp; omega
  go_enter Tryd.func41, Tryd.ntmps41
  go_wp2
  go_quiet (fail)
  go_wp2
  go_ret2
  exact ⟨rfl, below_drewN (Below.refl _ _) _⟩
set_option maxRecDepth 100000 in
set_option maxHeartbeats 1000000 in
theorem specUn_long (t : ByteArray) (w : World) (hl : 20004 < t.size) (hs : t.size ≤ 1048576) :
    Calls Tryd.prog 41 #[.string t] w fun e w' => e = .returned (.tuple #[.string ByteArray.empty, .bool false]) ∧ Below w.heap.size w w' := by
  have hd : decide ((t.size : Int) - 4 < 0) = false := by simp; omega
  have hd2 : decide (20000 < (t.size : Int) - 4) = true := by simp; omega
  go_enter Tryd.func41, Tryd.ntmps41
  go_wp2
  go_quiet (fail)
  go_wp2
  go_ret2
  exact ⟨rfl, below_drewN (Below.refl _ _) _⟩

set_option maxRecDepth 100000 in
set_option maxHeartbeats 1000000 in
theorem implUn_mid (t : ByteArray) (n : Nat) (w : World) (hn : Hid (t.size = n + 4)) (hl : n ≤ 20000) (ht : Hid (Tab w)) :
    Calls Tryd.prog 26 #[.string t] w fun e w' => Hid (UnAns t n e) ∧ Below w.heap.size w w' := by
  have hw4 : IntKind.i64.wrap ((t.size : Int) - 4) = (n : Int) := by have := hn.out; rw [IntKind.wrap_i64]; omega
  have hd : decide ((n : Int) < 0) = false := by simp
  have hd2 : decide (20000 < (n : Int)) = false := by simp; omega
  have hi1 : (0 : Int) ≤ (n : Int) := by omega
  have hi2 : (n : Int) ≤ (t.size : Int) := by have := hn.out; omega
  have hxs : (t.extract 0 n).size ≤ 1048577 := by rw [ByteArray.size_extract]; omega
  have hxs2 : (t.extract 0 n).size ≤ 1048576 := by rw [ByteArray.size_extract]; omega
  have e4 : (t.size : Int) - 4 = (n : Int) := by have := hn.out; omega
  have htd : Hid (Tab w.drew) := ht.out
  go_enter Tryd.func26, Tryd.ntmps26
  go_wp2
  go_region_held3 (fun _ => True) (trivial) (first | (go_at_call 57; refine (implOf _ _ hxs (by exact htd)).mono ?_; rintro e w1 ⟨rfl, rfl⟩) | (go_at_call 58; refine (seal_any _ _ (sumT_lt _)).mono ?_; rintro e w2 ⟨rfl, hb2⟩))
  go_wp2_with (first | (go_at_call 62; refine (clone_any _ _ hxs2).mono ?_; rintro e w3 ⟨rfl, hb3⟩))
  · go_ret2
    exact ⟨(show UnAns _ _ _ from .inr ⟨cmp_no hn.out (by assumption), rfl⟩), (Below.refl _ w).drew.trans hb2⟩
  · go_ret2
    exact ⟨(show UnAns _ _ _ from .inl ⟨cmp_yes hn.out (by assumption), rfl⟩), ((Below.refl _ w).drew.trans hb2).trans (hb3.mono hb2.size)⟩

set_option maxRecDepth 100000 in
set_option maxHeartbeats 1000000 in
theorem specUn_mid (t : ByteArray) (n : Nat) (w : World) (hn : Hid (t.size = n + 4)) (hl : n ≤ 20000) :
    Calls Tryd.prog 41 #[.string t] w fun e w' => Hid (UnAns t n e) ∧ Below w.heap.size w w' := by
  have hw4 : IntKind.i64.wrap ((t.size : Int) - 4) = (n : Int) := by have := hn.out; rw [IntKind.wrap_i64]; omega
  have hd : decide ((n : Int) < 0) = false := by simp
  have hd2 : decide (20000 < (n : Int)) = false := by simp; omega
  have hi1 : (0 : Int) ≤ (n : Int) := by omega
  have hi2 : (n : Int) ≤ (t.size : Int) := by have := hn.out; omega
  have hxs : (t.extract 0 n).size ≤ 1048577 := by rw [ByteArray.size_extract]; omega
  have hxs2 : (t.extract 0 n).size ≤ 1048576 := by rw [ByteArray.size_extract]; omega
  have e4 : (t.size : Int) - 4 = (n : Int) := by have := hn.out; omega
  go_enter Tryd.func41, Tryd.ntmps41
  go_wp2
  go_region_held3 (fun _ => True) (trivial) (first | (go_at_call 69; refine (specOf _ _ hxs).mono ?_; rintro e w1 ⟨rfl, rfl⟩) | (go_at_call 68; refine (four_any _ _ (sumT_lt _)).mono ?_; rintro e w2 ⟨rfl, hb2⟩))
  go_wp2
  · go_ret2
    exact ⟨(show UnAns _ _ _ from .inr ⟨cmp_no hn.out (by assumption), rfl⟩), (Below.refl _ w).drew.trans hb2⟩
  · go_ret2
    exact ⟨(show UnAns _ _ _ from .inl ⟨cmp_yes hn.out (by assumption), rfl⟩), (Below.refl _ w).drew.trans hb2⟩

/-- what Unsealed answers of any text: its own answer, the same of both. -/
theorem unAns_same {t : ByteArray} {n : Nat} {e e' : Ending} (h : UnAns t n e) (h' : UnAns t n e') : e = e' := by
  rcases h with ⟨h1, rfl⟩ | ⟨h1, rfl⟩ <;> rcases h' with ⟨h2, rfl⟩ | ⟨h2, rfl⟩
  · rfl
  · exact absurd h1 h2
  · exact absurd h2 h1
  · rfl

theorem implUn_yes (t : ByteArray) (n : Nat) (w : World) (hn : t.size = n + 4) (hl : n ≤ 20000) (ht : Hid (Tab w)) (hg : Hid (IsSeal t)) :
    Calls Tryd.prog 26 #[.string t] w fun e w' => e = .returned (.tuple #[.string (t.extract 0 n), .bool true]) ∧ Below w.heap.size w w' :=
  (implUn_mid t n w hn hl ht).mono fun e w' h => ⟨unAns_same h.1.out (.inl ⟨hg.out, rfl⟩), h.2⟩
theorem implUn_no (t : ByteArray) (n : Nat) (w : World) (hn : t.size = n + 4) (hl : n ≤ 20000) (ht : Hid (Tab w)) (hg : Hid (¬ IsSeal t)) :
    Calls Tryd.prog 26 #[.string t] w fun e w' => e = .returned (.tuple #[.string ByteArray.empty, .bool false]) ∧ Below w.heap.size w w' :=
  (implUn_mid t n w hn hl ht).mono fun e w' h => ⟨unAns_same h.1.out (.inr ⟨hg.out, rfl⟩), h.2⟩
theorem specUn_yes (t : ByteArray) (n : Nat) (w : World) (hn : t.size = n + 4) (hl : n ≤ 20000) (hg : Hid (IsSeal t)) :
    Calls Tryd.prog 41 #[.string t] w fun e w' => e = .returned (.tuple #[.string (t.extract 0 n), .bool true]) ∧ Below w.heap.size w w' :=
  (specUn_mid t n w hn hl).mono fun e w' h => ⟨unAns_same h.1.out (.inl ⟨hg.out, rfl⟩), h.2⟩
theorem specUn_no (t : ByteArray) (n : Nat) (w : World) (hn : t.size = n + 4) (hl : n ≤ 20000) (hg : Hid (¬ IsSeal t)) :
    Calls Tryd.prog 41 #[.string t] w fun e w' => e = .returned (.tuple #[.string ByteArray.empty, .bool false]) ∧ Below w.heap.size w w' :=
  (specUn_mid t n w hn hl).mono fun e w' h => ⟨unAns_same h.1.out (.inr ⟨hg.out, rfl⟩), h.2⟩

end Go.Proofs.YtlflcjdpdbdbkaaDoor

