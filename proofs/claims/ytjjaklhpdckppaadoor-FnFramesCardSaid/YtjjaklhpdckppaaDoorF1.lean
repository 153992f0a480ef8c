/- The walks over a frame's head, over FrameOf, of the program and of the specification, and over the law on FrameOf. -/
import Derived.Test.YtjjaklhpdckppaaDoorS1
import Derived.Test.YtjjaklhpdckppaaDoorCl
import Derived.Test.YtjjaklhpdckppaaDoorOwn
import Derived.Deep.RegionHeld3
import Derived.Deep.QuietTactic
import Derived.BigQuiet
namespace Go.Proofs.YtjjaklhpdckppaaDoor
open Go.RowKit Pl
set_option linter.unusedVariables false

theorem strOf_three {w : World} {a b c : Int} : (convert 22 9 (.slice (some ⟨w.heap.size, 0, none⟩) 3 3)).run Tryd.prog (w.alloc (.cells #[.int .u8 a, .int .u8 b, .int .u8 c] 5)) = .ok (.string (strOfNums [a, b, c])) (w.alloc (.cells #[.int .u8 a, .int .u8 b, .int .u8 c] 5)) := by
  refine run_convert_bytes_arg _ 22 5 Tryd.underlying22 Tryd.underlying5 w.heap.size 0 3 3 [a, b, c] rfl ?_ 9 Tryd.underlying9
  intro i hi
  have : i = 0 ∨ i = 1 ∨ i = 2 := by omega
  rcases this with rfl | rfl | rfl <;> simp

theorem head_lit (s : ByteArray) (hs : s.size ≤ 60) : strOfNums [(s.size : Int), (sumT s : Int) / 256 % 256, (sumT s : Int) % 256] = headS s := by
  have h : (s.size : Int) = ((s.size % 256 : Nat) : Int) := by omega
  rw [headS, headI, ← h]; rfl
theorem head_lit2 (s : ByteArray) (hs : s.size ≤ 60) : strOfNums [(s.size : Int), (sumT s : Int) % 65536 / 256, (sumT s : Int) % 256] = headS s := by
  have h1 : (sumT s : Int) % 65536 / 256 = (sumT s : Int) / 256 % 256 := by omega
  rw [h1, head_lit s hs]

set_option maxRecDepth 100000 in
set_option maxHeartbeats 400000 in
theorem head_any (s : ByteArray) (w : World) (hs : s.size ≤ 60) (ht : Hid (Tab w)) :
    Calls Tryd.prog 25 #[.string s] w fun e w' => e = .returned (.string (headS s)) ∧ Below w.heap.size w w' := by
  have hone := fun a b c => strOf_three (w := w) (a := a) (b := b) (c := c)
  have hlt := sumT_lt s
  go_enter Tryd.func25, Tryd.ntmps25
  go_wp2_with (first | (go_at_call 33; refine (implOf s _ (by omega) ht).mono ?_; rintro e w1 ⟨rfl, rfl⟩))
  go_ret
  refine ⟨?_, (Below.refl _ _).alloc (Nat.le_refl _) _⟩
  rw [← head_lit s hs]; rfl

set_option maxRecDepth 100000 in
set_option maxHeartbeats 400000 in
theorem frameOf_long (s : ByteArray) (w : World) (hs : 60 < s.size) :
    Calls Tryd.prog 9 #[.string s] w fun e w' => e = .returned (.tuple #[.string ByteArray.empty, .bool false]) ∧ Below w.heap.size w w' := by
  go_enter Tryd.func9, Tryd.ntmps9
  go_wp2
  go_ret2
  exact ⟨rfl, Below.refl _ _⟩
set_option maxRecDepth 100000 in
set_option maxHeartbeats 400000 in
theorem spFrameOf_long (s : ByteArray) (w : World) (hs : 60 < s.size) :
    Calls Tryd.prog 15 #[.string s] w fun e w' => e = .returned (.tuple #[.string ByteArray.empty, .bool false]) ∧ Below w.heap.size w w' := by
  go_enter Tryd.func15, Tryd.ntmps15
  go_wp2
  go_ret2
  exact ⟨rfl, Below.refl _ _⟩
set_option maxRecDepth 100000 in
set_option maxHeartbeats 400000 in
theorem frameOf_any (s : ByteArray) (w : World) (hs : s.size ≤ 60) (ht : Hid (Tab w)) :
    Calls Tryd.prog 9 #[.string s] w fun e w' => e = .returned (.tuple #[.string (frameS s), .bool true]) ∧ Below w.heap.size w w' := by
  have h3 := headS_size s
  go_enter Tryd.func9, Tryd.ntmps9
  go_wp2_with (first | (go_at_call 25; refine (head_any s _ hs ht).mono ?_; rintro e w1 ⟨rfl, hb1⟩))
  go_ret2
  exact ⟨rfl, hb1⟩
set_option maxRecDepth 100000 in
set_option maxHeartbeats 400000 in
theorem spFrameOf_any (s : ByteArray) (w : World) (hs : s.size ≤ 60) :
    Calls Tryd.prog 15 #[.string s] w fun e w' => e = .returned (.tuple #[.string (frameS s), .bool true]) ∧ Below w.heap.size w w' := by
  have hone := fun a b c => strOf_three (w := w) (a := a) (b := b) (c := c)
  have h3 : ∀ a b c : Int, (strOfNums [a, b, c]).size = 3 := fun a b c => by rw [strOfNums_size]; rfl
  have hlt := sumT_lt s
  go_enter Tryd.func15, Tryd.ntmps15
  go_wp2_with (first | (go_at_call 31; refine (specOf s _ (by omega)).mono ?_; rintro e w1 ⟨rfl, rfl⟩))
  go_ret2
  refine ⟨?_, (Below.refl _ _).alloc (Nat.le_refl _) _⟩
  rw [frameS, ← head_lit2 s hs]; rfl

set_option maxRecDepth 100000 in
set_option maxHeartbeats 400000 in
theorem lawFrameOf (s : ByteArray) (w : World) (hs : s.size ≤ maxLen) (ht : Hid (Tab w)) :
    Calls Tryd.prog 5 #[.string s] w fun e w' => e = .returned (.bool true) ∧ Below w.heap.size w w' := by
  unfold maxLen at hs
  by_cases hl : 1048576 < s.size
  · go_enter Tryd.func5, Tryd.ntmps5
    go_wp2
    go_ret
    exact ⟨rfl, Below.refl _ _⟩
  · by_cases hl2 : 60 < s.size
    · go_enter Tryd.func5, Tryd.ntmps5
      go_wp2_with (first | (go_at_call 15; refine (spFrameOf_long s _ hl2).mono ?_; rintro e w1 ⟨rfl, hb1⟩) | (go_at_call 9; refine (frameOf_long s _ hl2).mono ?_; rintro e w2 ⟨rfl, hb2⟩))
      go_ret
      exact ⟨rfl, hb1.trans (hb2.mono hb1.size)⟩
    · have hl3 : s.size ≤ 60 := by omega
      go_enter Tryd.func5, Tryd.ntmps5
      go_wp2_with (first | (go_at_call 15; refine (spFrameOf_any s _ hl3).mono ?_; rintro e w1 ⟨rfl, hb1⟩) | (go_at_call 9; refine (frameOf_any s _ hl3 (show Hid (Tab _) from ht.out.below hb1)).mono ?_; rintro e w2 ⟨rfl, hb2⟩))
      go_ret
      exact ⟨rfl, hb1.trans (hb2.mono hb1.size)⟩
end Go.Proofs.YtjjaklhpdckppaaDoor
