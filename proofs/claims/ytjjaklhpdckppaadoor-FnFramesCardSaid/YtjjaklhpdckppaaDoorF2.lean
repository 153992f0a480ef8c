/- The walk over the first frame of a stream, and over the closure that takes a text. -/
import Derived.Test.YtjjaklhpdckppaaDoorF1
import Derived.Test.YtjjaklhpdckppaaDoorOwS
namespace Go.Proofs.YtjjaklhpdckppaaDoor
open Go.RowKit Pl
set_option linter.unusedVariables false

set_option maxRecDepth 100000 in
set_option maxHeartbeats 1000000 in
theorem first_none (t : ByteArray) (w : World) (h0 : t.size = 0) :
    Calls Tryd.prog 37 #[.string t] w fun e w' => e = .returned (.tuple #[.string ByteArray.empty, .bool false, .bool false]) ∧ Below w.heap.size w w' := by
  obtain rfl : t = ⟨#[]⟩ := ByteArray.ext (Array.eq_empty_of_size_eq_zero h0)
  go_enter Tryd.func37, Tryd.ntmps37
  go_wp2
  go_ret3
  exact ⟨rfl, Below.refl _ _⟩

theorem ne_empty {t : ByteArray} (h : 0 < t.size) : (t.toList == ([] : List UInt8)) = false := by
  rw [beq_eq_false_iff_ne, ByteArray.toList_eq]
  intro e
  rw [← size_list, e] at h
  exact absurd h (by simp)

set_option maxRecDepth 100000 in
set_option maxHeartbeats 1000000 in
theorem first_big (t : ByteArray) (w : World) (h0 : 0 < t.size) (h1 : 60 < len0 t) (hs : t.size ≤ 1048576) :
    Calls Tryd.prog 37 #[.string t] w fun e w' => e = .returned (.tuple #[.string ByteArray.empty, .bool false, .bool true]) ∧ Below w.heap.size w w' := by
  have hl := len0_at t h0
  have hlt := len0_lt t
  have hne := ne_empty h0
  go_enter Tryd.func37, Tryd.ntmps37
  go_wp2
  go_ret3
  exact ⟨rfl, Below.refl _ _⟩

set_option maxRecDepth 100000 in
set_option maxHeartbeats 1000000 in
theorem first_part (t : ByteArray) (w : World) (h0 : 0 < t.size) (h1 : len0 t ≤ 60) (h2 : t.size < 3 + len0 t) :
    Calls Tryd.prog 37 #[.string t] w fun e w' => e = .returned (.tuple #[.string ByteArray.empty, .bool false, .bool false]) ∧ Below w.heap.size w w' := by
  have hl := len0_at t h0
  have hne := ne_empty h0
  go_enter Tryd.func37, Tryd.ntmps37
  go_wp2
  go_ret3
  exact ⟨rfl, Below.refl _ _⟩

theorem list_same {a b : ByteArray} (h : a = b) : (a.toList == b.toList) = true := by rw [h]; simp
theorem list_differ {a b : ByteArray} (h : a ≠ b) : (a.toList == b.toList) = false := by
  rw [beq_eq_false_iff_ne, ByteArray.toList_eq, ByteArray.toList_eq]
  exact fun e => h (ext_list e)

set_option maxRecDepth 100000 in
set_option maxHeartbeats 1000000 in
theorem first_torn (t : ByteArray) (w : World) (h0 : 0 < t.size) (h1 : len0 t ≤ 60) (h2 : 3 + len0 t ≤ t.size) (h3 : t.extract 0 3 ≠ headS (text0 t)) (hs : t.size ≤ 1048576) (ht : Hid (Tab w)) :
    Calls Tryd.prog 37 #[.string t] w fun e w' => e = .returned (.tuple #[.string ByteArray.empty, .bool false, .bool true]) ∧ Below w.heap.size w w' := by
  have hl := len0_at t h0
  have hne := ne_empty h0
  have hx := list_differ h3
  have hxs := text0_size t h2
  have hb3 : (3 : Int) ≤ (t.size : Int) := by omega
  have htd : Hid (Tab w.drew) := ht
  unfold text0 at hx hxs
  clear h3
  generalize len0 t = n at *
  have hxs2 : (t.extract 3 (3 + n)).size ≤ 60 := by omega
  clear hxs
  go_enter Tryd.func37, Tryd.ntmps37
  go_wp2
  go_region_held3 (fun _ => True) (trivial) (first | (go_at_call 25; refine (head_any _ _ hxs2 (by exact htd)).mono ?_; rintro e w1 ⟨rfl, hb1⟩))
  go_wp2
  go_ret3
  exact ⟨rfl, (Below.refl _ w).drew.trans hb1⟩

set_option maxRecDepth 100000 in
set_option maxHeartbeats 1000000 in
theorem first_whole (t : ByteArray) (w : World) (h0 : 0 < t.size) (h1 : len0 t ≤ 60) (h2 : 3 + len0 t ≤ t.size) (h3 : t.extract 0 3 = headS (text0 t)) (hs : t.size ≤ 1048576) (ht : Hid (Tab w)) :
    Calls Tryd.prog 37 #[.string t] w fun e w' => e = .returned (.tuple #[.string (text0 t), .bool true, .bool false]) ∧ Below w.heap.size w w' := by
  have hl := len0_at t h0
  have hne := ne_empty h0
  have hx := list_same h3
  have hxs := text0_size t h2
  have hb3 : (3 : Int) ≤ (t.size : Int) := by omega
  have htd : Hid (Tab w.drew) := ht
  unfold text0 at hx hxs ⊢
  clear h3
  generalize len0 t = n at *
  have hxs2 : (t.extract 3 (3 + n)).size ≤ 60 := by omega
  clear hxs
  go_enter Tryd.func37, Tryd.ntmps37
  go_wp2
  go_region_held3 (fun _ => True) (trivial) (first | (go_at_call 25; refine (head_any _ _ hxs2 (by exact htd)).mono ?_; rintro e w1 ⟨rfl, hb1⟩))
  go_wp2
  go_ret3
  exact ⟨rfl, (Below.refl _ w).drew.trans hb1⟩
end Go.Proofs.YtjjaklhpdckppaaDoor
