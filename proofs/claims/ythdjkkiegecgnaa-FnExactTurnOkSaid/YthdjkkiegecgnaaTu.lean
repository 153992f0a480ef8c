/- Turns in plain words; both TurnOk. Written by gen_tu.py. -/
import Derived.Test.YthdjkkiegecgnaaMo
import Derived.Test.YthdjkkiegecgnaaMn
import Derived.Test.YthdjkkiegecgnaaJ2
import Derived.BigQuiet
namespace Go.Proofs.Ythdjkkiegecgnaa
open Go.RowKit Pl
set_option linter.unusedVariables false
set_option linter.unusedSimpArgs false

/-- what a turn of this kind may say. -/
def uttB (k l : Int) (x : ByteArray) : Bool := if k = 1 then lvB l && decide ((x.size : Int) ≤ 60) else decide (l = 0) && x.toList.isEmpty
def turnB (i : Int) (ms : List Int) (k d a l : Int) (x : ByteArray) : Bool := ringB i ms && (inB ms d && (decide (1 ≤ k ∧ k ≤ 7) && (decide (0 ≤ a) && uttB k l x)))

set_option maxRecDepth 100000 in
set_option maxHeartbeats 1000000 in
theorem toTurn_any (k d a l : Int) (x : ByteArray) (w : World) :
    Calls Try.prog 26 #[.agg #[.int .i64 k, .int .i64 d, .int .i64 a, .int .i64 l, .string x]] w fun e w' => e = .returned (.agg #[.int .i64 k, .int .i64 d, .int .i64 a, .int .i64 l, .string x]) ∧ Below w.heap.size w w' := by
  go_enter Try.func26, Try.ntmps26
  go_wp2
  refine bodyPost_ret (v := .agg #[.int .i64 k, .int .i64 d, .int .i64 a, .int .i64 l, .string x]) (by simp [results, Try.results26, go_sem]) rfl ⟨rfl, ?_⟩
  exact (((Below.refl _ w).alloc (Nat.le_refl _) _).alloc (by simp) _).alloc (by simp; omega) _

set_option maxRecDepth 100000 in
set_option maxHeartbeats 1000000 in
theorem szTurn_long (k d a l : Int) (x : ByteArray) (n : Nat) (w : World) (h : n < x.size) (h2 : x.size ≤ 9223372036854775807) (hk : n ≤ 1048576) :
    Calls Try.prog 23 #[.agg #[.int .i64 k, .int .i64 d, .int .i64 a, .int .i64 l, .string x], .int .i64 n] w fun e w' => e = .returned (.int .i64 (-1)) ∧ Below w.heap.size w w' := by
  have hd : decide ((n : Int) - (x.size : Int) < 0) = true := by simp; omega
  go_enter Try.func23, Try.ntmps23
  go_wp2
  go_ret
  exact ⟨rfl, (Below.refl _ _).alloc (Nat.le_refl _) _⟩
set_option maxRecDepth 100000 in
set_option maxHeartbeats 1000000 in
theorem szTurn_any (k d a l : Int) (x : ByteArray) (n : Nat) (w : World) (h : x.size ≤ n) (hk : n ≤ 1048576) :
    Calls Try.prog 23 #[.agg #[.int .i64 k, .int .i64 d, .int .i64 a, .int .i64 l, .string x], .int .i64 n] w fun e w' => e = .returned (.int .i64 ((n - x.size : Nat) : Int)) ∧ Below w.heap.size w w' := by
  have hd : decide ((n : Int) - (x.size : Int) < 0) = false := by simp; omega
  go_enter Try.func23, Try.ntmps23
  go_wp2
  go_ret
  refine ⟨?_, (Below.refl _ _).alloc (Nat.le_refl _) _⟩
  rw [show ((n - x.size : Nat) : Int) = (n : Int) - (x.size : Int) by omega]
  rfl

set_option maxRecDepth 100000 in
set_option maxHeartbeats 4000000 in
theorem sayingOk_1 (d a l : Int) (x : ByteArray) (w : World) (hx : x.size ≤ 1048576) :
    Calls Try.prog 82 #[.agg #[.int .i64 1, .int .i64 d, .int .i64 a, .int .i64 l, .string x]] w fun e w' => e = .returned (.bool (lvB l && decide ((x.size : Int) ≤ 60))) ∧ Below w.heap.size w w' := by
  have HB : Hid (Below w.heap.size w (w.alloc (.cells #[.int .i64 1, .int .i64 d, .int .i64 a, .int .i64 l, .string x] 57))) := (Below.refl _ _).alloc (Nat.le_refl _) _
  cases hl : lvB l
  all_goals
    go_enter Try.func82, Try.ntmps82
    go_wp2_with (go_at_call 66; refine (isLevel_any _ _).mono ?_; rintro e w1 ⟨rfl, rfl⟩)
    go_ret
    exact ⟨by simp, HB.out⟩
set_option maxRecDepth 100000 in
set_option maxHeartbeats 4000000 in
theorem sayingOk_2 (k d a l : Int) (x : ByteArray) (w : World) (hk : k ≠ 1) (hx : x.size ≤ 1048576) :
    Calls Try.prog 82 #[.agg #[.int .i64 k, .int .i64 d, .int .i64 a, .int .i64 l, .string x]] w fun e w' => e = .returned (.bool (decide (l = 0) && x.toList.isEmpty)) ∧ Below w.heap.size w w' := by
  have HB : Hid (Below w.heap.size w (w.alloc (.cells #[.int .i64 k, .int .i64 d, .int .i64 a, .int .i64 l, .string x] 57))) := (Below.refl _ _).alloc (Nat.le_refl _) _
  by_cases hl : l = 0
  · subst hl
    go_enter Try.func82, Try.ntmps82
    go_wp2_with fail
    go_ret
    exact ⟨by simp, HB.out⟩
  · go_enter Try.func82, Try.ntmps82
    go_wp2_with fail
    go_ret
    exact ⟨by simp [hl], HB.out⟩
theorem sayingOk_any (k d a l : Int) (x : ByteArray) (w : World) (hx : x.size ≤ 1048576) :
    Calls Try.prog 82 #[.agg #[.int .i64 k, .int .i64 d, .int .i64 a, .int .i64 l, .string x]] w fun e w' => e = .returned (.bool (uttB k l x)) ∧ Below w.heap.size w w' := by
  by_cases hk : k = 1
  · subst hk; unfold uttB; rw [if_pos rfl]; exact sayingOk_1 d a l x w hx
  · unfold uttB; rw [if_neg hk]; exact sayingOk_2 k d a l x w hk hx
set_option maxRecDepth 100000 in
set_option maxHeartbeats 4000000 in
theorem turnOk_0 (i : Int) (v : Value) (ms : List Int) (k d a l : Int) (x : ByteArray) (w : World) (h : Hid (RI w v ms)) (hl : ms.length ≤ 1048576) (hx : x.size ≤ 1048576) (h1 : (ringB i ms && inB ms d) = false) :
    Calls Try.prog 27 #[.agg #[.int .i64 i, v], .agg #[.int .i64 k, .int .i64 d, .int .i64 a, .int .i64 l, .string x]] w fun e w' => e = .returned (.bool (turnB i ms k d a l x)) ∧ Below w.heap.size w w' := by
  have hs1 : (w.alloc (.cells #[.int .i64 i, v] 26)).heap.size = w.heap.size + 1 := by simp
  have HR0 : Hid (Bx (w.alloc (.cells #[.int .i64 i, v] 26)) w.heap.size 26 [.int .i64 i, v]) := Bx.new w 26 _
  have HR : Hid (Bx ((w.alloc (.cells #[.int .i64 i, v] 26)).alloc (.cells #[.int .i64 k, .int .i64 d, .int .i64 a, .int .i64 l, .string x] 57)) w.heap.size 26 [.int .i64 i, v]) := HR0.out.later ((Below.refl _ _).alloc (Nat.le_refl _) _)
  have HE : Hid (Bx ((w.alloc (.cells #[.int .i64 i, v] 26)).alloc (.cells #[.int .i64 k, .int .i64 d, .int .i64 a, .int .i64 l, .string x] 57)) (w.heap.size + 1) 57 [.int .i64 k, .int .i64 d, .int .i64 a, .int .i64 l, .string x]) := by
    have := Bx.new (w.alloc (.cells #[.int .i64 i, v] 26)) 57 [.int .i64 k, .int .i64 d, .int .i64 a, .int .i64 l, .string x]
    rw [hs1] at this; exact this
  have HB : Hid (Below w.heap.size w ((w.alloc (.cells #[.int .i64 i, v] 26)).alloc (.cells #[.int .i64 k, .int .i64 d, .int .i64 a, .int .i64 l, .string x] 57))) := ((Below.refl _ _).alloc (Nat.le_refl _) _).alloc (by simp) _
  have HV : Hid (RI ((w.alloc (.cells #[.int .i64 i, v] 26)).alloc (.cells #[.int .i64 k, .int .i64 d, .int .i64 a, .int .i64 l, .string x] 57)) v ms) := h.out.stays HB.out
  clear h hs1 HR0
  go_enter Try.func27, Try.ntmps27
  go_wp2_with fail
  generalize (w.alloc (.cells #[.int .i64 i, v] 26)).alloc (.cells #[.int .i64 k, .int .i64 d, .int .i64 a, .int .i64 l, .string x] 57) = W at *
  refine (isMember_any d i v ms _ HV hl).mono ?_
  rintro e w1 ⟨rfl, hb1⟩
  have B1 : Hid (Below W.heap.size W w1) := hb1
  have E1 := HE.out.later hb1
  have r0 := E1.cell 0
  have r1 := E1.cell 1
  have r2 := E1.cell 2
  have r3 := E1.cell 3
  have r4 := E1.cell 4
  clear hb1 E1 HR HE HV
  simp only [h1]
  go_wp2_with fail
  go_ret
  exact ⟨by unfold turnB; rw [← Bool.and_assoc, h1]; rfl, bl_next HB.out B1.out⟩
set_option maxRecDepth 100000 in
set_option maxHeartbeats 4000000 in
theorem turnOk_1 (i : Int) (v : Value) (ms : List Int) (k d a l : Int) (x : ByteArray) (w : World) (h : Hid (RI w v ms)) (hl : ms.length ≤ 1048576) (hx : x.size ≤ 1048576) (h1 : (ringB i ms && inB ms d) = true) (h2 : decide (1 ≤ k ∧ k ≤ 7) = false) :
    Calls Try.prog 27 #[.agg #[.int .i64 i, v], .agg #[.int .i64 k, .int .i64 d, .int .i64 a, .int .i64 l, .string x]] w fun e w' => e = .returned (.bool (turnB i ms k d a l x)) ∧ Below w.heap.size w w' := by
  have hs1 : (w.alloc (.cells #[.int .i64 i, v] 26)).heap.size = w.heap.size + 1 := by simp
  have HR0 : Hid (Bx (w.alloc (.cells #[.int .i64 i, v] 26)) w.heap.size 26 [.int .i64 i, v]) := Bx.new w 26 _
  have HR : Hid (Bx ((w.alloc (.cells #[.int .i64 i, v] 26)).alloc (.cells #[.int .i64 k, .int .i64 d, .int .i64 a, .int .i64 l, .string x] 57)) w.heap.size 26 [.int .i64 i, v]) := HR0.out.later ((Below.refl _ _).alloc (Nat.le_refl _) _)
  have HE : Hid (Bx ((w.alloc (.cells #[.int .i64 i, v] 26)).alloc (.cells #[.int .i64 k, .int .i64 d, .int .i64 a, .int .i64 l, .string x] 57)) (w.heap.size + 1) 57 [.int .i64 k, .int .i64 d, .int .i64 a, .int .i64 l, .string x]) := by
    have := Bx.new (w.alloc (.cells #[.int .i64 i, v] 26)) 57 [.int .i64 k, .int .i64 d, .int .i64 a, .int .i64 l, .string x]
    rw [hs1] at this; exact this
  have HB : Hid (Below w.heap.size w ((w.alloc (.cells #[.int .i64 i, v] 26)).alloc (.cells #[.int .i64 k, .int .i64 d, .int .i64 a, .int .i64 l, .string x] 57))) := ((Below.refl _ _).alloc (Nat.le_refl _) _).alloc (by simp) _
  have HV : Hid (RI ((w.alloc (.cells #[.int .i64 i, v] 26)).alloc (.cells #[.int .i64 k, .int .i64 d, .int .i64 a, .int .i64 l, .string x] 57)) v ms) := h.out.stays HB.out
  clear h hs1 HR0
  go_enter Try.func27, Try.ntmps27
  go_wp2_with fail
  generalize (w.alloc (.cells #[.int .i64 i, v] 26)).alloc (.cells #[.int .i64 k, .int .i64 d, .int .i64 a, .int .i64 l, .string x] 57) = W at *
  refine (isMember_any d i v ms _ HV hl).mono ?_
  rintro e w1 ⟨rfl, hb1⟩
  have B1 : Hid (Below W.heap.size W w1) := hb1
  have E1 := HE.out.later hb1
  have r0 := E1.cell 0
  have r1 := E1.cell 1
  have r2 := E1.cell 2
  have r3 := E1.cell 3
  have r4 := E1.cell 4
  clear hb1 E1 HR HE HV
  simp only [h1]
  go_wp2_with fail
  refine (within_any k 1 7 _).mono ?_
  rintro e w2 ⟨rfl, rfl⟩
  simp only [h2]
  go_wp2_with fail
  go_ret
  exact ⟨by unfold turnB; rw [← Bool.and_assoc, h1, h2]; rfl, bl_next HB.out B1.out⟩
set_option maxRecDepth 100000 in
set_option maxHeartbeats 4000000 in
theorem turnOk_2 (i : Int) (v : Value) (ms : List Int) (k d a l : Int) (x : ByteArray) (w : World) (h : Hid (RI w v ms)) (hl : ms.length ≤ 1048576) (hx : x.size ≤ 1048576) (h1 : (ringB i ms && inB ms d) = true) (h2 : decide (1 ≤ k ∧ k ≤ 7) = true) (h3 : decide (0 ≤ a) = false) :
    Calls Try.prog 27 #[.agg #[.int .i64 i, v], .agg #[.int .i64 k, .int .i64 d, .int .i64 a, .int .i64 l, .string x]] w fun e w' => e = .returned (.bool (turnB i ms k d a l x)) ∧ Below w.heap.size w w' := by
  have hs1 : (w.alloc (.cells #[.int .i64 i, v] 26)).heap.size = w.heap.size + 1 := by simp
  have HR0 : Hid (Bx (w.alloc (.cells #[.int .i64 i, v] 26)) w.heap.size 26 [.int .i64 i, v]) := Bx.new w 26 _
  have HR : Hid (Bx ((w.alloc (.cells #[.int .i64 i, v] 26)).alloc (.cells #[.int .i64 k, .int .i64 d, .int .i64 a, .int .i64 l, .string x] 57)) w.heap.size 26 [.int .i64 i, v]) := HR0.out.later ((Below.refl _ _).alloc (Nat.le_refl _) _)
  have HE : Hid (Bx ((w.alloc (.cells #[.int .i64 i, v] 26)).alloc (.cells #[.int .i64 k, .int .i64 d, .int .i64 a, .int .i64 l, .string x] 57)) (w.heap.size + 1) 57 [.int .i64 k, .int .i64 d, .int .i64 a, .int .i64 l, .string x]) := by
    have := Bx.new (w.alloc (.cells #[.int .i64 i, v] 26)) 57 [.int .i64 k, .int .i64 d, .int .i64 a, .int .i64 l, .string x]
    rw [hs1] at this; exact this
  have HB : Hid (Below w.heap.size w ((w.alloc (.cells #[.int .i64 i, v] 26)).alloc (.cells #[.int .i64 k, .int .i64 d, .int .i64 a, .int .i64 l, .string x] 57))) := ((Below.refl _ _).alloc (Nat.le_refl _) _).alloc (by simp) _
  have HV : Hid (RI ((w.alloc (.cells #[.int .i64 i, v] 26)).alloc (.cells #[.int .i64 k, .int .i64 d, .int .i64 a, .int .i64 l, .string x] 57)) v ms) := h.out.stays HB.out
  clear h hs1 HR0
  go_enter Try.func27, Try.ntmps27
  go_wp2_with fail
  generalize (w.alloc (.cells #[.int .i64 i, v] 26)).alloc (.cells #[.int .i64 k, .int .i64 d, .int .i64 a, .int .i64 l, .string x] 57) = W at *
  refine (isMember_any d i v ms _ HV hl).mono ?_
  rintro e w1 ⟨rfl, hb1⟩
  have B1 : Hid (Below W.heap.size W w1) := hb1
  have E1 := HE.out.later hb1
  have r0 := E1.cell 0
  have r1 := E1.cell 1
  have r2 := E1.cell 2
  have r3 := E1.cell 3
  have r4 := E1.cell 4
  clear hb1 E1 HR HE HV
  simp only [h1]
  go_wp2_with fail
  refine (within_any k 1 7 _).mono ?_
  rintro e w2 ⟨rfl, rfl⟩
  simp only [h2]
  go_wp2_with fail
  go_ret
  exact ⟨by unfold turnB; rw [← Bool.and_assoc, h1, h2, h3]; rfl, bl_next HB.out B1.out⟩
set_option maxRecDepth 100000 in
set_option maxHeartbeats 4000000 in
theorem turnOk_3 (i : Int) (v : Value) (ms : List Int) (k d a l : Int) (x : ByteArray) (w : World) (h : Hid (RI w v ms)) (hl : ms.length ≤ 1048576) (hx : x.size ≤ 1048576) (h1 : (ringB i ms && inB ms d) = true) (h2 : decide (1 ≤ k ∧ k ≤ 7) = true) (h3 : decide (0 ≤ a) = true) :
    Calls Try.prog 27 #[.agg #[.int .i64 i, v], .agg #[.int .i64 k, .int .i64 d, .int .i64 a, .int .i64 l, .string x]] w fun e w' => e = .returned (.bool (turnB i ms k d a l x)) ∧ Below w.heap.size w w' := by
  have hs1 : (w.alloc (.cells #[.int .i64 i, v] 26)).heap.size = w.heap.size + 1 := by simp
  have HR0 : Hid (Bx (w.alloc (.cells #[.int .i64 i, v] 26)) w.heap.size 26 [.int .i64 i, v]) := Bx.new w 26 _
  have HR : Hid (Bx ((w.alloc (.cells #[.int .i64 i, v] 26)).alloc (.cells #[.int .i64 k, .int .i64 d, .int .i64 a, .int .i64 l, .string x] 57)) w.heap.size 26 [.int .i64 i, v]) := HR0.out.later ((Below.refl _ _).alloc (Nat.le_refl _) _)
  have HE : Hid (Bx ((w.alloc (.cells #[.int .i64 i, v] 26)).alloc (.cells #[.int .i64 k, .int .i64 d, .int .i64 a, .int .i64 l, .string x] 57)) (w.heap.size + 1) 57 [.int .i64 k, .int .i64 d, .int .i64 a, .int .i64 l, .string x]) := by
    have := Bx.new (w.alloc (.cells #[.int .i64 i, v] 26)) 57 [.int .i64 k, .int .i64 d, .int .i64 a, .int .i64 l, .string x]
    rw [hs1] at this; exact this
  have HB : Hid (Below w.heap.size w ((w.alloc (.cells #[.int .i64 i, v] 26)).alloc (.cells #[.int .i64 k, .int .i64 d, .int .i64 a, .int .i64 l, .string x] 57))) := ((Below.refl _ _).alloc (Nat.le_refl _) _).alloc (by simp) _
  have HV : Hid (RI ((w.alloc (.cells #[.int .i64 i, v] 26)).alloc (.cells #[.int .i64 k, .int .i64 d, .int .i64 a, .int .i64 l, .string x] 57)) v ms) := h.out.stays HB.out
  clear h hs1 HR0
  go_enter Try.func27, Try.ntmps27
  go_wp2_with fail
  generalize (w.alloc (.cells #[.int .i64 i, v] 26)).alloc (.cells #[.int .i64 k, .int .i64 d, .int .i64 a, .int .i64 l, .string x] 57) = W at *
  refine (isMember_any d i v ms _ HV hl).mono ?_
  rintro e w1 ⟨rfl, hb1⟩
  have B1 : Hid (Below W.heap.size W w1) := hb1
  have E1 := HE.out.later hb1
  have r0 := E1.cell 0
  have r1 := E1.cell 1
  have r2 := E1.cell 2
  have r3 := E1.cell 3
  have r4 := E1.cell 4
  clear hb1 E1 HR HE HV
  simp only [h1]
  go_wp2_with fail
  refine (within_any k 1 7 _).mono ?_
  rintro e w2 ⟨rfl, rfl⟩
  simp only [h2]
  go_wp2_with fail
  refine (sayingOk_any k d a l x _ hx).mono ?_
  rintro e w3 ⟨rfl, hb3⟩
  have B1 : Hid (Below W.heap.size W w3) := bl_next B1.out hb3
  clear hb3
  go_wp2_with fail
  go_ret
  exact ⟨by unfold turnB; rw [← Bool.and_assoc, h1, h2, h3]; rfl, bl_next HB.out B1.out⟩
theorem turnOk_any (i : Int) (v : Value) (ms : List Int) (k d a l : Int) (x : ByteArray) (w : World) (h : Hid (RI w v ms)) (hl : ms.length ≤ 1048576) (hx : x.size ≤ 1048576) :
    Calls Try.prog 27 #[.agg #[.int .i64 i, v], .agg #[.int .i64 k, .int .i64 d, .int .i64 a, .int .i64 l, .string x]] w fun e w' => e = .returned (.bool (turnB i ms k d a l x)) ∧ Below w.heap.size w w' := by
  cases h1 : ringB i ms && inB ms d with
  | false => exact turnOk_0 i v ms k d a l x w h hl hx h1
  | true =>
    cases h2 : decide (1 ≤ k ∧ k ≤ 7) with
    | false => exact turnOk_1 i v ms k d a l x w h hl hx h1 h2
    | true =>
      cases h3 : decide (0 ≤ a) with
      | false => exact turnOk_2 i v ms k d a l x w h hl hx h1 h2 h3
      | true => exact turnOk_3 i v ms k d a l x w h hl hx h1 h2 h3

set_option maxRecDepth 100000 in
set_option maxHeartbeats 4000000 in
theorem spTurnOk_0 (i : Int) (v : Value) (ms : List Int) (k d a l : Int) (x : ByteArray) (w : World) (h : Hid (RI w v ms)) (hl : ms.length ≤ 1048576) (hx : x.size ≤ 1048576) (h1 : ringB i ms = false) :
    Calls Try.prog 24 #[.agg #[.int .i64 i, v], .agg #[.int .i64 k, .int .i64 d, .int .i64 a, .int .i64 l, .string x]] w fun e w' => e = .returned (.bool (turnB i ms k d a l x)) ∧ Below w.heap.size w w' := by
  have hs1 : (w.alloc (.cells #[.int .i64 i, v] 26)).heap.size = w.heap.size + 1 := by simp
  have HR0 : Hid (Bx (w.alloc (.cells #[.int .i64 i, v] 26)) w.heap.size 26 [.int .i64 i, v]) := Bx.new w 26 _
  have HR : Hid (Bx ((w.alloc (.cells #[.int .i64 i, v] 26)).alloc (.cells #[.int .i64 k, .int .i64 d, .int .i64 a, .int .i64 l, .string x] 57)) w.heap.size 26 [.int .i64 i, v]) := HR0.out.later ((Below.refl _ _).alloc (Nat.le_refl _) _)
  have HE : Hid (Bx ((w.alloc (.cells #[.int .i64 i, v] 26)).alloc (.cells #[.int .i64 k, .int .i64 d, .int .i64 a, .int .i64 l, .string x] 57)) (w.heap.size + 1) 57 [.int .i64 k, .int .i64 d, .int .i64 a, .int .i64 l, .string x]) := by
    have := Bx.new (w.alloc (.cells #[.int .i64 i, v] 26)) 57 [.int .i64 k, .int .i64 d, .int .i64 a, .int .i64 l, .string x]
    rw [hs1] at this; exact this
  have HB : Hid (Below w.heap.size w ((w.alloc (.cells #[.int .i64 i, v] 26)).alloc (.cells #[.int .i64 k, .int .i64 d, .int .i64 a, .int .i64 l, .string x] 57))) := ((Below.refl _ _).alloc (Nat.le_refl _) _).alloc (by simp) _
  have HV : Hid (RI ((w.alloc (.cells #[.int .i64 i, v] 26)).alloc (.cells #[.int .i64 k, .int .i64 d, .int .i64 a, .int .i64 l, .string x] 57)) v ms) := h.out.stays HB.out
  clear h hs1 HR0
  go_enter Try.func24, Try.ntmps24
  go_wp2_with fail
  generalize (w.alloc (.cells #[.int .i64 i, v] 26)).alloc (.cells #[.int .i64 k, .int .i64 d, .int .i64 a, .int .i64 l, .string x] 57) = W at *
  refine (spRingOk_r i ms HV hl).mono ?_
  rintro e w1 ⟨rfl, hb1⟩
  have B1 : Hid (Below W.heap.size W w1) := hb1
  have V1 : Hid (RI w1 v ms) := HV.out.stays hb1
  have E1 := HE.out.later hb1
  have R1 := HR.out.later hb1
  have r0 := E1.cell 0
  have r1 := E1.cell 1
  have r2 := E1.cell 2
  have r3 := E1.cell 3
  have r4 := E1.cell 4
  have z0 := R1.cell 0
  have z1 := R1.cell 1
  clear hb1 E1 HR HE HV R1
  simp only [h1]
  go_wp2_with fail
  go_ret
  exact ⟨by unfold turnB; rw [h1]; rfl, bl_next HB.out B1.out⟩
set_option maxRecDepth 100000 in
set_option maxHeartbeats 4000000 in
theorem spTurnOk_1 (i : Int) (v : Value) (ms : List Int) (k d a l : Int) (x : ByteArray) (w : World) (h : Hid (RI w v ms)) (hl : ms.length ≤ 1048576) (hx : x.size ≤ 1048576) (h1 : ringB i ms = true) (h3 : decide (1 ≤ k ∧ k ≤ 7) = false) :
    Calls Try.prog 24 #[.agg #[.int .i64 i, v], .agg #[.int .i64 k, .int .i64 d, .int .i64 a, .int .i64 l, .string x]] w fun e w' => e = .returned (.bool (turnB i ms k d a l x)) ∧ Below w.heap.size w w' := by
  have hs1 : (w.alloc (.cells #[.int .i64 i, v] 26)).heap.size = w.heap.size + 1 := by simp
  have HR0 : Hid (Bx (w.alloc (.cells #[.int .i64 i, v] 26)) w.heap.size 26 [.int .i64 i, v]) := Bx.new w 26 _
  have HR : Hid (Bx ((w.alloc (.cells #[.int .i64 i, v] 26)).alloc (.cells #[.int .i64 k, .int .i64 d, .int .i64 a, .int .i64 l, .string x] 57)) w.heap.size 26 [.int .i64 i, v]) := HR0.out.later ((Below.refl _ _).alloc (Nat.le_refl _) _)
  have HE : Hid (Bx ((w.alloc (.cells #[.int .i64 i, v] 26)).alloc (.cells #[.int .i64 k, .int .i64 d, .int .i64 a, .int .i64 l, .string x] 57)) (w.heap.size + 1) 57 [.int .i64 k, .int .i64 d, .int .i64 a, .int .i64 l, .string x]) := by
    have := Bx.new (w.alloc (.cells #[.int .i64 i, v] 26)) 57 [.int .i64 k, .int .i64 d, .int .i64 a, .int .i64 l, .string x]
    rw [hs1] at this; exact this
  have HB : Hid (Below w.heap.size w ((w.alloc (.cells #[.int .i64 i, v] 26)).alloc (.cells #[.int .i64 k, .int .i64 d, .int .i64 a, .int .i64 l, .string x] 57))) := ((Below.refl _ _).alloc (Nat.le_refl _) _).alloc (by simp) _
  have HV : Hid (RI ((w.alloc (.cells #[.int .i64 i, v] 26)).alloc (.cells #[.int .i64 k, .int .i64 d, .int .i64 a, .int .i64 l, .string x] 57)) v ms) := h.out.stays HB.out
  clear h hs1 HR0
  go_enter Try.func24, Try.ntmps24
  go_wp2_with fail
  generalize (w.alloc (.cells #[.int .i64 i, v] 26)).alloc (.cells #[.int .i64 k, .int .i64 d, .int .i64 a, .int .i64 l, .string x] 57) = W at *
  refine (spRingOk_r i ms HV hl).mono ?_
  rintro e w1 ⟨rfl, hb1⟩
  have B1 : Hid (Below W.heap.size W w1) := hb1
  have V1 : Hid (RI w1 v ms) := HV.out.stays hb1
  have E1 := HE.out.later hb1
  have R1 := HR.out.later hb1
  have r0 := E1.cell 0
  have r1 := E1.cell 1
  have r2 := E1.cell 2
  have r3 := E1.cell 3
  have r4 := E1.cell 4
  have z0 := R1.cell 0
  have z1 := R1.cell 1
  clear hb1 E1 HR HE HV R1
  simp only [h1]
  go_wp2_with fail
  refine (in_any k 1 7 _).mono ?_
  rintro e w2 ⟨rfl, rfl⟩
  simp only [h3]
  go_wp2_with fail
  go_ret
  exact ⟨by unfold turnB; rw [h1, h3]; simp, bl_next HB.out B1.out⟩
set_option maxRecDepth 100000 in
set_option maxHeartbeats 4000000 in
theorem spTurnOk_2 (i : Int) (v : Value) (ms : List Int) (k d a l : Int) (x : ByteArray) (w : World) (h : Hid (RI w v ms)) (hl : ms.length ≤ 1048576) (hx : x.size ≤ 1048576) (h1 : ringB i ms = true) (h3 : decide (1 ≤ k ∧ k ≤ 7) = true) (h2 : inB ms d = false) :
    Calls Try.prog 24 #[.agg #[.int .i64 i, v], .agg #[.int .i64 k, .int .i64 d, .int .i64 a, .int .i64 l, .string x]] w fun e w' => e = .returned (.bool (turnB i ms k d a l x)) ∧ Below w.heap.size w w' := by
  have hs1 : (w.alloc (.cells #[.int .i64 i, v] 26)).heap.size = w.heap.size + 1 := by simp
  have HR0 : Hid (Bx (w.alloc (.cells #[.int .i64 i, v] 26)) w.heap.size 26 [.int .i64 i, v]) := Bx.new w 26 _
  have HR : Hid (Bx ((w.alloc (.cells #[.int .i64 i, v] 26)).alloc (.cells #[.int .i64 k, .int .i64 d, .int .i64 a, .int .i64 l, .string x] 57)) w.heap.size 26 [.int .i64 i, v]) := HR0.out.later ((Below.refl _ _).alloc (Nat.le_refl _) _)
  have HE : Hid (Bx ((w.alloc (.cells #[.int .i64 i, v] 26)).alloc (.cells #[.int .i64 k, .int .i64 d, .int .i64 a, .int .i64 l, .string x] 57)) (w.heap.size + 1) 57 [.int .i64 k, .int .i64 d, .int .i64 a, .int .i64 l, .string x]) := by
    have := Bx.new (w.alloc (.cells #[.int .i64 i, v] 26)) 57 [.int .i64 k, .int .i64 d, .int .i64 a, .int .i64 l, .string x]
    rw [hs1] at this; exact this
  have HB : Hid (Below w.heap.size w ((w.alloc (.cells #[.int .i64 i, v] 26)).alloc (.cells #[.int .i64 k, .int .i64 d, .int .i64 a, .int .i64 l, .string x] 57))) := ((Below.refl _ _).alloc (Nat.le_refl _) _).alloc (by simp) _
  have HV : Hid (RI ((w.alloc (.cells #[.int .i64 i, v] 26)).alloc (.cells #[.int .i64 k, .int .i64 d, .int .i64 a, .int .i64 l, .string x] 57)) v ms) := h.out.stays HB.out
  clear h hs1 HR0
  go_enter Try.func24, Try.ntmps24
  go_wp2_with fail
  generalize (w.alloc (.cells #[.int .i64 i, v] 26)).alloc (.cells #[.int .i64 k, .int .i64 d, .int .i64 a, .int .i64 l, .string x] 57) = W at *
  refine (spRingOk_r i ms HV hl).mono ?_
  rintro e w1 ⟨rfl, hb1⟩
  have B1 : Hid (Below W.heap.size W w1) := hb1
  have V1 : Hid (RI w1 v ms) := HV.out.stays hb1
  have E1 := HE.out.later hb1
  have R1 := HR.out.later hb1
  have r0 := E1.cell 0
  have r1 := E1.cell 1
  have r2 := E1.cell 2
  have r3 := E1.cell 3
  have r4 := E1.cell 4
  have z0 := R1.cell 0
  have z1 := R1.cell 1
  have E2 : Hid (Bx w1 (w.heap.size + 1) 57 [.int .i64 k, .int .i64 d, .int .i64 a, .int .i64 l, .string x]) := E1
  clear hb1 E1 HR HE HV R1
  simp only [h1]
  go_wp2_with fail
  refine (in_any k 1 7 _).mono ?_
  rintro e w2 ⟨rfl, rfl⟩
  simp only [h3]
  go_wp2_with fail
  refine (lin_r ms d V1 hl).mono ?_
  rintro e w2 ⟨rfl, hb2⟩
  have B1 : Hid (Below W.heap.size W w2) := bl_next B1.out hb2
  have E2 : Bx w2 (w.heap.size + 1) 57 [.int .i64 k, .int .i64 d, .int .i64 a, .int .i64 l, .string x] := E2.out.later hb2
  have r0 := E2.cell 0
  have r1 := E2.cell 1
  have r2 := E2.cell 2
  have r3 := E2.cell 3
  have r4 := E2.cell 4
  clear hb2 V1 E2
  simp only [h2]
  go_wp2_with fail
  go_ret
  exact ⟨by unfold turnB; rw [h1, h2]; rfl, bl_next HB.out B1.out⟩
set_option maxRecDepth 100000 in
set_option maxHeartbeats 4000000 in
theorem spTurnOk_3 (i : Int) (v : Value) (ms : List Int) (k d a l : Int) (x : ByteArray) (w : World) (h : Hid (RI w v ms)) (hl : ms.length ≤ 1048576) (hx : x.size ≤ 1048576) (h1 : ringB i ms = true) (h3 : decide (1 ≤ k ∧ k ≤ 7) = true) (h2 : inB ms d = true) (h4 : decide (a < 0) = true) :
    Calls Try.prog 24 #[.agg #[.int .i64 i, v], .agg #[.int .i64 k, .int .i64 d, .int .i64 a, .int .i64 l, .string x]] w fun e w' => e = .returned (.bool (turnB i ms k d a l x)) ∧ Below w.heap.size w w' := by
  have hs1 : (w.alloc (.cells #[.int .i64 i, v] 26)).heap.size = w.heap.size + 1 := by simp
  have HR0 : Hid (Bx (w.alloc (.cells #[.int .i64 i, v] 26)) w.heap.size 26 [.int .i64 i, v]) := Bx.new w 26 _
  have HR : Hid (Bx ((w.alloc (.cells #[.int .i64 i, v] 26)).alloc (.cells #[.int .i64 k, .int .i64 d, .int .i64 a, .int .i64 l, .string x] 57)) w.heap.size 26 [.int .i64 i, v]) := HR0.out.later ((Below.refl _ _).alloc (Nat.le_refl _) _)
  have HE : Hid (Bx ((w.alloc (.cells #[.int .i64 i, v] 26)).alloc (.cells #[.int .i64 k, .int .i64 d, .int .i64 a, .int .i64 l, .string x] 57)) (w.heap.size + 1) 57 [.int .i64 k, .int .i64 d, .int .i64 a, .int .i64 l, .string x]) := by
    have := Bx.new (w.alloc (.cells #[.int .i64 i, v] 26)) 57 [.int .i64 k, .int .i64 d, .int .i64 a, .int .i64 l, .string x]
    rw [hs1] at this; exact this
  have HB : Hid (Below w.heap.size w ((w.alloc (.cells #[.int .i64 i, v] 26)).alloc (.cells #[.int .i64 k, .int .i64 d, .int .i64 a, .int .i64 l, .string x] 57))) := ((Below.refl _ _).alloc (Nat.le_refl _) _).alloc (by simp) _
  have HV : Hid (RI ((w.alloc (.cells #[.int .i64 i, v] 26)).alloc (.cells #[.int .i64 k, .int .i64 d, .int .i64 a, .int .i64 l, .string x] 57)) v ms) := h.out.stays HB.out
  clear h hs1 HR0
  go_enter Try.func24, Try.ntmps24
  go_wp2_with fail
  generalize (w.alloc (.cells #[.int .i64 i, v] 26)).alloc (.cells #[.int .i64 k, .int .i64 d, .int .i64 a, .int .i64 l, .string x] 57) = W at *
  refine (spRingOk_r i ms HV hl).mono ?_
  rintro e w1 ⟨rfl, hb1⟩
  have B1 : Hid (Below W.heap.size W w1) := hb1
  have V1 : Hid (RI w1 v ms) := HV.out.stays hb1
  have E1 := HE.out.later hb1
  have R1 := HR.out.later hb1
  have r0 := E1.cell 0
  have r1 := E1.cell 1
  have r2 := E1.cell 2
  have r3 := E1.cell 3
  have r4 := E1.cell 4
  have z0 := R1.cell 0
  have z1 := R1.cell 1
  have E2 : Hid (Bx w1 (w.heap.size + 1) 57 [.int .i64 k, .int .i64 d, .int .i64 a, .int .i64 l, .string x]) := E1
  clear hb1 E1 HR HE HV R1
  simp only [h1]
  go_wp2_with fail
  refine (in_any k 1 7 _).mono ?_
  rintro e w2 ⟨rfl, rfl⟩
  simp only [h3]
  go_wp2_with fail
  refine (lin_r ms d V1 hl).mono ?_
  rintro e w2 ⟨rfl, hb2⟩
  have B1 : Hid (Below W.heap.size W w2) := bl_next B1.out hb2
  have E2 : Bx w2 (w.heap.size + 1) 57 [.int .i64 k, .int .i64 d, .int .i64 a, .int .i64 l, .string x] := E2.out.later hb2
  have r0 := E2.cell 0
  have r1 := E2.cell 1
  have r2 := E2.cell 2
  have r3 := E2.cell 3
  have r4 := E2.cell 4
  clear hb2 V1 E2
  simp only [h2]
  go_wp2_with fail
  go_ret
  exact ⟨by unfold turnB; rw [h1, h2, h3, show decide (0 ≤ a) = false by simpa using h4]; rfl, bl_next HB.out B1.out⟩
set_option maxRecDepth 100000 in
set_option maxHeartbeats 4000000 in
theorem spTurnOk_4 (i : Int) (v : Value) (ms : List Int) (k d a l : Int) (x : ByteArray) (w : World) (h : Hid (RI w v ms)) (hl : ms.length ≤ 1048576) (hx : x.size ≤ 1048576) (h1 : ringB i ms = true) (h3 : decide (1 ≤ k ∧ k ≤ 7) = true) (h2 : inB ms d = true) (h4 : decide (a < 0) = false) (h5 : k ≠ 1) (h7 : ¬ l = 0) :
    Calls Try.prog 24 #[.agg #[.int .i64 i, v], .agg #[.int .i64 k, .int .i64 d, .int .i64 a, .int .i64 l, .string x]] w fun e w' => e = .returned (.bool (turnB i ms k d a l x)) ∧ Below w.heap.size w w' := by
  have hs1 : (w.alloc (.cells #[.int .i64 i, v] 26)).heap.size = w.heap.size + 1 := by simp
  have HR0 : Hid (Bx (w.alloc (.cells #[.int .i64 i, v] 26)) w.heap.size 26 [.int .i64 i, v]) := Bx.new w 26 _
  have HR : Hid (Bx ((w.alloc (.cells #[.int .i64 i, v] 26)).alloc (.cells #[.int .i64 k, .int .i64 d, .int .i64 a, .int .i64 l, .string x] 57)) w.heap.size 26 [.int .i64 i, v]) := HR0.out.later ((Below.refl _ _).alloc (Nat.le_refl _) _)
  have HE : Hid (Bx ((w.alloc (.cells #[.int .i64 i, v] 26)).alloc (.cells #[.int .i64 k, .int .i64 d, .int .i64 a, .int .i64 l, .string x] 57)) (w.heap.size + 1) 57 [.int .i64 k, .int .i64 d, .int .i64 a, .int .i64 l, .string x]) := by
    have := Bx.new (w.alloc (.cells #[.int .i64 i, v] 26)) 57 [.int .i64 k, .int .i64 d, .int .i64 a, .int .i64 l, .string x]
    rw [hs1] at this; exact this
  have HB : Hid (Below w.heap.size w ((w.alloc (.cells #[.int .i64 i, v] 26)).alloc (.cells #[.int .i64 k, .int .i64 d, .int .i64 a, .int .i64 l, .string x] 57))) := ((Below.refl _ _).alloc (Nat.le_refl _) _).alloc (by simp) _
  have HV : Hid (RI ((w.alloc (.cells #[.int .i64 i, v] 26)).alloc (.cells #[.int .i64 k, .int .i64 d, .int .i64 a, .int .i64 l, .string x] 57)) v ms) := h.out.stays HB.out
  clear h hs1 HR0
  go_enter Try.func24, Try.ntmps24
  go_wp2_with fail
  generalize (w.alloc (.cells #[.int .i64 i, v] 26)).alloc (.cells #[.int .i64 k, .int .i64 d, .int .i64 a, .int .i64 l, .string x] 57) = W at *
  refine (spRingOk_r i ms HV hl).mono ?_
  rintro e w1 ⟨rfl, hb1⟩
  have B1 : Hid (Below W.heap.size W w1) := hb1
  have V1 : Hid (RI w1 v ms) := HV.out.stays hb1
  have E1 := HE.out.later hb1
  have R1 := HR.out.later hb1
  have r0 := E1.cell 0
  have r1 := E1.cell 1
  have r2 := E1.cell 2
  have r3 := E1.cell 3
  have r4 := E1.cell 4
  have z0 := R1.cell 0
  have z1 := R1.cell 1
  have E2 : Hid (Bx w1 (w.heap.size + 1) 57 [.int .i64 k, .int .i64 d, .int .i64 a, .int .i64 l, .string x]) := E1
  clear hb1 E1 HR HE HV R1
  simp only [h1]
  go_wp2_with fail
  refine (in_any k 1 7 _).mono ?_
  rintro e w2 ⟨rfl, rfl⟩
  simp only [h3]
  go_wp2_with fail
  refine (lin_r ms d V1 hl).mono ?_
  rintro e w2 ⟨rfl, hb2⟩
  have B1 : Hid (Below W.heap.size W w2) := bl_next B1.out hb2
  have E2 : Bx w2 (w.heap.size + 1) 57 [.int .i64 k, .int .i64 d, .int .i64 a, .int .i64 l, .string x] := E2.out.later hb2
  have r0 := E2.cell 0
  have r1 := E2.cell 1
  have r2 := E2.cell 2
  have r3 := E2.cell 3
  have r4 := E2.cell 4
  clear hb2 V1 E2
  simp only [h2]
  go_wp2_with fail
  go_ret
  exact ⟨by unfold turnB; rw [h1, h2, h3, show decide (0 ≤ a) = true by simpa using h4]; unfold uttB; rw [if_neg h5, decide_eq_false h7]; rfl, bl_next HB.out B1.out⟩
set_option maxRecDepth 100000 in
set_option maxHeartbeats 4000000 in
theorem spTurnOk_7 (i : Int) (v : Value) (ms : List Int) (k d a : Int) (x : ByteArray) (w : World) (h : Hid (RI w v ms)) (hl : ms.length ≤ 1048576) (hx : x.size ≤ 1048576) (h1 : ringB i ms = true) (h3 : decide (1 ≤ k ∧ k ≤ 7) = true) (h2 : inB ms d = true) (h4 : decide (a < 0) = false) (h5 : k ≠ 1) :
    Calls Try.prog 24 #[.agg #[.int .i64 i, v], .agg #[.int .i64 k, .int .i64 d, .int .i64 a, .int .i64 0, .string x]] w fun e w' => e = .returned (.bool (turnB i ms k d a 0 x)) ∧ Below w.heap.size w w' := by
  have hs1 : (w.alloc (.cells #[.int .i64 i, v] 26)).heap.size = w.heap.size + 1 := by simp
  have HR0 : Hid (Bx (w.alloc (.cells #[.int .i64 i, v] 26)) w.heap.size 26 [.int .i64 i, v]) := Bx.new w 26 _
  have HR : Hid (Bx ((w.alloc (.cells #[.int .i64 i, v] 26)).alloc (.cells #[.int .i64 k, .int .i64 d, .int .i64 a, .int .i64 0, .string x] 57)) w.heap.size 26 [.int .i64 i, v]) := HR0.out.later ((Below.refl _ _).alloc (Nat.le_refl _) _)
  have HE : Hid (Bx ((w.alloc (.cells #[.int .i64 i, v] 26)).alloc (.cells #[.int .i64 k, .int .i64 d, .int .i64 a, .int .i64 0, .string x] 57)) (w.heap.size + 1) 57 [.int .i64 k, .int .i64 d, .int .i64 a, .int .i64 0, .string x]) := by
    have := Bx.new (w.alloc (.cells #[.int .i64 i, v] 26)) 57 [.int .i64 k, .int .i64 d, .int .i64 a, .int .i64 0, .string x]
    rw [hs1] at this; exact this
  have HB : Hid (Below w.heap.size w ((w.alloc (.cells #[.int .i64 i, v] 26)).alloc (.cells #[.int .i64 k, .int .i64 d, .int .i64 a, .int .i64 0, .string x] 57))) := ((Below.refl _ _).alloc (Nat.le_refl _) _).alloc (by simp) _
  have HV : Hid (RI ((w.alloc (.cells #[.int .i64 i, v] 26)).alloc (.cells #[.int .i64 k, .int .i64 d, .int .i64 a, .int .i64 0, .string x] 57)) v ms) := h.out.stays HB.out
  clear h hs1 HR0
  go_enter Try.func24, Try.ntmps24
  go_wp2_with fail
  generalize (w.alloc (.cells #[.int .i64 i, v] 26)).alloc (.cells #[.int .i64 k, .int .i64 d, .int .i64 a, .int .i64 0, .string x] 57) = W at *
  refine (spRingOk_r i ms HV hl).mono ?_
  rintro e w1 ⟨rfl, hb1⟩
  have B1 : Hid (Below W.heap.size W w1) := hb1
  have V1 : Hid (RI w1 v ms) := HV.out.stays hb1
  have E1 := HE.out.later hb1
  have R1 := HR.out.later hb1
  have r0 := E1.cell 0
  have r1 := E1.cell 1
  have r2 := E1.cell 2
  have r3 := E1.cell 3
  have r4 := E1.cell 4
  have z0 := R1.cell 0
  have z1 := R1.cell 1
  have E2 : Hid (Bx w1 (w.heap.size + 1) 57 [.int .i64 k, .int .i64 d, .int .i64 a, .int .i64 0, .string x]) := E1
  clear hb1 E1 HR HE HV R1
  simp only [h1]
  go_wp2_with fail
  refine (in_any k 1 7 _).mono ?_
  rintro e w2 ⟨rfl, rfl⟩
  simp only [h3]
  go_wp2_with fail
  refine (lin_r ms d V1 hl).mono ?_
  rintro e w2 ⟨rfl, hb2⟩
  have B1 : Hid (Below W.heap.size W w2) := bl_next B1.out hb2
  have E2 : Bx w2 (w.heap.size + 1) 57 [.int .i64 k, .int .i64 d, .int .i64 a, .int .i64 0, .string x] := E2.out.later hb2
  have r0 := E2.cell 0
  have r1 := E2.cell 1
  have r2 := E2.cell 2
  have r3 := E2.cell 3
  have r4 := E2.cell 4
  clear hb2 V1 E2
  simp only [h2]
  go_wp2_with fail
  go_ret
  exact ⟨by unfold turnB; rw [h1, h2, h3, show decide (0 ≤ a) = true by simpa using h4]; unfold uttB; rw [if_neg h5]; rfl, bl_next HB.out B1.out⟩
set_option maxRecDepth 100000 in
set_option maxHeartbeats 4000000 in
theorem spTurnOk_5 (i : Int) (v : Value) (ms : List Int) (d a l : Int) (x : ByteArray) (w : World) (h : Hid (RI w v ms)) (hl : ms.length ≤ 1048576) (hx : x.size ≤ 1048576) (h1 : ringB i ms = true) (h3 : decide ((1 : Int) ≤ 1 ∧ (1 : Int) ≤ 7) = true) (h2 : inB ms d = true) (h4 : decide (a < 0) = false) (h6 : decide (1 ≤ l ∧ l ≤ 2) = false) :
    Calls Try.prog 24 #[.agg #[.int .i64 i, v], .agg #[.int .i64 1, .int .i64 d, .int .i64 a, .int .i64 l, .string x]] w fun e w' => e = .returned (.bool (turnB i ms 1 d a l x)) ∧ Below w.heap.size w w' := by
  have hs1 : (w.alloc (.cells #[.int .i64 i, v] 26)).heap.size = w.heap.size + 1 := by simp
  have HR0 : Hid (Bx (w.alloc (.cells #[.int .i64 i, v] 26)) w.heap.size 26 [.int .i64 i, v]) := Bx.new w 26 _
  have HR : Hid (Bx ((w.alloc (.cells #[.int .i64 i, v] 26)).alloc (.cells #[.int .i64 1, .int .i64 d, .int .i64 a, .int .i64 l, .string x] 57)) w.heap.size 26 [.int .i64 i, v]) := HR0.out.later ((Below.refl _ _).alloc (Nat.le_refl _) _)
  have HE : Hid (Bx ((w.alloc (.cells #[.int .i64 i, v] 26)).alloc (.cells #[.int .i64 1, .int .i64 d, .int .i64 a, .int .i64 l, .string x] 57)) (w.heap.size + 1) 57 [.int .i64 1, .int .i64 d, .int .i64 a, .int .i64 l, .string x]) := by
    have := Bx.new (w.alloc (.cells #[.int .i64 i, v] 26)) 57 [.int .i64 1, .int .i64 d, .int .i64 a, .int .i64 l, .string x]
    rw [hs1] at this; exact this
  have HB : Hid (Below w.heap.size w ((w.alloc (.cells #[.int .i64 i, v] 26)).alloc (.cells #[.int .i64 1, .int .i64 d, .int .i64 a, .int .i64 l, .string x] 57))) := ((Below.refl _ _).alloc (Nat.le_refl _) _).alloc (by simp) _
  have HV : Hid (RI ((w.alloc (.cells #[.int .i64 i, v] 26)).alloc (.cells #[.int .i64 1, .int .i64 d, .int .i64 a, .int .i64 l, .string x] 57)) v ms) := h.out.stays HB.out
  clear h hs1 HR0
  go_enter Try.func24, Try.ntmps24
  go_wp2_with fail
  generalize (w.alloc (.cells #[.int .i64 i, v] 26)).alloc (.cells #[.int .i64 1, .int .i64 d, .int .i64 a, .int .i64 l, .string x] 57) = W at *
  refine (spRingOk_r i ms HV hl).mono ?_
  rintro e w1 ⟨rfl, hb1⟩
  have B1 : Hid (Below W.heap.size W w1) := hb1
  have V1 : Hid (RI w1 v ms) := HV.out.stays hb1
  have E1 := HE.out.later hb1
  have R1 := HR.out.later hb1
  have r0 := E1.cell 0
  have r1 := E1.cell 1
  have r2 := E1.cell 2
  have r3 := E1.cell 3
  have r4 := E1.cell 4
  have z0 := R1.cell 0
  have z1 := R1.cell 1
  have E2 : Hid (Bx w1 (w.heap.size + 1) 57 [.int .i64 1, .int .i64 d, .int .i64 a, .int .i64 l, .string x]) := E1
  clear hb1 E1 HR HE HV R1
  simp only [h1]
  go_wp2_with fail
  refine (in_any 1 1 7 _).mono ?_
  rintro e w2 ⟨rfl, rfl⟩
  simp only [h3]
  go_wp2_with fail
  refine (lin_r ms d V1 hl).mono ?_
  rintro e w2 ⟨rfl, hb2⟩
  have B1 : Hid (Below W.heap.size W w2) := bl_next B1.out hb2
  have E2 : Bx w2 (w.heap.size + 1) 57 [.int .i64 1, .int .i64 d, .int .i64 a, .int .i64 l, .string x] := E2.out.later hb2
  have r0 := E2.cell 0
  have r1 := E2.cell 1
  have r2 := E2.cell 2
  have r3 := E2.cell 3
  have r4 := E2.cell 4
  clear hb2 V1 E2
  simp only [h2]
  go_wp2_with fail
  refine (in_any l 1 2 _).mono ?_
  rintro e w3 ⟨rfl, rfl⟩
  simp only [h6]
  go_wp2_with fail
  go_ret
  exact ⟨by unfold turnB; rw [h1, h2, h3, show decide (0 ≤ a) = true by simpa using h4]; unfold uttB lvB; rw [if_pos rfl, h6]; rfl, bl_next HB.out B1.out⟩
set_option maxRecDepth 100000 in
set_option maxHeartbeats 4000000 in
theorem spTurnOk_6 (i : Int) (v : Value) (ms : List Int) (d a l : Int) (x : ByteArray) (w : World) (h : Hid (RI w v ms)) (hl : ms.length ≤ 1048576) (hx : x.size ≤ 1048576) (h1 : ringB i ms = true) (h3 : decide ((1 : Int) ≤ 1 ∧ (1 : Int) ≤ 7) = true) (h2 : inB ms d = true) (h4 : decide (a < 0) = false) (h6 : decide (1 ≤ l ∧ l ≤ 2) = true) :
    Calls Try.prog 24 #[.agg #[.int .i64 i, v], .agg #[.int .i64 1, .int .i64 d, .int .i64 a, .int .i64 l, .string x]] w fun e w' => e = .returned (.bool (turnB i ms 1 d a l x)) ∧ Below w.heap.size w w' := by
  have hs1 : (w.alloc (.cells #[.int .i64 i, v] 26)).heap.size = w.heap.size + 1 := by simp
  have HR0 : Hid (Bx (w.alloc (.cells #[.int .i64 i, v] 26)) w.heap.size 26 [.int .i64 i, v]) := Bx.new w 26 _
  have HR : Hid (Bx ((w.alloc (.cells #[.int .i64 i, v] 26)).alloc (.cells #[.int .i64 1, .int .i64 d, .int .i64 a, .int .i64 l, .string x] 57)) w.heap.size 26 [.int .i64 i, v]) := HR0.out.later ((Below.refl _ _).alloc (Nat.le_refl _) _)
  have HE : Hid (Bx ((w.alloc (.cells #[.int .i64 i, v] 26)).alloc (.cells #[.int .i64 1, .int .i64 d, .int .i64 a, .int .i64 l, .string x] 57)) (w.heap.size + 1) 57 [.int .i64 1, .int .i64 d, .int .i64 a, .int .i64 l, .string x]) := by
    have := Bx.new (w.alloc (.cells #[.int .i64 i, v] 26)) 57 [.int .i64 1, .int .i64 d, .int .i64 a, .int .i64 l, .string x]
    rw [hs1] at this; exact this
  have HB : Hid (Below w.heap.size w ((w.alloc (.cells #[.int .i64 i, v] 26)).alloc (.cells #[.int .i64 1, .int .i64 d, .int .i64 a, .int .i64 l, .string x] 57))) := ((Below.refl _ _).alloc (Nat.le_refl _) _).alloc (by simp) _
  have HV : Hid (RI ((w.alloc (.cells #[.int .i64 i, v] 26)).alloc (.cells #[.int .i64 1, .int .i64 d, .int .i64 a, .int .i64 l, .string x] 57)) v ms) := h.out.stays HB.out
  clear h hs1 HR0
  go_enter Try.func24, Try.ntmps24
  go_wp2_with fail
  generalize (w.alloc (.cells #[.int .i64 i, v] 26)).alloc (.cells #[.int .i64 1, .int .i64 d, .int .i64 a, .int .i64 l, .string x] 57) = W at *
  refine (spRingOk_r i ms HV hl).mono ?_
  rintro e w1 ⟨rfl, hb1⟩
  have B1 : Hid (Below W.heap.size W w1) := hb1
  have V1 : Hid (RI w1 v ms) := HV.out.stays hb1
  have E1 := HE.out.later hb1
  have R1 := HR.out.later hb1
  have r0 := E1.cell 0
  have r1 := E1.cell 1
  have r2 := E1.cell 2
  have r3 := E1.cell 3
  have r4 := E1.cell 4
  have z0 := R1.cell 0
  have z1 := R1.cell 1
  have E2 : Hid (Bx w1 (w.heap.size + 1) 57 [.int .i64 1, .int .i64 d, .int .i64 a, .int .i64 l, .string x]) := E1
  clear hb1 E1 HR HE HV R1
  simp only [h1]
  go_wp2_with fail
  refine (in_any 1 1 7 _).mono ?_
  rintro e w2 ⟨rfl, rfl⟩
  simp only [h3]
  go_wp2_with fail
  refine (lin_r ms d V1 hl).mono ?_
  rintro e w2 ⟨rfl, hb2⟩
  have B1 : Hid (Below W.heap.size W w2) := bl_next B1.out hb2
  have E2 : Bx w2 (w.heap.size + 1) 57 [.int .i64 1, .int .i64 d, .int .i64 a, .int .i64 l, .string x] := E2.out.later hb2
  have r0 := E2.cell 0
  have r1 := E2.cell 1
  have r2 := E2.cell 2
  have r3 := E2.cell 3
  have r4 := E2.cell 4
  clear hb2 V1 E2
  simp only [h2]
  go_wp2_with fail
  refine (in_any l 1 2 _).mono ?_
  rintro e w3 ⟨rfl, rfl⟩
  simp only [h6]
  go_wp2_with fail
  go_ret
  exact ⟨by unfold turnB; rw [h1, h2, h3, show decide (0 ≤ a) = true by simpa using h4]; unfold uttB lvB; rw [if_pos rfl, h6]; rfl, bl_next HB.out B1.out⟩
theorem spTurnOk_any (i : Int) (v : Value) (ms : List Int) (k d a l : Int) (x : ByteArray) (w : World) (h : Hid (RI w v ms)) (hl : ms.length ≤ 1048576) (hx : x.size ≤ 1048576) :
    Calls Try.prog 24 #[.agg #[.int .i64 i, v], .agg #[.int .i64 k, .int .i64 d, .int .i64 a, .int .i64 l, .string x]] w fun e w' => e = .returned (.bool (turnB i ms k d a l x)) ∧ Below w.heap.size w w' := by
  cases h1 : ringB i ms with
  | false => exact spTurnOk_0 i v ms k d a l x w h hl hx h1
  | true =>
    cases h3 : decide (1 ≤ k ∧ k ≤ 7) with
    | false => exact spTurnOk_1 i v ms k d a l x w h hl hx h1 h3
    | true =>
      cases h2 : inB ms d with
      | false => exact spTurnOk_2 i v ms k d a l x w h hl hx h1 h3 h2
      | true =>
        cases h4 : decide (a < 0) with
        | true => exact spTurnOk_3 i v ms k d a l x w h hl hx h1 h3 h2 h4
        | false =>
          by_cases h5 : k = 1
          · subst h5
            cases h6 : decide (1 ≤ l ∧ l ≤ 2) with
            | false => exact spTurnOk_5 i v ms d a l x w h hl hx h1 h3 h2 h4 h6
            | true => exact spTurnOk_6 i v ms d a l x w h hl hx h1 h3 h2 h4 h6
          · by_cases h7 : l = 0
            · subst h7; exact spTurnOk_7 i v ms k d a x w h hl hx h1 h3 h2 h4 h5
            · exact spTurnOk_4 i v ms k d a l x w h hl hx h1 h3 h2 h4 h5 h7

end Go.Proofs.Ythdjkkiegecgnaa
