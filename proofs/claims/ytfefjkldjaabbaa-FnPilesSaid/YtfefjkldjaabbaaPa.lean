/- The walks over a pile that awaits a piece, and over a piece that comes to a pile. -/
import Derived.Test.YtfefjkldjaabbaaRp3
import Derived.Test.YtfefjkldjaabbaaBx
import Derived.Test.YtfefjkldjaabbaaJn
import Derived.Test.YtfefjkldjaabbaaPi
import Derived.Test.YtfefjkldjaabbaaSs0
namespace Go.Proofs.Ytfefjkldjaabbaa
open Go.RowKit Pl
set_option linter.unusedVariables false

/-- the block g is a pile whose texts are the slice s. -/
def PiB (w : World) (g : Nat) (num cnt : Int) (s : Sv) : Prop := Bx w g 35 [.int .i64 num, .int .i64 cnt, .slice s.a s.n s.c]
theorem PiB.cells {w : World} {g : Nat} {num cnt : Int} {s : Sv} (h : PiB w g num cnt s) : w.cell? ⟨g, 0, none⟩ = some (.int .i64 num) ∧ w.cell? ⟨g, 1, none⟩ = some (.int .i64 cnt) ∧ w.cell? ⟨g, 2, none⟩ = some (.slice s.a s.n s.c) :=
  ⟨Bx.cell h 0, Bx.cell h 1, Bx.cell h 2⟩
theorem PiB.frozen {w : World} {g : Nat} {num cnt : Int} {s : Sv} (h : PiB w g num cnt s) (k : Nat) : w.frozen? ⟨g, k, none⟩ = false := Bx.frozen h k
theorem PiB.later {w w' : World} {g : Nat} {num cnt : Int} {s : Sv} (h : PiB w g num cnt s) (hb : Below w.heap.size w w') : PiB w' g num cnt s := Bx.later h hb
theorem PiB.lt {w : World} {g : Nat} {num cnt : Int} {s : Sv} (h : PiB w g num cnt s) : g < w.heap.size := Bx.lt h

set_option maxRecDepth 100000 in
set_option maxHeartbeats 2000000 in
theorem awaits_yes (num cnt : Int) (n q c g : Nat) (t : ByteArray) (s : Sv) (w : World) (hB : Hid (PiB w g num cnt s)) (h0 : (n : Int) = num) (h1 : (c : Int) = cnt) (h2 : (q : Int) = s.n) :
    Calls Try.prog 57 #[.pointer (some ⟨g, 0, none⟩), .agg #[.int .i64 n, .int .i64 q, .int .i64 c, .string t]] w fun e w' => e = .returned (.bool true) ∧ Below w.heap.size w w' := by
  have P1 : Hid (PeAt (w.alloc (.cells #[.int .i64 n, .int .i64 q, .int .i64 c, .string t] 62)) w.heap.size n q c t) := heap_alloc_new w _
  have B1 : Hid (Below w.heap.size w (w.alloc (.cells #[.int .i64 n, .int .i64 q, .int .i64 c, .string t] 62))) := (Below.refl _ _).alloc (Nat.le_refl _) _
  have B2 : Hid (PiB (w.alloc (.cells #[.int .i64 n, .int .i64 q, .int .i64 c, .string t] 62)) g num cnt s) := hB.out.later B1.out
  have d0 : ((n : Int) == num) = true := by simp [h0]
  have d1 : ((c : Int) == cnt) = true := by simp [h1]
  have d2 : ((q : Int) == (s.n : Int)) = true := by simp [h2]
  clear h0 h1 h2
  go_enter Try.func57, Try.ntmps57
  go_wp2_with fail
  generalize w.alloc (.cells #[.int .i64 n, .int .i64 q, .int .i64 c, .string t] 62) = W at *
  obtain ⟨c0, c1, c2, c3⟩ := P1.out.cells
  obtain ⟨e0, e1, e2⟩ := B2.out.cells
  clear hB P1 B2
  go_quiet (fail)
  go_wp2_with fail
  go_ret
  exact ⟨rfl, below_drewN B1.out _⟩

set_option maxRecDepth 100000 in
set_option maxHeartbeats 2000000 in
theorem awaits_n0 (num cnt : Int) (n q c g : Nat) (t : ByteArray) (s : Sv) (w : World) (hB : Hid (PiB w g num cnt s)) (h0 : (n : Int) ≠ num) :
    Calls Try.prog 57 #[.pointer (some ⟨g, 0, none⟩), .agg #[.int .i64 n, .int .i64 q, .int .i64 c, .string t]] w fun e w' => e = .returned (.bool false) ∧ Below w.heap.size w w' := by
  have P1 : Hid (PeAt (w.alloc (.cells #[.int .i64 n, .int .i64 q, .int .i64 c, .string t] 62)) w.heap.size n q c t) := heap_alloc_new w _
  have B1 : Hid (Below w.heap.size w (w.alloc (.cells #[.int .i64 n, .int .i64 q, .int .i64 c, .string t] 62))) := (Below.refl _ _).alloc (Nat.le_refl _) _
  have B2 : Hid (PiB (w.alloc (.cells #[.int .i64 n, .int .i64 q, .int .i64 c, .string t] 62)) g num cnt s) := hB.out.later B1.out
  have d0 : ((n : Int) == num) = false := by simp [h0]
  clear h0
  go_enter Try.func57, Try.ntmps57
  go_wp2_with fail
  generalize w.alloc (.cells #[.int .i64 n, .int .i64 q, .int .i64 c, .string t] 62) = W at *
  obtain ⟨c0, c1, c2, c3⟩ := P1.out.cells
  obtain ⟨e0, e1, e2⟩ := B2.out.cells
  clear hB P1 B2
  go_quiet (fail)
  go_wp2_with fail
  go_ret
  exact ⟨rfl, below_drewN B1.out _⟩

set_option maxRecDepth 100000 in
set_option maxHeartbeats 2000000 in
theorem awaits_n1 (num cnt : Int) (n q c g : Nat) (t : ByteArray) (s : Sv) (w : World) (hB : Hid (PiB w g num cnt s)) (h0 : (n : Int) = num) (h1 : (c : Int) ≠ cnt) :
    Calls Try.prog 57 #[.pointer (some ⟨g, 0, none⟩), .agg #[.int .i64 n, .int .i64 q, .int .i64 c, .string t]] w fun e w' => e = .returned (.bool false) ∧ Below w.heap.size w w' := by
  have P1 : Hid (PeAt (w.alloc (.cells #[.int .i64 n, .int .i64 q, .int .i64 c, .string t] 62)) w.heap.size n q c t) := heap_alloc_new w _
  have B1 : Hid (Below w.heap.size w (w.alloc (.cells #[.int .i64 n, .int .i64 q, .int .i64 c, .string t] 62))) := (Below.refl _ _).alloc (Nat.le_refl _) _
  have B2 : Hid (PiB (w.alloc (.cells #[.int .i64 n, .int .i64 q, .int .i64 c, .string t] 62)) g num cnt s) := hB.out.later B1.out
  have d0 : ((n : Int) == num) = true := by simp [h0]
  have d1 : ((c : Int) == cnt) = false := by simp [h1]
  clear h0 h1
  go_enter Try.func57, Try.ntmps57
  go_wp2_with fail
  generalize w.alloc (.cells #[.int .i64 n, .int .i64 q, .int .i64 c, .string t] 62) = W at *
  obtain ⟨c0, c1, c2, c3⟩ := P1.out.cells
  obtain ⟨e0, e1, e2⟩ := B2.out.cells
  clear hB P1 B2
  go_quiet (fail)
  go_wp2_with fail
  go_ret
  exact ⟨rfl, below_drewN B1.out _⟩

set_option maxRecDepth 100000 in
set_option maxHeartbeats 2000000 in
theorem awaits_n2 (num cnt : Int) (n q c g : Nat) (t : ByteArray) (s : Sv) (w : World) (hB : Hid (PiB w g num cnt s)) (h0 : (n : Int) = num) (h1 : (c : Int) = cnt) (h2 : (q : Int) ≠ s.n) :
    Calls Try.prog 57 #[.pointer (some ⟨g, 0, none⟩), .agg #[.int .i64 n, .int .i64 q, .int .i64 c, .string t]] w fun e w' => e = .returned (.bool false) ∧ Below w.heap.size w w' := by
  have P1 : Hid (PeAt (w.alloc (.cells #[.int .i64 n, .int .i64 q, .int .i64 c, .string t] 62)) w.heap.size n q c t) := heap_alloc_new w _
  have B1 : Hid (Below w.heap.size w (w.alloc (.cells #[.int .i64 n, .int .i64 q, .int .i64 c, .string t] 62))) := (Below.refl _ _).alloc (Nat.le_refl _) _
  have B2 : Hid (PiB (w.alloc (.cells #[.int .i64 n, .int .i64 q, .int .i64 c, .string t] 62)) g num cnt s) := hB.out.later B1.out
  have d0 : ((n : Int) == num) = true := by simp [h0]
  have d1 : ((c : Int) == cnt) = true := by simp [h1]
  have d2 : ((q : Int) == (s.n : Int)) = false := by simpa using h2
  clear h0 h1 h2
  go_enter Try.func57, Try.ntmps57
  go_wp2_with fail
  generalize w.alloc (.cells #[.int .i64 n, .int .i64 q, .int .i64 c, .string t] 62) = W at *
  obtain ⟨c0, c1, c2, c3⟩ := P1.out.cells
  obtain ⟨e0, e1, e2⟩ := B2.out.cells
  clear hB P1 B2
  go_quiet (fail)
  go_wp2_with fail
  go_ret
  exact ⟨rfl, below_drewN B1.out _⟩

theorem awaits_no (p : Pi) (n q c g : Nat) (t : ByteArray) (s : Sv) (w : World) (hB : Hid (PiB w g p.num p.cnt s)) (hs : s.n = p.ps.length) (hq : q ≠ 0) (h : fitsB p n q c = false) :
    Calls Try.prog 57 #[.pointer (some ⟨g, 0, none⟩), .agg #[.int .i64 n, .int .i64 q, .int .i64 c, .string t]] w fun e w' => e = .returned (.bool false) ∧ Below w.heap.size w w' := by
  have h' := of_decide_eq_false h
  by_cases h0 : (n : Int) = p.num
  · by_cases h1 : (c : Int) = p.cnt
    · exact awaits_n2 _ _ n q c g t s w hB h0 h1 (fun e => h' (.inr ⟨h0, h1, by omega⟩))
    · exact awaits_n1 _ _ n q c g t s w hB h0 h1
  · exact awaits_n0 _ _ n q c g t s w hB h0
end Go.Proofs.Ytfefjkldjaabbaa
