/- Joined texts: Pa Ad Jo Pr. -/
import Derived.Test.YtfefjkldjaabbaaPj7
import Derived.Test.YtfefjkldjaabbaaPj9
import Derived.Test.YtfefjkldjaabbaaPj10
import Derived.Test.YtfefjkldjaabbaaPj11
import Derived.Test.YtfefjkldjaabbaaPj13
import Derived.Test.YtfefjkldjaabbaaPj14
import Derived.Deep.RegionLaw
/- The walks over a pile that awaits a piece, and over a piece that comes to a pile. -/
namespace Go.Proofs.Ytfefjkldjaabbaa
open Go.RowKit Pl
set_option linter.unusedVariables false

/-- the block g is a pile whose texts are the slice s. -/
def PiB (w : World) (g : Nat) (num cnt : Int) (s : Sv) : Prop := Bx w g 35 [.int .i64 num, .int .i64 cnt, .slice s.a s.n s.c]
theorem PiB.cells {w : World} {g : Nat} {num cnt : Int} {s : Sv} (h : PiB w g num cnt s) : w.cell? ⟨g, 0, none⟩ = some (.int .i64 num) ∧ w.cell? ⟨g, 1, none⟩ = some (.int .i64 cnt) ∧ w.cell? ⟨g, 2, none⟩ = some (.slice s.a s.n s.c) :=
  ⟨Bx.cell h 0, Bx.cell h 1, Bx.cell h 2⟩
theorem PiB.frozen {w : World} {g : Nat} {num cnt : Int} {s : Sv} (h : PiB w g num cnt s) (k : Nat) : w.frozen? ⟨g, k, none⟩ = false := Bx.frozen h k
theorem PiB.later {w w' : World} {g : Nat} {num cnt : Int} {s : Sv} (h : PiB w g num cnt s) (hb : Below w.heap.size w w') : PiB w' g num cnt s := Bx.later h hb
theorem PiB.lt {w : World} {g : Nat} {num cnt : Int} {s : Sv} (h : PiB w g num cnt s) : g < w.heap.size := Bx.lt h

set_option maxRecDepth 100000 in
set_option maxHeartbeats 2000000 in
theorem awaits_yes (num cnt : Int) (n q c g : Nat) (t : ByteArray) (s : Sv) (w : World) (hB : Hid (PiB w g num cnt s)) (h0 : (n : Int) = num) (h1 : (c : Int) = cnt) (h2 : (q : Int) = s.n) :
    Calls Try.prog 57 #[.pointer (some ⟨g, 0, none⟩), .agg #[.int .i64 n, .int .i64 q, .int .i64 c, .string t]] w fun e w' => e = .returned (.bool true) ∧ Below w.heap.size w w' := by
  have P1 : Hid (PeAt (w.alloc (.cells #[.int .i64 n, .int .i64 q, .int .i64 c, .string t] 62)) w.heap.size n q c t) := heap_alloc_new w _
  have B1 : Hid (Below w.heap.size w (w.alloc (.cells #[.int .i64 n, .int .i64 q, .int .i64 c, .string t] 62))) := (Below.refl _ _).alloc (Nat.le_refl _) _
  have B2 : Hid (PiB (w.alloc (.cells #[.int .i64 n, .int .i64 q, .int .i64 c, .string t] 62)) g num cnt s) := hB.out.later B1.out
  have d0 : ((n : Int) == num) = true := by simp [h0]
  have d1 : ((c : Int) == cnt) = true := by simp [h1]
  have d2 : ((q : Int) == (s.n : Int)) = true := by simp [h2]
  clear h0 h1 h2
  go_enter Try.func57, Try.ntmps57
  go_wp2_with fail
  generalize w.alloc (.cells #[.int .i64 n, .int .i64 q, .int .i64 c, .string t] 62) = W at *
  obtain ⟨c0, c1, c2, c3⟩ := P1.out.cells
  obtain ⟨e0, e1, e2⟩ := B2.out.cells
  clear hB P1 B2
  go_quiet (fail)
  go_wp2_with fail
  go_ret
  exact ⟨rfl, below_drewN B1.out _⟩

set_option maxRecDepth 100000 in
set_option maxHeartbeats 2000000 in
theorem awaits_n0 (num cnt : Int) (n q c g : Nat) (t : ByteArray) (s : Sv) (w : World) (hB : Hid (PiB w g num cnt s)) (h0 : (n : Int) ≠ num) :
    Calls Try.prog 57 #[.pointer (some ⟨g, 0, none⟩), .agg #[.int .i64 n, .int .i64 q, .int .i64 c, .string t]] w fun e w' => e = .returned (.bool false) ∧ Below w.heap.size w w' := by
  have P1 : Hid (PeAt (w.alloc (.cells #[.int .i64 n, .int .i64 q, .int .i64 c, .string t] 62)) w.heap.size n q c t) := heap_alloc_new w _
  have B1 : Hid (Below w.heap.size w (w.alloc (.cells #[.int .i64 n, .int .i64 q, .int .i64 c, .string t] 62))) := (Below.refl _ _).alloc (Nat.le_refl _) _
  have B2 : Hid (PiB (w.alloc (.cells #[.int .i64 n, .int .i64 q, .int .i64 c, .string t] 62)) g num cnt s) := hB.out.later B1.out
  have d0 : ((n : Int) == num) = false := by simp [h0]
  clear h0
  go_enter Try.func57, Try.ntmps57
  go_wp2_with fail
  generalize w.alloc (.cells #[.int .i64 n, .int .i64 q, .int .i64 c, .string t] 62) = W at *
  obtain ⟨c0, c1, c2, c3⟩ := P1.out.cells
  obtain ⟨e0, e1, e2⟩ := B2.out.cells
  clear hB P1 B2
  go_quiet (fail)
  go_wp2_with fail
  go_ret
  exact ⟨rfl, below_drewN B1.out _⟩

set_option maxRecDepth 100000 in
set_option maxHeartbeats 2000000 in
theorem awaits_n1 (num cnt : Int) (n q c g : Nat) (t : ByteArray) (s : Sv) (w : World) (hB : Hid (PiB w g num cnt s)) (h0 : (n : Int) = num) (h1 : (c : Int) ≠ cnt) :
    Calls Try.prog 57 #[.pointer (some ⟨g, 0, none⟩), .agg #[.int .i64 n, .int .i64 q, .int .i64 c, .string t]] w fun e w' => e = .returned (.bool false) ∧ Below w.heap.size w w' := by
  have P1 : Hid (PeAt (w.alloc (.cells #[.int .i64 n, .int .i64 q, .int .i64 c, .string t] 62)) w.heap.size n q c t) := heap_alloc_new w _
  have B1 : Hid (Below w.heap.size w (w.alloc (.cells #[.int .i64 n, .int .i64 q, .int .i64 c, .string t] 62))) := (Below.refl _ _).alloc (Nat.le_refl _) _
  have B2 : Hid (PiB (w.alloc (.cells #[.int .i64 n, .int .i64 q, .int .i64 c, .string t] 62)) g num cnt s) := hB.out.later B1.out
  have d0 : ((n : Int) == num) = true := by simp [h0]
  have d1 : ((c : Int) == cnt) = false := by simp [h1]
  clear h0 h1
  go_enter Try.func57, Try.ntmps57
  go_wp2_with fail
  generalize w.alloc (.cells #[.int .i64 n, .int .i64 q, .int .i64 c, .string t] 62) = W at *
  obtain ⟨c0, c1, c2, c3⟩ := P1.out.cells
  obtain ⟨e0, e1, e2⟩ := B2.out.cells
  clear hB P1 B2
  go_quiet (fail)
  go_wp2_with fail
  go_ret
  exact ⟨rfl, below_drewN B1.out _⟩

set_option maxRecDepth 100000 in
set_option maxHeartbeats 2000000 in
theorem awaits_n2 (num cnt : Int) (n q c g : Nat) (t : ByteArray) (s : Sv) (w : World) (hB : Hid (PiB w g num cnt s)) (h0 : (n : Int) = num) (h1 : (c : Int) = cnt) (h2 : (q : Int) ≠ s.n) :
    Calls Try.prog 57 #[.pointer (some ⟨g, 0, none⟩), .agg #[.int .i64 n, .int .i64 q, .int .i64 c, .string t]] w fun e w' => e = .returned (.bool false) ∧ Below w.heap.size w w' := by
  have P1 : Hid (PeAt (w.alloc (.cells #[.int .i64 n, .int .i64 q, .int .i64 c, .string t] 62)) w.heap.size n q c t) := heap_alloc_new w _
  have B1 : Hid (Below w.heap.size w (w.alloc (.cells #[.int .i64 n, .int .i64 q, .int .i64 c, .string t] 62))) := (Below.refl _ _).alloc (Nat.le_refl _) _
  have B2 : Hid (PiB (w.alloc (.cells #[.int .i64 n, .int .i64 q, .int .i64 c, .string t] 62)) g num cnt s) := hB.out.later B1.out
  have d0 : ((n : Int) == num) = true := by simp [h0]
  have d1 : ((c : Int) == cnt) = true := by simp [h1]
  have d2 : ((q : Int) == (s.n : Int)) = false := by simpa using h2
  clear h0 h1 h2
  go_enter Try.func57, Try.ntmps57
  go_wp2_with fail
  generalize w.alloc (.cells #[.int .i64 n, .int .i64 q, .int .i64 c, .string t] 62) = W at *
  obtain ⟨c0, c1, c2, c3⟩ := P1.out.cells
  obtain ⟨e0, e1, e2⟩ := B2.out.cells
  clear hB P1 B2
  go_quiet (fail)
  go_wp2_with fail
  go_ret
  exact ⟨rfl, below_drewN B1.out _⟩

theorem awaits_no (p : Pi) (n q c g : Nat) (t : ByteArray) (s : Sv) (w : World) (hB : Hid (PiB w g p.num p.cnt s)) (hs : s.n = p.ps.length) (hq : q ≠ 0) (h : fitsB p n q c = false) :
    Calls Try.prog 57 #[.pointer (some ⟨g, 0, none⟩), .agg #[.int .i64 n, .int .i64 q, .int .i64 c, .string t]] w fun e w' => e = .returned (.bool false) ∧ Below w.heap.size w w' := by
  have h' := of_decide_eq_false h
  by_cases h0 : (n : Int) = p.num
  · by_cases h1 : (c : Int) = p.cnt
    · exact awaits_n2 _ _ n q c g t s w hB h0 h1 (fun e => h' (.inr ⟨h0, h1, by omega⟩))
    · exact awaits_n1 _ _ n q c g t s w hB h0 h1
  · exact awaits_n0 _ _ n q c g t s w hB h0
end Go.Proofs.Ytfefjkldjaabbaa

/- The walk over a piece that comes to a pile: nothing comes of it; it begins the pile anew or is the next one; it is the last one or not. -/
namespace Go.Proofs.Ytfefjkldjaabbaa
open Go.RowKit Pl
set_option linter.unusedVariables false

theorem Try.sizeP : (Try.prog.info? 35).map (·.size) = some 3 := by kernel_rfl
theorem PiB.grown {w w' : World} {g B : Nat} {num cnt : Int} {s : Sv} {v : Value} {xs : List ByteArray} (h : PiB w g num cnt s) (hO : OwnS w B v xs) (hg : w.grownBy w' v.ownBlock) : PiB w' g num cnt s := Bx.grown h hg fun e => bx_s_ne hO h (by decide) e.symm
theorem own_cap {w : World} {B g n cap : Nat} {s : Sv} {ts : List ByteArray} (h : OwnS w B s.v ts) (hv : s.v = .slice (some ⟨g, 0, none⟩) n cap) : ts.length ≤ cap := by
  rcases h.2 with ⟨h1, _⟩ | ⟨g', cap', cur, h1, h2⟩
  · rw [hv] at h1; cases h1
  · rw [hv] at h1
    cases h1
    exact h2.2.2.1
theorem gr_set {S : Nat → Prop} (g : Nat) (w : World) (j : Nat) (u : Value) (hS : S g) : Gr S w (w.setCell ⟨g, j, none⟩ u) :=
  have T := (TurnAt.refl g w).setCell j u
  ⟨T.os, T.tape, T.output, by rw [T.size]; exact Nat.le_refl _, fun k hk hn => T.block k (fun e => hn (e ▸ hS))⟩
theorem sjoin_own (s : Sv) (ts : List ByteArray) (B : Nat) (w : World) (h : Hid (OwnS w B s.v ts)) (hl : ts.length ≤ 1000) (h0 : 0 < ts.length) (hs : ∀ t ∈ ts, t.size ≤ 1048576) :
    Calls Try.prog 59 #[.slice s.a s.n s.c, .string ⟨#[]⟩] w fun e w' => e = .returned (.string (catL ts)) ∧ Below w.heap.size w w' := by
  obtain ⟨g, cap, hv, _, hg, hc, _⟩ := h.out.some h0
  have hcap := own_cap h.out hv
  unfold Sv.v at hv
  rw [hv]
  have hc' : ∀ (j : Nat) x, ts[j]? = some x → w.cell? ⟨g, 0 + j, none⟩ = some (.string x) := fun j x hj => by
    obtain ⟨hj1, hj2⟩ := List.getElem?_eq_some_iff.1 hj
    rw [Nat.zero_add, hc j hj1, hj2]
  have hb := catL_len ts 1048576 hs
  have he := catL_join ts
  have := sjoin_any g 0 cap ts (ByteArray.mk #[]) w hc' hg (by omega) hcap (by
    have e2 : Lib.join (ts.map (·.data.toList)) (ByteArray.mk #[]).data.toList = (catL ts).data.toList := by rw [← he]
    rw [e2]
    have : ts.length * 1048576 ≤ 1000 * 1048576 := Nat.mul_le_mul_right _ hl
    omega)
  rw [he] at this
  exact this
/-- what is left when a text has come to a pile. -/
def AddPost (B g : Nat) (p : Pi) (s : Sv) (x : ByteArray) (w : World) (e : Ending) (w' : World) : Prop :=
  ∃ s' : Sv, e = .returned (.tuple #[.string (addP p x).2.1, .bool (addP p x).2.2]) ∧ PiB w' g (addP p x).1.num (addP p x).1.cnt s' ∧ OwnS w' B s'.v (addP p x).1.ps ∧
    (∀ k, s'.v.ownBlock = some k → s.v.ownBlock = some k ∨ w.heap.size ≤ k) ∧ Gr (fun k => k = g ∨ s.v.ownBlock = some k) w w'
theorem sv_form {w : World} {B : Nat} {v : Value} {xs : List ByteArray} (h : OwnS w B v xs) : ∃ s : Sv, v = s.v ∧ s.n = xs.length := by
  obtain ⟨a, c, rfl⟩ := h.form; exact ⟨⟨a, xs.length, c⟩, rfl, rfl⟩
theorem sv_len {w : World} {B : Nat} {s : Sv} {xs : List ByteArray} (h : OwnS w B s.v xs) : s.n = xs.length := by
  obtain ⟨a, c, h1⟩ := h.form; unfold Sv.v at h1; simp only [Value.slice.injEq] at h1; exact h1.2.1
theorem ownS_none (w : World) (B : Nat) : OwnS w B (.slice none 0 0) [] := ⟨by simp, .inl ⟨rfl, rfl⟩⟩
theorem addPost_same {B g : Nat} {p : Pi} {s : Sv} {x : ByteArray} {w w' : World} (hB : PiB w g p.num p.cnt s) (hO : OwnS w B s.v p.ps) (hb : Below w.heap.size w w') (h : addP p x = (p, ByteArray.empty, false)) :
    AddPost B g p s x w (.returned (.tuple #[.string ⟨#[]⟩, .bool false])) w' := by
  refine ⟨s, ?_, ?_, ?_, fun k hk => .inl hk, gr_below hb⟩
  · rw [h]; rfl
  · rw [h]; exact hB.later hb
  · rw [h]; exact ownS_later hO hb

set_option maxRecDepth 100000 in
set_option maxHeartbeats 2000000 in
theorem add_none (p : Pi) (x : ByteArray) (g B : Nat) (s : Sv) (w : World) (hB : Hid (PiB w g p.num p.cnt s)) (hO : Hid (OwnS w B s.v p.ps)) (hx : x.size ≤ 1048576) (hp : Hid (pcP x = none)) :
    Calls Try.prog 44 #[.pointer (some ⟨g, 0, none⟩), .string x] w fun e w' => AddPost B g p s x w e w' := by
  go_enter Try.func44, Try.ntmps44
  go_wp2_with fail
  refine (readPiece_no x w hx hp).mono ?_
  rintro e w1 ⟨rfl, hb1⟩
  have B1 : Hid (Below w.heap.size w w1) := hb1
  clear hb1
  go_wp2_with fail
  go_ret2
  exact addPost_same hB.out hO.out (B1.out.alloc B1.out.size _) (addP_none hp.out)

set_option maxRecDepth 100000 in
set_option maxHeartbeats 4000000 in
theorem add_no (p : Pi) (x t : ByteArray) (n q c g B : Nat) (s : Sv) (w : World) (hB : Hid (PiB w g p.num p.cnt s)) (hO : Hid (OwnS w B s.v p.ps)) (hps : Hid p.short) (hx : x.size ≤ 1048576) (hp : Hid (pcP x = some (n, q, c, t))) (hq : q ≠ 0) (hf : Hid (fitsB p n q c = false)) :
    Calls Try.prog 44 #[.pointer (some ⟨g, 0, none⟩), .string x] w fun e w' => AddPost B g p s x w e w' := by
  have hr := pcP_right hp.out
  have hsn := sv_len hO.out
  have HN : Hid (s.n = p.ps.length) := hsn
  clear hsn
  go_enter Try.func44, Try.ntmps44
  go_wp2_with fail
  refine (readPiece_yes x n q c t w hx hp).mono ?_
  rintro e w1 ⟨rfl, hb1⟩
  have B1 : Hid (Below w.heap.size w (w1.alloc (.cells #[.int .i64 n, .int .i64 q, .int .i64 c, .string t] 62))) := hb1.alloc hb1.size _
  have Z1 : Hid ((w1.alloc (.cells #[.int .i64 n, .int .i64 q, .int .i64 c, .string t] 62)).heap.size = w1.heap.size + 1 ∧ w.heap.size ≤ w1.heap.size) := ⟨by simp, hb1.size⟩
  have X1 : Hid (PeAt (w1.alloc (.cells #[.int .i64 n, .int .i64 q, .int .i64 c, .string t] 62)) w1.heap.size n q c t) := heap_alloc_new w1 _
  have P1 : Hid (PiB (w1.alloc (.cells #[.int .i64 n, .int .i64 q, .int .i64 c, .string t] 62)) g p.num p.cnt s) := hB.out.later B1.out
  have O1 : Hid (OwnS (w1.alloc (.cells #[.int .i64 n, .int .i64 q, .int .i64 c, .string t] 62)) B s.v p.ps) := ownS_later hO.out B1.out
  have GX : g < w1.heap.size := Nat.lt_of_lt_of_le hB.out.lt hb1.size
  clear hb1
  obtain ⟨x0, x1, x2, x3⟩ := X1.out.cells
  have q0 : ((q : Int) == 0) = false := by simp; omega
  go_wp2_with fail
  generalize w1.alloc (.cells #[.int .i64 n, .int .i64 q, .int .i64 c, .string t] 62) = W1 at *
  refine (awaits_no p n q c g t s W1 P1 HN.out hq hf.out).mono ?_
  rintro e w2 ⟨rfl, hb2⟩
  have B2 : Hid (Below w.heap.size w w2) := B1.out.trans (hb2.mono B1.out.size)
  clear hb2 x0 x1 x2 x3
  go_wp2_with fail
  go_ret2
  exact addPost_same hB.out hO.out B2.out (addP_no hp.out hf.out)

set_option maxRecDepth 100000 in
set_option maxHeartbeats 4000000 in
theorem add_more0 (p : Pi) (x t : ByteArray) (n q c g B : Nat) (s : Sv) (w : World) (hB : Hid (PiB w g p.num p.cnt s)) (hO : Hid (OwnS w B s.v p.ps)) (hps : Hid p.short) (hx : x.size ≤ 1048576) (hp : Hid (pcP x = some (n, q, c, t))) (hq : q = 0) (hf : Hid (fitsB p n q c = true)) (hBw : B ≤ w.heap.size) (hc : q + 1 ≠ c) :
    Calls Try.prog 44 #[.pointer (some ⟨g, 0, none⟩), .string x] w fun e w' => AddPost B g p s x w e w' := by
  subst hq
  have hr := pcP_right hp.out
  have hbl := base_len hp.out hf.out
  have HBL : Hid ((baseP p 0).length = 0 ∧ 0 ≤ 9) := hbl
  have hff := of_decide_eq_true hf.out
  have HFF : Hid (0 = 0 ∨ ((n : Int) = p.num ∧ (c : Int) = p.cnt ∧ 0 = p.ps.length)) := hff
  have HC : Hid (0 + 1 ≠ c) := hc
  have hq9 : 0 ≤ 9 := hbl.2
  clear hff hbl hc
  have hsn := sv_len hO.out
  have HN : Hid (s.n = p.ps.length) := hsn
  clear hsn
  go_enter Try.func44, Try.ntmps44
  go_wp2_with fail
  refine (readPiece_yes x n 0 c t w hx hp).mono ?_
  rintro e w1 ⟨rfl, hb1⟩
  have B1 : Hid (Below w.heap.size w (w1.alloc (.cells #[.int .i64 n, .int .i64 0, .int .i64 c, .string t] 62))) := hb1.alloc hb1.size _
  have Z1 : Hid ((w1.alloc (.cells #[.int .i64 n, .int .i64 0, .int .i64 c, .string t] 62)).heap.size = w1.heap.size + 1 ∧ w.heap.size ≤ w1.heap.size) := ⟨by simp, hb1.size⟩
  have X1 : Hid (PeAt (w1.alloc (.cells #[.int .i64 n, .int .i64 0, .int .i64 c, .string t] 62)) w1.heap.size n 0 c t) := heap_alloc_new w1 _
  have P1 : Hid (PiB (w1.alloc (.cells #[.int .i64 n, .int .i64 0, .int .i64 c, .string t] 62)) g p.num p.cnt s) := hB.out.later B1.out
  have O1 : Hid (OwnS (w1.alloc (.cells #[.int .i64 n, .int .i64 0, .int .i64 c, .string t] 62)) B s.v p.ps) := ownS_later hO.out B1.out
  have GX : g < w1.heap.size := Nat.lt_of_lt_of_le hB.out.lt hb1.size
  clear hb1
  obtain ⟨x0, x1, x2, x3⟩ := X1.out.cells
  have q0 : ((0 : Int) == 0) = true := rfl
  go_wp2_with (first | (refine wpList_stB rfl 35 _ _ rfl g 0 rfl 35 _ P1.out [.int .i64 n, .int .i64 c, .slice none 0 0] rfl (by simp) Try.sizeP rfl [.int .i64 n, .int .i64 c, .slice none 0 0] rfl ?_; intro W2 OB TB; have P2 : Hid (PiB W2 g n c ⟨none, 0, 0⟩) := OB; have T2 : Hid (TurnAt g (w1.alloc (.cells #[.int .i64 n, .int .i64 0, .int .i64 c, .string t] 62)) W2) := TB; have X2 : Hid (PeAt W2 w1.heap.size n 0 c t) := (TB.block _ (by omega)).trans X1.out; have y0 := X2.out.cells.1; have y1 := X2.out.cells.2.1; have y2 := X2.out.cells.2.2.1; have y3 := X2.out.cells.2.2.2; clear OB TB))
  have G2 : Hid (Gr (fun k => k = g ∨ s.v.ownBlock = some k) w W2) := (gr_below B1.out).trans ⟨T2.out.os, T2.out.tape, T2.out.output, by rw [T2.out.size]; exact Nat.le_refl _, fun k hk hn => T2.out.block k (fun e => hn (.inl e))⟩
  have O2 : Hid (OwnS W2 B (Sv.v ⟨none, 0, 0⟩) (baseP p 0)) := by
    unfold baseP; rw [if_pos rfl]; exact ownS_none W2 B
  have N2 : Hid (∀ k, (Sv.v ⟨none, 0, 0⟩).ownBlock = some k → s.v.ownBlock = some k) := fun k hk => by cases hk
  clear P1 O1 X1 T2 B1 q0 x0 x1 x2 x3 y0 y1 y2 y3
  generalize hSV : (⟨none, 0, 0⟩ : Sv) = sv at *
  have hsq : Hid ((0 : Int) = sv.n) := by rw [← hSV]; rfl
  clear hSV
  refine (awaits_yes n c n 0 c g t sv W2 P2 rfl rfl hsq.out).mono ?_
  rintro e w3 ⟨rfl, hb3⟩
  have P3n : Hid (PiB w3 g n c sv) := P2.out.later hb3
  have X3n : Hid (PeAt w3 w1.heap.size n 0 c t) := X2.out.stays hb3 X2.out.lt
  have P3 : Hid (PiB w3.drew g n c sv) := P2.out.later hb3.drew
  have X3 : Hid (PeAt w3.drew w1.heap.size n 0 c t) := X2.out.stays hb3.drew X2.out.lt
  have O3 : Hid (OwnS w3.drew B sv.v (baseP p 0)) := World.ownsRow.drew (ownS_later O2.out hb3)
  have G3 : Hid (Gr (fun k => k = g ∨ s.v.ownBlock = some k) w w3.drew) := G2.out.trans (gr_below hb3.drew)
  have Z3 : Hid (B ≤ w3.drew.heap.size) := Nat.le_trans hBw G3.out.size
  clear P2 X2 O2 G2 hb3
  go_wp2_with fail
  have x3 : w3.cell? ⟨w1.heap.size, 3, none⟩ = some (.string t) := X3.out.cells.2.2.2
  have g2 : w3.cell? ⟨g, 2, none⟩ = some (.slice sv.a sv.n sv.c) := P3.out.cells.2.2
  have XA : ∀ o, (w3.alloc o).cell? ⟨w1.heap.size, 3, none⟩ = some (.string t) := fun o => (X3n.out.stays ((Below.refl w3.heap.size w3).alloc (Nat.le_refl _) o) X3n.out.lt).cells.2.2.2
  have GA : ∀ o, (w3.alloc o).cell? ⟨g, 2, none⟩ = some (.slice sv.a sv.n sv.c) := fun o => (P3n.out.later ((Below.refl w3.heap.size w3).alloc (Nat.le_refl _) o)).cells.2.2
  have FA : ∀ o k, (w3.alloc o).frozen? ⟨g, k, none⟩ = false := fun o k => (P3n.out.later ((Below.refl w3.heap.size w3).alloc (Nat.le_refl _) o)).frozen k
  have hlen : (baseP p 0).length < 4000000 := by have := HBL.out; omega
  go_region_law (first
    | (refine step_pushS (by rfl) _ _ 26 (by rfl) Try.underlying26 Try.info9 B sv.v (baseP p 0) (by rfl) t (w := w3.drew) (by rfl) O3.out (by rfl) hlen Z3.out ?_; intro v4 w4 O4 G4 N4; obtain ⟨s4, rfl, -⟩ := sv_form O4; have P4 := PiB.grown (P3.out.later ((Below.refl w3.drew.heap.size w3.drew).alloc (Nat.le_refl _) (.cells #[.string t] 9))) (O3.out.alloc _) G4; have h40 := P4.cells.1; have h41 := P4.cells.2.1; have h42 := P4.cells.2.2; have f42 := P4.frozen 2; unfold Sv.v at *))
  all_goals
    have P5 : Hid (PiB (w4.setCell ⟨g, 2, none⟩ (.slice s4.a s4.n s4.c)) g n c s4) := Bx.set P4 2 (.slice s4.a s4.n s4.c)
    have X4 : Bx w4 w1.heap.size 62 [.int .i64 n, .int .i64 0, .int .i64 c, .string t] := Bx.grown (Bx.later X3.out ((Below.refl w3.drew.heap.size w3.drew).alloc (Nat.le_refl _) (.cells #[.string t] 9))) G4 (fun e => bx_s_ne (O3.out.alloc (.cells #[.string t] 9)) (Bx.later (T := 62) (cs := [.int .i64 n, .int .i64 0, .int .i64 c, .string t]) X3.out ((Below.refl w3.drew.heap.size w3.drew).alloc (Nat.le_refl _) (.cells #[.string t] 9))) (by decide) e.symm)
    have X5 : Hid (PeAt (w4.setCell ⟨g, 2, none⟩ (.slice s4.a s4.n s4.c)) w1.heap.size n 0 c t) := Bx.other X4 (by omega)
    have O5 : Hid (OwnS (w4.setCell ⟨g, 2, none⟩ (.slice s4.a s4.n s4.c)) B s4.v (baseP p 0 ++ [t])) := Pl.OwnS.past O4 P4 ((TurnAt.refl g w4).setCell 2 _) (by decide)
    have G5 : Hid (Gr (fun k => k = g ∨ s.v.ownBlock = some k) w (w4.setCell ⟨g, 2, none⟩ (.slice s4.a s4.n s4.c))) := ((G3.out.trans (gr_below ((Below.refl w3.drew.heap.size w3.drew).alloc (Nat.le_refl _) (.cells #[.string t] 9)))).trans (Gr.ofGrown G4 (fun k hk => .inr (N2.out k hk)))).trans (gr_set g w4 2 _ (.inl rfl))
    have N5 : Hid (∀ k, s4.v.ownBlock = some k → s.v.ownBlock = some k ∨ w.heap.size ≤ k) := fun k hk => by
      rcases N4 with h | h
      · exact .inl (N2.out k (by rw [← hk]; exact h.symm))
      · have e : some k = some (w3.drew.heap.size + 1) := by rw [← hk]; exact h
        have := G3.out.size
        simp only [Option.some.injEq] at e
        exact .inr (by omega)
    generalize w4.setCell ⟨g, 2, none⟩ (.slice s4.a s4.n s4.c) = W5 at *
    clear P3n X3n P3 X3 O3 G3 Z3 O4 G4 N4 P4 h40 h41 h42 f42 X4 x3 g2 XA GA FA
    obtain ⟨x0, x1, x2, x3⟩ := X5.out.cells
    go_wp2_with fail
    refine (isLast_any n 0 c t W5 (by omega) (by omega)).mono ?_
    rw [decide_eq_false (show ¬ 0 + 1 = c from HC.out)]
    rintro e w6 ⟨rfl, hb6⟩
    have P6 : Hid (PiB w6 g n c s4) := P5.out.later hb6
    have O6 : Hid (OwnS w6 B s4.v (baseP p 0 ++ [t])) := ownS_later O5.out hb6
    have G6 : Hid (Gr (fun k => k = g ∨ s.v.ownBlock = some k) w w6) := G5.out.trans (gr_below hb6)
    clear P5 X5 O5 G5 hb6 x0 x1 x2 x3
    go_wp2_with fail
    go_ret2
    refine ⟨s4, ?_, ?_, ?_, N5.out, G6.out⟩
    · rw [addP_more hp.out hf.out HC.out]; rfl
    · rw [addP_more hp.out hf.out HC.out]; exact P6.out
    · rw [addP_more hp.out hf.out HC.out]; exact O6.out

set_option maxRecDepth 100000 in
set_option maxHeartbeats 4000000 in
theorem add_last0 (p : Pi) (x t : ByteArray) (n q c g B : Nat) (s : Sv) (w : World) (hB : Hid (PiB w g p.num p.cnt s)) (hO : Hid (OwnS w B s.v p.ps)) (hps : Hid p.short) (hx : x.size ≤ 1048576) (hp : Hid (pcP x = some (n, q, c, t))) (hq : q = 0) (hf : Hid (fitsB p n q c = true)) (hBw : B ≤ w.heap.size) (hc : q + 1 = c) :
    Calls Try.prog 44 #[.pointer (some ⟨g, 0, none⟩), .string x] w fun e w' => AddPost B g p s x w e w' := by
  subst hq
  have hr := pcP_right hp.out
  have hbl := base_len hp.out hf.out
  have HBL : Hid ((baseP p 0).length = 0 ∧ 0 ≤ 9) := hbl
  have hff := of_decide_eq_true hf.out
  have HFF : Hid (0 = 0 ∨ ((n : Int) = p.num ∧ (c : Int) = p.cnt ∧ 0 = p.ps.length)) := hff
  have HC : Hid (0 + 1 = c) := hc
  have hq9 : 0 ≤ 9 := hbl.2
  clear hff hbl hc
  have hsn := sv_len hO.out
  have HN : Hid (s.n = p.ps.length) := hsn
  clear hsn
  go_enter Try.func44, Try.ntmps44
  go_wp2_with fail
  refine (readPiece_yes x n 0 c t w hx hp).mono ?_
  rintro e w1 ⟨rfl, hb1⟩
  have B1 : Hid (Below w.heap.size w (w1.alloc (.cells #[.int .i64 n, .int .i64 0, .int .i64 c, .string t] 62))) := hb1.alloc hb1.size _
  have Z1 : Hid ((w1.alloc (.cells #[.int .i64 n, .int .i64 0, .int .i64 c, .string t] 62)).heap.size = w1.heap.size + 1 ∧ w.heap.size ≤ w1.heap.size) := ⟨by simp, hb1.size⟩
  have X1 : Hid (PeAt (w1.alloc (.cells #[.int .i64 n, .int .i64 0, .int .i64 c, .string t] 62)) w1.heap.size n 0 c t) := heap_alloc_new w1 _
  have P1 : Hid (PiB (w1.alloc (.cells #[.int .i64 n, .int .i64 0, .int .i64 c, .string t] 62)) g p.num p.cnt s) := hB.out.later B1.out
  have O1 : Hid (OwnS (w1.alloc (.cells #[.int .i64 n, .int .i64 0, .int .i64 c, .string t] 62)) B s.v p.ps) := ownS_later hO.out B1.out
  have GX : g < w1.heap.size := Nat.lt_of_lt_of_le hB.out.lt hb1.size
  clear hb1
  obtain ⟨x0, x1, x2, x3⟩ := X1.out.cells
  have q0 : ((0 : Int) == 0) = true := rfl
  go_wp2_with (first | (refine wpList_stB rfl 35 _ _ rfl g 0 rfl 35 _ P1.out [.int .i64 n, .int .i64 c, .slice none 0 0] rfl (by simp) Try.sizeP rfl [.int .i64 n, .int .i64 c, .slice none 0 0] rfl ?_; intro W2 OB TB; have P2 : Hid (PiB W2 g n c ⟨none, 0, 0⟩) := OB; have T2 : Hid (TurnAt g (w1.alloc (.cells #[.int .i64 n, .int .i64 0, .int .i64 c, .string t] 62)) W2) := TB; have X2 : Hid (PeAt W2 w1.heap.size n 0 c t) := (TB.block _ (by omega)).trans X1.out; have y0 := X2.out.cells.1; have y1 := X2.out.cells.2.1; have y2 := X2.out.cells.2.2.1; have y3 := X2.out.cells.2.2.2; clear OB TB))
  have G2 : Hid (Gr (fun k => k = g ∨ s.v.ownBlock = some k) w W2) := (gr_below B1.out).trans ⟨T2.out.os, T2.out.tape, T2.out.output, by rw [T2.out.size]; exact Nat.le_refl _, fun k hk hn => T2.out.block k (fun e => hn (.inl e))⟩
  have O2 : Hid (OwnS W2 B (Sv.v ⟨none, 0, 0⟩) (baseP p 0)) := by
    unfold baseP; rw [if_pos rfl]; exact ownS_none W2 B
  have N2 : Hid (∀ k, (Sv.v ⟨none, 0, 0⟩).ownBlock = some k → s.v.ownBlock = some k) := fun k hk => by cases hk
  clear P1 O1 X1 T2 B1 q0 x0 x1 x2 x3 y0 y1 y2 y3
  generalize hSV : (⟨none, 0, 0⟩ : Sv) = sv at *
  have hsq : Hid ((0 : Int) = sv.n) := by rw [← hSV]; rfl
  clear hSV
  refine (awaits_yes n c n 0 c g t sv W2 P2 rfl rfl hsq.out).mono ?_
  rintro e w3 ⟨rfl, hb3⟩
  have P3n : Hid (PiB w3 g n c sv) := P2.out.later hb3
  have X3n : Hid (PeAt w3 w1.heap.size n 0 c t) := X2.out.stays hb3 X2.out.lt
  have P3 : Hid (PiB w3.drew g n c sv) := P2.out.later hb3.drew
  have X3 : Hid (PeAt w3.drew w1.heap.size n 0 c t) := X2.out.stays hb3.drew X2.out.lt
  have O3 : Hid (OwnS w3.drew B sv.v (baseP p 0)) := World.ownsRow.drew (ownS_later O2.out hb3)
  have G3 : Hid (Gr (fun k => k = g ∨ s.v.ownBlock = some k) w w3.drew) := G2.out.trans (gr_below hb3.drew)
  have Z3 : Hid (B ≤ w3.drew.heap.size) := Nat.le_trans hBw G3.out.size
  clear P2 X2 O2 G2 hb3
  go_wp2_with fail
  have x3 : w3.cell? ⟨w1.heap.size, 3, none⟩ = some (.string t) := X3.out.cells.2.2.2
  have g2 : w3.cell? ⟨g, 2, none⟩ = some (.slice sv.a sv.n sv.c) := P3.out.cells.2.2
  have XA : ∀ o, (w3.alloc o).cell? ⟨w1.heap.size, 3, none⟩ = some (.string t) := fun o => (X3n.out.stays ((Below.refl w3.heap.size w3).alloc (Nat.le_refl _) o) X3n.out.lt).cells.2.2.2
  have GA : ∀ o, (w3.alloc o).cell? ⟨g, 2, none⟩ = some (.slice sv.a sv.n sv.c) := fun o => (P3n.out.later ((Below.refl w3.heap.size w3).alloc (Nat.le_refl _) o)).cells.2.2
  have FA : ∀ o k, (w3.alloc o).frozen? ⟨g, k, none⟩ = false := fun o k => (P3n.out.later ((Below.refl w3.heap.size w3).alloc (Nat.le_refl _) o)).frozen k
  have hlen : (baseP p 0).length < 4000000 := by have := HBL.out; omega
  go_region_law (first
    | (refine step_pushS (by rfl) _ _ 26 (by rfl) Try.underlying26 Try.info9 B sv.v (baseP p 0) (by rfl) t (w := w3.drew) (by rfl) O3.out (by rfl) hlen Z3.out ?_; intro v4 w4 O4 G4 N4; obtain ⟨s4, rfl, -⟩ := sv_form O4; have P4 := PiB.grown (P3.out.later ((Below.refl w3.drew.heap.size w3.drew).alloc (Nat.le_refl _) (.cells #[.string t] 9))) (O3.out.alloc _) G4; have h40 := P4.cells.1; have h41 := P4.cells.2.1; have h42 := P4.cells.2.2; have f42 := P4.frozen 2; unfold Sv.v at *))
  all_goals
    have P5 : Hid (PiB (w4.setCell ⟨g, 2, none⟩ (.slice s4.a s4.n s4.c)) g n c s4) := Bx.set P4 2 (.slice s4.a s4.n s4.c)
    have X4 : Bx w4 w1.heap.size 62 [.int .i64 n, .int .i64 0, .int .i64 c, .string t] := Bx.grown (Bx.later X3.out ((Below.refl w3.drew.heap.size w3.drew).alloc (Nat.le_refl _) (.cells #[.string t] 9))) G4 (fun e => bx_s_ne (O3.out.alloc (.cells #[.string t] 9)) (Bx.later (T := 62) (cs := [.int .i64 n, .int .i64 0, .int .i64 c, .string t]) X3.out ((Below.refl w3.drew.heap.size w3.drew).alloc (Nat.le_refl _) (.cells #[.string t] 9))) (by decide) e.symm)
    have X5 : Hid (PeAt (w4.setCell ⟨g, 2, none⟩ (.slice s4.a s4.n s4.c)) w1.heap.size n 0 c t) := Bx.other X4 (by omega)
    have O5 : Hid (OwnS (w4.setCell ⟨g, 2, none⟩ (.slice s4.a s4.n s4.c)) B s4.v (baseP p 0 ++ [t])) := Pl.OwnS.past O4 P4 ((TurnAt.refl g w4).setCell 2 _) (by decide)
    have G5 : Hid (Gr (fun k => k = g ∨ s.v.ownBlock = some k) w (w4.setCell ⟨g, 2, none⟩ (.slice s4.a s4.n s4.c))) := ((G3.out.trans (gr_below ((Below.refl w3.drew.heap.size w3.drew).alloc (Nat.le_refl _) (.cells #[.string t] 9)))).trans (Gr.ofGrown G4 (fun k hk => .inr (N2.out k hk)))).trans (gr_set g w4 2 _ (.inl rfl))
    have N5 : Hid (∀ k, s4.v.ownBlock = some k → s.v.ownBlock = some k ∨ w.heap.size ≤ k) := fun k hk => by
      rcases N4 with h | h
      · exact .inl (N2.out k (by rw [← hk]; exact h.symm))
      · have e : some k = some (w3.drew.heap.size + 1) := by rw [← hk]; exact h
        have := G3.out.size
        simp only [Option.some.injEq] at e
        exact .inr (by omega)
    generalize w4.setCell ⟨g, 2, none⟩ (.slice s4.a s4.n s4.c) = W5 at *
    clear P3n X3n P3 X3 O3 G3 Z3 O4 G4 N4 P4 h40 h41 h42 f42 X4 x3 g2 XA GA FA
    obtain ⟨x0, x1, x2, x3⟩ := X5.out.cells
    go_wp2_with fail
    refine (isLast_any n 0 c t W5 (by omega) (by omega)).mono ?_
    rw [decide_eq_true (show 0 + 1 = c from HC.out)]
    rintro e w6 ⟨rfl, hb6⟩
    have P6 : Hid (PiB w6 g n c s4) := P5.out.later hb6
    have O6 : Hid (OwnS w6 B s4.v (baseP p 0 ++ [t])) := ownS_later O5.out hb6
    have G6 : Hid (Gr (fun k => k = g ∨ s.v.ownBlock = some k) w w6) := G5.out.trans (gr_below hb6)
    clear P5 X5 O5 G5 hb6 x0 x1 x2 x3
    have g2 : w6.cell? ⟨g, 2, none⟩ = some (.slice s4.a s4.n s4.c) := P6.out.cells.2.2
    go_wp2_with fail
    refine (sjoin_own s4 (baseP p 0 ++ [t]) B w6 O6 (by rw [List.length_append, HBL.out.1]; have := HBL.out.2; simp only [List.length_cons, List.length_nil]; omega) (by simp) (fun y hy => by
      rcases List.mem_append.1 hy with hy | hy
      · exact base_short hps.out y hy
      · simp at hy; subst hy; omega)).mono ?_
    rintro e w7 ⟨rfl, hb7⟩
    have P7 : Hid (PiB w7 g n c s4) := P6.out.later hb7
    have G7 : Hid (Gr (fun k => k = g ∨ s.v.ownBlock = some k) w w7) := G6.out.trans (gr_below hb7)
    clear P6 O6 G6 hb7 g2
    go_wp2_with (first | (refine wpList_stB rfl 35 _ _ rfl g 0 rfl 35 _ P7.out [.int .i64 0, .int .i64 0, .slice none 0 0] rfl (by simp) Try.sizeP rfl [.int .i64 0, .int .i64 0, .slice none 0 0] rfl ?_; intro W8 OB TB; have P8 : Hid (PiB W8 g 0 0 ⟨none, 0, 0⟩) := OB; have T8 : Hid (TurnAt g w7 W8) := TB; clear OB TB))
    go_ret2
    refine ⟨⟨none, 0, 0⟩, ?_, ?_, ?_, ?_, G7.out.trans ⟨T8.out.os, T8.out.tape, T8.out.output, by rw [T8.out.size]; exact Nat.le_refl _, fun k hk hn => T8.out.block k (fun e => hn (.inl e))⟩⟩
    · rw [addP_last hp.out hf.out HC.out]; rfl
    · rw [addP_last hp.out hf.out HC.out]; exact P8.out
    · rw [addP_last hp.out hf.out HC.out]; exact ownS_none W8 B
    · intro k hk; cases hk

set_option maxRecDepth 100000 in
set_option maxHeartbeats 4000000 in
theorem add_more1 (p : Pi) (x t : ByteArray) (n q c g B : Nat) (s : Sv) (w : World) (hB : Hid (PiB w g p.num p.cnt s)) (hO : Hid (OwnS w B s.v p.ps)) (hps : Hid p.short) (hx : x.size ≤ 1048576) (hp : Hid (pcP x = some (n, q, c, t))) (hq : q ≠ 0) (hf : Hid (fitsB p n q c = true)) (hBw : B ≤ w.heap.size) (hc : q + 1 ≠ c) :
    Calls Try.prog 44 #[.pointer (some ⟨g, 0, none⟩), .string x] w fun e w' => AddPost B g p s x w e w' := by
  have hr := pcP_right hp.out
  have hbl := base_len hp.out hf.out
  have HBL : Hid ((baseP p q).length = q ∧ q ≤ 9) := hbl
  have hff := of_decide_eq_true hf.out
  have HFF : Hid (q = 0 ∨ ((n : Int) = p.num ∧ (c : Int) = p.cnt ∧ q = p.ps.length)) := hff
  have HC : Hid (q + 1 ≠ c) := hc
  have hq9 : q ≤ 9 := hbl.2
  clear hff hbl hc
  have hsn := sv_len hO.out
  have HN : Hid (s.n = p.ps.length) := hsn
  clear hsn
  go_enter Try.func44, Try.ntmps44
  go_wp2_with fail
  refine (readPiece_yes x n q c t w hx hp).mono ?_
  rintro e w1 ⟨rfl, hb1⟩
  have B1 : Hid (Below w.heap.size w (w1.alloc (.cells #[.int .i64 n, .int .i64 q, .int .i64 c, .string t] 62))) := hb1.alloc hb1.size _
  have Z1 : Hid ((w1.alloc (.cells #[.int .i64 n, .int .i64 q, .int .i64 c, .string t] 62)).heap.size = w1.heap.size + 1 ∧ w.heap.size ≤ w1.heap.size) := ⟨by simp, hb1.size⟩
  have X1 : Hid (PeAt (w1.alloc (.cells #[.int .i64 n, .int .i64 q, .int .i64 c, .string t] 62)) w1.heap.size n q c t) := heap_alloc_new w1 _
  have P1 : Hid (PiB (w1.alloc (.cells #[.int .i64 n, .int .i64 q, .int .i64 c, .string t] 62)) g p.num p.cnt s) := hB.out.later B1.out
  have O1 : Hid (OwnS (w1.alloc (.cells #[.int .i64 n, .int .i64 q, .int .i64 c, .string t] 62)) B s.v p.ps) := ownS_later hO.out B1.out
  have GX : g < w1.heap.size := Nat.lt_of_lt_of_le hB.out.lt hb1.size
  clear hb1
  obtain ⟨x0, x1, x2, x3⟩ := X1.out.cells
  have q0 : ((q : Int) == 0) = false := by simp; omega
  go_wp2_with fail
  generalize w1.alloc (.cells #[.int .i64 n, .int .i64 q, .int .i64 c, .string t] 62) = W2 at *
  obtain ⟨f1, f2, f3⟩ := HFF.out.resolve_left hq
  have P2 : Hid (PiB W2 g n c s) := by rw [f1, f2]; exact P1.out
  have X2 : Hid (PeAt W2 w1.heap.size n q c t) := X1.out
  have G2 : Hid (Gr (fun k => k = g ∨ s.v.ownBlock = some k) w W2) := gr_below B1.out
  have O2 : Hid (OwnS W2 B s.v (baseP p q)) := by
    unfold baseP; rw [if_neg hq]; exact O1.out
  have N2 : Hid (∀ k, s.v.ownBlock = some k → s.v.ownBlock = some k) := fun k hk => hk
  have hsq : Hid ((q : Int) = s.n) := by show _ = _; rw [HN.out]; omega
  clear P1 O1 X1 B1 q0 x0 x1 x2 x3 f1 f2 f3
  generalize hSV : s = sv at P2 O2 hsq
  have N2 : Hid (∀ k, sv.v.ownBlock = some k → s.v.ownBlock = some k) := by rw [← hSV]; exact N2.out
  clear hSV
  refine (awaits_yes n c n q c g t sv W2 P2 rfl rfl hsq.out).mono ?_
  rintro e w3 ⟨rfl, hb3⟩
  have P3n : Hid (PiB w3 g n c sv) := P2.out.later hb3
  have X3n : Hid (PeAt w3 w1.heap.size n q c t) := X2.out.stays hb3 X2.out.lt
  have P3 : Hid (PiB w3.drew g n c sv) := P2.out.later hb3.drew
  have X3 : Hid (PeAt w3.drew w1.heap.size n q c t) := X2.out.stays hb3.drew X2.out.lt
  have O3 : Hid (OwnS w3.drew B sv.v (baseP p q)) := World.ownsRow.drew (ownS_later O2.out hb3)
  have G3 : Hid (Gr (fun k => k = g ∨ s.v.ownBlock = some k) w w3.drew) := G2.out.trans (gr_below hb3.drew)
  have Z3 : Hid (B ≤ w3.drew.heap.size) := Nat.le_trans hBw G3.out.size
  clear P2 X2 O2 G2 hb3
  go_wp2_with fail
  have x3 : w3.cell? ⟨w1.heap.size, 3, none⟩ = some (.string t) := X3.out.cells.2.2.2
  have g2 : w3.cell? ⟨g, 2, none⟩ = some (.slice sv.a sv.n sv.c) := P3.out.cells.2.2
  have XA : ∀ o, (w3.alloc o).cell? ⟨w1.heap.size, 3, none⟩ = some (.string t) := fun o => (X3n.out.stays ((Below.refl w3.heap.size w3).alloc (Nat.le_refl _) o) X3n.out.lt).cells.2.2.2
  have GA : ∀ o, (w3.alloc o).cell? ⟨g, 2, none⟩ = some (.slice sv.a sv.n sv.c) := fun o => (P3n.out.later ((Below.refl w3.heap.size w3).alloc (Nat.le_refl _) o)).cells.2.2
  have FA : ∀ o k, (w3.alloc o).frozen? ⟨g, k, none⟩ = false := fun o k => (P3n.out.later ((Below.refl w3.heap.size w3).alloc (Nat.le_refl _) o)).frozen k
  have hlen : (baseP p q).length < 4000000 := by have := HBL.out; omega
  go_region_law (first
    | (refine step_pushS (by rfl) _ _ 26 (by rfl) Try.underlying26 Try.info9 B sv.v (baseP p q) (by rfl) t (w := w3.drew) (by rfl) O3.out (by rfl) hlen Z3.out ?_; intro v4 w4 O4 G4 N4; obtain ⟨s4, rfl, -⟩ := sv_form O4; have P4 := PiB.grown (P3.out.later ((Below.refl w3.drew.heap.size w3.drew).alloc (Nat.le_refl _) (.cells #[.string t] 9))) (O3.out.alloc _) G4; have h40 := P4.cells.1; have h41 := P4.cells.2.1; have h42 := P4.cells.2.2; have f42 := P4.frozen 2; unfold Sv.v at *))
  all_goals
    have P5 : Hid (PiB (w4.setCell ⟨g, 2, none⟩ (.slice s4.a s4.n s4.c)) g n c s4) := Bx.set P4 2 (.slice s4.a s4.n s4.c)
    have X4 : Bx w4 w1.heap.size 62 [.int .i64 n, .int .i64 q, .int .i64 c, .string t] := Bx.grown (Bx.later X3.out ((Below.refl w3.drew.heap.size w3.drew).alloc (Nat.le_refl _) (.cells #[.string t] 9))) G4 (fun e => bx_s_ne (O3.out.alloc (.cells #[.string t] 9)) (Bx.later (T := 62) (cs := [.int .i64 n, .int .i64 q, .int .i64 c, .string t]) X3.out ((Below.refl w3.drew.heap.size w3.drew).alloc (Nat.le_refl _) (.cells #[.string t] 9))) (by decide) e.symm)
    have X5 : Hid (PeAt (w4.setCell ⟨g, 2, none⟩ (.slice s4.a s4.n s4.c)) w1.heap.size n q c t) := Bx.other X4 (by omega)
    have O5 : Hid (OwnS (w4.setCell ⟨g, 2, none⟩ (.slice s4.a s4.n s4.c)) B s4.v (baseP p q ++ [t])) := Pl.OwnS.past O4 P4 ((TurnAt.refl g w4).setCell 2 _) (by decide)
    have G5 : Hid (Gr (fun k => k = g ∨ s.v.ownBlock = some k) w (w4.setCell ⟨g, 2, none⟩ (.slice s4.a s4.n s4.c))) := ((G3.out.trans (gr_below ((Below.refl w3.drew.heap.size w3.drew).alloc (Nat.le_refl _) (.cells #[.string t] 9)))).trans (Gr.ofGrown G4 (fun k hk => .inr (N2.out k hk)))).trans (gr_set g w4 2 _ (.inl rfl))
    have N5 : Hid (∀ k, s4.v.ownBlock = some k → s.v.ownBlock = some k ∨ w.heap.size ≤ k) := fun k hk => by
      rcases N4 with h | h
      · exact .inl (N2.out k (by rw [← hk]; exact h.symm))
      · have e : some k = some (w3.drew.heap.size + 1) := by rw [← hk]; exact h
        have := G3.out.size
        simp only [Option.some.injEq] at e
        exact .inr (by omega)
    generalize w4.setCell ⟨g, 2, none⟩ (.slice s4.a s4.n s4.c) = W5 at *
    clear P3n X3n P3 X3 O3 G3 Z3 O4 G4 N4 P4 h40 h41 h42 f42 X4 x3 g2 XA GA FA
    obtain ⟨x0, x1, x2, x3⟩ := X5.out.cells
    go_wp2_with fail
    refine (isLast_any n q c t W5 (by omega) (by omega)).mono ?_
    rw [decide_eq_false (show ¬ q + 1 = c from HC.out)]
    rintro e w6 ⟨rfl, hb6⟩
    have P6 : Hid (PiB w6 g n c s4) := P5.out.later hb6
    have O6 : Hid (OwnS w6 B s4.v (baseP p q ++ [t])) := ownS_later O5.out hb6
    have G6 : Hid (Gr (fun k => k = g ∨ s.v.ownBlock = some k) w w6) := G5.out.trans (gr_below hb6)
    clear P5 X5 O5 G5 hb6 x0 x1 x2 x3
    go_wp2_with fail
    go_ret2
    refine ⟨s4, ?_, ?_, ?_, N5.out, G6.out⟩
    · rw [addP_more hp.out hf.out HC.out]; rfl
    · rw [addP_more hp.out hf.out HC.out]; exact P6.out
    · rw [addP_more hp.out hf.out HC.out]; exact O6.out

set_option maxRecDepth 100000 in
set_option maxHeartbeats 4000000 in
theorem add_last1 (p : Pi) (x t : ByteArray) (n q c g B : Nat) (s : Sv) (w : World) (hB : Hid (PiB w g p.num p.cnt s)) (hO : Hid (OwnS w B s.v p.ps)) (hps : Hid p.short) (hx : x.size ≤ 1048576) (hp : Hid (pcP x = some (n, q, c, t))) (hq : q ≠ 0) (hf : Hid (fitsB p n q c = true)) (hBw : B ≤ w.heap.size) (hc : q + 1 = c) :
    Calls Try.prog 44 #[.pointer (some ⟨g, 0, none⟩), .string x] w fun e w' => AddPost B g p s x w e w' := by
  have hr := pcP_right hp.out
  have hbl := base_len hp.out hf.out
  have HBL : Hid ((baseP p q).length = q ∧ q ≤ 9) := hbl
  have hff := of_decide_eq_true hf.out
  have HFF : Hid (q = 0 ∨ ((n : Int) = p.num ∧ (c : Int) = p.cnt ∧ q = p.ps.length)) := hff
  have HC : Hid (q + 1 = c) := hc
  have hq9 : q ≤ 9 := hbl.2
  clear hff hbl hc
  have hsn := sv_len hO.out
  have HN : Hid (s.n = p.ps.length) := hsn
  clear hsn
  go_enter Try.func44, Try.ntmps44
  go_wp2_with fail
  refine (readPiece_yes x n q c t w hx hp).mono ?_
  rintro e w1 ⟨rfl, hb1⟩
  have B1 : Hid (Below w.heap.size w (w1.alloc (.cells #[.int .i64 n, .int .i64 q, .int .i64 c, .string t] 62))) := hb1.alloc hb1.size _
  have Z1 : Hid ((w1.alloc (.cells #[.int .i64 n, .int .i64 q, .int .i64 c, .string t] 62)).heap.size = w1.heap.size + 1 ∧ w.heap.size ≤ w1.heap.size) := ⟨by simp, hb1.size⟩
  have X1 : Hid (PeAt (w1.alloc (.cells #[.int .i64 n, .int .i64 q, .int .i64 c, .string t] 62)) w1.heap.size n q c t) := heap_alloc_new w1 _
  have P1 : Hid (PiB (w1.alloc (.cells #[.int .i64 n, .int .i64 q, .int .i64 c, .string t] 62)) g p.num p.cnt s) := hB.out.later B1.out
  have O1 : Hid (OwnS (w1.alloc (.cells #[.int .i64 n, .int .i64 q, .int .i64 c, .string t] 62)) B s.v p.ps) := ownS_later hO.out B1.out
  have GX : g < w1.heap.size := Nat.lt_of_lt_of_le hB.out.lt hb1.size
  clear hb1
  obtain ⟨x0, x1, x2, x3⟩ := X1.out.cells
  have q0 : ((q : Int) == 0) = false := by simp; omega
  go_wp2_with fail
  generalize w1.alloc (.cells #[.int .i64 n, .int .i64 q, .int .i64 c, .string t] 62) = W2 at *
  obtain ⟨f1, f2, f3⟩ := HFF.out.resolve_left hq
  have P2 : Hid (PiB W2 g n c s) := by rw [f1, f2]; exact P1.out
  have X2 : Hid (PeAt W2 w1.heap.size n q c t) := X1.out
  have G2 : Hid (Gr (fun k => k = g ∨ s.v.ownBlock = some k) w W2) := gr_below B1.out
  have O2 : Hid (OwnS W2 B s.v (baseP p q)) := by
    unfold baseP; rw [if_neg hq]; exact O1.out
  have N2 : Hid (∀ k, s.v.ownBlock = some k → s.v.ownBlock = some k) := fun k hk => hk
  have hsq : Hid ((q : Int) = s.n) := by show _ = _; rw [HN.out]; omega
  clear P1 O1 X1 B1 q0 x0 x1 x2 x3 f1 f2 f3
  generalize hSV : s = sv at P2 O2 hsq
  have N2 : Hid (∀ k, sv.v.ownBlock = some k → s.v.ownBlock = some k) := by rw [← hSV]; exact N2.out
  clear hSV
  refine (awaits_yes n c n q c g t sv W2 P2 rfl rfl hsq.out).mono ?_
  rintro e w3 ⟨rfl, hb3⟩
  have P3n : Hid (PiB w3 g n c sv) := P2.out.later hb3
  have X3n : Hid (PeAt w3 w1.heap.size n q c t) := X2.out.stays hb3 X2.out.lt
  have P3 : Hid (PiB w3.drew g n c sv) := P2.out.later hb3.drew
  have X3 : Hid (PeAt w3.drew w1.heap.size n q c t) := X2.out.stays hb3.drew X2.out.lt
  have O3 : Hid (OwnS w3.drew B sv.v (baseP p q)) := World.ownsRow.drew (ownS_later O2.out hb3)
  have G3 : Hid (Gr (fun k => k = g ∨ s.v.ownBlock = some k) w w3.drew) := G2.out.trans (gr_below hb3.drew)
  have Z3 : Hid (B ≤ w3.drew.heap.size) := Nat.le_trans hBw G3.out.size
  clear P2 X2 O2 G2 hb3
  go_wp2_with fail
  have x3 : w3.cell? ⟨w1.heap.size, 3, none⟩ = some (.string t) := X3.out.cells.2.2.2
  have g2 : w3.cell? ⟨g, 2, none⟩ = some (.slice sv.a sv.n sv.c) := P3.out.cells.2.2
  have XA : ∀ o, (w3.alloc o).cell? ⟨w1.heap.size, 3, none⟩ = some (.string t) := fun o => (X3n.out.stays ((Below.refl w3.heap.size w3).alloc (Nat.le_refl _) o) X3n.out.lt).cells.2.2.2
  have GA : ∀ o, (w3.alloc o).cell? ⟨g, 2, none⟩ = some (.slice sv.a sv.n sv.c) := fun o => (P3n.out.later ((Below.refl w3.heap.size w3).alloc (Nat.le_refl _) o)).cells.2.2
  have FA : ∀ o k, (w3.alloc o).frozen? ⟨g, k, none⟩ = false := fun o k => (P3n.out.later ((Below.refl w3.heap.size w3).alloc (Nat.le_refl _) o)).frozen k
  have hlen : (baseP p q).length < 4000000 := by have := HBL.out; omega
  go_region_law (first
    | (refine step_pushS (by rfl) _ _ 26 (by rfl) Try.underlying26 Try.info9 B sv.v (baseP p q) (by rfl) t (w := w3.drew) (by rfl) O3.out (by rfl) hlen Z3.out ?_; intro v4 w4 O4 G4 N4; obtain ⟨s4, rfl, -⟩ := sv_form O4; have P4 := PiB.grown (P3.out.later ((Below.refl w3.drew.heap.size w3.drew).alloc (Nat.le_refl _) (.cells #[.string t] 9))) (O3.out.alloc _) G4; have h40 := P4.cells.1; have h41 := P4.cells.2.1; have h42 := P4.cells.2.2; have f42 := P4.frozen 2; unfold Sv.v at *))
  all_goals
    have P5 : Hid (PiB (w4.setCell ⟨g, 2, none⟩ (.slice s4.a s4.n s4.c)) g n c s4) := Bx.set P4 2 (.slice s4.a s4.n s4.c)
    have X4 : Bx w4 w1.heap.size 62 [.int .i64 n, .int .i64 q, .int .i64 c, .string t] := Bx.grown (Bx.later X3.out ((Below.refl w3.drew.heap.size w3.drew).alloc (Nat.le_refl _) (.cells #[.string t] 9))) G4 (fun e => bx_s_ne (O3.out.alloc (.cells #[.string t] 9)) (Bx.later (T := 62) (cs := [.int .i64 n, .int .i64 q, .int .i64 c, .string t]) X3.out ((Below.refl w3.drew.heap.size w3.drew).alloc (Nat.le_refl _) (.cells #[.string t] 9))) (by decide) e.symm)
    have X5 : Hid (PeAt (w4.setCell ⟨g, 2, none⟩ (.slice s4.a s4.n s4.c)) w1.heap.size n q c t) := Bx.other X4 (by omega)
    have O5 : Hid (OwnS (w4.setCell ⟨g, 2, none⟩ (.slice s4.a s4.n s4.c)) B s4.v (baseP p q ++ [t])) := Pl.OwnS.past O4 P4 ((TurnAt.refl g w4).setCell 2 _) (by decide)
    have G5 : Hid (Gr (fun k => k = g ∨ s.v.ownBlock = some k) w (w4.setCell ⟨g, 2, none⟩ (.slice s4.a s4.n s4.c))) := ((G3.out.trans (gr_below ((Below.refl w3.drew.heap.size w3.drew).alloc (Nat.le_refl _) (.cells #[.string t] 9)))).trans (Gr.ofGrown G4 (fun k hk => .inr (N2.out k hk)))).trans (gr_set g w4 2 _ (.inl rfl))
    have N5 : Hid (∀ k, s4.v.ownBlock = some k → s.v.ownBlock = some k ∨ w.heap.size ≤ k) := fun k hk => by
      rcases N4 with h | h
      · exact .inl (N2.out k (by rw [← hk]; exact h.symm))
      · have e : some k = some (w3.drew.heap.size + 1) := by rw [← hk]; exact h
        have := G3.out.size
        simp only [Option.some.injEq] at e
        exact .inr (by omega)
    generalize w4.setCell ⟨g, 2, none⟩ (.slice s4.a s4.n s4.c) = W5 at *
    clear P3n X3n P3 X3 O3 G3 Z3 O4 G4 N4 P4 h40 h41 h42 f42 X4 x3 g2 XA GA FA
    obtain ⟨x0, x1, x2, x3⟩ := X5.out.cells
    go_wp2_with fail
    refine (isLast_any n q c t W5 (by omega) (by omega)).mono ?_
    rw [decide_eq_true (show q + 1 = c from HC.out)]
    rintro e w6 ⟨rfl, hb6⟩
    have P6 : Hid (PiB w6 g n c s4) := P5.out.later hb6
    have O6 : Hid (OwnS w6 B s4.v (baseP p q ++ [t])) := ownS_later O5.out hb6
    have G6 : Hid (Gr (fun k => k = g ∨ s.v.ownBlock = some k) w w6) := G5.out.trans (gr_below hb6)
    clear P5 X5 O5 G5 hb6 x0 x1 x2 x3
    have g2 : w6.cell? ⟨g, 2, none⟩ = some (.slice s4.a s4.n s4.c) := P6.out.cells.2.2
    go_wp2_with fail
    refine (sjoin_own s4 (baseP p q ++ [t]) B w6 O6 (by rw [List.length_append, HBL.out.1]; have := HBL.out.2; simp only [List.length_cons, List.length_nil]; omega) (by simp) (fun y hy => by
      rcases List.mem_append.1 hy with hy | hy
      · exact base_short hps.out y hy
      · simp at hy; subst hy; omega)).mono ?_
    rintro e w7 ⟨rfl, hb7⟩
    have P7 : Hid (PiB w7 g n c s4) := P6.out.later hb7
    have G7 : Hid (Gr (fun k => k = g ∨ s.v.ownBlock = some k) w w7) := G6.out.trans (gr_below hb7)
    clear P6 O6 G6 hb7 g2
    go_wp2_with (first | (refine wpList_stB rfl 35 _ _ rfl g 0 rfl 35 _ P7.out [.int .i64 0, .int .i64 0, .slice none 0 0] rfl (by simp) Try.sizeP rfl [.int .i64 0, .int .i64 0, .slice none 0 0] rfl ?_; intro W8 OB TB; have P8 : Hid (PiB W8 g 0 0 ⟨none, 0, 0⟩) := OB; have T8 : Hid (TurnAt g w7 W8) := TB; clear OB TB))
    go_ret2
    refine ⟨⟨none, 0, 0⟩, ?_, ?_, ?_, ?_, G7.out.trans ⟨T8.out.os, T8.out.tape, T8.out.output, by rw [T8.out.size]; exact Nat.le_refl _, fun k hk hn => T8.out.block k (fun e => hn (.inl e))⟩⟩
    · rw [addP_last hp.out hf.out HC.out]; rfl
    · rw [addP_last hp.out hf.out HC.out]; exact P8.out
    · rw [addP_last hp.out hf.out HC.out]; exact ownS_none W8 B
    · intro k hk; cases hk

/-- a text comes to a pile. -/
theorem add_any (p : Pi) (x : ByteArray) (g B : Nat) (s : Sv) (w : World) (hB : Hid (PiB w g p.num p.cnt s)) (hO : Hid (OwnS w B s.v p.ps)) (hps : Hid p.short) (hx : x.size ≤ 1048576) (hBw : B ≤ w.heap.size) :
    Calls Try.prog 44 #[.pointer (some ⟨g, 0, none⟩), .string x] w fun e w' => AddPost B g p s x w e w' := by
  rcases h0 : pcP x with _ | ⟨n, q, c, t⟩
  · exact add_none p x g B s w hB hO hx h0
  · by_cases hq : q = 0
    · have hf : fitsB p n q c = true := decide_eq_true (.inl hq)
      by_cases hc : q + 1 = c
      · exact add_last0 p x t n q c g B s w hB hO hps hx h0 hq hf hBw hc
      · exact add_more0 p x t n q c g B s w hB hO hps hx h0 hq hf hBw hc
    · cases hf : fitsB p n q c with
      | false => exact add_no p x t n q c g B s w hB hO hps hx h0 hq hf
      | true =>
        by_cases hc : q + 1 = c
        · exact add_last1 p x t n q c g B s w hB hO hps hx h0 hq hf hBw hc
        · exact add_more1 p x t n q c g B s w hB hO hps hx h0 hq hf hBw hc
end Go.Proofs.Ytfefjkldjaabbaa

/- The walk over the program's Join. -/
namespace Go.Proofs.Ytfefjkldjaabbaa
open Go.RowKit Pl
set_option linter.unusedVariables false

/-- the whole texts of the pieces in ts. -/
def joinedL (ts : List ByteArray) : List ByteArray := (joinP zPi [] ts).2
def pileL (ts : List ByteArray) : Pi := (joinP zPi [] ts).1
theorem joinedL_len (ts : List ByteArray) : (joinedL ts).length ≤ ts.length := by have := joinP_len ts zPi []; simpa [joinedL] using this

/-- what stands at the head of a round: the whole texts so far, the pile in its box, both lists apart. -/
def JoSt (w wr : World) (g : Nat) (v : Value) (ts : List ByteArray) : Prop :=
  ∃ s : Sv, OwnS wr w.heap.size v (joinedL ts) ∧ PiB wr g (pileL ts).num (pileL ts).cnt s ∧ OwnS wr w.heap.size s.v (pileL ts).ps ∧ Ap s.v v ∧ Below w.heap.size w wr
theorem addPost_e {B g : Nat} {p : Pi} {s : Sv} {x : ByteArray} {w w' : World} {e : Ending} (h : AddPost B g p s x w e w') : e = .returned (.tuple #[.string (addP p x).2.1, .bool (addP p x).2.2]) := by obtain ⟨s', h1, _⟩ := h; exact h1
theorem gr_own {S : Nat → Prop} {w w' : World} {B : Nat} {v : Value} {xs : List ByteArray} (h : OwnS w B v xs) (k : Gr S w w') (hn : ∀ k, v.ownBlock = some k → ¬ S k) : OwnS w' B v xs :=
  h.keep' fun j hj hl => k.block j hl (hn j hj)
theorem pile_next {ts : List ByteArray} {k : Nat} (h : k < ts.length) : pileL (ts.take (k + 1)) = (addP (pileL (ts.take k)) ts[k]).1 := by unfold pileL; rw [joinP_take h]
theorem joined_next {ts : List ByteArray} {k : Nat} (h : k < ts.length) : joinedL (ts.take (k + 1)) = if (addP (pileL (ts.take k)) ts[k]).2.2 = true then joinedL (ts.take k) ++ [(addP (pileL (ts.take k)) ts[k]).2.1] else joinedL (ts.take k) := by unfold joinedL pileL; rw [joinP_take h]
theorem pile_short (ts : List ByteArray) : (pileL ts).short := joinP_short ts zPi [] zPi_short
theorem jo_no {w wr w' : World} {g : Nat} {v : Value} {ts : List ByteArray} {k : Nat} {s : Sv} {x : ByteArray} {e : Ending} (hk : k < ts.length) (hx : x = ts[k])
    (hO : OwnS wr w.heap.size v (joinedL (ts.take k))) (hP : PiB wr g (pileL (ts.take k)).num (pileL (ts.take k)).cnt s) (ha : Ap s.v v) (hb : Below w.heap.size w wr) (hg : w.heap.size ≤ g)
    (hsb : ∀ j, s.v.ownBlock = some j → w.heap.size ≤ j) (h : AddPost w.heap.size g (pileL (ts.take k)) s x wr e w') :
    ∃ s' : Sv, OwnS w' w.heap.size v (joinedL (ts.take k)) ∧ PiB w' g (pileL (ts.take (k + 1))).num (pileL (ts.take (k + 1))).cnt s' ∧ OwnS w' w.heap.size s'.v (pileL (ts.take (k + 1))).ps ∧ Ap s'.v v ∧ Below w.heap.size w w' := by
  obtain ⟨s', _, h2, h3, h4, h5⟩ := h
  have ho : OwnS w' w.heap.size v (joinedL (ts.take k)) := gr_own hO h5 fun j hj hS => by
    rcases hS with rfl | hS
    · exact bx_s_ne hO hP (by decide) hj
    · exact ha j hS hj
  refine ⟨s', ho, ?_, ?_, ?_, hb.trans (h5.below (fun j hj => ?_) hb.size)⟩
  · rw [pile_next hk, ← hx]; exact h2
  · rw [pile_next hk, ← hx]; exact h3
  · intro j hj hv
    rcases h4 j hj with h | h
    · exact ha j h hv
    · have := (hO.lt j hv).2; omega
  · rcases hj with rfl | hj
    · exact hg
    · exact hsb j hj

set_option maxRecDepth 100000 in
set_option maxHeartbeats 2000000 in
theorem implJoin (ao : Option Addr) (cap : Nat) (ts : List ByteArray) (w : World) (hx : Hid (TextsAt w ao ts)) (hl : ts.length ≤ 1048576) (hs : Hid (∀ x ∈ ts, x.size ≤ 1048576)) :
    Calls Try.prog 15 #[.slice ao ts.length cap] w fun e w' => ∃ v, e = .returned v ∧ OwnS w' w.heap.size v (joinedL ts) ∧ Below w.heap.size w w' := by
  have S0 : Hid (JoSt w ((w.alloc (.cells #[] 9)).alloc (.cells #[.int .i64 0, .int .i64 0, .slice none 0 0] 35)) (w.heap.size + 1) (.slice (some ⟨w.heap.size, 0, none⟩) 0 0) (ts.take 0)) := by
    refine ⟨⟨none, 0, 0⟩, (OwnS.made w w.heap.size (Nat.le_refl _)).alloc _, ?_, ownS_none _ _, ap_none _ 0 0, ((Below.refl _ _).alloc (Nat.le_refl _) _).alloc (by simp) _⟩
    have := Bx.new (w.alloc (.cells #[] 9)) 35 [.int .i64 0, .int .i64 0, .slice none 0 0]
    simpa [PiB, pileL, joinP, zPi] using this
  go_enter Try.func15, Try.ntmps15
  go_wp2
  go_loopw [3, 12] (fun v i wr => ∃ k : Nat, k ≤ ts.length ∧ i = .int .i64 k ∧ Hid (JoSt w wr (w.heap.size + 1) v (ts.take k))) (fun _ i _ => ts.length - (intOf i).toNat)
  case atStart => exact ⟨0, Nat.zero_le _, rfl, S0⟩
  case round =>
    clear S0
    obtain ⟨k, hk, rfl, hst⟩ := hrel
    by_cases hlt : k < ts.length
    · obtain ⟨s, hO, hP, hS, hA, hB⟩ := hst.out
      obtain ⟨b, off, rfl, hbb, h0⟩ := hx.out.stays hB k hlt
      have hsz := hs.out _ (List.getElem_mem hlt)
      obtain ⟨tx, hp⟩ : ∃ x : ByteArray, x = ts[k] := ⟨_, rfl⟩
      rw [← hp] at h0 hsz
      have HQ : Hid (tx = ts[k]) := hp
      have O1 : Hid (OwnS wr w.heap.size u3 (joinedL (ts.take k))) := hO
      have P1 : Hid (PiB wr (w.heap.size + 1) (pileL (ts.take k)).num (pileL (ts.take k)).cnt s) := hP
      have S1 : Hid (OwnS wr w.heap.size s.v (pileL (ts.take k)).ps) := hS
      have A1 : Hid (Ap s.v u3) := hA
      have B1 : Hid (Below w.heap.size w wr) := hB
      have HL : Hid (pileL (ts.take k)).short := pile_short _
      clear hp hO hP hS hA hB hst
      go_wp2_with fail
      clear h0
      refine (add_any (pileL (ts.take k)) tx (w.heap.size + 1) w.heap.size s wr P1 S1 HL hsz B1.out.size).mono ?_
      rintro e w1 hpost
      have HN := jo_no hlt HQ.out O1.out P1.out A1.out B1.out (by omega) (fun j hj => (S1.out.lt j hj).1) hpost
      obtain ⟨s', O2, P2, S2, A2, B2⟩ := HN
      have he := addPost_e hpost
      clear hpost
      generalize hr : (addP (pileL (ts.take k)) tx).2.2 = r at he
      generalize hc : (addP (pileL (ts.take k)) tx).2.1 = y at he
      have HR : Hid ((addP (pileL (ts.take k)) tx).2.2 = r) := hr
      have HC : Hid ((addP (pileL (ts.take k)) tx).2.1 = y) := hc
      have HP2 : Hid (PiB w1 (w.heap.size + 1) (pileL (ts.take (k + 1))).num (pileL (ts.take (k + 1))).cnt s') := P2
      have HS2 : Hid (OwnS w1 w.heap.size s'.v (pileL (ts.take (k + 1))).ps) := S2
      have HA2 : Hid (Ap s'.v u3) := A2
      have HB2 : Hid (Below w.heap.size w w1) := B2
      have HO2 : Hid (OwnS w1 w.heap.size u3 (joinedL (ts.take k))) := O2
      clear O1 P1 S1 A1 B1 P2 S2 A2 B2 O2 hr hc
      subst he
      cases r with
      | false =>
        go_wp2_with fail
        go_roundw
        case rel =>
          refine ⟨k + 1, by omega, by go_num, ⟨s', ?_, HP2.out, HS2.out, HA2.out, HB2.out⟩⟩
          rw [joined_next hlt, ← HQ.out, if_neg (by rw [HR.out]; simp)]
          exact HO2.out
        case measure => simp [intOf]; omega
      | true =>
        have z1 : w.heap.size ≤ w1.heap.size := HB2.out.size
        have hlk : (joinedL (ts.take k)).length < 4000000 := by have := joinedL_len (ts.take k); rw [List.length_take] at this; omega
        have O2 := HO2.out
        go_wp2_with (at_builtin; refine wpList_pushSb rfl _ _ 26 rfl Try.underlying26 Try.info9 w.heap.size u3 (joinedL (ts.take k)) rfl O2 y rfl hlk z1 ?_; intro v2 w2 S3 G3 N3)
        go_roundw
        case rel =>
          refine ⟨k + 1, by omega, by go_num, ⟨s', ?_, ?_, ?_, ?_, ?_⟩⟩
          · rw [joined_next hlt, ← HQ.out, if_pos HR.out, HC.out]
            exact S3
          · exact PiB.grown (HP2.out.later ((Below.refl w1.heap.size w1).alloc (Nat.le_refl _) (.cells #[.string y] 9))) (HO2.out.alloc _) G3
          · refine ownS_kept (HS2.out.alloc (.cells #[.string y] 9)) G3 fun j hj e => HA2.out j hj e.symm
          · intro j hj hv
            rcases N3 with h | h
            · exact HA2.out j hj (by rw [← h]; exact hv)
            · have := (HS2.out.lt j hj).2
              rw [hv] at h
              simp only [Option.some.injEq] at h
              omega
          · exact (HB2.out.alloc z1 (.cells #[.string y] 9)).grown G3 (by simp; omega) (fun j hj => (HO2.out.lt j hj).1)
        case measure => simp [intOf]; omega
    · obtain rfl : k = ts.length := by omega
      obtain ⟨s, hO, _, _, _, hB⟩ := hst.out
      rw [List.take_length] at hO
      have O1 : Hid (OwnS wr w.heap.size u3 (joinedL ts)) := hO
      have B1 : Hid (Below w.heap.size w wr) := hB
      clear hO hB hst
      go_wp2_with fail
      go_ret
      exact ⟨_, rfl, O1.out, B1.out⟩
end Go.Proofs.Ytfefjkldjaabbaa

/- What FnPiles asks of piles, in plain words. No program is named here. -/
namespace Go.Proofs.Ytfefjkldjaabbaa
open Go.RowKit Pl
set_option linter.unusedVariables false

/-- a pile has no parts, or fewer than it waits for. -/
def OkPi (p : Pi) : Prop := p.ps.length = 0 ∨ (p.ps.length : Int) < p.cnt
theorem okPi_z : OkPi zPi := .inl rfl
theorem okPi_add {p : Pi} (s : ByteArray) (h : OkPi p) : OkPi (addP p s).1 ∧ ((addP p s).2.2 = true → (addP p s).1.ps.length = 0) := by
  rcases h0 : pcP s with _ | ⟨n, q, c, t⟩
  · rw [addP_none h0]; exact ⟨h, fun e => by cases e⟩
  · cases hf : fitsB p n q c with
    | false => rw [addP_no h0 hf]; exact ⟨h, fun e => by cases e⟩
    | true =>
      obtain ⟨hb, _⟩ := base_len h0 hf
      obtain ⟨_, _, hq, _⟩ := pcP_right h0
      by_cases hc : q + 1 = c
      · rw [addP_last h0 hf hc]; exact ⟨okPi_z, fun _ => rfl⟩
      · rw [addP_more h0 hf hc]
        refine ⟨.inr ?_, fun e => by cases e⟩
        show ((baseP p q ++ [t]).length : Int) < (c : Int)
        rw [List.length_append, hb]
        simp only [List.length_cons, List.length_nil]
        omega
theorem okPi_join : ∀ (l : List ByteArray) (p : Pi) (out : List ByteArray), OkPi p → OkPi (joinP p out l).1
  | [], p, out, h => h
  | s :: l, p, out, h => by rw [joinP]; exact okPi_join l _ _ (okPi_add s h).1
theorem okPi_pile (ts : List ByteArray) : OkPi (pileL ts) := okPi_join ts zPi [] okPi_z
/-- as many whole texts as pieces that were the last ones. -/
theorem joined_count {ts : List ByteArray} {k : Nat} (h : k < ts.length) : (joinedL (ts.take (k + 1))).length = (joinedL (ts.take k)).length + (if (addP (pileL (ts.take k)) ts[k]).2.2 = true then 1 else 0) := by
  rw [joined_next h]
  split <;> simp
end Go.Proofs.Ytfefjkldjaabbaa

