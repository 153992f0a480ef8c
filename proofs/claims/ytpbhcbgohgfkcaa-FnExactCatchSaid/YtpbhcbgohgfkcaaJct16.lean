/- Joined texts: Tm Ss0. -/
import Derived.Test.YtpbhcbgohgfkcaaJct1
import Derived.Test.YtpbhcbgohgfkcaaJct2
import Derived.Test.YtpbhcbgohgfkcaaJct3
import Derived.Test.YtpbhcbgohgfkcaaJct4
import Derived.Test.YtpbhcbgohgfkcaaJct5
import Derived.Test.YtpbhcbgohgfkcaaJct6
import Derived.Test.YtpbhcbgohgfkcaaJct7
import Derived.Test.YtpbhcbgohgfkcaaJct8
import Derived.Test.YtpbhcbgohgfkcaaJct9
import Derived.Test.YtpbhcbgohgfkcaaJct10
import Derived.Test.YtpbhcbgohgfkcaaJct11
import Derived.Test.YtpbhcbgohgfkcaaJct12
import Derived.Test.YtpbhcbgohgfkcaaJct13
import Derived.Test.YtpbhcbgohgfkcaaJct14
import Derived.Test.YtpbhcbgohgfkcaaJct15
/- Members copied by a law. Written by gen_tm.py. -/
namespace Go.Proofs.Ytpbhcbgohgfkcaa
open Go.RowKit Pl
set_option linter.unusedVariables false
set_option linter.unusedSimpArgs false

theorem toRing_r (i : Int) (s : Sv) (ms : List Int) (w : World) (h : Hid (RI w s.v ms)) (hl : ms.length ≤ 1048576) :
    Calls Try.prog 29 #[.agg #[.int .i64 i, .slice s.a s.n s.c]] w fun e w' => ∃ u : Sv, e = .returned (.agg #[.int .i64 i, .slice u.a u.n u.c]) ∧ OwnI w' w.heap.size u.v ms ∧ Below w.heap.size w w' := by
  obtain ⟨ao, cap, h1, h2⟩ := h.out; unfold Sv.v at h1; rw [h1]
  refine (toRing_any i ao cap ms w h2 hl).mono fun e w' ⟨v, a, b, c⟩ => ?_
  obtain ⟨ao', cap', rfl⟩ := b.form
  exact ⟨⟨ao', ms.length, cap'⟩, a, b, c⟩
theorem toI_r (s : Sv) (ms : List Int) (w : World) (h : Hid (RI w s.v ms)) (hl : ms.length ≤ 1048576) :
    Calls Try.prog 80 #[.slice s.a s.n s.c] w fun e w' => ∃ u : Sv, e = .returned (.slice u.a u.n u.c) ∧ OwnI w' w.heap.size u.v ms ∧ Below w.heap.size w w' := by
  obtain ⟨ao, cap, h1, h2⟩ := h.out; unfold Sv.v at h1; rw [h1]
  refine (toI_any w ao cap ms h2 hl).mono fun e w' ⟨v, a, b, c⟩ => ?_
  obtain ⟨ao', cap', rfl⟩ := b.form
  exact ⟨⟨ao', ms.length, cap'⟩, a, b, c⟩
theorem toT_r (s : Sv) (ms : List ByteArray) (w : World) (h : Hid (RT w s.v ms)) (hl : ms.length ≤ 1048576) :
    Calls Try.prog 102 #[.slice s.a s.n s.c] w fun e w' => ∃ u : Sv, e = .returned (.slice u.a u.n u.c) ∧ OwnS w' w.heap.size u.v ms ∧ Below w.heap.size w w' := by
  obtain ⟨ao, cap, h1, h2⟩ := h.out; unfold Sv.v at h1; rw [h1]
  refine (toS_any w ao cap ms h2 hl).mono fun e w' ⟨v, a, b, c⟩ => ?_
  obtain ⟨ao', cap', rfl⟩ := b.form
  exact ⟨⟨ao', ms.length, cap'⟩, a, b, c⟩
theorem toIt_r (s : Sv) (ms : List It) (w : World) (h : Hid (RIt w s.v ms)) (hl : ms.length ≤ 1048576) :
    Calls Try.prog 101 #[.slice s.a s.n s.c] w fun e w' => ∃ u : Sv, e = .returned (.slice u.a u.n u.c) ∧ SlI w' w.heap.size u.v ms ∧ Below w.heap.size w w' := by
  obtain ⟨ao, cap, h1, h2⟩ := h.out; unfold Sv.v at h1; rw [h1]
  refine (toItems_sl w ao cap ms h2 hl).mono fun e w' ⟨a, b, _, c⟩ => ?_
  exact ⟨⟨_, ms.length, ms.length⟩, a, b, c⟩
theorem toTok_r (c r q a b : Int) (s : Sv) (ms : List Int) (w : World) (h : Hid (RI w s.v ms)) (hl : ms.length ≤ 1048576) :
    Calls Try.prog 103 #[.agg #[.int .i64 c, .int .i64 r, .int .i64 q, .int .i64 a, .int .i64 b, .slice s.a s.n s.c]] w fun e w' => ∃ u : Sv, e = .returned (.agg #[.int .i64 c, .int .i64 r, .int .i64 q, .int .i64 a, .int .i64 b, .slice u.a u.n u.c]) ∧ OwnI w' w.heap.size u.v ms ∧ Below w.heap.size w w' := by
  obtain ⟨ao, cap, h1, h2⟩ := h.out; unfold Sv.v at h1; rw [h1]
  refine (toTok_any c r q a b ao cap ms w h2 hl).mono fun e w' ⟨v, x, y, z⟩ => ?_
  obtain ⟨ao', cap', rfl⟩ := y.form
  exact ⟨⟨ao', ms.length, cap'⟩, x, y, z⟩

set_option maxRecDepth 100000 in
set_option maxHeartbeats 4000000 in
theorem toMate_any (m : Mt) (v : Mv) (w : World) (h : Hid (MtR w m v)) (hs : Hid (MtS m)) :
    Calls Try.prog 37 #[.agg #[.int .i64 m.id, .int .i64 m.rid, .slice v.ms.a v.ms.n v.ms.c, .slice v.its.a v.its.n v.its.c, .slice v.lv.a v.lv.n v.lv.c, .slice v.tx.a v.tx.n v.tx.c, .int .i64 m.rd, .int .i64 m.se, .int .i64 m.li, .int .i64 m.he, .int .i64 m.la.c, .int .i64 m.la.r, .int .i64 m.la.q, .int .i64 m.la.a, .int .i64 m.la.b, .slice v.ws.a v.ws.n v.ws.c]] w fun e w' => ∃ u : Mv, e = .returned (.agg #[.int .i64 m.id, .int .i64 m.rid, .slice u.ms.a u.ms.n u.ms.c, .slice u.its.a u.its.n u.its.c, .slice u.lv.a u.lv.n u.lv.c, .slice u.tx.a u.tx.n u.tx.c, .int .i64 m.rd, .int .i64 m.se, .int .i64 m.li, .int .i64 m.he, .int .i64 m.la.c, .int .i64 m.la.r, .int .i64 m.la.q, .int .i64 m.la.a, .int .i64 m.la.b, .slice u.ws.a u.ws.n u.ws.c]) ∧ MtO w' w.heap.size m u ∧ Below w.heap.size w w' := by
  have hn1 : (w.alloc (.cells #[.int .i64 m.id, .int .i64 m.rid, .slice v.ms.a v.ms.n v.ms.c, .slice v.its.a v.its.n v.its.c, .slice v.lv.a v.lv.n v.lv.c, .slice v.tx.a v.tx.n v.tx.c, .int .i64 m.rd, .int .i64 m.se, .int .i64 m.li, .int .i64 m.he, .int .i64 m.la.c, .int .i64 m.la.r, .int .i64 m.la.q, .int .i64 m.la.a, .int .i64 m.la.b, .slice v.ws.a v.ws.n v.ws.c] 67)).heap.size = w.heap.size + 1 := by simp
  have hn2 : ((w.alloc (.cells #[.int .i64 m.id, .int .i64 m.rid, .slice v.ms.a v.ms.n v.ms.c, .slice v.its.a v.its.n v.its.c, .slice v.lv.a v.lv.n v.lv.c, .slice v.tx.a v.tx.n v.tx.c, .int .i64 m.rd, .int .i64 m.se, .int .i64 m.li, .int .i64 m.he, .int .i64 m.la.c, .int .i64 m.la.r, .int .i64 m.la.q, .int .i64 m.la.a, .int .i64 m.la.b, .slice v.ws.a v.ws.n v.ws.c] 67)).alloc (.cells #[.int .i64 0, .int .i64 0, .slice none 0 0, .slice none 0 0, .slice none 0 0, .slice none 0 0, .int .i64 0, .int .i64 0, .int .i64 0, .int .i64 0, .int .i64 0, .int .i64 0, .int .i64 0, .int .i64 0, .int .i64 0, .slice none 0 0] 32)).heap.size = w.heap.size + 2 := by simp
  have HA : Hid (MtB (((w.alloc (.cells #[.int .i64 m.id, .int .i64 m.rid, .slice v.ms.a v.ms.n v.ms.c, .slice v.its.a v.its.n v.its.c, .slice v.lv.a v.lv.n v.lv.c, .slice v.tx.a v.tx.n v.tx.c, .int .i64 m.rd, .int .i64 m.se, .int .i64 m.li, .int .i64 m.he, .int .i64 m.la.c, .int .i64 m.la.r, .int .i64 m.la.q, .int .i64 m.la.a, .int .i64 m.la.b, .slice v.ws.a v.ws.n v.ws.c] 67)).alloc (.cells #[.int .i64 0, .int .i64 0, .slice none 0 0, .slice none 0 0, .slice none 0 0, .slice none 0 0, .int .i64 0, .int .i64 0, .int .i64 0, .int .i64 0, .int .i64 0, .int .i64 0, .int .i64 0, .int .i64 0, .int .i64 0, .slice none 0 0] 32)).alloc (.cells #[.int .i64 m.id, .int .i64 0, .slice none 0 0, .slice none 0 0, .slice none 0 0, .slice none 0 0, .int .i64 0, .int .i64 0, .int .i64 0, .int .i64 0, .int .i64 0, .int .i64 0, .int .i64 0, .int .i64 0, .int .i64 0, .slice none 0 0] 32)) w.heap.size 67 m v) := by
    have h := Bx.new w 67 [.int .i64 m.id, .int .i64 m.rid, .slice v.ms.a v.ms.n v.ms.c, .slice v.its.a v.its.n v.its.c, .slice v.lv.a v.lv.n v.lv.c, .slice v.tx.a v.tx.n v.tx.c, .int .i64 m.rd, .int .i64 m.se, .int .i64 m.li, .int .i64 m.he, .int .i64 m.la.c, .int .i64 m.la.r, .int .i64 m.la.q, .int .i64 m.la.a, .int .i64 m.la.b, .slice v.ws.a v.ws.n v.ws.c]
    exact h.stays (B := w.heap.size + 1) (((Below.refl _ _).alloc (by rw [hn1]; exact Nat.le_refl _) _).alloc (by rw [hn2]; omega) _) (by omega)
  have HR : Hid (Bx (((w.alloc (.cells #[.int .i64 m.id, .int .i64 m.rid, .slice v.ms.a v.ms.n v.ms.c, .slice v.its.a v.its.n v.its.c, .slice v.lv.a v.lv.n v.lv.c, .slice v.tx.a v.tx.n v.tx.c, .int .i64 m.rd, .int .i64 m.se, .int .i64 m.li, .int .i64 m.he, .int .i64 m.la.c, .int .i64 m.la.r, .int .i64 m.la.q, .int .i64 m.la.a, .int .i64 m.la.b, .slice v.ws.a v.ws.n v.ws.c] 67)).alloc (.cells #[.int .i64 0, .int .i64 0, .slice none 0 0, .slice none 0 0, .slice none 0 0, .slice none 0 0, .int .i64 0, .int .i64 0, .int .i64 0, .int .i64 0, .int .i64 0, .int .i64 0, .int .i64 0, .int .i64 0, .int .i64 0, .slice none 0 0] 32)).alloc (.cells #[.int .i64 m.id, .int .i64 0, .slice none 0 0, .slice none 0 0, .slice none 0 0, .slice none 0 0, .int .i64 0, .int .i64 0, .int .i64 0, .int .i64 0, .int .i64 0, .int .i64 0, .int .i64 0, .int .i64 0, .int .i64 0, .slice none 0 0] 32)) (w.heap.size + 1) 32 [.int .i64 0, .int .i64 0, .slice none 0 0, .slice none 0 0, .slice none 0 0, .slice none 0 0, .int .i64 0, .int .i64 0, .int .i64 0, .int .i64 0, .int .i64 0, .int .i64 0, .int .i64 0, .int .i64 0, .int .i64 0, .slice none 0 0]) := by
    have h := Bx.new (w.alloc (.cells #[.int .i64 m.id, .int .i64 m.rid, .slice v.ms.a v.ms.n v.ms.c, .slice v.its.a v.its.n v.its.c, .slice v.lv.a v.lv.n v.lv.c, .slice v.tx.a v.tx.n v.tx.c, .int .i64 m.rd, .int .i64 m.se, .int .i64 m.li, .int .i64 m.he, .int .i64 m.la.c, .int .i64 m.la.r, .int .i64 m.la.q, .int .i64 m.la.a, .int .i64 m.la.b, .slice v.ws.a v.ws.n v.ws.c] 67)) 32 [.int .i64 0, .int .i64 0, .slice none 0 0, .slice none 0 0, .slice none 0 0, .slice none 0 0, .int .i64 0, .int .i64 0, .int .i64 0, .int .i64 0, .int .i64 0, .int .i64 0, .int .i64 0, .int .i64 0, .int .i64 0, .slice none 0 0]
    rw [hn1] at h
    exact h.stays (B := w.heap.size + 2) ((Below.refl _ _).alloc (by rw [hn2]; exact Nat.le_refl _) _) (by omega)
  have HO : Hid (Bx (((w.alloc (.cells #[.int .i64 m.id, .int .i64 m.rid, .slice v.ms.a v.ms.n v.ms.c, .slice v.its.a v.its.n v.its.c, .slice v.lv.a v.lv.n v.lv.c, .slice v.tx.a v.tx.n v.tx.c, .int .i64 m.rd, .int .i64 m.se, .int .i64 m.li, .int .i64 m.he, .int .i64 m.la.c, .int .i64 m.la.r, .int .i64 m.la.q, .int .i64 m.la.a, .int .i64 m.la.b, .slice v.ws.a v.ws.n v.ws.c] 67)).alloc (.cells #[.int .i64 0, .int .i64 0, .slice none 0 0, .slice none 0 0, .slice none 0 0, .slice none 0 0, .int .i64 0, .int .i64 0, .int .i64 0, .int .i64 0, .int .i64 0, .int .i64 0, .int .i64 0, .int .i64 0, .int .i64 0, .slice none 0 0] 32)).alloc (.cells #[.int .i64 m.id, .int .i64 0, .slice none 0 0, .slice none 0 0, .slice none 0 0, .slice none 0 0, .int .i64 0, .int .i64 0, .int .i64 0, .int .i64 0, .int .i64 0, .int .i64 0, .int .i64 0, .int .i64 0, .int .i64 0, .slice none 0 0] 32)) (w.heap.size + 1 + 1) 32 [.int .i64 m.id, .int .i64 0, .slice none 0 0, .slice none 0 0, .slice none 0 0, .slice none 0 0, .int .i64 0, .int .i64 0, .int .i64 0, .int .i64 0, .int .i64 0, .int .i64 0, .int .i64 0, .int .i64 0, .int .i64 0, .slice none 0 0]) := by
    have h := Bx.new ((w.alloc (.cells #[.int .i64 m.id, .int .i64 m.rid, .slice v.ms.a v.ms.n v.ms.c, .slice v.its.a v.its.n v.its.c, .slice v.lv.a v.lv.n v.lv.c, .slice v.tx.a v.tx.n v.tx.c, .int .i64 m.rd, .int .i64 m.se, .int .i64 m.li, .int .i64 m.he, .int .i64 m.la.c, .int .i64 m.la.r, .int .i64 m.la.q, .int .i64 m.la.a, .int .i64 m.la.b, .slice v.ws.a v.ws.n v.ws.c] 67)).alloc (.cells #[.int .i64 0, .int .i64 0, .slice none 0 0, .slice none 0 0, .slice none 0 0, .slice none 0 0, .int .i64 0, .int .i64 0, .int .i64 0, .int .i64 0, .int .i64 0, .int .i64 0, .int .i64 0, .int .i64 0, .int .i64 0, .slice none 0 0] 32)) 32 [.int .i64 m.id, .int .i64 0, .slice none 0 0, .slice none 0 0, .slice none 0 0, .slice none 0 0, .int .i64 0, .int .i64 0, .int .i64 0, .int .i64 0, .int .i64 0, .int .i64 0, .int .i64 0, .int .i64 0, .int .i64 0, .slice none 0 0]
    rw [hn2] at h
    exact h
  have HB : Hid (Below w.heap.size w (((w.alloc (.cells #[.int .i64 m.id, .int .i64 m.rid, .slice v.ms.a v.ms.n v.ms.c, .slice v.its.a v.its.n v.its.c, .slice v.lv.a v.lv.n v.lv.c, .slice v.tx.a v.tx.n v.tx.c, .int .i64 m.rd, .int .i64 m.se, .int .i64 m.li, .int .i64 m.he, .int .i64 m.la.c, .int .i64 m.la.r, .int .i64 m.la.q, .int .i64 m.la.a, .int .i64 m.la.b, .slice v.ws.a v.ws.n v.ws.c] 67)).alloc (.cells #[.int .i64 0, .int .i64 0, .slice none 0 0, .slice none 0 0, .slice none 0 0, .slice none 0 0, .int .i64 0, .int .i64 0, .int .i64 0, .int .i64 0, .int .i64 0, .int .i64 0, .int .i64 0, .int .i64 0, .int .i64 0, .slice none 0 0] 32)).alloc (.cells #[.int .i64 m.id, .int .i64 0, .slice none 0 0, .slice none 0 0, .slice none 0 0, .slice none 0 0, .int .i64 0, .int .i64 0, .int .i64 0, .int .i64 0, .int .i64 0, .int .i64 0, .int .i64 0, .int .i64 0, .int .i64 0, .slice none 0 0] 32))) := (((Below.refl _ _).alloc (Nat.le_refl _) _).alloc (by simp) _).alloc (by simp; omega) _
  obtain ⟨⟨c0, c1, c2, c3, c4, c5⟩, ⟨c6, c7, c8, c9⟩, c10, c11, c12, c13, c14, c15⟩ := HA.out.cells
  clear hn1 hn2
  go_enter Try.func37, Try.ntmps37
  go_wp2_with fail
  clear c0 c1 c2 c3 c4 c5 c6 c7 c8 c9 c10 c11 c12 c13 c14 c15
  generalize (((w.alloc (.cells #[.int .i64 m.id, .int .i64 m.rid, .slice v.ms.a v.ms.n v.ms.c, .slice v.its.a v.its.n v.its.c, .slice v.lv.a v.lv.n v.lv.c, .slice v.tx.a v.tx.n v.tx.c, .int .i64 m.rd, .int .i64 m.se, .int .i64 m.li, .int .i64 m.he, .int .i64 m.la.c, .int .i64 m.la.r, .int .i64 m.la.q, .int .i64 m.la.a, .int .i64 m.la.b, .slice v.ws.a v.ws.n v.ws.c] 67)).alloc (.cells #[.int .i64 0, .int .i64 0, .slice none 0 0, .slice none 0 0, .slice none 0 0, .slice none 0 0, .int .i64 0, .int .i64 0, .int .i64 0, .int .i64 0, .int .i64 0, .int .i64 0, .int .i64 0, .int .i64 0, .int .i64 0, .slice none 0 0] 32)).alloc (.cells #[.int .i64 m.id, .int .i64 0, .slice none 0 0, .slice none 0 0, .slice none 0 0, .slice none 0 0, .int .i64 0, .int .i64 0, .int .i64 0, .int .i64 0, .int .i64 0, .int .i64 0, .int .i64 0, .int .i64 0, .int .i64 0, .slice none 0 0] 32)) = W at *
  refine (toRing_r m.rid v.ms m.ms W (h.out.ms.stays HB.out) hs.out.ms).mono ?_
  rintro e w1 ⟨ums, rfl, ho, b⟩
  have Xms : Hid (OwnI w1 w.heap.size ums.v m.ms) := ho.down HB.out.size
  have Lms : Hid (∀ k, ums.v.ownBlock = some k → W.heap.size ≤ k ∧ k < w1.heap.size) := ho.lt
  have D1 : Hid (W.heap.size ≤ w1.heap.size) := b.size
  have HA : Hid (MtB w1 w.heap.size 67 m v) := Bx.later HA.out b
  have HR : Hid (Bx w1 (w.heap.size + 1) 32 [.int .i64 0, .int .i64 0, .slice none 0 0, .slice none 0 0, .slice none 0 0, .slice none 0 0, .int .i64 0, .int .i64 0, .int .i64 0, .int .i64 0, .int .i64 0, .int .i64 0, .int .i64 0, .int .i64 0, .int .i64 0, .slice none 0 0]) := HR.out.later b
  have HO : Hid (Bx w1 (w.heap.size + 1 + 1) 32 [.int .i64 m.id, .int .i64 0, .slice none 0 0, .slice none 0 0, .slice none 0 0, .slice none 0 0, .int .i64 0, .int .i64 0, .int .i64 0, .int .i64 0, .int .i64 0, .int .i64 0, .int .i64 0, .int .i64 0, .int .i64 0, .slice none 0 0]) := HO.out.later b
  have HB : Hid (Below w.heap.size w w1) := bl_next HB.out b
  clear ho b
  go_wp2_with (first | (refine wpList_stB rfl 26 _ _ rfl (w.heap.size + 1 + 1) 1 rfl 32 _ HO.out [.int .i64 m.rid, .slice ums.a ums.n ums.c] rfl (by simp) Try.sizeR rfl [.int .i64 m.id, .int .i64 m.rid, .slice ums.a ums.n ums.c, .slice none 0 0, .slice none 0 0, .slice none 0 0, .int .i64 0, .int .i64 0, .int .i64 0, .int .i64 0, .int .i64 0, .int .i64 0, .int .i64 0, .int .i64 0, .int .i64 0, .slice none 0 0] rfl ?_; intro w2 OB TB; have Xms : Hid (OwnI w2 w.heap.size ums.v m.ms) := Xms.out.past HO.out TB (by decide); have HA : Hid (MtB w2 w.heap.size 67 m v) := Bx.turn HA.out TB (by omega); have HR : Hid (Bx w2 (w.heap.size + 1) 32 [.int .i64 0, .int .i64 0, .slice none 0 0, .slice none 0 0, .slice none 0 0, .slice none 0 0, .int .i64 0, .int .i64 0, .int .i64 0, .int .i64 0, .int .i64 0, .int .i64 0, .int .i64 0, .int .i64 0, .int .i64 0, .slice none 0 0]) := HR.out.turn TB (by omega); have HB : Hid (Below w.heap.size w w2) := HB.out.trans (TB.below (by omega)); have D2 : Hid (w1.heap.size ≤ w2.heap.size) := Nat.le_of_eq TB.size.symm; have HO : Hid (Bx w2 (w.heap.size + 1 + 1) 32 [.int .i64 m.id, .int .i64 m.rid, .slice ums.a ums.n ums.c, .slice none 0 0, .slice none 0 0, .slice none 0 0, .int .i64 0, .int .i64 0, .int .i64 0, .int .i64 0, .int .i64 0, .int .i64 0, .int .i64 0, .int .i64 0, .int .i64 0, .slice none 0 0]) := OB; clear TB OB; obtain ⟨⟨c0, c1, c2, c3, c4, c5⟩, ⟨c6, c7, c8, c9⟩, c10, c11, c12, c13, c14, c15⟩ := HA.out.cells))
  clear c0 c1 c2 c3 c4 c5 c6 c7 c8 c9 c10 c11 c12 c13 c14 c15
  refine (toIt_r v.its m.its w2 (h.out.its.stays HB.out) hs.out.its).mono ?_
  rintro e w3 ⟨uits, rfl, ho, b⟩
  have Xms : Hid (OwnI w3 w.heap.size ums.v m.ms) := Xms.out.under b
  have Xits : Hid (SlI w3 w.heap.size uits.v m.its) := ho.down HB.out.size
  have Lits : Hid (∀ k, uits.v.ownBlock = some k → w2.heap.size ≤ k ∧ k < w3.heap.size) := ho.lt
  have D3 : Hid (w2.heap.size ≤ w3.heap.size) := b.size
  have HA : Hid (MtB w3 w.heap.size 67 m v) := Bx.later HA.out b
  have HR : Hid (Bx w3 (w.heap.size + 1) 32 [.int .i64 0, .int .i64 0, .slice none 0 0, .slice none 0 0, .slice none 0 0, .slice none 0 0, .int .i64 0, .int .i64 0, .int .i64 0, .int .i64 0, .int .i64 0, .int .i64 0, .int .i64 0, .int .i64 0, .int .i64 0, .slice none 0 0]) := HR.out.later b
  have HO : Hid (Bx w3 (w.heap.size + 1 + 1) 32 [.int .i64 m.id, .int .i64 m.rid, .slice ums.a ums.n ums.c, .slice none 0 0, .slice none 0 0, .slice none 0 0, .int .i64 0, .int .i64 0, .int .i64 0, .int .i64 0, .int .i64 0, .int .i64 0, .int .i64 0, .int .i64 0, .int .i64 0, .slice none 0 0]) := HO.out.later b
  have HB : Hid (Below w.heap.size w w3) := bl_next HB.out b
  clear ho b
  obtain ⟨⟨c0, c1, c2, c3, c4, c5⟩, ⟨c6, c7, c8, c9⟩, c10, c11, c12, c13, c14, c15⟩ := HA.out.cells
  have o3 := HO.out.cell 3
  have z3 := HO.out.frozen 3
  go_wp2_with fail
  clear c0 c1 c2 c3 c4 c5 c6 c7 c8 c9 c10 c11 c12 c13 c14 c15
  clear o3 z3
  have OB : Bx _ (w.heap.size + 1 + 1) 32 [.int .i64 m.id, .int .i64 m.rid, .slice ums.a ums.n ums.c, .slice uits.a uits.n uits.c, .slice none 0 0, .slice none 0 0, .int .i64 0, .int .i64 0, .int .i64 0, .int .i64 0, .int .i64 0, .int .i64 0, .int .i64 0, .int .i64 0, .int .i64 0, .slice none 0 0] := (HO.out.set 3 (.slice uits.a uits.n uits.c))
  have TB := ((TurnAt.refl (w.heap.size + 1 + 1) w3).setCell 3 (.slice uits.a uits.n uits.c))
  generalize (w3.setCell ⟨w.heap.size + 1 + 1, 3, none⟩ (.slice uits.a uits.n uits.c)) = S4 at *
  have Xms : Hid (OwnI S4 w.heap.size ums.v m.ms) := Xms.out.past HO.out TB (by decide)
  have Xits : Hid (SlI S4 w.heap.size uits.v m.its) := Xits.out.past HO.out TB (by decide)
  have HA : Hid (MtB S4 w.heap.size 67 m v) := Bx.turn HA.out TB (by omega)
  have HR : Hid (Bx S4 (w.heap.size + 1) 32 [.int .i64 0, .int .i64 0, .slice none 0 0, .slice none 0 0, .slice none 0 0, .slice none 0 0, .int .i64 0, .int .i64 0, .int .i64 0, .int .i64 0, .int .i64 0, .int .i64 0, .int .i64 0, .int .i64 0, .int .i64 0, .slice none 0 0]) := HR.out.turn TB (by omega)
  have HB : Hid (Below w.heap.size w S4) := HB.out.trans (TB.below (by omega))
  have D4 : Hid (w3.heap.size ≤ S4.heap.size) := Nat.le_of_eq TB.size.symm
  have HO : Hid (Bx S4 (w.heap.size + 1 + 1) 32 [.int .i64 m.id, .int .i64 m.rid, .slice ums.a ums.n ums.c, .slice uits.a uits.n uits.c, .slice none 0 0, .slice none 0 0, .int .i64 0, .int .i64 0, .int .i64 0, .int .i64 0, .int .i64 0, .int .i64 0, .int .i64 0, .int .i64 0, .int .i64 0, .slice none 0 0]) := OB
  clear TB OB
  refine (toI_r v.lv m.lv S4 (h.out.lv.stays HB.out) hs.out.lv).mono ?_
  rintro e w5 ⟨ulv, rfl, ho, b⟩
  have Xms : Hid (OwnI w5 w.heap.size ums.v m.ms) := Xms.out.under b
  have Xits : Hid (SlI w5 w.heap.size uits.v m.its) := Xits.out.below b
  have Xlv : Hid (OwnI w5 w.heap.size ulv.v m.lv) := ho.down HB.out.size
  have Llv : Hid (∀ k, ulv.v.ownBlock = some k → S4.heap.size ≤ k ∧ k < w5.heap.size) := ho.lt
  have D5 : Hid (S4.heap.size ≤ w5.heap.size) := b.size
  have HA : Hid (MtB w5 w.heap.size 67 m v) := Bx.later HA.out b
  have HR : Hid (Bx w5 (w.heap.size + 1) 32 [.int .i64 0, .int .i64 0, .slice none 0 0, .slice none 0 0, .slice none 0 0, .slice none 0 0, .int .i64 0, .int .i64 0, .int .i64 0, .int .i64 0, .int .i64 0, .int .i64 0, .int .i64 0, .int .i64 0, .int .i64 0, .slice none 0 0]) := HR.out.later b
  have HO : Hid (Bx w5 (w.heap.size + 1 + 1) 32 [.int .i64 m.id, .int .i64 m.rid, .slice ums.a ums.n ums.c, .slice uits.a uits.n uits.c, .slice none 0 0, .slice none 0 0, .int .i64 0, .int .i64 0, .int .i64 0, .int .i64 0, .int .i64 0, .int .i64 0, .int .i64 0, .int .i64 0, .int .i64 0, .slice none 0 0]) := HO.out.later b
  have HB : Hid (Below w.heap.size w w5) := bl_next HB.out b
  clear ho b
  obtain ⟨⟨c0, c1, c2, c3, c4, c5⟩, ⟨c6, c7, c8, c9⟩, c10, c11, c12, c13, c14, c15⟩ := HA.out.cells
  have o4 := HO.out.cell 4
  have z4 := HO.out.frozen 4
  go_wp2_with fail
  clear c0 c1 c2 c3 c4 c5 c6 c7 c8 c9 c10 c11 c12 c13 c14 c15
  clear o4 z4
  have OB : Bx _ (w.heap.size + 1 + 1) 32 [.int .i64 m.id, .int .i64 m.rid, .slice ums.a ums.n ums.c, .slice uits.a uits.n uits.c, .slice ulv.a ulv.n ulv.c, .slice none 0 0, .int .i64 0, .int .i64 0, .int .i64 0, .int .i64 0, .int .i64 0, .int .i64 0, .int .i64 0, .int .i64 0, .int .i64 0, .slice none 0 0] := (HO.out.set 4 (.slice ulv.a ulv.n ulv.c))
  have TB := ((TurnAt.refl (w.heap.size + 1 + 1) w5).setCell 4 (.slice ulv.a ulv.n ulv.c))
  generalize (w5.setCell ⟨w.heap.size + 1 + 1, 4, none⟩ (.slice ulv.a ulv.n ulv.c)) = S6 at *
  have Xms : Hid (OwnI S6 w.heap.size ums.v m.ms) := Xms.out.past HO.out TB (by decide)
  have Xits : Hid (SlI S6 w.heap.size uits.v m.its) := Xits.out.past HO.out TB (by decide)
  have Xlv : Hid (OwnI S6 w.heap.size ulv.v m.lv) := Xlv.out.past HO.out TB (by decide)
  have HA : Hid (MtB S6 w.heap.size 67 m v) := Bx.turn HA.out TB (by omega)
  have HR : Hid (Bx S6 (w.heap.size + 1) 32 [.int .i64 0, .int .i64 0, .slice none 0 0, .slice none 0 0, .slice none 0 0, .slice none 0 0, .int .i64 0, .int .i64 0, .int .i64 0, .int .i64 0, .int .i64 0, .int .i64 0, .int .i64 0, .int .i64 0, .int .i64 0, .slice none 0 0]) := HR.out.turn TB (by omega)
  have HB : Hid (Below w.heap.size w S6) := HB.out.trans (TB.below (by omega))
  have D6 : Hid (w5.heap.size ≤ S6.heap.size) := Nat.le_of_eq TB.size.symm
  have HO : Hid (Bx S6 (w.heap.size + 1 + 1) 32 [.int .i64 m.id, .int .i64 m.rid, .slice ums.a ums.n ums.c, .slice uits.a uits.n uits.c, .slice ulv.a ulv.n ulv.c, .slice none 0 0, .int .i64 0, .int .i64 0, .int .i64 0, .int .i64 0, .int .i64 0, .int .i64 0, .int .i64 0, .int .i64 0, .int .i64 0, .slice none 0 0]) := OB
  clear TB OB
  refine (toT_r v.tx m.tx S6 (h.out.tx.stays HB.out) hs.out.tx).mono ?_
  rintro e w7 ⟨utx, rfl, ho, b⟩
  have Xms : Hid (OwnI w7 w.heap.size ums.v m.ms) := Xms.out.under b
  have Xits : Hid (SlI w7 w.heap.size uits.v m.its) := Xits.out.below b
  have Xlv : Hid (OwnI w7 w.heap.size ulv.v m.lv) := Xlv.out.under b
  have Xtx : Hid (OwnS w7 w.heap.size utx.v m.tx) := ho.down HB.out.size
  have Ltx : Hid (∀ k, utx.v.ownBlock = some k → S6.heap.size ≤ k ∧ k < w7.heap.size) := ho.lt
  have D7 : Hid (S6.heap.size ≤ w7.heap.size) := b.size
  have HA : Hid (MtB w7 w.heap.size 67 m v) := Bx.later HA.out b
  have HR : Hid (Bx w7 (w.heap.size + 1) 32 [.int .i64 0, .int .i64 0, .slice none 0 0, .slice none 0 0, .slice none 0 0, .slice none 0 0, .int .i64 0, .int .i64 0, .int .i64 0, .int .i64 0, .int .i64 0, .int .i64 0, .int .i64 0, .int .i64 0, .int .i64 0, .slice none 0 0]) := HR.out.later b
  have HO : Hid (Bx w7 (w.heap.size + 1 + 1) 32 [.int .i64 m.id, .int .i64 m.rid, .slice ums.a ums.n ums.c, .slice uits.a uits.n uits.c, .slice ulv.a ulv.n ulv.c, .slice none 0 0, .int .i64 0, .int .i64 0, .int .i64 0, .int .i64 0, .int .i64 0, .int .i64 0, .int .i64 0, .int .i64 0, .int .i64 0, .slice none 0 0]) := HO.out.later b
  have HB : Hid (Below w.heap.size w w7) := bl_next HB.out b
  clear ho b
  obtain ⟨⟨c0, c1, c2, c3, c4, c5⟩, ⟨c6, c7, c8, c9⟩, c10, c11, c12, c13, c14, c15⟩ := HA.out.cells
  have o5 := HO.out.cell 5
  have z5 := HO.out.frozen 5
  have o6 := HO.out.cell 6
  have z6 := HO.out.frozen 6
  have o7 := HO.out.cell 7
  have z7 := HO.out.frozen 7
  have o8 := HO.out.cell 8
  have z8 := HO.out.frozen 8
  have o9 := HO.out.cell 9
  have z9 := HO.out.frozen 9
  go_wp2_with fail
  clear c0 c1 c2 c3 c4 c5 c6 c7 c8 c9 c10 c11 c12 c13 c14 c15
  clear o5 z5 o6 z6 o7 z7 o8 z8 o9 z9
  have OB : Bx _ (w.heap.size + 1 + 1) 32 [.int .i64 m.id, .int .i64 m.rid, .slice ums.a ums.n ums.c, .slice uits.a uits.n uits.c, .slice ulv.a ulv.n ulv.c, .slice utx.a utx.n utx.c, .int .i64 m.rd, .int .i64 m.se, .int .i64 m.li, .int .i64 m.he, .int .i64 0, .int .i64 0, .int .i64 0, .int .i64 0, .int .i64 0, .slice none 0 0] := (((((HO.out.set 5 (.slice utx.a utx.n utx.c)).set 6 (.int .i64 m.rd)).set 7 (.int .i64 m.se)).set 8 (.int .i64 m.li)).set 9 (.int .i64 m.he))
  have TB := ((((((TurnAt.refl (w.heap.size + 1 + 1) w7).setCell 5 (.slice utx.a utx.n utx.c)).setCell 6 (.int .i64 m.rd)).setCell 7 (.int .i64 m.se)).setCell 8 (.int .i64 m.li)).setCell 9 (.int .i64 m.he))
  generalize (((((w7.setCell ⟨w.heap.size + 1 + 1, 5, none⟩ (.slice utx.a utx.n utx.c)).setCell ⟨w.heap.size + 1 + 1, 6, none⟩ (.int .i64 m.rd)).setCell ⟨w.heap.size + 1 + 1, 7, none⟩ (.int .i64 m.se)).setCell ⟨w.heap.size + 1 + 1, 8, none⟩ (.int .i64 m.li)).setCell ⟨w.heap.size + 1 + 1, 9, none⟩ (.int .i64 m.he)) = S8 at *
  have Xms : Hid (OwnI S8 w.heap.size ums.v m.ms) := Xms.out.past HO.out TB (by decide)
  have Xits : Hid (SlI S8 w.heap.size uits.v m.its) := Xits.out.past HO.out TB (by decide)
  have Xlv : Hid (OwnI S8 w.heap.size ulv.v m.lv) := Xlv.out.past HO.out TB (by decide)
  have Xtx : Hid (OwnS S8 w.heap.size utx.v m.tx) := Xtx.out.past HO.out TB (by decide)
  have HA : Hid (MtB S8 w.heap.size 67 m v) := Bx.turn HA.out TB (by omega)
  have HR : Hid (Bx S8 (w.heap.size + 1) 32 [.int .i64 0, .int .i64 0, .slice none 0 0, .slice none 0 0, .slice none 0 0, .slice none 0 0, .int .i64 0, .int .i64 0, .int .i64 0, .int .i64 0, .int .i64 0, .int .i64 0, .int .i64 0, .int .i64 0, .int .i64 0, .slice none 0 0]) := HR.out.turn TB (by omega)
  have HB : Hid (Below w.heap.size w S8) := HB.out.trans (TB.below (by omega))
  have D8 : Hid (w7.heap.size ≤ S8.heap.size) := Nat.le_of_eq TB.size.symm
  have HO : Hid (Bx S8 (w.heap.size + 1 + 1) 32 [.int .i64 m.id, .int .i64 m.rid, .slice ums.a ums.n ums.c, .slice uits.a uits.n uits.c, .slice ulv.a ulv.n ulv.c, .slice utx.a utx.n utx.c, .int .i64 m.rd, .int .i64 m.se, .int .i64 m.li, .int .i64 m.he, .int .i64 0, .int .i64 0, .int .i64 0, .int .i64 0, .int .i64 0, .slice none 0 0]) := OB
  clear TB OB
  refine (toTok_r m.la.c m.la.r m.la.q m.la.a m.la.b v.ws m.la.ws S8 (h.out.ws.stays HB.out) hs.out.ws).mono ?_
  rintro e w9 ⟨uws, rfl, ho, b⟩
  have Xms : Hid (OwnI w9 w.heap.size ums.v m.ms) := Xms.out.under b
  have Xits : Hid (SlI w9 w.heap.size uits.v m.its) := Xits.out.below b
  have Xlv : Hid (OwnI w9 w.heap.size ulv.v m.lv) := Xlv.out.under b
  have Xtx : Hid (OwnS w9 w.heap.size utx.v m.tx) := ownS_later Xtx.out b
  have Xws : Hid (OwnI w9 w.heap.size uws.v m.la.ws) := ho.down HB.out.size
  have Lws : Hid (∀ k, uws.v.ownBlock = some k → S8.heap.size ≤ k ∧ k < w9.heap.size) := ho.lt
  have D9 : Hid (S8.heap.size ≤ w9.heap.size) := b.size
  have HA : Hid (MtB w9 w.heap.size 67 m v) := Bx.later HA.out b
  have HR : Hid (Bx w9 (w.heap.size + 1) 32 [.int .i64 0, .int .i64 0, .slice none 0 0, .slice none 0 0, .slice none 0 0, .slice none 0 0, .int .i64 0, .int .i64 0, .int .i64 0, .int .i64 0, .int .i64 0, .int .i64 0, .int .i64 0, .int .i64 0, .int .i64 0, .slice none 0 0]) := HR.out.later b
  have HO : Hid (Bx w9 (w.heap.size + 1 + 1) 32 [.int .i64 m.id, .int .i64 m.rid, .slice ums.a ums.n ums.c, .slice uits.a uits.n uits.c, .slice ulv.a ulv.n ulv.c, .slice utx.a utx.n utx.c, .int .i64 m.rd, .int .i64 m.se, .int .i64 m.li, .int .i64 m.he, .int .i64 0, .int .i64 0, .int .i64 0, .int .i64 0, .int .i64 0, .slice none 0 0]) := HO.out.later b
  have HB : Hid (Below w.heap.size w w9) := bl_next HB.out b
  clear ho b
  go_wp2_with (first | (refine wpList_stB rfl 30 _ _ rfl (w.heap.size + 1 + 1) 10 rfl 32 _ HO.out [.int .i64 m.la.c, .int .i64 m.la.r, .int .i64 m.la.q, .int .i64 m.la.a, .int .i64 m.la.b, .slice uws.a uws.n uws.c] rfl (by simp) Try.sizeT rfl [.int .i64 m.id, .int .i64 m.rid, .slice ums.a ums.n ums.c, .slice uits.a uits.n uits.c, .slice ulv.a ulv.n ulv.c, .slice utx.a utx.n utx.c, .int .i64 m.rd, .int .i64 m.se, .int .i64 m.li, .int .i64 m.he, .int .i64 m.la.c, .int .i64 m.la.r, .int .i64 m.la.q, .int .i64 m.la.a, .int .i64 m.la.b, .slice uws.a uws.n uws.c] rfl ?_; intro w10 OB TB; have Xms : Hid (OwnI w10 w.heap.size ums.v m.ms) := Xms.out.past HO.out TB (by decide); have Xits : Hid (SlI w10 w.heap.size uits.v m.its) := Xits.out.past HO.out TB (by decide); have Xlv : Hid (OwnI w10 w.heap.size ulv.v m.lv) := Xlv.out.past HO.out TB (by decide); have Xtx : Hid (OwnS w10 w.heap.size utx.v m.tx) := Xtx.out.past HO.out TB (by decide); have Xws : Hid (OwnI w10 w.heap.size uws.v m.la.ws) := Xws.out.past HO.out TB (by decide); have HA : Hid (MtB w10 w.heap.size 67 m v) := Bx.turn HA.out TB (by omega); have HR : Hid (Bx w10 (w.heap.size + 1) 32 [.int .i64 0, .int .i64 0, .slice none 0 0, .slice none 0 0, .slice none 0 0, .slice none 0 0, .int .i64 0, .int .i64 0, .int .i64 0, .int .i64 0, .int .i64 0, .int .i64 0, .int .i64 0, .int .i64 0, .int .i64 0, .slice none 0 0]) := HR.out.turn TB (by omega); have HB : Hid (Below w.heap.size w w10) := HB.out.trans (TB.below (by omega)); have D10 : Hid (w9.heap.size ≤ w10.heap.size) := Nat.le_of_eq TB.size.symm; have HO : Hid (Bx w10 (w.heap.size + 1 + 1) 32 [.int .i64 m.id, .int .i64 m.rid, .slice ums.a ums.n ums.c, .slice uits.a uits.n uits.c, .slice ulv.a ulv.n ulv.c, .slice utx.a utx.n utx.c, .int .i64 m.rd, .int .i64 m.se, .int .i64 m.li, .int .i64 m.he, .int .i64 m.la.c, .int .i64 m.la.r, .int .i64 m.la.q, .int .i64 m.la.a, .int .i64 m.la.b, .slice uws.a uws.n uws.c]) := OB; clear TB OB) | (refine wpList_ldB rfl 32 _ rfl (w.heap.size + 1 + 1) 0 rfl 32 _ HO.out [.int .i64 m.id, .int .i64 m.rid, .slice ums.a ums.n ums.c, .slice uits.a uits.n uits.c, .slice ulv.a ulv.n ulv.c, .slice utx.a utx.n utx.c, .int .i64 m.rd, .int .i64 m.se, .int .i64 m.li, .int .i64 m.he, .int .i64 m.la.c, .int .i64 m.la.r, .int .i64 m.la.q, .int .i64 m.la.a, .int .i64 m.la.b, .slice uws.a uws.n uws.c] rfl _ Try.underlying32 rfl Try.sizeM ?_) | (refine wpList_stB rfl 32 _ _ rfl (w.heap.size + 1) 0 rfl 32 _ HR.out [.int .i64 m.id, .int .i64 m.rid, .slice ums.a ums.n ums.c, .slice uits.a uits.n uits.c, .slice ulv.a ulv.n ulv.c, .slice utx.a utx.n utx.c, .int .i64 m.rd, .int .i64 m.se, .int .i64 m.li, .int .i64 m.he, .int .i64 m.la.c, .int .i64 m.la.r, .int .i64 m.la.q, .int .i64 m.la.a, .int .i64 m.la.b, .slice uws.a uws.n uws.c] rfl (by simp) Try.sizeM rfl [.int .i64 m.id, .int .i64 m.rid, .slice ums.a ums.n ums.c, .slice uits.a uits.n uits.c, .slice ulv.a ulv.n ulv.c, .slice utx.a utx.n utx.c, .int .i64 m.rd, .int .i64 m.se, .int .i64 m.li, .int .i64 m.he, .int .i64 m.la.c, .int .i64 m.la.r, .int .i64 m.la.q, .int .i64 m.la.a, .int .i64 m.la.b, .slice uws.a uws.n uws.c] rfl ?_; intro wz RZ TZ))
  have Xms := Xms.out.past HR.out TZ (by decide)
  have Xits := Xits.out.past HR.out TZ (by decide)
  have Xlv := Xlv.out.past HR.out TZ (by decide)
  have Xtx := Xtx.out.past HR.out TZ (by decide)
  have Xws := Xws.out.past HR.out TZ (by decide)
  have BZ := HB.out.trans (TZ.below (by omega))
  refine bodyPost_ret (results_b Try.results37 (w.heap.size + 1) 32 [.int .i64 m.id, .int .i64 m.rid, .slice ums.a ums.n ums.c, .slice uits.a uits.n uits.c, .slice ulv.a ulv.n ulv.c, .slice utx.a utx.n utx.c, .int .i64 m.rd, .int .i64 m.se, .int .i64 m.li, .int .i64 m.he, .int .i64 m.la.c, .int .i64 m.la.r, .int .i64 m.la.q, .int .i64 m.la.a, .int .i64 m.la.b, .slice uws.a uws.n uws.c] _ rfl RZ Try.underlying32 rfl Try.sizeM) rfl ?_
  have d1 := D1.out
  have d2 := D2.out
  have d3 := D3.out
  have d4 := D4.out
  have d5 := D5.out
  have d6 := D6.out
  have d7 := D7.out
  have d8 := D8.out
  have d9 := D9.out
  have d10 := D10.out
  refine ⟨⟨ums, uits, ulv, utx, uws⟩, rfl, ⟨Xms, Xits, Xlv, Xtx, Xws, ?_, ?_, ?_⟩, BZ⟩
  · exact fun k h1 h2 => by have := (Lms.out k h1).2; have := (Llv.out k h2).1; omega
  · exact fun k h1 h2 => by have := (Lms.out k h1).2; have := (Lws.out k h2).1; omega
  · exact fun k h1 h2 => by have := (Llv.out k h1).2; have := (Lws.out k h2).1; omega
end Go.Proofs.Ytpbhcbgohgfkcaa

/- Of what was there the blocks of a set alone may have turned. -/
namespace Go.Proofs.Ytpbhcbgohgfkcaa
open Go.RowKit Pl
set_option linter.unusedVariables false

/-- of what was there the blocks of S alone may have turned. -/
structure Gr (S : Nat → Prop) (w w' : World) : Prop where
  os : w'.os = w.os
  tape : w'.tape = w.tape
  output : w'.output = w.output
  size : w.heap.size ≤ w'.heap.size
  block : ∀ k, k < w.heap.size → ¬ S k → w'.heap[k]? = w.heap[k]?
theorem Gr.refl (S : Nat → Prop) (w : World) : Gr S w w := ⟨rfl, rfl, rfl, Nat.le_refl _, fun _ _ _ => rfl⟩
theorem Gr.trans {S : Nat → Prop} {a b c : World} (h : Gr S a b) (k : Gr S b c) : Gr S a c :=
  ⟨k.os.trans h.os, k.tape.trans h.tape, k.output.trans h.output, Nat.le_trans h.size k.size, fun i hi hs => (k.block i (Nat.lt_of_lt_of_le hi h.size) hs).trans (h.block i hi hs)⟩
theorem Gr.ofGrown {S : Nat → Prop} {a b : World} {row : Option Nat} (h : a.grownBy b row) (hs : ∀ k, row = some k → S k) : Gr S a b := ⟨h.os, h.tape, h.output, h.size, fun k hk hn => h.block k hk (fun he => hn (hs k he.symm))⟩
theorem Gr.below {S : Nat → Prop} {a b : World} {B : Nat} (h : Gr S a b) (hs : ∀ k, S k → B ≤ k) (hB : B ≤ a.heap.size) : Below B a b := ⟨h.os, h.tape, h.output, h.size, fun k hk => h.block k (by omega) (fun h1 => by have := hs k h1; omega)⟩
theorem gr_below {S : Nat → Prop} {a b : World} (h : Below a.heap.size a b) : Gr S a b := ⟨h.os, h.tape, h.output, h.size, fun k hk _ => h.block k hk⟩
end Go.Proofs.Ytpbhcbgohgfkcaa

