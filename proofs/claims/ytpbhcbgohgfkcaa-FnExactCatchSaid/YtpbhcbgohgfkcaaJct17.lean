/- Joined texts: Em. -/
import Derived.Test.YtpbhcbgohgfkcaaJct1
import Derived.Test.YtpbhcbgohgfkcaaJct2
import Derived.Test.YtpbhcbgohgfkcaaJct3
import Derived.Test.YtpbhcbgohgfkcaaJct4
import Derived.Test.YtpbhcbgohgfkcaaJct5
import Derived.Test.YtpbhcbgohgfkcaaJct6
import Derived.Test.YtpbhcbgohgfkcaaJct7
import Derived.Test.YtpbhcbgohgfkcaaJct8
import Derived.Test.YtpbhcbgohgfkcaaJct9
import Derived.Test.YtpbhcbgohgfkcaaJct10
import Derived.Test.YtpbhcbgohgfkcaaJct11
import Derived.Test.YtpbhcbgohgfkcaaJct12
import Derived.Test.YtpbhcbgohgfkcaaJct13
import Derived.Test.YtpbhcbgohgfkcaaJct14
import Derived.Test.YtpbhcbgohgfkcaaJct15
import Derived.Test.YtpbhcbgohgfkcaaJct16
/- Members compared, marked and looked at again. Written by gen_em.py. -/
namespace Go.Proofs.Ytpbhcbgohgfkcaa
open Go.RowKit Pl
set_option linter.unusedVariables false
set_option linter.unusedSimpArgs false

set_option maxRecDepth 100000 in
set_option maxHeartbeats 4000000 in
theorem eqMate_same (m : Mt) (u v : Mv) (B1 B2 : Nat) (w : World) (h1 : Hid (MtO w B1 m u)) (h2 : Hid (MtO w B2 m v)) (hs : Hid (MtS m)) :
    Calls Try.prog 30 #[.agg #[.int .i64 m.id, .int .i64 m.rid, .slice u.ms.a u.ms.n u.ms.c, .slice u.its.a u.its.n u.its.c, .slice u.lv.a u.lv.n u.lv.c, .slice u.tx.a u.tx.n u.tx.c, .int .i64 m.rd, .int .i64 m.se, .int .i64 m.li, .int .i64 m.he, .int .i64 m.la.c, .int .i64 m.la.r, .int .i64 m.la.q, .int .i64 m.la.a, .int .i64 m.la.b, .slice u.ws.a u.ws.n u.ws.c], .agg #[.int .i64 m.id, .int .i64 m.rid, .slice v.ms.a v.ms.n v.ms.c, .slice v.its.a v.its.n v.its.c, .slice v.lv.a v.lv.n v.lv.c, .slice v.tx.a v.tx.n v.tx.c, .int .i64 m.rd, .int .i64 m.se, .int .i64 m.li, .int .i64 m.he, .int .i64 m.la.c, .int .i64 m.la.r, .int .i64 m.la.q, .int .i64 m.la.a, .int .i64 m.la.b, .slice v.ws.a v.ws.n v.ws.c]] w fun e w' => e = .returned (.bool true) ∧ Below w.heap.size w w' := by
  have hn1 : (w.alloc (.cells #[.int .i64 m.id, .int .i64 m.rid, .slice u.ms.a u.ms.n u.ms.c, .slice u.its.a u.its.n u.its.c, .slice u.lv.a u.lv.n u.lv.c, .slice u.tx.a u.tx.n u.tx.c, .int .i64 m.rd, .int .i64 m.se, .int .i64 m.li, .int .i64 m.he, .int .i64 m.la.c, .int .i64 m.la.r, .int .i64 m.la.q, .int .i64 m.la.a, .int .i64 m.la.b, .slice u.ws.a u.ws.n u.ws.c] 32)).heap.size = w.heap.size + 1 := by simp
  have HA : Hid (MtB ((w.alloc (.cells #[.int .i64 m.id, .int .i64 m.rid, .slice u.ms.a u.ms.n u.ms.c, .slice u.its.a u.its.n u.its.c, .slice u.lv.a u.lv.n u.lv.c, .slice u.tx.a u.tx.n u.tx.c, .int .i64 m.rd, .int .i64 m.se, .int .i64 m.li, .int .i64 m.he, .int .i64 m.la.c, .int .i64 m.la.r, .int .i64 m.la.q, .int .i64 m.la.a, .int .i64 m.la.b, .slice u.ws.a u.ws.n u.ws.c] 32)).alloc (.cells #[.int .i64 m.id, .int .i64 m.rid, .slice v.ms.a v.ms.n v.ms.c, .slice v.its.a v.its.n v.its.c, .slice v.lv.a v.lv.n v.lv.c, .slice v.tx.a v.tx.n v.tx.c, .int .i64 m.rd, .int .i64 m.se, .int .i64 m.li, .int .i64 m.he, .int .i64 m.la.c, .int .i64 m.la.r, .int .i64 m.la.q, .int .i64 m.la.a, .int .i64 m.la.b, .slice v.ws.a v.ws.n v.ws.c] 32)) w.heap.size 32 m u) := by
    have h := Bx.new w 32 [.int .i64 m.id, .int .i64 m.rid, .slice u.ms.a u.ms.n u.ms.c, .slice u.its.a u.its.n u.its.c, .slice u.lv.a u.lv.n u.lv.c, .slice u.tx.a u.tx.n u.tx.c, .int .i64 m.rd, .int .i64 m.se, .int .i64 m.li, .int .i64 m.he, .int .i64 m.la.c, .int .i64 m.la.r, .int .i64 m.la.q, .int .i64 m.la.a, .int .i64 m.la.b, .slice u.ws.a u.ws.n u.ws.c]
    exact h.stays (B := w.heap.size + 1) ((Below.refl _ _).alloc (by rw [hn1]; exact Nat.le_refl _) _) (by omega)
  have HC : Hid (MtB ((w.alloc (.cells #[.int .i64 m.id, .int .i64 m.rid, .slice u.ms.a u.ms.n u.ms.c, .slice u.its.a u.its.n u.its.c, .slice u.lv.a u.lv.n u.lv.c, .slice u.tx.a u.tx.n u.tx.c, .int .i64 m.rd, .int .i64 m.se, .int .i64 m.li, .int .i64 m.he, .int .i64 m.la.c, .int .i64 m.la.r, .int .i64 m.la.q, .int .i64 m.la.a, .int .i64 m.la.b, .slice u.ws.a u.ws.n u.ws.c] 32)).alloc (.cells #[.int .i64 m.id, .int .i64 m.rid, .slice v.ms.a v.ms.n v.ms.c, .slice v.its.a v.its.n v.its.c, .slice v.lv.a v.lv.n v.lv.c, .slice v.tx.a v.tx.n v.tx.c, .int .i64 m.rd, .int .i64 m.se, .int .i64 m.li, .int .i64 m.he, .int .i64 m.la.c, .int .i64 m.la.r, .int .i64 m.la.q, .int .i64 m.la.a, .int .i64 m.la.b, .slice v.ws.a v.ws.n v.ws.c] 32)) (w.heap.size + 1) 32 m v) := by
    have h := Bx.new (w.alloc (.cells #[.int .i64 m.id, .int .i64 m.rid, .slice u.ms.a u.ms.n u.ms.c, .slice u.its.a u.its.n u.its.c, .slice u.lv.a u.lv.n u.lv.c, .slice u.tx.a u.tx.n u.tx.c, .int .i64 m.rd, .int .i64 m.se, .int .i64 m.li, .int .i64 m.he, .int .i64 m.la.c, .int .i64 m.la.r, .int .i64 m.la.q, .int .i64 m.la.a, .int .i64 m.la.b, .slice u.ws.a u.ws.n u.ws.c] 32)) 32 [.int .i64 m.id, .int .i64 m.rid, .slice v.ms.a v.ms.n v.ms.c, .slice v.its.a v.its.n v.its.c, .slice v.lv.a v.lv.n v.lv.c, .slice v.tx.a v.tx.n v.tx.c, .int .i64 m.rd, .int .i64 m.se, .int .i64 m.li, .int .i64 m.he, .int .i64 m.la.c, .int .i64 m.la.r, .int .i64 m.la.q, .int .i64 m.la.a, .int .i64 m.la.b, .slice v.ws.a v.ws.n v.ws.c]
    rw [hn1] at h
    exact h
  have HB : Hid (Below w.heap.size w ((w.alloc (.cells #[.int .i64 m.id, .int .i64 m.rid, .slice u.ms.a u.ms.n u.ms.c, .slice u.its.a u.its.n u.its.c, .slice u.lv.a u.lv.n u.lv.c, .slice u.tx.a u.tx.n u.tx.c, .int .i64 m.rd, .int .i64 m.se, .int .i64 m.li, .int .i64 m.he, .int .i64 m.la.c, .int .i64 m.la.r, .int .i64 m.la.q, .int .i64 m.la.a, .int .i64 m.la.b, .slice u.ws.a u.ws.n u.ws.c] 32)).alloc (.cells #[.int .i64 m.id, .int .i64 m.rid, .slice v.ms.a v.ms.n v.ms.c, .slice v.its.a v.its.n v.its.c, .slice v.lv.a v.lv.n v.lv.c, .slice v.tx.a v.tx.n v.tx.c, .int .i64 m.rd, .int .i64 m.se, .int .i64 m.li, .int .i64 m.he, .int .i64 m.la.c, .int .i64 m.la.r, .int .i64 m.la.q, .int .i64 m.la.a, .int .i64 m.la.b, .slice v.ws.a v.ws.n v.ws.c] 32))) := ((Below.refl _ _).alloc (Nat.le_refl _) _).alloc (by simp) _
  have H1 : Hid (MtO ((w.alloc (.cells #[.int .i64 m.id, .int .i64 m.rid, .slice u.ms.a u.ms.n u.ms.c, .slice u.its.a u.its.n u.its.c, .slice u.lv.a u.lv.n u.lv.c, .slice u.tx.a u.tx.n u.tx.c, .int .i64 m.rd, .int .i64 m.se, .int .i64 m.li, .int .i64 m.he, .int .i64 m.la.c, .int .i64 m.la.r, .int .i64 m.la.q, .int .i64 m.la.a, .int .i64 m.la.b, .slice u.ws.a u.ws.n u.ws.c] 32)).alloc (.cells #[.int .i64 m.id, .int .i64 m.rid, .slice v.ms.a v.ms.n v.ms.c, .slice v.its.a v.its.n v.its.c, .slice v.lv.a v.lv.n v.lv.c, .slice v.tx.a v.tx.n v.tx.c, .int .i64 m.rd, .int .i64 m.se, .int .i64 m.li, .int .i64 m.he, .int .i64 m.la.c, .int .i64 m.la.r, .int .i64 m.la.q, .int .i64 m.la.a, .int .i64 m.la.b, .slice v.ws.a v.ws.n v.ws.c] 32)) B1 m u) := h1.out.later HB.out
  have H2 : Hid (MtO ((w.alloc (.cells #[.int .i64 m.id, .int .i64 m.rid, .slice u.ms.a u.ms.n u.ms.c, .slice u.its.a u.its.n u.its.c, .slice u.lv.a u.lv.n u.lv.c, .slice u.tx.a u.tx.n u.tx.c, .int .i64 m.rd, .int .i64 m.se, .int .i64 m.li, .int .i64 m.he, .int .i64 m.la.c, .int .i64 m.la.r, .int .i64 m.la.q, .int .i64 m.la.a, .int .i64 m.la.b, .slice u.ws.a u.ws.n u.ws.c] 32)).alloc (.cells #[.int .i64 m.id, .int .i64 m.rid, .slice v.ms.a v.ms.n v.ms.c, .slice v.its.a v.its.n v.its.c, .slice v.lv.a v.lv.n v.lv.c, .slice v.tx.a v.tx.n v.tx.c, .int .i64 m.rd, .int .i64 m.se, .int .i64 m.li, .int .i64 m.he, .int .i64 m.la.c, .int .i64 m.la.r, .int .i64 m.la.q, .int .i64 m.la.a, .int .i64 m.la.b, .slice v.ws.a v.ws.n v.ws.c] 32)) B2 m v) := h2.out.later HB.out
  obtain ⟨⟨c0, c1, c2, c3, c4, c5⟩, ⟨c6, c7, c8, c9⟩, c10, c11, c12, c13, c14, c15⟩ := HA.out.cells
  obtain ⟨⟨d0, d1, d2, d3, d4, d5⟩, ⟨d6, d7, d8, d9⟩, d10, d11, d12, d13, d14, d15⟩ := HC.out.cells
  clear h1 h2 hn1
  go_enter Try.func30, Try.ntmps30
  go_wp2_with fail
  generalize ((w.alloc (.cells #[.int .i64 m.id, .int .i64 m.rid, .slice u.ms.a u.ms.n u.ms.c, .slice u.its.a u.its.n u.its.c, .slice u.lv.a u.lv.n u.lv.c, .slice u.tx.a u.tx.n u.tx.c, .int .i64 m.rd, .int .i64 m.se, .int .i64 m.li, .int .i64 m.he, .int .i64 m.la.c, .int .i64 m.la.r, .int .i64 m.la.q, .int .i64 m.la.a, .int .i64 m.la.b, .slice u.ws.a u.ws.n u.ws.c] 32)).alloc (.cells #[.int .i64 m.id, .int .i64 m.rid, .slice v.ms.a v.ms.n v.ms.c, .slice v.its.a v.its.n v.its.c, .slice v.lv.a v.lv.n v.lv.c, .slice v.tx.a v.tx.n v.tx.c, .int .i64 m.rd, .int .i64 m.se, .int .i64 m.li, .int .i64 m.he, .int .i64 m.la.c, .int .i64 m.la.r, .int .i64 m.la.q, .int .i64 m.la.a, .int .i64 m.la.b, .slice v.ws.a v.ws.n v.ws.c] 32)) = W at *
  clear c0 c1 c2 c3 c4 c5 c6 c7 c8 c9 c10 c11 c12 c13 c14 c15 d0 d1 d2 d3 d4 d5 d6 d7 d8 d9 d10 d11 d12 d13 d14 d15
  refine (eqRing_same m.rid u.ms.v v.ms.v m.ms B1 B2 _ H1.out.ms H2.out.ms hs.out.ms).mono ?_
  rintro e w1 ⟨rfl, b⟩
  have HA : Hid (MtB w1 w.heap.size 32 m u) := Bx.later HA.out b
  have HC : Hid (MtB w1 (w.heap.size + 1) 32 m v) := Bx.later HC.out b
  have H1 : Hid (MtO w1 B1 m u) := H1.out.later b
  have H2 : Hid (MtO w1 B2 m v) := H2.out.later b
  have HB : Hid (Below w.heap.size w w1) := bl_next HB.out b
  clear b
  obtain ⟨⟨c0, c1, c2, c3, c4, c5⟩, ⟨c6, c7, c8, c9⟩, c10, c11, c12, c13, c14, c15⟩ := HA.out.cells
  obtain ⟨⟨d0, d1, d2, d3, d4, d5⟩, ⟨d6, d7, d8, d9⟩, d10, d11, d12, d13, d14, d15⟩ := HC.out.cells
  go_wp2_with fail
  clear c0 c1 c2 c3 c4 c5 c6 c7 c8 c9 c10 c11 c12 c13 c14 c15 d0 d1 d2 d3 d4 d5 d6 d7 d8 d9 d10 d11 d12 d13 d14 d15
  refine (eqItems_sl u.its.v v.its.v m.its B1 B2 _ H1.out.its H2.out.its hs.out.its).mono ?_
  rintro e w2 ⟨rfl, b⟩
  have HA : Hid (MtB w2 w.heap.size 32 m u) := Bx.later HA.out b
  have HC : Hid (MtB w2 (w.heap.size + 1) 32 m v) := Bx.later HC.out b
  have H1 : Hid (MtO w2 B1 m u) := H1.out.later b
  have H2 : Hid (MtO w2 B2 m v) := H2.out.later b
  have HB : Hid (Below w.heap.size w w2) := bl_next HB.out b
  clear b
  obtain ⟨⟨c0, c1, c2, c3, c4, c5⟩, ⟨c6, c7, c8, c9⟩, c10, c11, c12, c13, c14, c15⟩ := HA.out.cells
  obtain ⟨⟨d0, d1, d2, d3, d4, d5⟩, ⟨d6, d7, d8, d9⟩, d10, d11, d12, d13, d14, d15⟩ := HC.out.cells
  go_wp2_with fail
  clear c0 c1 c2 c3 c4 c5 c6 c7 c8 c9 c10 c11 c12 c13 c14 c15 d0 d1 d2 d3 d4 d5 d6 d7 d8 d9 d10 d11 d12 d13 d14 d15
  refine (eqI_same u.lv.v v.lv.v m.lv B1 B2 _ H1.out.lv H2.out.lv hs.out.lv).mono ?_
  rintro e w3 ⟨rfl, b⟩
  have HA : Hid (MtB w3 w.heap.size 32 m u) := Bx.later HA.out b
  have HC : Hid (MtB w3 (w.heap.size + 1) 32 m v) := Bx.later HC.out b
  have H1 : Hid (MtO w3 B1 m u) := H1.out.later b
  have H2 : Hid (MtO w3 B2 m v) := H2.out.later b
  have HB : Hid (Below w.heap.size w w3) := bl_next HB.out b
  clear b
  obtain ⟨⟨c0, c1, c2, c3, c4, c5⟩, ⟨c6, c7, c8, c9⟩, c10, c11, c12, c13, c14, c15⟩ := HA.out.cells
  obtain ⟨⟨d0, d1, d2, d3, d4, d5⟩, ⟨d6, d7, d8, d9⟩, d10, d11, d12, d13, d14, d15⟩ := HC.out.cells
  go_wp2_with fail
  clear c0 c1 c2 c3 c4 c5 c6 c7 c8 c9 c10 c11 c12 c13 c14 c15 d0 d1 d2 d3 d4 d5 d6 d7 d8 d9 d10 d11 d12 d13 d14 d15
  refine (eqS_same u.tx.v v.tx.v m.tx B1 B2 _ H1.out.tx H2.out.tx (by have := hs.out.tx; omega)).mono ?_
  rintro e w4 ⟨rfl, b⟩
  have HA : Hid (MtB w4 w.heap.size 32 m u) := Bx.later HA.out b
  have HC : Hid (MtB w4 (w.heap.size + 1) 32 m v) := Bx.later HC.out b
  have H1 : Hid (MtO w4 B1 m u) := H1.out.later b
  have H2 : Hid (MtO w4 B2 m v) := H2.out.later b
  have HB : Hid (Below w.heap.size w w4) := bl_next HB.out b
  clear b
  obtain ⟨⟨c0, c1, c2, c3, c4, c5⟩, ⟨c6, c7, c8, c9⟩, c10, c11, c12, c13, c14, c15⟩ := HA.out.cells
  obtain ⟨⟨d0, d1, d2, d3, d4, d5⟩, ⟨d6, d7, d8, d9⟩, d10, d11, d12, d13, d14, d15⟩ := HC.out.cells
  go_wp2_with fail
  clear c0 c1 c2 c3 c4 c5 c6 c7 c8 c9 c10 c11 c12 c13 c14 c15 d0 d1 d2 d3 d4 d5 d6 d7 d8 d9 d10 d11 d12 d13 d14 d15
  refine (eqTok_same m.la.c m.la.r m.la.q m.la.a m.la.b u.ws.v v.ws.v m.la.ws B1 B2 _ H1.out.ws H2.out.ws hs.out.ws).mono ?_
  rintro e w5 ⟨rfl, b⟩
  have HA : Hid (MtB w5 w.heap.size 32 m u) := Bx.later HA.out b
  have HC : Hid (MtB w5 (w.heap.size + 1) 32 m v) := Bx.later HC.out b
  have H1 : Hid (MtO w5 B1 m u) := H1.out.later b
  have H2 : Hid (MtO w5 B2 m v) := H2.out.later b
  have HB : Hid (Below w.heap.size w w5) := bl_next HB.out b
  clear b
  obtain ⟨⟨c0, c1, c2, c3, c4, c5⟩, ⟨c6, c7, c8, c9⟩, c10, c11, c12, c13, c14, c15⟩ := HA.out.cells
  obtain ⟨⟨d0, d1, d2, d3, d4, d5⟩, ⟨d6, d7, d8, d9⟩, d10, d11, d12, d13, d14, d15⟩ := HC.out.cells
  go_wp2_with fail
  go_ret
  exact ⟨rfl, HB.out⟩

/-- a member whose lists are marks. -/
def markM (K : Nat) (m : Mt) : Mt :=
  ⟨m.id, m.rid, marks K m.ms.length, mkI (K + m.ms.length) m.its.length, marks (K + m.ms.length + 4 * m.its.length) m.lv.length, mkT (K + m.ms.length + 4 * m.its.length + m.lv.length) m.tx.length, m.rd, m.se, m.li, m.he,
    ⟨m.la.c, m.la.r, m.la.q, m.la.a, m.la.b, marks (K + m.ms.length + 4 * m.its.length + m.lv.length + m.tx.length) m.la.ws.length⟩⟩
def endM (K : Nat) (m : Mt) : Nat := K + m.ms.length + 4 * m.its.length + m.lv.length + m.tx.length + m.la.ws.length

set_option maxRecDepth 100000 in
set_option maxHeartbeats 4000000 in
theorem markMate_any (m : Mt) (v : Mv) (B K : Nat) (w : World) (h : Hid (MtO w B m v)) (hl : endM K m ≤ 4999990) (hK : 0 < K) :
    Calls Try.prog 33 #[.agg #[.int .i64 m.id, .int .i64 m.rid, .slice v.ms.a v.ms.n v.ms.c, .slice v.its.a v.its.n v.its.c, .slice v.lv.a v.lv.n v.lv.c, .slice v.tx.a v.tx.n v.tx.c, .int .i64 m.rd, .int .i64 m.se, .int .i64 m.li, .int .i64 m.he, .int .i64 m.la.c, .int .i64 m.la.r, .int .i64 m.la.q, .int .i64 m.la.a, .int .i64 m.la.b, .slice v.ws.a v.ws.n v.ws.c], .int .i64 K] w fun e w' => e = .returned (.int .i64 ((endM K m : Nat) : Int)) ∧ MtO w' B (markM K m) v ∧ Gr v.own w w' := by
  unfold endM at hl
  have HA : Hid (MtB (w.alloc (.cells #[.int .i64 m.id, .int .i64 m.rid, .slice v.ms.a v.ms.n v.ms.c, .slice v.its.a v.its.n v.its.c, .slice v.lv.a v.lv.n v.lv.c, .slice v.tx.a v.tx.n v.tx.c, .int .i64 m.rd, .int .i64 m.se, .int .i64 m.li, .int .i64 m.he, .int .i64 m.la.c, .int .i64 m.la.r, .int .i64 m.la.q, .int .i64 m.la.a, .int .i64 m.la.b, .slice v.ws.a v.ws.n v.ws.c] 32)) w.heap.size 32 m v) := Bx.new w 32 _
  have HG : Hid (Gr v.own w (w.alloc (.cells #[.int .i64 m.id, .int .i64 m.rid, .slice v.ms.a v.ms.n v.ms.c, .slice v.its.a v.its.n v.its.c, .slice v.lv.a v.lv.n v.lv.c, .slice v.tx.a v.tx.n v.tx.c, .int .i64 m.rd, .int .i64 m.se, .int .i64 m.li, .int .i64 m.he, .int .i64 m.la.c, .int .i64 m.la.r, .int .i64 m.la.q, .int .i64 m.la.a, .int .i64 m.la.b, .slice v.ws.a v.ws.n v.ws.c] 32))) := gr_below ((Below.refl _ _).alloc (Nat.le_refl _) _)
  have HO : Hid (MtO (w.alloc (.cells #[.int .i64 m.id, .int .i64 m.rid, .slice v.ms.a v.ms.n v.ms.c, .slice v.its.a v.its.n v.its.c, .slice v.lv.a v.lv.n v.lv.c, .slice v.tx.a v.tx.n v.tx.c, .int .i64 m.rd, .int .i64 m.se, .int .i64 m.li, .int .i64 m.he, .int .i64 m.la.c, .int .i64 m.la.r, .int .i64 m.la.q, .int .i64 m.la.a, .int .i64 m.la.b, .slice v.ws.a v.ws.n v.ws.c] 32)) B m v) := h.out.later ((Below.refl _ _).alloc (Nat.le_refl _) _)
  have NE : Hid (∀ k, v.own k → k ≠ w.heap.size) := fun k hk => by have := (h.out.lt hk).2; omega
  obtain ⟨⟨c0, c1, c2, c3, c4, c5⟩, ⟨c6, c7, c8, c9⟩, c10, c11, c12, c13, c14, c15⟩ := HA.out.cells
  clear h
  go_enter Try.func33, Try.ntmps33
  go_wp2_with fail
  generalize (w.alloc (.cells #[.int .i64 m.id, .int .i64 m.rid, .slice v.ms.a v.ms.n v.ms.c, .slice v.its.a v.its.n v.its.c, .slice v.lv.a v.lv.n v.lv.c, .slice v.tx.a v.tx.n v.tx.c, .int .i64 m.rd, .int .i64 m.se, .int .i64 m.li, .int .i64 m.he, .int .i64 m.la.c, .int .i64 m.la.r, .int .i64 m.la.q, .int .i64 m.la.a, .int .i64 m.la.b, .slice v.ws.a v.ws.n v.ws.c] 32)) = W at *
  have O1 : Hid (OwnI W B v.ms.v m.ms) := HO.out.ms
  have O2 : Hid (SlI W B v.its.v m.its) := HO.out.its
  have O3 : Hid (OwnI W B v.lv.v m.lv) := HO.out.lv
  have O4 : Hid (OwnS W B v.tx.v m.tx) := HO.out.tx
  have O5 : Hid (OwnI W B v.ws.v m.la.ws) := HO.out.ws
  have A1 := HO.out.a1
  have A2 := HO.out.a2
  have A3 := HO.out.a3
  have A4 := ap_i_s O1.out O4.out
  have A5 := ap_i_s O3.out O4.out
  have A6 := ap_i_s O5.out O4.out
  have A7 := ap_i_it O1.out O2.out
  have A8 := ap_i_it O3.out O2.out
  have A9 := ap_i_it O5.out O2.out
  have A10 := ap_s_it O4.out O2.out
  have AP : Hid _ := And.intro A1 (And.intro A2 (And.intro A3 (And.intro A4 (And.intro A5 (And.intro A6 (And.intro A7 (And.intro A8 (And.intro A9 A10))))))))
  clear A1 A2 A3 A4 A5 A6 A7 A8 A9 A10 HO
  clear c0 c1 c2 c3 c4 c5 c6 c7 c8 c9 c10 c11 c12 c13 c14 c15
  refine (markRing_any m.rid v.ms.v m.ms B K _ O1 (by omega) (by omega)).mono ?_
  rintro e w1 ⟨rfl, hv, hg⟩
  have P1 : Hid (OwnI w1 B v.ms.v (marks K m.ms.length)) := hv
  have P2 : Hid (SlI w1 B v.its.v m.its) := O2.out.kept hg (fun k h1 h2 => (Ap.symm (AP.out.2.2.2.2.2.2.1)) k h1 h2.symm)
  have P3 : Hid (OwnI w1 B v.lv.v m.lv) := O3.out.kept hg (fun k h1 h2 => (Ap.symm (AP.out.1)) k h1 h2.symm)
  have P4 : Hid (OwnS w1 B v.tx.v m.tx) := ownS_kept O4.out hg (fun k h1 h2 => (Ap.symm (AP.out.2.2.2.1)) k h1 h2.symm)
  have P5 : Hid (OwnI w1 B v.ws.v m.la.ws) := O5.out.kept hg (fun k h1 h2 => (Ap.symm (AP.out.2.1)) k h1 h2.symm)
  have HA : Hid (MtB w1 w.heap.size 32 m v) := Bx.grown HA.out hg (fun he => NE.out w.heap.size (.inl he.symm) rfl)
  have HG : Hid (Gr v.own w w1) := HG.out.trans (Gr.ofGrown hg (fun k hk => .inl hk))
  clear O1 O2 O3 O4 O5 hv hg
  have O1 : Hid (OwnI w1 B v.ms.v (marks K m.ms.length)) := P1.out
  have O2 : Hid (SlI w1 B v.its.v m.its) := P2.out
  have O3 : Hid (OwnI w1 B v.lv.v m.lv) := P3.out
  have O4 : Hid (OwnS w1 B v.tx.v m.tx) := P4.out
  have O5 : Hid (OwnI w1 B v.ws.v m.la.ws) := P5.out
  clear P1 P2 P3 P4 P5
  obtain ⟨⟨c0, c1, c2, c3, c4, c5⟩, ⟨c6, c7, c8, c9⟩, c10, c11, c12, c13, c14, c15⟩ := HA.out.cells
  go_wp2_with fail
  clear c0 c1 c2 c3 c4 c5 c6 c7 c8 c9 c10 c11 c12 c13 c14 c15
  refine (markItems_any v.its.v m.its B (K + m.ms.length) _ O2 (by omega) (by omega)).mono ?_
  rintro e w2 ⟨rfl, hv, hg⟩
  have P1 : Hid (OwnI w2 B v.ms.v (marks K m.ms.length)) := O1.out.kept hg (fun k h1 h2 => AP.out.2.2.2.2.2.2.1 k h1 h2.symm)
  have P2 : Hid (SlI w2 B v.its.v (mkI (K + m.ms.length) m.its.length)) := hv
  have P3 : Hid (OwnI w2 B v.lv.v m.lv) := O3.out.kept hg (fun k h1 h2 => AP.out.2.2.2.2.2.2.2.1 k h1 h2.symm)
  have P4 : Hid (OwnS w2 B v.tx.v m.tx) := ownS_kept O4.out hg (fun k h1 h2 => AP.out.2.2.2.2.2.2.2.2.2 k h1 h2.symm)
  have P5 : Hid (OwnI w2 B v.ws.v m.la.ws) := O5.out.kept hg (fun k h1 h2 => AP.out.2.2.2.2.2.2.2.2.1 k h1 h2.symm)
  have HA : Hid (MtB w2 w.heap.size 32 m v) := Bx.grown HA.out hg (fun he => NE.out w.heap.size (.inr (.inl he.symm)) rfl)
  have HG : Hid (Gr v.own w w2) := HG.out.trans (Gr.ofGrown hg (fun k hk => .inr (.inl hk)))
  clear O1 O2 O3 O4 O5 hv hg
  have O1 : Hid (OwnI w2 B v.ms.v (marks K m.ms.length)) := P1.out
  have O2 : Hid (SlI w2 B v.its.v (mkI (K + m.ms.length) m.its.length)) := P2.out
  have O3 : Hid (OwnI w2 B v.lv.v m.lv) := P3.out
  have O4 : Hid (OwnS w2 B v.tx.v m.tx) := P4.out
  have O5 : Hid (OwnI w2 B v.ws.v m.la.ws) := P5.out
  clear P1 P2 P3 P4 P5
  obtain ⟨⟨c0, c1, c2, c3, c4, c5⟩, ⟨c6, c7, c8, c9⟩, c10, c11, c12, c13, c14, c15⟩ := HA.out.cells
  go_wp2_with fail
  clear c0 c1 c2 c3 c4 c5 c6 c7 c8 c9 c10 c11 c12 c13 c14 c15
  refine (markI_any v.lv.v m.lv B (K + m.ms.length + 4 * m.its.length) _ O3.out (by omega) (by omega)).mono ?_
  rintro e w3 ⟨rfl, hv, hg⟩
  have P1 : Hid (OwnI w3 B v.ms.v (marks K m.ms.length)) := O1.out.kept hg (fun k h1 h2 => AP.out.1 k h1 h2.symm)
  have P2 : Hid (SlI w3 B v.its.v (mkI (K + m.ms.length) m.its.length)) := O2.out.kept hg (fun k h1 h2 => (Ap.symm (AP.out.2.2.2.2.2.2.2.1)) k h1 h2.symm)
  have P3 : Hid (OwnI w3 B v.lv.v (marks (K + m.ms.length + 4 * m.its.length) m.lv.length)) := hv
  have P4 : Hid (OwnS w3 B v.tx.v m.tx) := ownS_kept O4.out hg (fun k h1 h2 => (Ap.symm (AP.out.2.2.2.2.1)) k h1 h2.symm)
  have P5 : Hid (OwnI w3 B v.ws.v m.la.ws) := O5.out.kept hg (fun k h1 h2 => (Ap.symm (AP.out.2.2.1)) k h1 h2.symm)
  have HA : Hid (MtB w3 w.heap.size 32 m v) := Bx.grown HA.out hg (fun he => NE.out w.heap.size (.inr (.inr (.inl he.symm))) rfl)
  have HG : Hid (Gr v.own w w3) := HG.out.trans (Gr.ofGrown hg (fun k hk => .inr (.inr (.inl hk))))
  clear O1 O2 O3 O4 O5 hv hg
  have O1 : Hid (OwnI w3 B v.ms.v (marks K m.ms.length)) := P1.out
  have O2 : Hid (SlI w3 B v.its.v (mkI (K + m.ms.length) m.its.length)) := P2.out
  have O3 : Hid (OwnI w3 B v.lv.v (marks (K + m.ms.length + 4 * m.its.length) m.lv.length)) := P3.out
  have O4 : Hid (OwnS w3 B v.tx.v m.tx) := P4.out
  have O5 : Hid (OwnI w3 B v.ws.v m.la.ws) := P5.out
  clear P1 P2 P3 P4 P5
  obtain ⟨⟨c0, c1, c2, c3, c4, c5⟩, ⟨c6, c7, c8, c9⟩, c10, c11, c12, c13, c14, c15⟩ := HA.out.cells
  go_wp2_with fail
  clear c0 c1 c2 c3 c4 c5 c6 c7 c8 c9 c10 c11 c12 c13 c14 c15
  refine (markSo_any v.tx.v m.tx B (K + m.ms.length + 4 * m.its.length + m.lv.length) _ O4.out (by omega) (by omega)).mono ?_
  rintro e w4 ⟨rfl, hv, hg⟩
  have P1 : Hid (OwnI w4 B v.ms.v (marks K m.ms.length)) := O1.out.kept hg (fun k h1 h2 => AP.out.2.2.2.1 k h1 h2.symm)
  have P2 : Hid (SlI w4 B v.its.v (mkI (K + m.ms.length) m.its.length)) := O2.out.kept hg (fun k h1 h2 => (Ap.symm (AP.out.2.2.2.2.2.2.2.2.2)) k h1 h2.symm)
  have P3 : Hid (OwnI w4 B v.lv.v (marks (K + m.ms.length + 4 * m.its.length) m.lv.length)) := O3.out.kept hg (fun k h1 h2 => AP.out.2.2.2.2.1 k h1 h2.symm)
  have P4 : Hid (OwnS w4 B v.tx.v (mkT (K + m.ms.length + 4 * m.its.length + m.lv.length) m.tx.length)) := hv
  have P5 : Hid (OwnI w4 B v.ws.v m.la.ws) := O5.out.kept hg (fun k h1 h2 => AP.out.2.2.2.2.2.1 k h1 h2.symm)
  have HA : Hid (MtB w4 w.heap.size 32 m v) := Bx.grown HA.out hg (fun he => NE.out w.heap.size (.inr (.inr (.inr (.inl he.symm)))) rfl)
  have HG : Hid (Gr v.own w w4) := HG.out.trans (Gr.ofGrown hg (fun k hk => .inr (.inr (.inr (.inl hk)))))
  clear O1 O2 O3 O4 O5 hv hg
  have O1 : Hid (OwnI w4 B v.ms.v (marks K m.ms.length)) := P1.out
  have O2 : Hid (SlI w4 B v.its.v (mkI (K + m.ms.length) m.its.length)) := P2.out
  have O3 : Hid (OwnI w4 B v.lv.v (marks (K + m.ms.length + 4 * m.its.length) m.lv.length)) := P3.out
  have O4 : Hid (OwnS w4 B v.tx.v (mkT (K + m.ms.length + 4 * m.its.length + m.lv.length) m.tx.length)) := P4.out
  have O5 : Hid (OwnI w4 B v.ws.v m.la.ws) := P5.out
  clear P1 P2 P3 P4 P5
  obtain ⟨⟨c0, c1, c2, c3, c4, c5⟩, ⟨c6, c7, c8, c9⟩, c10, c11, c12, c13, c14, c15⟩ := HA.out.cells
  go_wp2_with fail
  clear c0 c1 c2 c3 c4 c5 c6 c7 c8 c9 c10 c11 c12 c13 c14 c15
  refine (markTok_any m.la.c m.la.r m.la.q m.la.a m.la.b v.ws.v m.la.ws B (K + m.ms.length + 4 * m.its.length + m.lv.length + m.tx.length) _ O5 (by omega) (by omega)).mono ?_
  rintro e w5 ⟨rfl, hv, hg⟩
  have P1 : Hid (OwnI w5 B v.ms.v (marks K m.ms.length)) := O1.out.kept hg (fun k h1 h2 => AP.out.2.1 k h1 h2.symm)
  have P2 : Hid (SlI w5 B v.its.v (mkI (K + m.ms.length) m.its.length)) := O2.out.kept hg (fun k h1 h2 => (Ap.symm (AP.out.2.2.2.2.2.2.2.2.1)) k h1 h2.symm)
  have P3 : Hid (OwnI w5 B v.lv.v (marks (K + m.ms.length + 4 * m.its.length) m.lv.length)) := O3.out.kept hg (fun k h1 h2 => AP.out.2.2.1 k h1 h2.symm)
  have P4 : Hid (OwnS w5 B v.tx.v (mkT (K + m.ms.length + 4 * m.its.length + m.lv.length) m.tx.length)) := ownS_kept O4.out hg (fun k h1 h2 => (Ap.symm (AP.out.2.2.2.2.2.1)) k h1 h2.symm)
  have P5 : Hid (OwnI w5 B v.ws.v (marks (K + m.ms.length + 4 * m.its.length + m.lv.length + m.tx.length) m.la.ws.length)) := hv
  have HA : Hid (MtB w5 w.heap.size 32 m v) := Bx.grown HA.out hg (fun he => NE.out w.heap.size (.inr (.inr (.inr (.inr he.symm)))) rfl)
  have HG : Hid (Gr v.own w w5) := HG.out.trans (Gr.ofGrown hg (fun k hk => .inr (.inr (.inr (.inr hk)))))
  clear O1 O2 O3 O4 O5 hv hg
  have O1 : Hid (OwnI w5 B v.ms.v (marks K m.ms.length)) := P1.out
  have O2 : Hid (SlI w5 B v.its.v (mkI (K + m.ms.length) m.its.length)) := P2.out
  have O3 : Hid (OwnI w5 B v.lv.v (marks (K + m.ms.length + 4 * m.its.length) m.lv.length)) := P3.out
  have O4 : Hid (OwnS w5 B v.tx.v (mkT (K + m.ms.length + 4 * m.its.length + m.lv.length) m.tx.length)) := P4.out
  have O5 : Hid (OwnI w5 B v.ws.v (marks (K + m.ms.length + 4 * m.its.length + m.lv.length + m.tx.length) m.la.ws.length)) := P5.out
  clear P1 P2 P3 P4 P5
  obtain ⟨⟨c0, c1, c2, c3, c4, c5⟩, ⟨c6, c7, c8, c9⟩, c10, c11, c12, c13, c14, c15⟩ := HA.out.cells
  go_wp2_with fail
  go_ret
  exact ⟨rfl, ⟨O1.out, O2.out, O3.out, O4.out, O5.out, AP.out.1, AP.out.2.1, AP.out.2.2.1⟩, HG.out⟩

set_option maxRecDepth 100000 in
set_option maxHeartbeats 1000000 in
theorem heldRing_any (i : Int) (v : Value) (n B K : Nat) (w : World) (h1 : Hid (OwnI w B v (marks K n))) (hl : K + n ≤ 4999990) (hK : 0 < K) :
    Calls Try.prog 89 #[.agg #[.int .i64 i, v], .int .i64 K] w fun e w' => e = .returned (.int .i64 ((K + n : Nat) : Int)) ∧ Below w.heap.size w w' := by
  obtain ⟨ao, cap, rfl⟩ := h1.out.form
  rw [marks_length] at *
  have HW : Hid (OwnI (w.alloc (.cells #[.int .i64 i, .slice ao n cap] 26)) B (.slice ao n cap) (marks K n)) := h1.out.alloc _
  have HB : Hid (Below w.heap.size w (w.alloc (.cells #[.int .i64 i, .slice ao n cap] 26))) := (Below.refl _ _).alloc (Nat.le_refl _) _
  clear h1
  go_enter Try.func89, Try.ntmps89
  go_wp2_with fail
  generalize w.alloc (.cells #[.int .i64 i, .slice ao n cap] 26) = W at *
  refine (heldI_any _ n B K W HW.out hl hK).mono ?_
  rintro e w1 ⟨rfl, rfl⟩
  have hz : decide (((K + n : Nat) : Int) < 0) = false := by simp; omega
  go_wp2_with fail
  go_ret
  exact ⟨rfl, HB.out⟩

set_option maxRecDepth 100000 in
set_option maxHeartbeats 4000000 in
theorem heldMate_any (m : Mt) (v : Mv) (B K : Nat) (w : World) (h : Hid (MtO w B (markM K m) v)) (hl : endM K m ≤ 4999990) (hK : 0 < K) :
    Calls Try.prog 34 #[.agg #[.int .i64 m.id, .int .i64 m.rid, .slice v.ms.a v.ms.n v.ms.c, .slice v.its.a v.its.n v.its.c, .slice v.lv.a v.lv.n v.lv.c, .slice v.tx.a v.tx.n v.tx.c, .int .i64 m.rd, .int .i64 m.se, .int .i64 m.li, .int .i64 m.he, .int .i64 m.la.c, .int .i64 m.la.r, .int .i64 m.la.q, .int .i64 m.la.a, .int .i64 m.la.b, .slice v.ws.a v.ws.n v.ws.c], .int .i64 K] w fun e w' => e = .returned (.int .i64 ((endM K m : Nat) : Int)) ∧ Below w.heap.size w w' := by
  unfold endM at hl
  have HA : Hid (MtB (w.alloc (.cells #[.int .i64 m.id, .int .i64 m.rid, .slice v.ms.a v.ms.n v.ms.c, .slice v.its.a v.its.n v.its.c, .slice v.lv.a v.lv.n v.lv.c, .slice v.tx.a v.tx.n v.tx.c, .int .i64 m.rd, .int .i64 m.se, .int .i64 m.li, .int .i64 m.he, .int .i64 m.la.c, .int .i64 m.la.r, .int .i64 m.la.q, .int .i64 m.la.a, .int .i64 m.la.b, .slice v.ws.a v.ws.n v.ws.c] 32)) w.heap.size 32 m v) := Bx.new w 32 _
  have HL : Hid (Below w.heap.size w (w.alloc (.cells #[.int .i64 m.id, .int .i64 m.rid, .slice v.ms.a v.ms.n v.ms.c, .slice v.its.a v.its.n v.its.c, .slice v.lv.a v.lv.n v.lv.c, .slice v.tx.a v.tx.n v.tx.c, .int .i64 m.rd, .int .i64 m.se, .int .i64 m.li, .int .i64 m.he, .int .i64 m.la.c, .int .i64 m.la.r, .int .i64 m.la.q, .int .i64 m.la.a, .int .i64 m.la.b, .slice v.ws.a v.ws.n v.ws.c] 32))) := (Below.refl _ _).alloc (Nat.le_refl _) _
  have HO : Hid (MtO (w.alloc (.cells #[.int .i64 m.id, .int .i64 m.rid, .slice v.ms.a v.ms.n v.ms.c, .slice v.its.a v.its.n v.its.c, .slice v.lv.a v.lv.n v.lv.c, .slice v.tx.a v.tx.n v.tx.c, .int .i64 m.rd, .int .i64 m.se, .int .i64 m.li, .int .i64 m.he, .int .i64 m.la.c, .int .i64 m.la.r, .int .i64 m.la.q, .int .i64 m.la.a, .int .i64 m.la.b, .slice v.ws.a v.ws.n v.ws.c] 32)) B (markM K m) v) := h.out.later HL.out
  obtain ⟨⟨c0, c1, c2, c3, c4, c5⟩, ⟨c6, c7, c8, c9⟩, c10, c11, c12, c13, c14, c15⟩ := HA.out.cells
  clear h
  go_enter Try.func34, Try.ntmps34
  go_wp2_with fail
  generalize (w.alloc (.cells #[.int .i64 m.id, .int .i64 m.rid, .slice v.ms.a v.ms.n v.ms.c, .slice v.its.a v.its.n v.its.c, .slice v.lv.a v.lv.n v.lv.c, .slice v.tx.a v.tx.n v.tx.c, .int .i64 m.rd, .int .i64 m.se, .int .i64 m.li, .int .i64 m.he, .int .i64 m.la.c, .int .i64 m.la.r, .int .i64 m.la.q, .int .i64 m.la.a, .int .i64 m.la.b, .slice v.ws.a v.ws.n v.ws.c] 32)) = W at *
  clear c0 c1 c2 c3 c4 c5 c6 c7 c8 c9 c10 c11 c12 c13 c14 c15
  refine (heldRing_any m.rid v.ms.v m.ms.length B K _ HO.out.ms (by omega) (by omega)).mono ?_
  rintro e w1 ⟨rfl, b⟩
  have HA : Hid (MtB w1 w.heap.size 32 m v) := Bx.later HA.out b
  have HO : Hid (MtO w1 B (markM K m) v) := HO.out.later b
  have HL : Hid (Below w.heap.size w w1) := bl_next HL.out b
  clear b
  have hz1 : decide ((((K + m.ms.length) : Nat) : Int) < 0) = false := by simp; omega
  obtain ⟨⟨c0, c1, c2, c3, c4, c5⟩, ⟨c6, c7, c8, c9⟩, c10, c11, c12, c13, c14, c15⟩ := HA.out.cells
  go_wp2_with fail
  clear c0 c1 c2 c3 c4 c5 c6 c7 c8 c9 c10 c11 c12 c13 c14 c15
  refine (heldItems_any v.its.v m.its.length B (K + m.ms.length) _ HO.out.its (by omega) (by omega)).mono ?_
  rintro e w2 ⟨rfl, b⟩
  have HA : Hid (MtB w2 w.heap.size 32 m v) := Bx.later HA.out b
  have HO : Hid (MtO w2 B (markM K m) v) := HO.out.later b
  have HL : Hid (Below w.heap.size w w2) := bl_next HL.out b
  clear b
  have hz2 : decide ((((K + m.ms.length + 4 * m.its.length) : Nat) : Int) < 0) = false := by simp; omega
  obtain ⟨⟨c0, c1, c2, c3, c4, c5⟩, ⟨c6, c7, c8, c9⟩, c10, c11, c12, c13, c14, c15⟩ := HA.out.cells
  go_wp2_with fail
  clear c0 c1 c2 c3 c4 c5 c6 c7 c8 c9 c10 c11 c12 c13 c14 c15
  refine (heldI_any v.lv.v m.lv.length B (K + m.ms.length + 4 * m.its.length) _ HO.out.lv (by omega) (by omega)).mono ?_
  rintro e w3 ⟨rfl, hq⟩
  have b : Below w2.heap.size w2 w3 := same_below hq
  clear hq
  have HA : Hid (MtB w3 w.heap.size 32 m v) := Bx.later HA.out b
  have HO : Hid (MtO w3 B (markM K m) v) := HO.out.later b
  have HL : Hid (Below w.heap.size w w3) := bl_next HL.out b
  clear b
  have hz3 : decide ((((K + m.ms.length + 4 * m.its.length + m.lv.length) : Nat) : Int) < 0) = false := by simp; omega
  obtain ⟨⟨c0, c1, c2, c3, c4, c5⟩, ⟨c6, c7, c8, c9⟩, c10, c11, c12, c13, c14, c15⟩ := HA.out.cells
  go_wp2_with fail
  clear c0 c1 c2 c3 c4 c5 c6 c7 c8 c9 c10 c11 c12 c13 c14 c15
  refine (heldSo_any v.tx.v m.tx.length B (K + m.ms.length + 4 * m.its.length + m.lv.length) _ HO.out.tx (by omega) (by omega)).mono ?_
  rintro e w4 ⟨rfl, b⟩
  have HA : Hid (MtB w4 w.heap.size 32 m v) := Bx.later HA.out b
  have HO : Hid (MtO w4 B (markM K m) v) := HO.out.later b
  have HL : Hid (Below w.heap.size w w4) := bl_next HL.out b
  clear b
  have hz4 : decide ((((K + m.ms.length + 4 * m.its.length + m.lv.length + m.tx.length) : Nat) : Int) < 0) = false := by simp; omega
  obtain ⟨⟨c0, c1, c2, c3, c4, c5⟩, ⟨c6, c7, c8, c9⟩, c10, c11, c12, c13, c14, c15⟩ := HA.out.cells
  go_wp2_with fail
  clear c0 c1 c2 c3 c4 c5 c6 c7 c8 c9 c10 c11 c12 c13 c14 c15
  refine (heldTok_any m.la.c m.la.r m.la.q m.la.a m.la.b v.ws.v m.la.ws.length B (K + m.ms.length + 4 * m.its.length + m.lv.length + m.tx.length) _ HO.out.ws (by omega) (by omega)).mono ?_
  rintro e w5 ⟨rfl, b⟩
  have HA : Hid (MtB w5 w.heap.size 32 m v) := Bx.later HA.out b
  have HO : Hid (MtO w5 B (markM K m) v) := HO.out.later b
  have HL : Hid (Below w.heap.size w w5) := bl_next HL.out b
  clear b
  have hz5 : decide ((((K + m.ms.length + 4 * m.its.length + m.lv.length + m.tx.length + m.la.ws.length) : Nat) : Int) < 0) = false := by simp; omega
  obtain ⟨⟨c0, c1, c2, c3, c4, c5⟩, ⟨c6, c7, c8, c9⟩, c10, c11, c12, c13, c14, c15⟩ := HA.out.cells
  go_wp2_with fail
  go_ret
  exact ⟨rfl, HL.out⟩
end Go.Proofs.Ytpbhcbgohgfkcaa

