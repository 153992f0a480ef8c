/- Members measured. -/
import Derived.Test.YtpbhcbgohgfkcaaBw
import Derived.Test.YtpbhcbgohgfkcaaWr
namespace Go.Proofs.Ytpbhcbgohgfkcaa
open Go.RowKit Pl
set_option linter.unusedVariables false
set_option linter.unusedSimpArgs false

/-- what is left of a budget, or nothing. -/
def Left (L n : Nat) (e : Ending) : Prop := e = .returned (.int .i64 (-1)) ∨ ∃ z : Nat, e = .returned (.int .i64 z) ∧ z + n = L

set_option maxRecDepth 100000 in
set_option maxHeartbeats 1000000 in
theorem szI_left (ao : Option Addr) (n cap L : Nat) (w : World) (hL : L ≤ 1048576) (hn : n ≤ 9223372036854775807) :
    Calls Try.prog 77 #[.slice ao n cap, .int .i64 L] w fun e w' => Left L n e ∧ w' = w := by
  by_cases h : L < n
  · have hd : decide ((L : Int) - (n : Int) < 0) = true := by simp; omega
    go_enter Try.func77, Try.ntmps77
    go_wp2
    go_ret
    exact ⟨.inl rfl, rfl⟩
  · have hd : decide ((L : Int) - (n : Int) < 0) = false := by simp; omega
    go_enter Try.func77, Try.ntmps77
    go_wp2
    go_ret
    exact ⟨.inr ⟨L - n, by rw [show ((L - n : Nat) : Int) = (L : Int) - (n : Int) by omega]; rfl, by omega⟩, rfl⟩

set_option maxRecDepth 100000 in
set_option maxHeartbeats 1000000 in
theorem szRing_left (i : Int) (ao : Option Addr) (n cap L : Nat) (w : World) (hL : L ≤ 1048576) (hn : n ≤ 9223372036854775807) :
    Calls Try.prog 27 #[.agg #[.int .i64 i, .slice ao n cap], .int .i64 L] w fun e w' => Left L n e ∧ Below w.heap.size w w' := by
  go_enter Try.func27, Try.ntmps27
  go_wp2_with fail
  refine (szI_left ao n cap L _ hL hn).mono ?_
  rintro e w1 ⟨hl, rfl⟩
  rcases hl with rfl | ⟨z, rfl, hz⟩
  · go_wp2_with fail
    go_ret
    exact ⟨.inl rfl, (Below.refl _ _).alloc (Nat.le_refl _) _⟩
  · have HZ : Hid (z + n = L) := hz
    have hd : decide ((z : Int) < 0) = false := by simp
    clear hz
    go_wp2_with fail
    go_ret
    exact ⟨.inr ⟨z, rfl, HZ.out⟩, (Below.refl _ _).alloc (Nat.le_refl _) _⟩

set_option maxRecDepth 100000 in
set_option maxHeartbeats 1000000 in
theorem szTok_left (c r q a b : Int) (ao : Option Addr) (n cap L : Nat) (w : World) (hL : L ≤ 1048576) (hn : n ≤ 9223372036854775807) :
    Calls Try.prog 96 #[.agg #[.int .i64 c, .int .i64 r, .int .i64 q, .int .i64 a, .int .i64 b, .slice ao n cap], .int .i64 L] w fun e w' => Left L n e ∧ Below w.heap.size w w' := by
  go_enter Try.func96, Try.ntmps96
  go_wp2_with fail
  refine (szI_left ao n cap L _ hL hn).mono ?_
  rintro e w1 ⟨hl, rfl⟩
  rcases hl with rfl | ⟨z, rfl, hz⟩
  · go_wp2_with fail
    go_ret
    exact ⟨.inl rfl, (Below.refl _ _).alloc (Nat.le_refl _) _⟩
  · have HZ : Hid (z + n = L) := hz
    have hd : decide ((z : Int) < 0) = false := by simp
    clear hz
    go_wp2_with fail
    go_ret
    exact ⟨.inr ⟨z, rfl, HZ.out⟩, (Below.refl _ _).alloc (Nat.le_refl _) _⟩
theorem RI.len {w : World} {s : Sv} {xs : List Int} (h : RI w s.v xs) : s.n = xs.length := by
  obtain ⟨ao, cap, h1, _⟩ := h; unfold Sv.v at h1; simp at h1; exact h1.2.1
theorem RT.len {w : World} {s : Sv} {xs : List ByteArray} (h : RT w s.v xs) : s.n = xs.length := by
  obtain ⟨ao, cap, h1, _⟩ := h; unfold Sv.v at h1; simp at h1; exact h1.2.1
theorem RIt.len {w : World} {s : Sv} {xs : List It} (h : RIt w s.v xs) : s.n = xs.length := by
  obtain ⟨ao, cap, h1, _⟩ := h; unfold Sv.v at h1; simp at h1; exact h1.2.1
theorem szIt_r (s : Sv) (ts : List It) (L : Nat) (w : World) (h : Hid (RIt w s.v ts)) (hL : L ≤ 1048576) (hl : ts.length ≤ 9223372036854775807) (hs : Hid (∀ x ∈ ts, x.2.2.2.size ≤ 9223372036854775807)) :
    Calls Try.prog 94 #[.slice s.a s.n s.c, .int .i64 L] w fun e w' => (e = .returned (.int .i64 (-1)) ∨ (∃ z : Nat, e = .returned (.int .i64 z) ∧ z + ts.length ≤ L ∧ ∀ x ∈ ts, x.2.2.2.size ≤ 1048576)) ∧ Below w.heap.size w w' := by
  obtain ⟨ao, cap, h1, h2⟩ := h.out; unfold Sv.v at h1; rw [h1]; exact szItems_left L hL ao cap ts w h2 hl hs
theorem szT_r (s : Sv) (ts : List ByteArray) (L : Nat) (w : World) (h : Hid (RT w s.v ts)) (hL : L ≤ 1048576) (hl : ts.length ≤ 9223372036854775807) (hs : Hid (∀ x ∈ ts, x.size ≤ 9223372036854775807)) :
    Calls Try.prog 95 #[.slice s.a s.n s.c, .int .i64 L] w fun e w' => (e = .returned (.int .i64 (-1)) ∨ ∃ r : Nat, e = .returned (.int .i64 r) ∧ Hid (r + ts.length ≤ L ∧ ∀ t ∈ ts, t.size ≤ 1048576)) ∧ w' = w := by
  obtain ⟨ao, cap, h1, h2⟩ := h.out; unfold Sv.v at h1; rw [h1]; exact szS_any w ao cap L ts h2 (by unfold maxLen; omega) (fun t ht => by have := hs.out t ht; unfold maxLen; omega) hL

/-- a member's lists are no longer than can be. -/
structure MtL (m : Mt) : Prop where
  ms : m.ms.length ≤ 9223372036854775807
  its : m.its.length ≤ 9223372036854775807
  lv : m.lv.length ≤ 9223372036854775807
  tx : m.tx.length ≤ 9223372036854775807
  ws : m.la.ws.length ≤ 9223372036854775807
  it : ∀ x ∈ m.its, x.2.2.2.size ≤ 9223372036854775807
  te : ∀ x ∈ m.tx, x.size ≤ 9223372036854775807
/-- what is left when a member has been measured. -/
def LeftM (m : Mt) (e : Ending) : Prop := e = .returned (.int .i64 (-1)) ∨ ∃ z : Nat, e = .returned (.int .i64 z) ∧ MtS m ∧ z ≤ 1048576

set_option maxRecDepth 100000 in
set_option maxHeartbeats 2000000 in
theorem szMate_any (m : Mt) (v : Mv) (w : World) (h : Hid (MtR w m v)) (hl : Hid (MtL m)) :
    Calls Try.prog 35 #[.agg #[.int .i64 m.id, .int .i64 m.rid, .slice v.ms.a v.ms.n v.ms.c, .slice v.its.a v.its.n v.its.c, .slice v.lv.a v.lv.n v.lv.c, .slice v.tx.a v.tx.n v.tx.c, .int .i64 m.rd, .int .i64 m.se, .int .i64 m.li, .int .i64 m.he, .int .i64 m.la.c, .int .i64 m.la.r, .int .i64 m.la.q, .int .i64 m.la.a, .int .i64 m.la.b, .slice v.ws.a v.ws.n v.ws.c], .int .i64 1048576] w fun e w' => LeftM m e ∧ Below w.heap.size w w' := by
  have HB : Hid (MtB (w.alloc (.cells #[.int .i64 m.id, .int .i64 m.rid, .slice v.ms.a v.ms.n v.ms.c, .slice v.its.a v.its.n v.its.c, .slice v.lv.a v.lv.n v.lv.c, .slice v.tx.a v.tx.n v.tx.c, .int .i64 m.rd, .int .i64 m.se, .int .i64 m.li, .int .i64 m.he, .int .i64 m.la.c, .int .i64 m.la.r, .int .i64 m.la.q, .int .i64 m.la.a, .int .i64 m.la.b, .slice v.ws.a v.ws.n v.ws.c] 67)) w.heap.size 67 m v) := Bx.new w 67 _
  have HL : Hid (Below w.heap.size w (w.alloc (.cells #[.int .i64 m.id, .int .i64 m.rid, .slice v.ms.a v.ms.n v.ms.c, .slice v.its.a v.its.n v.its.c, .slice v.lv.a v.lv.n v.lv.c, .slice v.tx.a v.tx.n v.tx.c, .int .i64 m.rd, .int .i64 m.se, .int .i64 m.li, .int .i64 m.he, .int .i64 m.la.c, .int .i64 m.la.r, .int .i64 m.la.q, .int .i64 m.la.a, .int .i64 m.la.b, .slice v.ws.a v.ws.n v.ws.c] 67))) := (Below.refl _ _).alloc (Nat.le_refl _) _
  have HR : Hid (MtR (w.alloc (.cells #[.int .i64 m.id, .int .i64 m.rid, .slice v.ms.a v.ms.n v.ms.c, .slice v.its.a v.its.n v.its.c, .slice v.lv.a v.lv.n v.lv.c, .slice v.tx.a v.tx.n v.tx.c, .int .i64 m.rd, .int .i64 m.se, .int .i64 m.li, .int .i64 m.he, .int .i64 m.la.c, .int .i64 m.la.r, .int .i64 m.la.q, .int .i64 m.la.a, .int .i64 m.la.b, .slice v.ws.a v.ws.n v.ws.c] 67)) m v) := h.out.stays HL.out
  have LEN : Hid (v.ms.n = m.ms.length ∧ v.lv.n = m.lv.length ∧ v.ws.n = m.la.ws.length) := ⟨RI.len h.out.ms, RI.len h.out.lv, RI.len h.out.ws⟩
  clear h
  go_enter Try.func35, Try.ntmps35
  go_wp2_with fail
  generalize w.alloc (.cells #[.int .i64 m.id, .int .i64 m.rid, .slice v.ms.a v.ms.n v.ms.c, .slice v.its.a v.its.n v.its.c, .slice v.lv.a v.lv.n v.lv.c, .slice v.tx.a v.tx.n v.tx.c, .int .i64 m.rd, .int .i64 m.se, .int .i64 m.li, .int .i64 m.he, .int .i64 m.la.c, .int .i64 m.la.r, .int .i64 m.la.q, .int .i64 m.la.a, .int .i64 m.la.b, .slice v.ws.a v.ws.n v.ws.c] 67) = W at *
  refine (szRing_left m.rid v.ms.a v.ms.n v.ms.c 1048576 _ (by omega) (by have := LEN.out.1; have := hl.out.ms; omega)).mono ?_
  rintro e w1 ⟨hl1, b1⟩
  have HB : Hid (MtB w1 w.heap.size 67 m v) := Bx.later HB.out b1
  have HR : Hid (MtR w1 m v) := HR.out.stays b1
  have HL : Hid (Below w.heap.size w w1) := bl_next HL.out b1
  clear b1
  rcases hl1 with rfl | ⟨z1, rfl, hz1⟩
  · go_wp2_with fail
    go_ret
    exact ⟨.inl rfl, HL.out⟩
  have E1 : Hid _ := hz1
  have k1 : z1 ≤ 1048576 := by omega
  have hd1 : decide ((z1 : Int) < 0) = false := by simp
  clear hz1
  obtain ⟨⟨c0, c1, c2, c3, c4, c5⟩, ⟨c6, c7, c8, c9⟩, c10, c11, c12, c13, c14, c15⟩ := HB.out.cells
  go_wp2_with fail
  clear hd1 c0 c1 c2 c3 c4 c5 c6 c7 c8 c9 c10 c11 c12 c13 c14 c15
  refine (szIt_r v.its m.its z1 _ (show Hid (RIt w1 v.its.v m.its) from (HR.out).its) (by omega) hl.out.its hl.out.it).mono ?_
  rintro e w2 ⟨hl2, b2⟩
  have HB : Hid (MtB w2 w.heap.size 67 m v) := Bx.later HB.out b2
  have HR : Hid (MtR w2 m v) := HR.out.stays b2
  have HL : Hid (Below w.heap.size w w2) := bl_next HL.out b2
  clear b2
  rcases hl2 with rfl | ⟨z2, rfl, hz2⟩
  · go_wp2_with fail
    go_ret
    exact ⟨.inl rfl, HL.out⟩
  have E2 : Hid _ := hz2
  have k2 : z2 ≤ 1048576 := by have := hz2.1; omega
  have hd2 : decide ((z2 : Int) < 0) = false := by simp
  clear hz2
  obtain ⟨⟨c0, c1, c2, c3, c4, c5⟩, ⟨c6, c7, c8, c9⟩, c10, c11, c12, c13, c14, c15⟩ := HB.out.cells
  go_wp2_with fail
  clear hd2 c0 c1 c2 c3 c4 c5 c6 c7 c8 c9 c10 c11 c12 c13 c14 c15
  refine (szI_left v.lv.a v.lv.n v.lv.c z2 _ (by omega) (by have := LEN.out.2.1; have := hl.out.lv; omega)).mono ?_
  rintro e w3 ⟨hl3, hq3⟩
  have b3 : Below w2.heap.size w2 w3 := same_below hq3
  clear hq3
  have HB : Hid (MtB w3 w.heap.size 67 m v) := Bx.later HB.out b3
  have HR : Hid (MtR w3 m v) := HR.out.stays b3
  have HL : Hid (Below w.heap.size w w3) := bl_next HL.out b3
  clear b3
  rcases hl3 with rfl | ⟨z3, rfl, hz3⟩
  · go_wp2_with fail
    go_ret
    exact ⟨.inl rfl, HL.out⟩
  have E3 : Hid _ := hz3
  have k3 : z3 ≤ 1048576 := by omega
  have hd3 : decide ((z3 : Int) < 0) = false := by simp
  clear hz3
  obtain ⟨⟨c0, c1, c2, c3, c4, c5⟩, ⟨c6, c7, c8, c9⟩, c10, c11, c12, c13, c14, c15⟩ := HB.out.cells
  go_wp2_with fail
  clear hd3 c0 c1 c2 c3 c4 c5 c6 c7 c8 c9 c10 c11 c12 c13 c14 c15
  refine (szT_r v.tx m.tx z3 _ (show Hid (RT w3 v.tx.v m.tx) from (HR.out).tx) (by omega) hl.out.tx hl.out.te).mono ?_
  rintro e w4 ⟨hl4, hq4⟩
  have b4 : Below w3.heap.size w3 w4 := same_below hq4
  clear hq4
  have HB : Hid (MtB w4 w.heap.size 67 m v) := Bx.later HB.out b4
  have HR : Hid (MtR w4 m v) := HR.out.stays b4
  have HL : Hid (Below w.heap.size w w4) := bl_next HL.out b4
  clear b4
  rcases hl4 with rfl | ⟨z4, rfl, hz4⟩
  · go_wp2_with fail
    go_ret
    exact ⟨.inl rfl, HL.out⟩
  have E4 : Hid _ := hz4
  have k4 : z4 ≤ 1048576 := by have := hz4.out.1; omega
  have hd4 : decide ((z4 : Int) < 0) = false := by simp
  clear hz4
  obtain ⟨⟨c0, c1, c2, c3, c4, c5⟩, ⟨c6, c7, c8, c9⟩, c10, c11, c12, c13, c14, c15⟩ := HB.out.cells
  go_wp2_with fail
  clear hd4 c0 c1 c2 c3 c4 c5 c6 c7 c8 c9 c10 c11 c12 c13 c14 c15
  refine (szTok_left m.la.c m.la.r m.la.q m.la.a m.la.b v.ws.a v.ws.n v.ws.c z4 _ (by omega) (by have := LEN.out.2.2; have := hl.out.ws; omega)).mono ?_
  rintro e w5 ⟨hl5, b5⟩
  have HB : Hid (MtB w5 w.heap.size 67 m v) := Bx.later HB.out b5
  have HR : Hid (MtR w5 m v) := HR.out.stays b5
  have HL : Hid (Below w.heap.size w w5) := bl_next HL.out b5
  clear b5
  rcases hl5 with rfl | ⟨z5, rfl, hz5⟩
  · go_wp2_with fail
    go_ret
    exact ⟨.inl rfl, HL.out⟩
  have E5 : Hid _ := hz5
  have k5 : z5 ≤ 1048576 := by omega
  have hd5 : decide ((z5 : Int) < 0) = false := by simp
  clear hz5
  obtain ⟨⟨c0, c1, c2, c3, c4, c5⟩, ⟨c6, c7, c8, c9⟩, c10, c11, c12, c13, c14, c15⟩ := HB.out.cells
  go_wp2_with fail
  go_ret
  obtain ⟨q1, q3, q5⟩ := LEN.out
  have e1 := E1.out
  have e2 := E2.out
  have e3 := E3.out
  have e4 := E4.out
  have e5 := E5.out
  exact ⟨.inr ⟨z5, rfl, ⟨by omega, by omega, by omega, by omega, by omega, e2.2, e4.2, by omega⟩, by omega⟩, HL.out⟩
end Go.Proofs.Ytpbhcbgohgfkcaa
