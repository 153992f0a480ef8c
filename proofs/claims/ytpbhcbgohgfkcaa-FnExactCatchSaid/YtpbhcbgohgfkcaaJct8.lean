/- Joined texts: Sm Cp Ct1 Mn. -/
import Derived.Test.YtpbhcbgohgfkcaaJct1
import Derived.Test.YtpbhcbgohgfkcaaJct2
import Derived.Test.YtpbhcbgohgfkcaaJct3
import Derived.Test.YtpbhcbgohgfkcaaJct4
import Derived.Test.YtpbhcbgohgfkcaaJct5
import Derived.Test.YtpbhcbgohgfkcaaJct6
import Derived.Test.YtpbhcbgohgfkcaaJct7
import Derived.Laws.MakeOwn
/- Members measured. -/
namespace Go.Proofs.Ytpbhcbgohgfkcaa
open Go.RowKit Pl
set_option linter.unusedVariables false
set_option linter.unusedSimpArgs false

/-- what is left of a budget, or nothing. -/
def Left (L n : Nat) (e : Ending) : Prop := e = .returned (.int .i64 (-1)) ∨ ∃ z : Nat, e = .returned (.int .i64 z) ∧ z + n = L

set_option maxRecDepth 100000 in
set_option maxHeartbeats 1000000 in
theorem szI_left (ao : Option Addr) (n cap L : Nat) (w : World) (hL : L ≤ 1048576) (hn : n ≤ 9223372036854775807) :
    Calls Try.prog 77 #[.slice ao n cap, .int .i64 L] w fun e w' => Left L n e ∧ w' = w := by
  by_cases h : L < n
  · have hd : decide ((L : Int) - (n : Int) < 0) = true := by simp; omega
    go_enter Try.func77, Try.ntmps77
    go_wp2
    go_ret
    exact ⟨.inl rfl, rfl⟩
  · have hd : decide ((L : Int) - (n : Int) < 0) = false := by simp; omega
    go_enter Try.func77, Try.ntmps77
    go_wp2
    go_ret
    exact ⟨.inr ⟨L - n, by rw [show ((L - n : Nat) : Int) = (L : Int) - (n : Int) by omega]; rfl, by omega⟩, rfl⟩

set_option maxRecDepth 100000 in
set_option maxHeartbeats 1000000 in
theorem szRing_left (i : Int) (ao : Option Addr) (n cap L : Nat) (w : World) (hL : L ≤ 1048576) (hn : n ≤ 9223372036854775807) :
    Calls Try.prog 27 #[.agg #[.int .i64 i, .slice ao n cap], .int .i64 L] w fun e w' => Left L n e ∧ Below w.heap.size w w' := by
  go_enter Try.func27, Try.ntmps27
  go_wp2_with fail
  refine (szI_left ao n cap L _ hL hn).mono ?_
  rintro e w1 ⟨hl, rfl⟩
  rcases hl with rfl | ⟨z, rfl, hz⟩
  · go_wp2_with fail
    go_ret
    exact ⟨.inl rfl, (Below.refl _ _).alloc (Nat.le_refl _) _⟩
  · have HZ : Hid (z + n = L) := hz
    have hd : decide ((z : Int) < 0) = false := by simp
    clear hz
    go_wp2_with fail
    go_ret
    exact ⟨.inr ⟨z, rfl, HZ.out⟩, (Below.refl _ _).alloc (Nat.le_refl _) _⟩

set_option maxRecDepth 100000 in
set_option maxHeartbeats 1000000 in
theorem szTok_left (c r q a b : Int) (ao : Option Addr) (n cap L : Nat) (w : World) (hL : L ≤ 1048576) (hn : n ≤ 9223372036854775807) :
    Calls Try.prog 96 #[.agg #[.int .i64 c, .int .i64 r, .int .i64 q, .int .i64 a, .int .i64 b, .slice ao n cap], .int .i64 L] w fun e w' => Left L n e ∧ Below w.heap.size w w' := by
  go_enter Try.func96, Try.ntmps96
  go_wp2_with fail
  refine (szI_left ao n cap L _ hL hn).mono ?_
  rintro e w1 ⟨hl, rfl⟩
  rcases hl with rfl | ⟨z, rfl, hz⟩
  · go_wp2_with fail
    go_ret
    exact ⟨.inl rfl, (Below.refl _ _).alloc (Nat.le_refl _) _⟩
  · have HZ : Hid (z + n = L) := hz
    have hd : decide ((z : Int) < 0) = false := by simp
    clear hz
    go_wp2_with fail
    go_ret
    exact ⟨.inr ⟨z, rfl, HZ.out⟩, (Below.refl _ _).alloc (Nat.le_refl _) _⟩
theorem RI.len {w : World} {s : Sv} {xs : List Int} (h : RI w s.v xs) : s.n = xs.length := by
  obtain ⟨ao, cap, h1, _⟩ := h; unfold Sv.v at h1; simp at h1; exact h1.2.1
theorem RT.len {w : World} {s : Sv} {xs : List ByteArray} (h : RT w s.v xs) : s.n = xs.length := by
  obtain ⟨ao, cap, h1, _⟩ := h; unfold Sv.v at h1; simp at h1; exact h1.2.1
theorem RIt.len {w : World} {s : Sv} {xs : List It} (h : RIt w s.v xs) : s.n = xs.length := by
  obtain ⟨ao, cap, h1, _⟩ := h; unfold Sv.v at h1; simp at h1; exact h1.2.1
theorem szIt_r (s : Sv) (ts : List It) (L : Nat) (w : World) (h : Hid (RIt w s.v ts)) (hL : L ≤ 1048576) (hl : ts.length ≤ 9223372036854775807) (hs : Hid (∀ x ∈ ts, x.2.2.2.size ≤ 9223372036854775807)) :
    Calls Try.prog 94 #[.slice s.a s.n s.c, .int .i64 L] w fun e w' => (e = .returned (.int .i64 (-1)) ∨ (∃ z : Nat, e = .returned (.int .i64 z) ∧ z + ts.length ≤ L ∧ ∀ x ∈ ts, x.2.2.2.size ≤ 1048576)) ∧ Below w.heap.size w w' := by
  obtain ⟨ao, cap, h1, h2⟩ := h.out; unfold Sv.v at h1; rw [h1]; exact szItems_left L hL ao cap ts w h2 hl hs
theorem szT_r (s : Sv) (ts : List ByteArray) (L : Nat) (w : World) (h : Hid (RT w s.v ts)) (hL : L ≤ 1048576) (hl : ts.length ≤ 9223372036854775807) (hs : Hid (∀ x ∈ ts, x.size ≤ 9223372036854775807)) :
    Calls Try.prog 95 #[.slice s.a s.n s.c, .int .i64 L] w fun e w' => (e = .returned (.int .i64 (-1)) ∨ ∃ r : Nat, e = .returned (.int .i64 r) ∧ Hid (r + ts.length ≤ L ∧ ∀ t ∈ ts, t.size ≤ 1048576)) ∧ w' = w := by
  obtain ⟨ao, cap, h1, h2⟩ := h.out; unfold Sv.v at h1; rw [h1]; exact szS_any w ao cap L ts h2 (by unfold maxLen; omega) (fun t ht => by have := hs.out t ht; unfold maxLen; omega) hL

/-- a member's lists are no longer than can be. -/
structure MtL (m : Mt) : Prop where
  ms : m.ms.length ≤ 9223372036854775807
  its : m.its.length ≤ 9223372036854775807
  lv : m.lv.length ≤ 9223372036854775807
  tx : m.tx.length ≤ 9223372036854775807
  ws : m.la.ws.length ≤ 9223372036854775807
  it : ∀ x ∈ m.its, x.2.2.2.size ≤ 9223372036854775807
  te : ∀ x ∈ m.tx, x.size ≤ 9223372036854775807
/-- what is left when a member has been measured. -/
def LeftM (m : Mt) (e : Ending) : Prop := e = .returned (.int .i64 (-1)) ∨ ∃ z : Nat, e = .returned (.int .i64 z) ∧ MtS m ∧ z ≤ 1048576

set_option maxRecDepth 100000 in
set_option maxHeartbeats 2000000 in
theorem szMate_any (m : Mt) (v : Mv) (w : World) (h : Hid (MtR w m v)) (hl : Hid (MtL m)) :
    Calls Try.prog 35 #[.agg #[.int .i64 m.id, .int .i64 m.rid, .slice v.ms.a v.ms.n v.ms.c, .slice v.its.a v.its.n v.its.c, .slice v.lv.a v.lv.n v.lv.c, .slice v.tx.a v.tx.n v.tx.c, .int .i64 m.rd, .int .i64 m.se, .int .i64 m.li, .int .i64 m.he, .int .i64 m.la.c, .int .i64 m.la.r, .int .i64 m.la.q, .int .i64 m.la.a, .int .i64 m.la.b, .slice v.ws.a v.ws.n v.ws.c], .int .i64 1048576] w fun e w' => LeftM m e ∧ Below w.heap.size w w' := by
  have HB : Hid (MtB (w.alloc (.cells #[.int .i64 m.id, .int .i64 m.rid, .slice v.ms.a v.ms.n v.ms.c, .slice v.its.a v.its.n v.its.c, .slice v.lv.a v.lv.n v.lv.c, .slice v.tx.a v.tx.n v.tx.c, .int .i64 m.rd, .int .i64 m.se, .int .i64 m.li, .int .i64 m.he, .int .i64 m.la.c, .int .i64 m.la.r, .int .i64 m.la.q, .int .i64 m.la.a, .int .i64 m.la.b, .slice v.ws.a v.ws.n v.ws.c] 67)) w.heap.size 67 m v) := Bx.new w 67 _
  have HL : Hid (Below w.heap.size w (w.alloc (.cells #[.int .i64 m.id, .int .i64 m.rid, .slice v.ms.a v.ms.n v.ms.c, .slice v.its.a v.its.n v.its.c, .slice v.lv.a v.lv.n v.lv.c, .slice v.tx.a v.tx.n v.tx.c, .int .i64 m.rd, .int .i64 m.se, .int .i64 m.li, .int .i64 m.he, .int .i64 m.la.c, .int .i64 m.la.r, .int .i64 m.la.q, .int .i64 m.la.a, .int .i64 m.la.b, .slice v.ws.a v.ws.n v.ws.c] 67))) := (Below.refl _ _).alloc (Nat.le_refl _) _
  have HR : Hid (MtR (w.alloc (.cells #[.int .i64 m.id, .int .i64 m.rid, .slice v.ms.a v.ms.n v.ms.c, .slice v.its.a v.its.n v.its.c, .slice v.lv.a v.lv.n v.lv.c, .slice v.tx.a v.tx.n v.tx.c, .int .i64 m.rd, .int .i64 m.se, .int .i64 m.li, .int .i64 m.he, .int .i64 m.la.c, .int .i64 m.la.r, .int .i64 m.la.q, .int .i64 m.la.a, .int .i64 m.la.b, .slice v.ws.a v.ws.n v.ws.c] 67)) m v) := h.out.stays HL.out
  have LEN : Hid (v.ms.n = m.ms.length ∧ v.lv.n = m.lv.length ∧ v.ws.n = m.la.ws.length) := ⟨RI.len h.out.ms, RI.len h.out.lv, RI.len h.out.ws⟩
  clear h
  go_enter Try.func35, Try.ntmps35
  go_wp2_with fail
  generalize w.alloc (.cells #[.int .i64 m.id, .int .i64 m.rid, .slice v.ms.a v.ms.n v.ms.c, .slice v.its.a v.its.n v.its.c, .slice v.lv.a v.lv.n v.lv.c, .slice v.tx.a v.tx.n v.tx.c, .int .i64 m.rd, .int .i64 m.se, .int .i64 m.li, .int .i64 m.he, .int .i64 m.la.c, .int .i64 m.la.r, .int .i64 m.la.q, .int .i64 m.la.a, .int .i64 m.la.b, .slice v.ws.a v.ws.n v.ws.c] 67) = W at *
  refine (szRing_left m.rid v.ms.a v.ms.n v.ms.c 1048576 _ (by omega) (by have := LEN.out.1; have := hl.out.ms; omega)).mono ?_
  rintro e w1 ⟨hl1, b1⟩
  have HB : Hid (MtB w1 w.heap.size 67 m v) := Bx.later HB.out b1
  have HR : Hid (MtR w1 m v) := HR.out.stays b1
  have HL : Hid (Below w.heap.size w w1) := bl_next HL.out b1
  clear b1
  rcases hl1 with rfl | ⟨z1, rfl, hz1⟩
  · go_wp2_with fail
    go_ret
    exact ⟨.inl rfl, HL.out⟩
  have E1 : Hid _ := hz1
  have k1 : z1 ≤ 1048576 := by omega
  have hd1 : decide ((z1 : Int) < 0) = false := by simp
  clear hz1
  obtain ⟨⟨c0, c1, c2, c3, c4, c5⟩, ⟨c6, c7, c8, c9⟩, c10, c11, c12, c13, c14, c15⟩ := HB.out.cells
  go_wp2_with fail
  clear hd1 c0 c1 c2 c3 c4 c5 c6 c7 c8 c9 c10 c11 c12 c13 c14 c15
  refine (szIt_r v.its m.its z1 _ (show Hid (RIt w1 v.its.v m.its) from (HR.out).its) (by omega) hl.out.its hl.out.it).mono ?_
  rintro e w2 ⟨hl2, b2⟩
  have HB : Hid (MtB w2 w.heap.size 67 m v) := Bx.later HB.out b2
  have HR : Hid (MtR w2 m v) := HR.out.stays b2
  have HL : Hid (Below w.heap.size w w2) := bl_next HL.out b2
  clear b2
  rcases hl2 with rfl | ⟨z2, rfl, hz2⟩
  · go_wp2_with fail
    go_ret
    exact ⟨.inl rfl, HL.out⟩
  have E2 : Hid _ := hz2
  have k2 : z2 ≤ 1048576 := by have := hz2.1; omega
  have hd2 : decide ((z2 : Int) < 0) = false := by simp
  clear hz2
  obtain ⟨⟨c0, c1, c2, c3, c4, c5⟩, ⟨c6, c7, c8, c9⟩, c10, c11, c12, c13, c14, c15⟩ := HB.out.cells
  go_wp2_with fail
  clear hd2 c0 c1 c2 c3 c4 c5 c6 c7 c8 c9 c10 c11 c12 c13 c14 c15
  refine (szI_left v.lv.a v.lv.n v.lv.c z2 _ (by omega) (by have := LEN.out.2.1; have := hl.out.lv; omega)).mono ?_
  rintro e w3 ⟨hl3, hq3⟩
  have b3 : Below w2.heap.size w2 w3 := same_below hq3
  clear hq3
  have HB : Hid (MtB w3 w.heap.size 67 m v) := Bx.later HB.out b3
  have HR : Hid (MtR w3 m v) := HR.out.stays b3
  have HL : Hid (Below w.heap.size w w3) := bl_next HL.out b3
  clear b3
  rcases hl3 with rfl | ⟨z3, rfl, hz3⟩
  · go_wp2_with fail
    go_ret
    exact ⟨.inl rfl, HL.out⟩
  have E3 : Hid _ := hz3
  have k3 : z3 ≤ 1048576 := by omega
  have hd3 : decide ((z3 : Int) < 0) = false := by simp
  clear hz3
  obtain ⟨⟨c0, c1, c2, c3, c4, c5⟩, ⟨c6, c7, c8, c9⟩, c10, c11, c12, c13, c14, c15⟩ := HB.out.cells
  go_wp2_with fail
  clear hd3 c0 c1 c2 c3 c4 c5 c6 c7 c8 c9 c10 c11 c12 c13 c14 c15
  refine (szT_r v.tx m.tx z3 _ (show Hid (RT w3 v.tx.v m.tx) from (HR.out).tx) (by omega) hl.out.tx hl.out.te).mono ?_
  rintro e w4 ⟨hl4, hq4⟩
  have b4 : Below w3.heap.size w3 w4 := same_below hq4
  clear hq4
  have HB : Hid (MtB w4 w.heap.size 67 m v) := Bx.later HB.out b4
  have HR : Hid (MtR w4 m v) := HR.out.stays b4
  have HL : Hid (Below w.heap.size w w4) := bl_next HL.out b4
  clear b4
  rcases hl4 with rfl | ⟨z4, rfl, hz4⟩
  · go_wp2_with fail
    go_ret
    exact ⟨.inl rfl, HL.out⟩
  have E4 : Hid _ := hz4
  have k4 : z4 ≤ 1048576 := by have := hz4.out.1; omega
  have hd4 : decide ((z4 : Int) < 0) = false := by simp
  clear hz4
  obtain ⟨⟨c0, c1, c2, c3, c4, c5⟩, ⟨c6, c7, c8, c9⟩, c10, c11, c12, c13, c14, c15⟩ := HB.out.cells
  go_wp2_with fail
  clear hd4 c0 c1 c2 c3 c4 c5 c6 c7 c8 c9 c10 c11 c12 c13 c14 c15
  refine (szTok_left m.la.c m.la.r m.la.q m.la.a m.la.b v.ws.a v.ws.n v.ws.c z4 _ (by omega) (by have := LEN.out.2.2; have := hl.out.ws; omega)).mono ?_
  rintro e w5 ⟨hl5, b5⟩
  have HB : Hid (MtB w5 w.heap.size 67 m v) := Bx.later HB.out b5
  have HR : Hid (MtR w5 m v) := HR.out.stays b5
  have HL : Hid (Below w.heap.size w w5) := bl_next HL.out b5
  clear b5
  rcases hl5 with rfl | ⟨z5, rfl, hz5⟩
  · go_wp2_with fail
    go_ret
    exact ⟨.inl rfl, HL.out⟩
  have E5 : Hid _ := hz5
  have k5 : z5 ≤ 1048576 := by omega
  have hd5 : decide ((z5 : Int) < 0) = false := by simp
  clear hz5
  obtain ⟨⟨c0, c1, c2, c3, c4, c5⟩, ⟨c6, c7, c8, c9⟩, c10, c11, c12, c13, c14, c15⟩ := HB.out.cells
  go_wp2_with fail
  go_ret
  obtain ⟨q1, q3, q5⟩ := LEN.out
  have e1 := E1.out
  have e2 := E2.out
  have e3 := E3.out
  have e4 := E4.out
  have e5 := E5.out
  exact ⟨.inr ⟨z5, rfl, ⟨by omega, by omega, by omega, by omega, by omega, e2.2, e4.2, by omega⟩, by omega⟩, HL.out⟩
end Go.Proofs.Ytpbhcbgohgfkcaa

/- Members copied: the walk over the specification's l10Copy. Written by gen_cp.py. -/
namespace Go.Proofs.Ytpbhcbgohgfkcaa
open Go.RowKit Pl
set_option linter.unusedVariables false
set_option linter.unusedSimpArgs false

/-- a member's lists lie there, whoever made them. -/
structure MtP (w : World) (m : Mt) (v : Mv) : Prop where
  ms : OwnI w 0 v.ms.v m.ms
  its : SlI w 0 v.its.v m.its
  lv : OwnI w 0 v.lv.v m.lv
  tx : OwnS w 0 v.tx.v m.tx
  ws : OwnI w 0 v.ws.v m.la.ws
theorem MtO.p {w : World} {B : Nat} {m : Mt} {v : Mv} (h : MtO w B m v) : MtP w m v := ⟨h.ms.down (Nat.zero_le _), h.its.down (Nat.zero_le _), h.lv.down (Nat.zero_le _), h.tx.down (Nat.zero_le _), h.ws.down (Nat.zero_le _)⟩
theorem MtP.r {w : World} {m : Mt} {v : Mv} (h : MtP w m v) : MtR w m v := ⟨h.ms.ri, h.its.rit, h.lv.ri, h.tx.rt, h.ws.ri⟩
theorem MtP.keep {w w' : World} {m : Mt} {v : Mv} (h : MtP w m v) (hk : ∀ k, v.own k → k < w.heap.size → w'.heap[k]? = w.heap[k]?) : MtP w' m v :=
  ⟨h.ms.keep fun k a b => hk k (.inl a) b, h.its.keep fun k a b => hk k (.inr (.inl a)) b, h.lv.keep fun k a b => hk k (.inr (.inr (.inl a))) b, h.tx.keep' fun k a b => hk k (.inr (.inr (.inr (.inl a)))) b, h.ws.keep fun k a b => hk k (.inr (.inr (.inr (.inr a)))) b⟩
theorem MtP.later {w w' : World} {m : Mt} {v : Mv} (h : MtP w m v) (hb : Below w.heap.size w w') : MtP w' m v := h.keep fun k _ hk => hb.block k hk
theorem Pl.OwnI.sv {w : World} {B : Nat} {v : Value} {xs : List Int} (h : OwnI w B v xs) : ∃ s : Sv, v = .slice s.a s.n s.c := by obtain ⟨a, c, h1⟩ := h.form; exact ⟨⟨a, xs.length, c⟩, h1⟩
theorem Pl.OwnS.sv {w : World} {B : Nat} {v : Value} {xs : List ByteArray} (h : OwnS w B v xs) : ∃ s : Sv, v = .slice s.a s.n s.c := by obtain ⟨a, c, h1⟩ := h.form; exact ⟨⟨a, xs.length, c⟩, h1⟩
theorem SlI.sv {w : World} {B : Nat} {v : Value} {xs : List It} (h : SlI w B v xs) : ∃ s : Sv, v = .slice s.a s.n s.c := by obtain ⟨a, c, h1⟩ := Sl.form h; exact ⟨⟨a, xs.length, c⟩, h1⟩
theorem spCopyTok_s (c r q a b : Int) (s : Sv) (ws : List Int) (w : World) (h : Hid (OwnI w 0 s.v ws)) (hl : ws.length ≤ 1048576) :
    Calls Try.prog 113 #[.agg #[.int .i64 c, .int .i64 r, .int .i64 q, .int .i64 a, .int .i64 b, .slice s.a s.n s.c]] w fun e w' => ∃ u : Sv, e = .returned (.agg #[.int .i64 c, .int .i64 r, .int .i64 q, .int .i64 a, .int .i64 b, .slice u.a u.n u.c]) ∧ OwnI w' w.heap.size u.v ws ∧ Below w.heap.size w w' :=
  (spCopyTok c r q a b s.v ws 0 w h hl).mono fun e w' ⟨v, x, y, z⟩ => by obtain ⟨u, rfl⟩ := y.sv; exact ⟨u, x, y, z⟩
theorem copyTok_s (c r q a b : Int) (s : Sv) (ws : List Int) (w : World) (h : Hid (OwnI w 0 s.v ws)) (hl : ws.length ≤ 1048576) :
    Calls Try.prog 72 #[.agg #[.int .i64 c, .int .i64 r, .int .i64 q, .int .i64 a, .int .i64 b, .slice s.a s.n s.c]] w fun e w' => ∃ u : Sv, e = .returned (.agg #[.int .i64 c, .int .i64 r, .int .i64 q, .int .i64 a, .int .i64 b, .slice u.a u.n u.c]) ∧ OwnI w' w.heap.size u.v ws ∧ Below w.heap.size w w' :=
  (copyTok c r q a b s.v ws 0 w h hl).mono fun e w' ⟨v, x, y, z⟩ => by obtain ⟨u, rfl⟩ := y.sv; exact ⟨u, x, y, z⟩

set_option maxRecDepth 100000 in
set_option maxHeartbeats 4000000 in
theorem tenCopy_any (m : Mt) (v : Mv) (w : World) (h : Hid (MtP w m v)) (hs : Hid (MtS m)) :
    Calls Try.prog 50 #[.agg #[.int .i64 m.id, .int .i64 m.rid, .slice v.ms.a v.ms.n v.ms.c, .slice v.its.a v.its.n v.its.c, .slice v.lv.a v.lv.n v.lv.c, .slice v.tx.a v.tx.n v.tx.c, .int .i64 m.rd, .int .i64 m.se, .int .i64 m.li, .int .i64 m.he, .int .i64 m.la.c, .int .i64 m.la.r, .int .i64 m.la.q, .int .i64 m.la.a, .int .i64 m.la.b, .slice v.ws.a v.ws.n v.ws.c]] w fun e w' => ∃ u : Mv, e = .returned (.agg #[.int .i64 m.id, .int .i64 m.rid, .slice u.ms.a u.ms.n u.ms.c, .slice u.its.a u.its.n u.its.c, .slice u.lv.a u.lv.n u.lv.c, .slice u.tx.a u.tx.n u.tx.c, .int .i64 m.rd, .int .i64 m.se, .int .i64 m.li, .int .i64 m.he, .int .i64 m.la.c, .int .i64 m.la.r, .int .i64 m.la.q, .int .i64 m.la.a, .int .i64 m.la.b, .slice u.ws.a u.ws.n u.ws.c]) ∧ MtO w' w.heap.size m u ∧ Below w.heap.size w w' := by
  have hn1 : (w.alloc (.cells #[.int .i64 m.id, .int .i64 m.rid, .slice v.ms.a v.ms.n v.ms.c, .slice v.its.a v.its.n v.its.c, .slice v.lv.a v.lv.n v.lv.c, .slice v.tx.a v.tx.n v.tx.c, .int .i64 m.rd, .int .i64 m.se, .int .i64 m.li, .int .i64 m.he, .int .i64 m.la.c, .int .i64 m.la.r, .int .i64 m.la.q, .int .i64 m.la.a, .int .i64 m.la.b, .slice v.ws.a v.ws.n v.ws.c] 32)).heap.size = w.heap.size + 1 := by simp
  have HA : Hid (MtB ((w.alloc (.cells #[.int .i64 m.id, .int .i64 m.rid, .slice v.ms.a v.ms.n v.ms.c, .slice v.its.a v.its.n v.its.c, .slice v.lv.a v.lv.n v.lv.c, .slice v.tx.a v.tx.n v.tx.c, .int .i64 m.rd, .int .i64 m.se, .int .i64 m.li, .int .i64 m.he, .int .i64 m.la.c, .int .i64 m.la.r, .int .i64 m.la.q, .int .i64 m.la.a, .int .i64 m.la.b, .slice v.ws.a v.ws.n v.ws.c] 32)).alloc (.cells #[.int .i64 0, .int .i64 0, .slice none 0 0, .slice none 0 0, .slice none 0 0, .slice none 0 0, .int .i64 0, .int .i64 0, .int .i64 0, .int .i64 0, .int .i64 0, .int .i64 0, .int .i64 0, .int .i64 0, .int .i64 0, .slice none 0 0] 32)) w.heap.size 32 m v) := by
    have h := Bx.new w 32 [.int .i64 m.id, .int .i64 m.rid, .slice v.ms.a v.ms.n v.ms.c, .slice v.its.a v.its.n v.its.c, .slice v.lv.a v.lv.n v.lv.c, .slice v.tx.a v.tx.n v.tx.c, .int .i64 m.rd, .int .i64 m.se, .int .i64 m.li, .int .i64 m.he, .int .i64 m.la.c, .int .i64 m.la.r, .int .i64 m.la.q, .int .i64 m.la.a, .int .i64 m.la.b, .slice v.ws.a v.ws.n v.ws.c]
    exact h.stays (B := w.heap.size + 1) ((Below.refl _ _).alloc (by rw [hn1]; exact Nat.le_refl _) _) (by omega)
  have HR : Hid (Bx ((w.alloc (.cells #[.int .i64 m.id, .int .i64 m.rid, .slice v.ms.a v.ms.n v.ms.c, .slice v.its.a v.its.n v.its.c, .slice v.lv.a v.lv.n v.lv.c, .slice v.tx.a v.tx.n v.tx.c, .int .i64 m.rd, .int .i64 m.se, .int .i64 m.li, .int .i64 m.he, .int .i64 m.la.c, .int .i64 m.la.r, .int .i64 m.la.q, .int .i64 m.la.a, .int .i64 m.la.b, .slice v.ws.a v.ws.n v.ws.c] 32)).alloc (.cells #[.int .i64 0, .int .i64 0, .slice none 0 0, .slice none 0 0, .slice none 0 0, .slice none 0 0, .int .i64 0, .int .i64 0, .int .i64 0, .int .i64 0, .int .i64 0, .int .i64 0, .int .i64 0, .int .i64 0, .int .i64 0, .slice none 0 0] 32)) (w.heap.size + 1) 32 [.int .i64 0, .int .i64 0, .slice none 0 0, .slice none 0 0, .slice none 0 0, .slice none 0 0, .int .i64 0, .int .i64 0, .int .i64 0, .int .i64 0, .int .i64 0, .int .i64 0, .int .i64 0, .int .i64 0, .int .i64 0, .slice none 0 0]) := by
    have h := Bx.new (w.alloc (.cells #[.int .i64 m.id, .int .i64 m.rid, .slice v.ms.a v.ms.n v.ms.c, .slice v.its.a v.its.n v.its.c, .slice v.lv.a v.lv.n v.lv.c, .slice v.tx.a v.tx.n v.tx.c, .int .i64 m.rd, .int .i64 m.se, .int .i64 m.li, .int .i64 m.he, .int .i64 m.la.c, .int .i64 m.la.r, .int .i64 m.la.q, .int .i64 m.la.a, .int .i64 m.la.b, .slice v.ws.a v.ws.n v.ws.c] 32)) 32 [.int .i64 0, .int .i64 0, .slice none 0 0, .slice none 0 0, .slice none 0 0, .slice none 0 0, .int .i64 0, .int .i64 0, .int .i64 0, .int .i64 0, .int .i64 0, .int .i64 0, .int .i64 0, .int .i64 0, .int .i64 0, .slice none 0 0]
    rw [hn1] at h
    exact h
  have HB : Hid (Below w.heap.size w ((w.alloc (.cells #[.int .i64 m.id, .int .i64 m.rid, .slice v.ms.a v.ms.n v.ms.c, .slice v.its.a v.its.n v.its.c, .slice v.lv.a v.lv.n v.lv.c, .slice v.tx.a v.tx.n v.tx.c, .int .i64 m.rd, .int .i64 m.se, .int .i64 m.li, .int .i64 m.he, .int .i64 m.la.c, .int .i64 m.la.r, .int .i64 m.la.q, .int .i64 m.la.a, .int .i64 m.la.b, .slice v.ws.a v.ws.n v.ws.c] 32)).alloc (.cells #[.int .i64 0, .int .i64 0, .slice none 0 0, .slice none 0 0, .slice none 0 0, .slice none 0 0, .int .i64 0, .int .i64 0, .int .i64 0, .int .i64 0, .int .i64 0, .int .i64 0, .int .i64 0, .int .i64 0, .int .i64 0, .slice none 0 0] 32))) := ((Below.refl _ _).alloc (Nat.le_refl _) _).alloc (by simp) _
  clear hn1
  go_enter Try.func50, Try.ntmps50
  go_wp2_with (first | (refine wpList_haltB _ _ _ rfl ?_))
  generalize (w.alloc (.cells #[.int .i64 m.id, .int .i64 m.rid, .slice v.ms.a v.ms.n v.ms.c, .slice v.its.a v.its.n v.its.c, .slice v.lv.a v.lv.n v.lv.c, .slice v.tx.a v.tx.n v.tx.c, .int .i64 m.rd, .int .i64 m.se, .int .i64 m.li, .int .i64 m.he, .int .i64 m.la.c, .int .i64 m.la.r, .int .i64 m.la.q, .int .i64 m.la.a, .int .i64 m.la.b, .slice v.ws.a v.ws.n v.ws.c] 32)).alloc (.cells #[.int .i64 0, .int .i64 0, .slice none 0 0, .slice none 0 0, .slice none 0 0, .slice none 0 0, .int .i64 0, .int .i64 0, .int .i64 0, .int .i64 0, .int .i64 0, .int .i64 0, .int .i64 0, .int .i64 0, .int .i64 0, .slice none 0 0] 32) = W at *
  refine Stp.go ?_
  have zB1 : w.heap.size ≤ W.heap.size := HB.out.size
  have HA2 : Hid (Bx (W.alloc (.cells #[] 3)) w.heap.size 32 [.int .i64 m.id, .int .i64 m.rid, .slice v.ms.a v.ms.n v.ms.c, .slice v.its.a v.its.n v.its.c, .slice v.lv.a v.lv.n v.lv.c, .slice v.tx.a v.tx.n v.tx.c, .int .i64 m.rd, .int .i64 m.se, .int .i64 m.li, .int .i64 m.he, .int .i64 m.la.c, .int .i64 m.la.r, .int .i64 m.la.q, .int .i64 m.la.a, .int .i64 m.la.b, .slice v.ws.a v.ws.n v.ws.c]) := HA.out.later ((Below.refl _ _).alloc (Nat.le_refl _) _)
  have SR : Hid (RI (W.alloc (.cells #[] 3)) (.slice v.ms.a v.ms.n v.ms.c) m.ms) := (h.out.ms.ri).stays (HB.out.trans (((Below.refl _ _).alloc (Nat.le_refl _) _).mono zB1))
  have OW : Hid (OwnI (W.alloc (.cells #[] 3)) W.heap.size (.slice (some ⟨W.heap.size, 0, none⟩) 0 0) []) := OwnI.made W W.heap.size (Nat.le_refl _)
  go_wp2_with (first | (refine wpList_ld1 rfl 24 _ rfl w.heap.size 2 rfl 32 _ HA2.out (.slice v.ms.a v.ms.n v.ms.c) rfl _ Try.underlying24 rfl ?_) | (at_builtin; refine wpList_catR rfl _ _ 24 rfl Try.underlying24 Try.info3' W.heap.size (.slice (some ⟨W.heap.size, 0, none⟩) 0 0) [] rfl OW.out (.slice v.ms.a v.ms.n v.ms.c) m.ms rfl SR.out (by have := hs.out.ms; simp; omega) (Nat.le_of_lt (by simp)) (fun h => by cases h) ?_; intro v1 w1 ho hg; have Xms : Hid (OwnI w1 W.heap.size v1 m.ms) := ho; have G1 : Hid ((W.alloc (.cells #[] 3)).grownBy w1 (some W.heap.size)) := hg; clear ho hg; refine Stp.here ?_))
  refine Stp.go ?_
  obtain ⟨ums, hf1⟩ := Xms.out.sv
  subst hf1
  have K1a : Hid (KeepBut w.heap.size W w1) := keepBut_grown G1.out
  have HA : Hid (Bx w1 w.heap.size 32 [.int .i64 m.id, .int .i64 m.rid, .slice v.ms.a v.ms.n v.ms.c, .slice v.its.a v.its.n v.its.c, .slice v.lv.a v.lv.n v.lv.c, .slice v.tx.a v.tx.n v.tx.c, .int .i64 m.rd, .int .i64 m.se, .int .i64 m.li, .int .i64 m.he, .int .i64 m.la.c, .int .i64 m.la.r, .int .i64 m.la.q, .int .i64 m.la.a, .int .i64 m.la.b, .slice v.ws.a v.ws.n v.ws.c]) := HA.out.afterGrown G1.out
  have HR : Hid (Bx w1 (w.heap.size + 1) 32 [.int .i64 0, .int .i64 0, .slice none 0 0, .slice none 0 0, .slice none 0 0, .slice none 0 0, .int .i64 0, .int .i64 0, .int .i64 0, .int .i64 0, .int .i64 0, .int .i64 0, .int .i64 0, .int .i64 0, .int .i64 0, .slice none 0 0]) := HR.out.afterGrown G1.out
  have HB : Hid (Below w.heap.size w w1) := below_grown HB.out HB.out.size G1.out
  clear HA2 SR OW G1
  go_wp2_with (first | (refine wpList_st1 rfl 24 _ _ rfl w.heap.size 2 rfl 32 _ HA.out (.slice ums.a ums.n ums.c) rfl (by simp) rfl Try.sizeNs [.int .i64 m.id, .int .i64 m.rid, .slice ums.a ums.n ums.c, .slice v.its.a v.its.n v.its.c, .slice v.lv.a v.lv.n v.lv.c, .slice v.tx.a v.tx.n v.tx.c, .int .i64 m.rd, .int .i64 m.se, .int .i64 m.li, .int .i64 m.he, .int .i64 m.la.c, .int .i64 m.la.r, .int .i64 m.la.q, .int .i64 m.la.a, .int .i64 m.la.b, .slice v.ws.a v.ws.n v.ws.c] rfl ?_; intro s1 OB TB; refine Stp.here ?_))
  refine Stp.go ?_
  have BX1 : Hid (Bx w1 w.heap.size 32 [.int .i64 m.id, .int .i64 m.rid, .slice v.ms.a v.ms.n v.ms.c, .slice v.its.a v.its.n v.its.c, .slice v.lv.a v.lv.n v.lv.c, .slice v.tx.a v.tx.n v.tx.c, .int .i64 m.rd, .int .i64 m.se, .int .i64 m.li, .int .i64 m.he, .int .i64 m.la.c, .int .i64 m.la.r, .int .i64 m.la.q, .int .i64 m.la.a, .int .i64 m.la.b, .slice v.ws.a v.ws.n v.ws.c]) := HA.out
  have K1b : Hid (KeepBut w.heap.size w1 s1) := TB.keep
  have HR : Hid (Bx s1 (w.heap.size + 1) 32 [.int .i64 0, .int .i64 0, .slice none 0 0, .slice none 0 0, .slice none 0 0, .slice none 0 0, .int .i64 0, .int .i64 0, .int .i64 0, .int .i64 0, .int .i64 0, .int .i64 0, .int .i64 0, .int .i64 0, .int .i64 0, .slice none 0 0]) := HR.out.turn TB (by omega)
  have HB : Hid (Below w.heap.size w s1) := HB.out.trans (TB.below (Nat.le_refl _))
  have HA : Hid (Bx s1 w.heap.size 32 [.int .i64 m.id, .int .i64 m.rid, .slice ums.a ums.n ums.c, .slice v.its.a v.its.n v.its.c, .slice v.lv.a v.lv.n v.lv.c, .slice v.tx.a v.tx.n v.tx.c, .int .i64 m.rd, .int .i64 m.se, .int .i64 m.li, .int .i64 m.he, .int .i64 m.la.c, .int .i64 m.la.r, .int .i64 m.la.q, .int .i64 m.la.a, .int .i64 m.la.b, .slice v.ws.a v.ws.n v.ws.c]) := OB
  clear OB TB
  have zB2 : w.heap.size ≤ s1.heap.size := HB.out.size
  have HA2 : Hid (Bx (s1.alloc (.cells #[] 38)) w.heap.size 32 [.int .i64 m.id, .int .i64 m.rid, .slice ums.a ums.n ums.c, .slice v.its.a v.its.n v.its.c, .slice v.lv.a v.lv.n v.lv.c, .slice v.tx.a v.tx.n v.tx.c, .int .i64 m.rd, .int .i64 m.se, .int .i64 m.li, .int .i64 m.he, .int .i64 m.la.c, .int .i64 m.la.r, .int .i64 m.la.q, .int .i64 m.la.a, .int .i64 m.la.b, .slice v.ws.a v.ws.n v.ws.c]) := HA.out.later ((Below.refl _ _).alloc (Nat.le_refl _) _)
  have SR : Hid (RIt (s1.alloc (.cells #[] 38)) (.slice v.its.a v.its.n v.its.c) m.its) := (h.out.its.rit).stays (HB.out.trans (((Below.refl _ _).alloc (Nat.le_refl _) _).mono zB2))
  have OW : Hid (SlI (s1.alloc (.cells #[] 38)) s1.heap.size (.slice (some ⟨s1.heap.size, 0, none⟩) 0 0) []) := SlI.made s1 s1.heap.size (Nat.le_refl _)
  go_wp2_with (first | (refine wpList_ld1 rfl 27 _ rfl w.heap.size 3 rfl 32 _ HA2.out (.slice v.its.a v.its.n v.its.c) rfl _ Try.underlying27 rfl ?_) | (at_builtin; refine wpList_catIt rfl _ _ 27 rfl Try.underlying27 s1.heap.size (.slice (some ⟨s1.heap.size, 0, none⟩) 0 0) [] rfl OW.out (.slice v.its.a v.its.n v.its.c) m.its rfl SR.out (by have := hs.out.its; simp; omega) (Nat.le_of_lt (by simp)) ?_; intro v2 w2 ho hg _; have Xits : Hid (SlI w2 s1.heap.size v2 m.its) := ho; have G2 : Hid ((s1.alloc (.cells #[] 38)).grownBy w2 (some s1.heap.size)) := hg; clear ho hg; refine Stp.here ?_))
  refine Stp.go ?_
  obtain ⟨uits, hf2⟩ := Xits.out.sv
  subst hf2
  have K2a : Hid (KeepBut w.heap.size s1 w2) := keepBut_grown G2.out
  have HA : Hid (Bx w2 w.heap.size 32 [.int .i64 m.id, .int .i64 m.rid, .slice ums.a ums.n ums.c, .slice v.its.a v.its.n v.its.c, .slice v.lv.a v.lv.n v.lv.c, .slice v.tx.a v.tx.n v.tx.c, .int .i64 m.rd, .int .i64 m.se, .int .i64 m.li, .int .i64 m.he, .int .i64 m.la.c, .int .i64 m.la.r, .int .i64 m.la.q, .int .i64 m.la.a, .int .i64 m.la.b, .slice v.ws.a v.ws.n v.ws.c]) := HA.out.afterGrown G2.out
  have HR : Hid (Bx w2 (w.heap.size + 1) 32 [.int .i64 0, .int .i64 0, .slice none 0 0, .slice none 0 0, .slice none 0 0, .slice none 0 0, .int .i64 0, .int .i64 0, .int .i64 0, .int .i64 0, .int .i64 0, .int .i64 0, .int .i64 0, .int .i64 0, .int .i64 0, .slice none 0 0]) := HR.out.afterGrown G2.out
  have HB : Hid (Below w.heap.size w w2) := below_grown HB.out HB.out.size G2.out
  clear HA2 SR OW G2
  go_wp2_with (first | (refine wpList_st1 rfl 27 _ _ rfl w.heap.size 3 rfl 32 _ HA.out (.slice uits.a uits.n uits.c) rfl (by simp) rfl Try.sizeIs [.int .i64 m.id, .int .i64 m.rid, .slice ums.a ums.n ums.c, .slice uits.a uits.n uits.c, .slice v.lv.a v.lv.n v.lv.c, .slice v.tx.a v.tx.n v.tx.c, .int .i64 m.rd, .int .i64 m.se, .int .i64 m.li, .int .i64 m.he, .int .i64 m.la.c, .int .i64 m.la.r, .int .i64 m.la.q, .int .i64 m.la.a, .int .i64 m.la.b, .slice v.ws.a v.ws.n v.ws.c] rfl ?_; intro s2 OB TB; refine Stp.here ?_))
  refine Stp.go ?_
  have BX2 : Hid (Bx w2 w.heap.size 32 [.int .i64 m.id, .int .i64 m.rid, .slice ums.a ums.n ums.c, .slice v.its.a v.its.n v.its.c, .slice v.lv.a v.lv.n v.lv.c, .slice v.tx.a v.tx.n v.tx.c, .int .i64 m.rd, .int .i64 m.se, .int .i64 m.li, .int .i64 m.he, .int .i64 m.la.c, .int .i64 m.la.r, .int .i64 m.la.q, .int .i64 m.la.a, .int .i64 m.la.b, .slice v.ws.a v.ws.n v.ws.c]) := HA.out
  have K2b : Hid (KeepBut w.heap.size w2 s2) := TB.keep
  have HR : Hid (Bx s2 (w.heap.size + 1) 32 [.int .i64 0, .int .i64 0, .slice none 0 0, .slice none 0 0, .slice none 0 0, .slice none 0 0, .int .i64 0, .int .i64 0, .int .i64 0, .int .i64 0, .int .i64 0, .int .i64 0, .int .i64 0, .int .i64 0, .int .i64 0, .slice none 0 0]) := HR.out.turn TB (by omega)
  have HB : Hid (Below w.heap.size w s2) := HB.out.trans (TB.below (Nat.le_refl _))
  have HA : Hid (Bx s2 w.heap.size 32 [.int .i64 m.id, .int .i64 m.rid, .slice ums.a ums.n ums.c, .slice uits.a uits.n uits.c, .slice v.lv.a v.lv.n v.lv.c, .slice v.tx.a v.tx.n v.tx.c, .int .i64 m.rd, .int .i64 m.se, .int .i64 m.li, .int .i64 m.he, .int .i64 m.la.c, .int .i64 m.la.r, .int .i64 m.la.q, .int .i64 m.la.a, .int .i64 m.la.b, .slice v.ws.a v.ws.n v.ws.c]) := OB
  clear OB TB
  have zB3 : w.heap.size ≤ s2.heap.size := HB.out.size
  have HA2 : Hid (Bx (s2.alloc (.cells #[] 3)) w.heap.size 32 [.int .i64 m.id, .int .i64 m.rid, .slice ums.a ums.n ums.c, .slice uits.a uits.n uits.c, .slice v.lv.a v.lv.n v.lv.c, .slice v.tx.a v.tx.n v.tx.c, .int .i64 m.rd, .int .i64 m.se, .int .i64 m.li, .int .i64 m.he, .int .i64 m.la.c, .int .i64 m.la.r, .int .i64 m.la.q, .int .i64 m.la.a, .int .i64 m.la.b, .slice v.ws.a v.ws.n v.ws.c]) := HA.out.later ((Below.refl _ _).alloc (Nat.le_refl _) _)
  have SR : Hid (RI (s2.alloc (.cells #[] 3)) (.slice v.lv.a v.lv.n v.lv.c) m.lv) := (h.out.lv.ri).stays (HB.out.trans (((Below.refl _ _).alloc (Nat.le_refl _) _).mono zB3))
  have OW : Hid (OwnI (s2.alloc (.cells #[] 3)) s2.heap.size (.slice (some ⟨s2.heap.size, 0, none⟩) 0 0) []) := OwnI.made s2 s2.heap.size (Nat.le_refl _)
  go_wp2_with (first | (refine wpList_ld1 rfl 24 _ rfl w.heap.size 4 rfl 32 _ HA2.out (.slice v.lv.a v.lv.n v.lv.c) rfl _ Try.underlying24 rfl ?_) | (at_builtin; refine wpList_catR rfl _ _ 24 rfl Try.underlying24 Try.info3' s2.heap.size (.slice (some ⟨s2.heap.size, 0, none⟩) 0 0) [] rfl OW.out (.slice v.lv.a v.lv.n v.lv.c) m.lv rfl SR.out (by have := hs.out.lv; simp; omega) (Nat.le_of_lt (by simp)) (fun h => by cases h) ?_; intro v3 w3 ho hg; have Xlv : Hid (OwnI w3 s2.heap.size v3 m.lv) := ho; have G3 : Hid ((s2.alloc (.cells #[] 3)).grownBy w3 (some s2.heap.size)) := hg; clear ho hg; refine Stp.here ?_))
  refine Stp.go ?_
  obtain ⟨ulv, hf3⟩ := Xlv.out.sv
  subst hf3
  have K3a : Hid (KeepBut w.heap.size s2 w3) := keepBut_grown G3.out
  have HA : Hid (Bx w3 w.heap.size 32 [.int .i64 m.id, .int .i64 m.rid, .slice ums.a ums.n ums.c, .slice uits.a uits.n uits.c, .slice v.lv.a v.lv.n v.lv.c, .slice v.tx.a v.tx.n v.tx.c, .int .i64 m.rd, .int .i64 m.se, .int .i64 m.li, .int .i64 m.he, .int .i64 m.la.c, .int .i64 m.la.r, .int .i64 m.la.q, .int .i64 m.la.a, .int .i64 m.la.b, .slice v.ws.a v.ws.n v.ws.c]) := HA.out.afterGrown G3.out
  have HR : Hid (Bx w3 (w.heap.size + 1) 32 [.int .i64 0, .int .i64 0, .slice none 0 0, .slice none 0 0, .slice none 0 0, .slice none 0 0, .int .i64 0, .int .i64 0, .int .i64 0, .int .i64 0, .int .i64 0, .int .i64 0, .int .i64 0, .int .i64 0, .int .i64 0, .slice none 0 0]) := HR.out.afterGrown G3.out
  have HB : Hid (Below w.heap.size w w3) := below_grown HB.out HB.out.size G3.out
  clear HA2 SR OW G3
  go_wp2_with (first | (refine wpList_st1 rfl 24 _ _ rfl w.heap.size 4 rfl 32 _ HA.out (.slice ulv.a ulv.n ulv.c) rfl (by simp) rfl Try.sizeNs [.int .i64 m.id, .int .i64 m.rid, .slice ums.a ums.n ums.c, .slice uits.a uits.n uits.c, .slice ulv.a ulv.n ulv.c, .slice v.tx.a v.tx.n v.tx.c, .int .i64 m.rd, .int .i64 m.se, .int .i64 m.li, .int .i64 m.he, .int .i64 m.la.c, .int .i64 m.la.r, .int .i64 m.la.q, .int .i64 m.la.a, .int .i64 m.la.b, .slice v.ws.a v.ws.n v.ws.c] rfl ?_; intro s3 OB TB; refine Stp.here ?_))
  refine Stp.go ?_
  have BX3 : Hid (Bx w3 w.heap.size 32 [.int .i64 m.id, .int .i64 m.rid, .slice ums.a ums.n ums.c, .slice uits.a uits.n uits.c, .slice v.lv.a v.lv.n v.lv.c, .slice v.tx.a v.tx.n v.tx.c, .int .i64 m.rd, .int .i64 m.se, .int .i64 m.li, .int .i64 m.he, .int .i64 m.la.c, .int .i64 m.la.r, .int .i64 m.la.q, .int .i64 m.la.a, .int .i64 m.la.b, .slice v.ws.a v.ws.n v.ws.c]) := HA.out
  have K3b : Hid (KeepBut w.heap.size w3 s3) := TB.keep
  have HR : Hid (Bx s3 (w.heap.size + 1) 32 [.int .i64 0, .int .i64 0, .slice none 0 0, .slice none 0 0, .slice none 0 0, .slice none 0 0, .int .i64 0, .int .i64 0, .int .i64 0, .int .i64 0, .int .i64 0, .int .i64 0, .int .i64 0, .int .i64 0, .int .i64 0, .slice none 0 0]) := HR.out.turn TB (by omega)
  have HB : Hid (Below w.heap.size w s3) := HB.out.trans (TB.below (Nat.le_refl _))
  have HA : Hid (Bx s3 w.heap.size 32 [.int .i64 m.id, .int .i64 m.rid, .slice ums.a ums.n ums.c, .slice uits.a uits.n uits.c, .slice ulv.a ulv.n ulv.c, .slice v.tx.a v.tx.n v.tx.c, .int .i64 m.rd, .int .i64 m.se, .int .i64 m.li, .int .i64 m.he, .int .i64 m.la.c, .int .i64 m.la.r, .int .i64 m.la.q, .int .i64 m.la.a, .int .i64 m.la.b, .slice v.ws.a v.ws.n v.ws.c]) := OB
  clear OB TB
  have zB4 : w.heap.size ≤ s3.heap.size := HB.out.size
  have HA2 : Hid (Bx (s3.alloc (.cells #[] 9)) w.heap.size 32 [.int .i64 m.id, .int .i64 m.rid, .slice ums.a ums.n ums.c, .slice uits.a uits.n uits.c, .slice ulv.a ulv.n ulv.c, .slice v.tx.a v.tx.n v.tx.c, .int .i64 m.rd, .int .i64 m.se, .int .i64 m.li, .int .i64 m.he, .int .i64 m.la.c, .int .i64 m.la.r, .int .i64 m.la.q, .int .i64 m.la.a, .int .i64 m.la.b, .slice v.ws.a v.ws.n v.ws.c]) := HA.out.later ((Below.refl _ _).alloc (Nat.le_refl _) _)
  have SR : Hid (RT (s3.alloc (.cells #[] 9)) (.slice v.tx.a v.tx.n v.tx.c) m.tx) := (h.out.tx.rt).stays (HB.out.trans (((Below.refl _ _).alloc (Nat.le_refl _) _).mono zB4))
  have OW : Hid (OwnS (s3.alloc (.cells #[] 9)) s3.heap.size (.slice (some ⟨s3.heap.size, 0, none⟩) 0 0) []) := OwnS.made s3 s3.heap.size (Nat.le_refl _)
  go_wp2_with (first | (refine wpList_ld1 rfl 28 _ rfl w.heap.size 5 rfl 32 _ HA2.out (.slice v.tx.a v.tx.n v.tx.c) rfl _ Try.underlying28 rfl ?_) | (at_builtin; refine wpList_catT rfl _ _ 28 rfl Try.underlying28 Try.info9 s3.heap.size (.slice (some ⟨s3.heap.size, 0, none⟩) 0 0) [] rfl OW.out (.slice v.tx.a v.tx.n v.tx.c) m.tx rfl SR.out (by have := hs.out.tx; simp; omega) (Nat.le_of_lt (by simp)) (fun h => by cases h) ?_; intro v4 w4 ho hg; have Xtx : Hid (OwnS w4 s3.heap.size v4 m.tx) := ho; have G4 : Hid ((s3.alloc (.cells #[] 9)).grownBy w4 (some s3.heap.size)) := hg; clear ho hg; refine Stp.here ?_))
  refine Stp.go ?_
  obtain ⟨utx, hf4⟩ := Xtx.out.sv
  subst hf4
  have K4a : Hid (KeepBut w.heap.size s3 w4) := keepBut_grown G4.out
  have HA : Hid (Bx w4 w.heap.size 32 [.int .i64 m.id, .int .i64 m.rid, .slice ums.a ums.n ums.c, .slice uits.a uits.n uits.c, .slice ulv.a ulv.n ulv.c, .slice v.tx.a v.tx.n v.tx.c, .int .i64 m.rd, .int .i64 m.se, .int .i64 m.li, .int .i64 m.he, .int .i64 m.la.c, .int .i64 m.la.r, .int .i64 m.la.q, .int .i64 m.la.a, .int .i64 m.la.b, .slice v.ws.a v.ws.n v.ws.c]) := HA.out.afterGrown G4.out
  have HR : Hid (Bx w4 (w.heap.size + 1) 32 [.int .i64 0, .int .i64 0, .slice none 0 0, .slice none 0 0, .slice none 0 0, .slice none 0 0, .int .i64 0, .int .i64 0, .int .i64 0, .int .i64 0, .int .i64 0, .int .i64 0, .int .i64 0, .int .i64 0, .int .i64 0, .slice none 0 0]) := HR.out.afterGrown G4.out
  have HB : Hid (Below w.heap.size w w4) := below_grown HB.out HB.out.size G4.out
  clear HA2 SR OW G4
  go_wp2_with (first | (refine wpList_st1 rfl 28 _ _ rfl w.heap.size 5 rfl 32 _ HA.out (.slice utx.a utx.n utx.c) rfl (by simp) rfl Try.sizeTs [.int .i64 m.id, .int .i64 m.rid, .slice ums.a ums.n ums.c, .slice uits.a uits.n uits.c, .slice ulv.a ulv.n ulv.c, .slice utx.a utx.n utx.c, .int .i64 m.rd, .int .i64 m.se, .int .i64 m.li, .int .i64 m.he, .int .i64 m.la.c, .int .i64 m.la.r, .int .i64 m.la.q, .int .i64 m.la.a, .int .i64 m.la.b, .slice v.ws.a v.ws.n v.ws.c] rfl ?_; intro s4 OB TB; refine Stp.here ?_))
  refine Stp.go ?_
  have BX4 : Hid (Bx w4 w.heap.size 32 [.int .i64 m.id, .int .i64 m.rid, .slice ums.a ums.n ums.c, .slice uits.a uits.n uits.c, .slice ulv.a ulv.n ulv.c, .slice v.tx.a v.tx.n v.tx.c, .int .i64 m.rd, .int .i64 m.se, .int .i64 m.li, .int .i64 m.he, .int .i64 m.la.c, .int .i64 m.la.r, .int .i64 m.la.q, .int .i64 m.la.a, .int .i64 m.la.b, .slice v.ws.a v.ws.n v.ws.c]) := HA.out
  have K4b : Hid (KeepBut w.heap.size w4 s4) := TB.keep
  have HR : Hid (Bx s4 (w.heap.size + 1) 32 [.int .i64 0, .int .i64 0, .slice none 0 0, .slice none 0 0, .slice none 0 0, .slice none 0 0, .int .i64 0, .int .i64 0, .int .i64 0, .int .i64 0, .int .i64 0, .int .i64 0, .int .i64 0, .int .i64 0, .int .i64 0, .slice none 0 0]) := HR.out.turn TB (by omega)
  have HB : Hid (Below w.heap.size w s4) := HB.out.trans (TB.below (Nat.le_refl _))
  have HA : Hid (Bx s4 w.heap.size 32 [.int .i64 m.id, .int .i64 m.rid, .slice ums.a ums.n ums.c, .slice uits.a uits.n uits.c, .slice ulv.a ulv.n ulv.c, .slice utx.a utx.n utx.c, .int .i64 m.rd, .int .i64 m.se, .int .i64 m.li, .int .i64 m.he, .int .i64 m.la.c, .int .i64 m.la.r, .int .i64 m.la.q, .int .i64 m.la.a, .int .i64 m.la.b, .slice v.ws.a v.ws.n v.ws.c]) := OB
  clear OB TB
  have zB5 : w.heap.size ≤ s4.heap.size := HB.out.size
  go_wp2_with (first | (refine wpList_ldG rfl 30 _ rfl w.heap.size 10 rfl 32 _ HA.out [.int .i64 m.la.c, .int .i64 m.la.r, .int .i64 m.la.q, .int .i64 m.la.a, .int .i64 m.la.b, .slice v.ws.a v.ws.n v.ws.c] rfl _ Try.underlying30 rfl Try.sizeT ?_))
  refine (spCopyTok_s m.la.c m.la.r m.la.q m.la.a m.la.b v.ws m.la.ws _ (h.out.ws.stays HB.out (fun k hk => (h.out.ws.lt k hk).2)) hs.out.ws).mono ?_
  rintro e w5 ⟨uws, rfl, ho, b⟩
  have Xws : Hid (OwnI w5 s4.heap.size uws.v m.la.ws) := ho
  have K5a : Hid (KeepBut w.heap.size s4 w5) := keep_of_below b
  have HA : Hid (Bx w5 w.heap.size 32 [.int .i64 m.id, .int .i64 m.rid, .slice ums.a ums.n ums.c, .slice uits.a uits.n uits.c, .slice ulv.a ulv.n ulv.c, .slice utx.a utx.n utx.c, .int .i64 m.rd, .int .i64 m.se, .int .i64 m.li, .int .i64 m.he, .int .i64 m.la.c, .int .i64 m.la.r, .int .i64 m.la.q, .int .i64 m.la.a, .int .i64 m.la.b, .slice v.ws.a v.ws.n v.ws.c]) := HA.out.later b
  have HR : Hid (Bx w5 (w.heap.size + 1) 32 [.int .i64 0, .int .i64 0, .slice none 0 0, .slice none 0 0, .slice none 0 0, .slice none 0 0, .int .i64 0, .int .i64 0, .int .i64 0, .int .i64 0, .int .i64 0, .int .i64 0, .int .i64 0, .int .i64 0, .int .i64 0, .slice none 0 0]) := HR.out.later b
  have HB : Hid (Below w.heap.size w w5) := bl_next HB.out b
  clear ho b
  have BX5 : Hid (Bx w5 w.heap.size 32 [.int .i64 m.id, .int .i64 m.rid, .slice ums.a ums.n ums.c, .slice uits.a uits.n uits.c, .slice ulv.a ulv.n ulv.c, .slice utx.a utx.n utx.c, .int .i64 m.rd, .int .i64 m.se, .int .i64 m.li, .int .i64 m.he, .int .i64 m.la.c, .int .i64 m.la.r, .int .i64 m.la.q, .int .i64 m.la.a, .int .i64 m.la.b, .slice v.ws.a v.ws.n v.ws.c]) := HA.out
  go_wp2_with (first | (refine wpList_stB rfl 30 _ _ rfl w.heap.size 10 rfl 32 _ HA.out [.int .i64 m.la.c, .int .i64 m.la.r, .int .i64 m.la.q, .int .i64 m.la.a, .int .i64 m.la.b, .slice uws.a uws.n uws.c] rfl (by simp) Try.sizeT rfl [.int .i64 m.id, .int .i64 m.rid, .slice ums.a ums.n ums.c, .slice uits.a uits.n uits.c, .slice ulv.a ulv.n ulv.c, .slice utx.a utx.n utx.c, .int .i64 m.rd, .int .i64 m.se, .int .i64 m.li, .int .i64 m.he, .int .i64 m.la.c, .int .i64 m.la.r, .int .i64 m.la.q, .int .i64 m.la.a, .int .i64 m.la.b, .slice uws.a uws.n uws.c] rfl ?_; intro s5 OB TB; have K5b : Hid (KeepBut w.heap.size w5 s5) := TB.keep; have HR : Hid (Bx s5 (w.heap.size + 1) 32 [.int .i64 0, .int .i64 0, .slice none 0 0, .slice none 0 0, .slice none 0 0, .slice none 0 0, .int .i64 0, .int .i64 0, .int .i64 0, .int .i64 0, .int .i64 0, .int .i64 0, .int .i64 0, .int .i64 0, .int .i64 0, .slice none 0 0]) := HR.out.turn TB (by omega); have HB : Hid (Below w.heap.size w s5) := HB.out.trans (TB.below (Nat.le_refl _)); have HA : Hid (Bx s5 w.heap.size 32 [.int .i64 m.id, .int .i64 m.rid, .slice ums.a ums.n ums.c, .slice uits.a uits.n uits.c, .slice ulv.a ulv.n ulv.c, .slice utx.a utx.n utx.c, .int .i64 m.rd, .int .i64 m.se, .int .i64 m.li, .int .i64 m.he, .int .i64 m.la.c, .int .i64 m.la.r, .int .i64 m.la.q, .int .i64 m.la.a, .int .i64 m.la.b, .slice uws.a uws.n uws.c]) := OB; clear OB TB) | (refine wpList_ldG rfl 32 _ rfl w.heap.size 0 rfl 32 _ HA.out [.int .i64 m.id, .int .i64 m.rid, .slice ums.a ums.n ums.c, .slice uits.a uits.n uits.c, .slice ulv.a ulv.n ulv.c, .slice utx.a utx.n utx.c, .int .i64 m.rd, .int .i64 m.se, .int .i64 m.li, .int .i64 m.he, .int .i64 m.la.c, .int .i64 m.la.r, .int .i64 m.la.q, .int .i64 m.la.a, .int .i64 m.la.b, .slice uws.a uws.n uws.c] rfl _ Try.underlying32 rfl Try.sizeM ?_) | (refine wpList_stB rfl 32 _ _ rfl (w.heap.size + 1) 0 rfl 32 _ HR.out [.int .i64 m.id, .int .i64 m.rid, .slice ums.a ums.n ums.c, .slice uits.a uits.n uits.c, .slice ulv.a ulv.n ulv.c, .slice utx.a utx.n utx.c, .int .i64 m.rd, .int .i64 m.se, .int .i64 m.li, .int .i64 m.he, .int .i64 m.la.c, .int .i64 m.la.r, .int .i64 m.la.q, .int .i64 m.la.a, .int .i64 m.la.b, .slice uws.a uws.n uws.c] rfl (by simp) Try.sizeM rfl [.int .i64 m.id, .int .i64 m.rid, .slice ums.a ums.n ums.c, .slice uits.a uits.n uits.c, .slice ulv.a ulv.n ulv.c, .slice utx.a utx.n utx.c, .int .i64 m.rd, .int .i64 m.se, .int .i64 m.li, .int .i64 m.he, .int .i64 m.la.c, .int .i64 m.la.r, .int .i64 m.la.q, .int .i64 m.la.a, .int .i64 m.la.b, .slice uws.a uws.n uws.c] rfl ?_; intro wz RZ TZ))
  have BZ := HB.out.trans (TZ.below (by omega))
  refine bodyPost_ret (results_b Try.results50 (w.heap.size + 1) 32 [.int .i64 m.id, .int .i64 m.rid, .slice ums.a ums.n ums.c, .slice uits.a uits.n uits.c, .slice ulv.a ulv.n ulv.c, .slice utx.a utx.n utx.c, .int .i64 m.rd, .int .i64 m.se, .int .i64 m.li, .int .i64 m.he, .int .i64 m.la.c, .int .i64 m.la.r, .int .i64 m.la.q, .int .i64 m.la.a, .int .i64 m.la.b, .slice uws.a uws.n uws.c] _ rfl RZ Try.underlying32 rfl Try.sizeM) rfl ?_
  have Yms := (Xms.out.keepb BX1.out ((((K1b.out.trans (K2a.out.trans K2b.out)).trans (K3a.out.trans K3b.out)).trans (K4a.out.trans K4b.out)).trans (K5a.out.trans K5b.out)) (by decide)).past HR.out TZ (by decide)
  have Yits := (Xits.out.keepb BX2.out (((K2b.out.trans (K3a.out.trans K3b.out)).trans (K4a.out.trans K4b.out)).trans (K5a.out.trans K5b.out)) (by decide)).past HR.out TZ (by decide)
  have Ylv := (Xlv.out.keepb BX3.out ((K3b.out.trans (K4a.out.trans K4b.out)).trans (K5a.out.trans K5b.out)) (by decide)).past HR.out TZ (by decide)
  have Ytx := (Xtx.out.keepb BX4.out (K4b.out.trans (K5a.out.trans K5b.out)) (by decide)).past HR.out TZ (by decide)
  have Yws := (Xws.out.keepb BX5.out K5b.out (by decide)).past HR.out TZ (by decide)
  have ga1 := K1a.out.size
  have gb1 := K1b.out.size
  have ga2 := K2a.out.size
  have gb2 := K2b.out.size
  have ga3 := K3a.out.size
  have gb3 := K3b.out.size
  have ga4 := K4a.out.size
  have gb4 := K4b.out.size
  have ga5 := K5a.out.size
  have gb5 := K5b.out.size
  refine ⟨⟨ums, uits, ulv, utx, uws⟩, rfl, ⟨Yms.down (by omega), Yits.down (by omega), Ylv.down (by omega), Ytx.down (by omega), Yws.down (by omega), ?_, ?_, ?_⟩, BZ⟩
  · exact fun k h1 h2 => by have := (Xms.out.lt k h1).2; have := (Xlv.out.lt k h2).1; omega
  · exact fun k h1 h2 => by have := (Xms.out.lt k h1).2; have := (Xws.out.lt k h2).1; omega
  · exact fun k h1 h2 => by have := (Xlv.out.lt k h1).2; have := (Xws.out.lt k h2).1; omega
end Go.Proofs.Ytpbhcbgohgfkcaa

/- Texts copied: the walk over copyOfTexts. -/
namespace Go.Proofs.Ytpbhcbgohgfkcaa
open Go.RowKit Pl
set_option linter.unusedVariables false

set_option maxRecDepth 100000 in
set_option maxHeartbeats 1000000 in
theorem copyTexts_any (ao : Option Addr) (cap : Nat) (ts : List ByteArray) (w : World) (hx : Hid (TextsAt w ao ts)) (hl : ts.length ≤ 1048576) (hs : Hid (∀ x ∈ ts, x.size ≤ 1048576)) :
    Calls Try.prog 109 #[.slice ao ts.length cap] w fun e w' => ∃ v, e = .returned v ∧ OwnS w' w.heap.size v ts ∧ Below w.heap.size w w' := by
  obtain ⟨i0, hi, hz0, hz1, hz2⟩ := info_parts Try.info9
  obtain ⟨W, hmk, own, hgr⟩ := run_make_own (P := Try.prog) w w.heap.size 28 9 i0 _ 1 Try.underlying28 hi hz0 hz1 .i64 .i64 ts.length (by rw [hz2]; omega) (by unfold maxLen; omega) (Nat.le_refl _)
  have S0 : Hid (OwnS W w.heap.size (.slice (some ⟨w.heap.size, 0, none⟩) 0 ts.length) []) := own
  have B0 : Hid (Below w.heap.size w W) := grown_below hgr
  clear own hgr hi hz0 hz1 hz2
  go_enter Try.func109, Try.ntmps109
  go_wp2
  go_loopw [3, 11] (fun v i wr => ∃ (k : Nat), k ≤ ts.length ∧ i = .int .i64 k ∧ Hid (OwnS wr w.heap.size v (ts.take k)) ∧ Hid (Below w.heap.size w wr)) (fun _ i _ => ts.length - (intOf i).toNat)
  case atStart => exact ⟨0, Nat.zero_le _, rfl, S0, B0⟩
  case round =>
    clear S0 B0 hmk
    obtain ⟨k, hk, rfl, hS, hb⟩ := hrel
    by_cases hlt : k < ts.length
    · obtain ⟨b, off, rfl, hbb, h0⟩ := hx.out.stays hb.out k hlt
      have hsz := hs.out _ (List.getElem_mem hlt)
      have HP : Hid (∃ x : ByteArray, x = ts[k]) := ⟨_, rfl⟩
      obtain ⟨tx, hp⟩ := HP.out
      rw [← hp] at h0 hsz
      have HQ : Hid (tx = ts[k]) := hp
      clear hp HP
      go_wp2_with fail
      clear h0
      refine (clone_any tx _ hsz).mono ?_
      rintro e w1 ⟨rfl, hb1⟩
      have S1 : OwnS w1 w.heap.size u3 (ts.take k) := ownS_later hS.out hb1
      have B1 : Below w.heap.size w w1 := hb.out.trans (hb1.mono hb.out.size)
      have z1 : w.heap.size ≤ w1.heap.size := B1.size
      have hlk : (ts.take k).length < 4000000 := by rw [List.length_take]; omega
      clear hb1 hS
      go_wp2_with (at_builtin; refine wpList_pushS rfl _ _ 28 rfl Try.underlying28 Try.info9 w.heap.size u3 (ts.take k) rfl S1 tx rfl hlk z1 ?_; intro v2 w2 S2 b2)
      have S2 : Hid (OwnS w2 w.heap.size v2 (ts.take (k + 1))) := by
        rw [List.take_succ_eq_append_getElem hlt, ← HQ.out]
        exact S2
      have B2 : Hid (Below w.heap.size w w2) := B1.trans b2
      go_roundw
      case rel => exact ⟨k + 1, by omega, by go_num, S2, B2⟩
      case measure => simp [intOf]; omega
    · obtain rfl : k = ts.length := by omega
      go_wp2_with fail
      go_ret
      exact ⟨_, rfl, by have := hS.out; rwa [List.take_length] at this, hb.out⟩
end Go.Proofs.Ytpbhcbgohgfkcaa

/- A new member: the walks over isMember, copyOfRing and both MateNew. -/
namespace Go.Proofs.Ytpbhcbgohgfkcaa
open Go.RowKit Pl
set_option linter.unusedVariables false

set_option maxRecDepth 100000 in
set_option maxHeartbeats 1000000 in
theorem isMember_any (id i : Int) (v : Value) (ms : List Int) (w : World) (h : Hid (RI w v ms)) (hl : ms.length ≤ 1048576) :
    Calls Try.prog 53 #[.int .i64 id, .agg #[.int .i64 i, v]] w fun e w' => e = .returned (.bool (ringB i ms && inB ms id)) ∧ Below w.heap.size w w' := by
  have HB : Hid (Bx (w.alloc (.cells #[.int .i64 i, v] 26)) w.heap.size 26 [.int .i64 i, v]) := Bx.new w 26 _
  have HL : Hid (Below w.heap.size w (w.alloc (.cells #[.int .i64 i, v] 26))) := (Below.refl _ _).alloc (Nat.le_refl _) _
  have HX : Hid (RI (w.alloc (.cells #[.int .i64 i, v] 26)) v ms) := h.out.stays HL.out
  clear h
  go_enter Try.func53, Try.ntmps53
  go_wp2_with fail
  generalize w.alloc (.cells #[.int .i64 i, v] 26) = W at *
  refine (ringOk_r i ms HX hl).mono ?_
  rintro e w1 ⟨rfl, b1⟩
  have B1 : Hid (Below w.heap.size w w1) := bl_next HL.out b1
  have X1 : Hid (RI w1 v ms) := HX.out.stays b1
  have c0 : w1.cell? ⟨w.heap.size, 0, none⟩ = some (.int .i64 i) := (HB.out.later b1).cell 0
  have c1 : w1.cell? ⟨w.heap.size, 1, none⟩ = some v := (HB.out.later b1).cell 1
  clear HB HL HX b1
  obtain ⟨R, hR⟩ : ∃ R, ringB i ms = R := ⟨_, rfl⟩
  rw [hR]
  have HR : Hid (ringB i ms = R) := hR
  clear hR
  cases R with
  | false =>
    go_wp2_with fail
    go_ret
    exact ⟨by rw [HR.out]; rfl, B1.out⟩
  | true =>
    go_wp2_with fail
    refine (contains_r ms id X1 hl).mono ?_
    rintro e w2 ⟨rfl, b2⟩
    have B2 : Hid (Below w.heap.size w w2) := bl_next B1.out b2
    clear b2
    go_wp2_with fail
    go_ret
    exact ⟨by rw [HR.out]; rfl, B2.out⟩

set_option maxRecDepth 100000 in
set_option maxHeartbeats 1000000 in
theorem copyRing_any (i : Int) (v : Value) (ms : List Int) (w : World) (h : Hid (RI w v ms)) (hl : ms.length ≤ 1048576) :
    Calls Try.prog 61 #[.agg #[.int .i64 i, v]] w fun e w' => ∃ v', e = .returned (.agg #[.int .i64 i, v']) ∧ OwnI w' w.heap.size v' ms ∧ Below w.heap.size w w' := by
  have hn1 : (w.alloc (.cells #[.int .i64 i, v] 26)).heap.size = w.heap.size + 1 := by simp
  have hn2 : ((w.alloc (.cells #[.int .i64 i, v] 26)).alloc (.cells #[.int .i64 0, .slice none 0 0] 26)).heap.size = w.heap.size + 2 := by simp
  have HA : Hid (Bx (((w.alloc (.cells #[.int .i64 i, v] 26)).alloc (.cells #[.int .i64 0, .slice none 0 0] 26)).alloc (.cells #[] 3)) w.heap.size 26 [.int .i64 i, v]) := by
    have h := Bx.new w 26 [.int .i64 i, v]
    exact h.stays (B := w.heap.size + 1) (((Below.refl _ _).alloc (by rw [hn1]; exact Nat.le_refl _) _).alloc (by rw [hn2]; omega) _) (by omega)
  have HR : Hid (Bx (((w.alloc (.cells #[.int .i64 i, v] 26)).alloc (.cells #[.int .i64 0, .slice none 0 0] 26)).alloc (.cells #[] 3)) (w.heap.size + 1) 26 [.int .i64 0, .slice none 0 0]) := by
    have h := Bx.new (w.alloc (.cells #[.int .i64 i, v] 26)) 26 [.int .i64 0, .slice none 0 0]
    rw [hn1] at h
    exact h.stays (B := w.heap.size + 2) ((Below.refl _ _).alloc (by rw [hn2]; exact Nat.le_refl _) _) (by omega)
  have HO : Hid (OwnI (((w.alloc (.cells #[.int .i64 i, v] 26)).alloc (.cells #[.int .i64 0, .slice none 0 0] 26)).alloc (.cells #[] 3)) w.heap.size (.slice (some ⟨w.heap.size + 2, 0, none⟩) 0 0) []) := by
    have h := OwnI.made ((w.alloc (.cells #[.int .i64 i, v] 26)).alloc (.cells #[.int .i64 0, .slice none 0 0] 26)) w.heap.size (by rw [hn2]; omega)
    rw [hn2] at h
    exact h
  have HB : Hid (Below w.heap.size w (((w.alloc (.cells #[.int .i64 i, v] 26)).alloc (.cells #[.int .i64 0, .slice none 0 0] 26)).alloc (.cells #[] 3))) := (((Below.refl _ _).alloc (Nat.le_refl _) _).alloc (by simp) _).alloc (by simp; omega) _
  have HU : Hid (RI (((w.alloc (.cells #[.int .i64 i, v] 26)).alloc (.cells #[.int .i64 0, .slice none 0 0] 26)).alloc (.cells #[] 3)) v ms) := h.out.stays HB.out
  have hsz : w.heap.size ≤ (((w.alloc (.cells #[.int .i64 i, v] 26)).alloc (.cells #[.int .i64 0, .slice none 0 0] 26)).alloc (.cells #[] 3)).heap.size := HB.out.size
  have a1 := HA.out.cell 1
  clear h hn1 hn2
  go_enter Try.func61, Try.ntmps61
  go_wp2_with (first | (at_builtin; refine wpList_catR rfl _ _ 24 rfl Try.underlying24 Try.info3' w.heap.size (.slice (some ⟨w.heap.size + 2, 0, none⟩) 0 0) [] rfl HO.out _ ms rfl HU.out (by simp; omega) hsz (fun h => by cases h) ?_; intro v1 w1 hv1 hg1; have hs1 : Hid (World.grownBy _ w1 (some (w.heap.size + 2))) := hg1; have ht1 : Hid (OwnI w1 w.heap.size v1 ms) := hv1; clear hv1 hg1; refine Stp.here ?_))
  refine Stp.go ?_
  have hv1 := ht1.out
  have hg1 := hs1.out
  obtain ⟨ao1, cap1, hf1⟩ := hv1.form
  subst hf1
  generalize (((w.alloc (.cells #[.int .i64 i, v] 26)).alloc (.cells #[.int .i64 0, .slice none 0 0] 26)).alloc (.cells #[] 3)) = W at *
  have A1 : Hid (Bx w1 w.heap.size 26 [.int .i64 i, v]) := HA.out.grown hg1 (by simp)
  have R1 : Hid (Bx w1 (w.heap.size + 1) 26 [.int .i64 0, .slice none 0 0]) := HR.out.grown hg1 (by simp)
  have B1 : Hid (Below w.heap.size w w1) := HB.out.grown hg1 hsz (fun k hk => by simp at hk; omega)
  have V1 : Hid (OwnI w1 w.heap.size (.slice ao1 ms.length cap1) ms) := hv1
  clear hs1 ht1 hv1 hg1 HA HR HB HO HU hsz a1
  have c1 := A1.out.cell 1
  have f1 := A1.out.frozen 1
  have T2 := (TurnAt.refl w.heap.size w1).setCell 1 (.slice ao1 ms.length cap1)
  have O2 : Hid (Bx (w1.setCell ⟨w.heap.size, 1, none⟩ (.slice ao1 ms.length cap1)) w.heap.size 26 [.int .i64 i, .slice ao1 ms.length cap1]) := A1.out.set 1 (.slice ao1 ms.length cap1)
  have R2 : Hid (Bx (w1.setCell ⟨w.heap.size, 1, none⟩ (.slice ao1 ms.length cap1)) (w.heap.size + 1) 26 [.int .i64 0, .slice none 0 0]) := R1.out.turn T2 (by omega)
  have B2 : Hid (Below w.heap.size w (w1.setCell ⟨w.heap.size, 1, none⟩ (.slice ao1 ms.length cap1))) := B1.out.trans (T2.below (by omega))
  have V2 : Hid (OwnI (w1.setCell ⟨w.heap.size, 1, none⟩ (.slice ao1 ms.length cap1)) w.heap.size (.slice ao1 ms.length cap1) ms) := V1.out.keep fun k hk _ => T2.block k (fun e => bx_i_ne V1.out A1.out (by decide) (e ▸ hk))
  have o0 := O2.out.cell 0
  have o1 := O2.out.cell 1
  have r0 := R2.out.cell 0
  have r1 := R2.out.cell 1
  have z0 := R2.out.frozen 0
  have z1 := R2.out.frozen 1
  have R3 : Bx _ (w.heap.size + 1) 26 [.int .i64 i, .slice ao1 ms.length cap1] := (R2.out.set 0 (.int .i64 i)).set 1 (.slice ao1 ms.length cap1)
  have T3 := ((TurnAt.refl (w.heap.size + 1) (w1.setCell ⟨w.heap.size, 1, none⟩ (.slice ao1 ms.length cap1))).setCell 0 (.int .i64 i)).setCell 1 (.slice ao1 ms.length cap1)
  have B3 := B2.out.trans (T3.below (by omega))
  have V3 := V2.out.keep fun k hk _ => T3.block k (fun e => bx_i_ne V2.out R2.out (by decide) (e ▸ hk))
  clear T2 T3 R1 A1 B1 V1 V2 R2 O2 B2
  go_wp2_with fail
  generalize ((w1.setCell ⟨w.heap.size, 1, none⟩ (.slice ao1 ms.length cap1)).setCell ⟨w.heap.size + 1, 0, none⟩ (.int .i64 i)).setCell ⟨w.heap.size + 1, 1, none⟩ (.slice ao1 ms.length cap1) = W3 at *
  have q0 := R3.cell 0
  have q1 := R3.cell 1
  refine bodyPost_ret (v := .agg #[.int .i64 i, .slice ao1 ms.length cap1]) (by simp [results, Try.results61, go_sem, q0, q1]) rfl ?_
  exact ⟨_, rfl, V3, B3⟩
end Go.Proofs.Ytpbhcbgohgfkcaa

