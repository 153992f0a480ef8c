/- Joined texts: Mq1 Pt Ps. -/
import Derived.Test.YtpbhcbgohgfkcaaJct1
import Derived.Test.YtpbhcbgohgfkcaaJct2
import Derived.Test.YtpbhcbgohgfkcaaJct3
import Derived.Test.YtpbhcbgohgfkcaaJct4
import Derived.Test.YtpbhcbgohgfkcaaJct5
import Derived.Test.YtpbhcbgohgfkcaaJct6
import Derived.Test.YtpbhcbgohgfkcaaJct7
import Derived.Test.YtpbhcbgohgfkcaaJct8
import Derived.Test.YtpbhcbgohgfkcaaJct9
import Derived.Test.YtpbhcbgohgfkcaaJct10
import Derived.Test.YtpbhcbgohgfkcaaJct11
import Derived.BigQuiet
/- Whether a member is right: the walks over both MateOk. Written by gen_mok.py. -/
namespace Go.Proofs.Ytpbhcbgohgfkcaa
open Go.RowKit Pl
set_option linter.unusedVariables false
set_option linter.unusedSimpArgs false

/-- whether a member is right. -/
def Mt.ok (m : Mt) : Bool := ringB m.rid m.ms && (inB m.ms m.id && (iGo 0 m.its && (sayB m.lv m.tx && (decide (0 ≤ m.rd ∧ m.rd ≤ 1000000000) && (decide (0 ≤ m.se ∧ m.se ≤ 60) && (decide (0 ≤ m.li ∧ m.li ≤ ((aruP m.its : Nat) : Int)) && (decide (0 ≤ m.he ∧ m.he ≤ ((aruP m.its : Nat) : Int)) && (ntB m.la.c m.la.r m.la.q m.la.a m.la.b m.la.ws || tkB m.la.c m.la.r m.la.q m.la.a m.la.b m.la.ws))))))))

theorem okM_parts (m : Mt) : m.ok = ((ringB m.rid m.ms && inB m.ms m.id) && (iGo 0 m.its && (sayB m.lv m.tx && (decide (0 ≤ m.rd ∧ m.rd ≤ 1000000000) && (decide (0 ≤ m.se ∧ m.se ≤ 60) && (decide (0 ≤ m.li ∧ m.li ≤ ((aruP m.its : Nat) : Int)) && (decide (0 ≤ m.he ∧ m.he ≤ ((aruP m.its : Nat) : Int)) && (ntB m.la.c m.la.r m.la.q m.la.a m.la.b m.la.ws || tkB m.la.c m.la.r m.la.q m.la.a m.la.b m.la.ws)))))))) := by
  unfold Mt.ok
  rw [Bool.and_assoc]

set_option maxRecDepth 100000 in
set_option maxHeartbeats 4000000 in
theorem mateOk_any (m : Mt) (v : Mv) (w : World) (h : Hid (MtR w m v)) (hs : Hid (MtS m)) :
    Calls Try.prog 14 #[.agg #[.int .i64 m.id, .int .i64 m.rid, .slice v.ms.a v.ms.n v.ms.c, .slice v.its.a v.its.n v.its.c, .slice v.lv.a v.lv.n v.lv.c, .slice v.tx.a v.tx.n v.tx.c, .int .i64 m.rd, .int .i64 m.se, .int .i64 m.li, .int .i64 m.he, .int .i64 m.la.c, .int .i64 m.la.r, .int .i64 m.la.q, .int .i64 m.la.a, .int .i64 m.la.b, .slice v.ws.a v.ws.n v.ws.c]] w fun e w' => e = .returned (.bool m.ok) ∧ Below w.heap.size w w' := by
  have HA : Hid (MtB (w.alloc (.cells #[.int .i64 m.id, .int .i64 m.rid, .slice v.ms.a v.ms.n v.ms.c, .slice v.its.a v.its.n v.its.c, .slice v.lv.a v.lv.n v.lv.c, .slice v.tx.a v.tx.n v.tx.c, .int .i64 m.rd, .int .i64 m.se, .int .i64 m.li, .int .i64 m.he, .int .i64 m.la.c, .int .i64 m.la.r, .int .i64 m.la.q, .int .i64 m.la.a, .int .i64 m.la.b, .slice v.ws.a v.ws.n v.ws.c] 32)) w.heap.size 32 m v) := Bx.new w 32 _
  have HL : Hid (Below w.heap.size w (w.alloc (.cells #[.int .i64 m.id, .int .i64 m.rid, .slice v.ms.a v.ms.n v.ms.c, .slice v.its.a v.its.n v.its.c, .slice v.lv.a v.lv.n v.lv.c, .slice v.tx.a v.tx.n v.tx.c, .int .i64 m.rd, .int .i64 m.se, .int .i64 m.li, .int .i64 m.he, .int .i64 m.la.c, .int .i64 m.la.r, .int .i64 m.la.q, .int .i64 m.la.a, .int .i64 m.la.b, .slice v.ws.a v.ws.n v.ws.c] 32))) := (Below.refl _ _).alloc (Nat.le_refl _) _
  have HR : Hid (MtR (w.alloc (.cells #[.int .i64 m.id, .int .i64 m.rid, .slice v.ms.a v.ms.n v.ms.c, .slice v.its.a v.its.n v.its.c, .slice v.lv.a v.lv.n v.lv.c, .slice v.tx.a v.tx.n v.tx.c, .int .i64 m.rd, .int .i64 m.se, .int .i64 m.li, .int .i64 m.he, .int .i64 m.la.c, .int .i64 m.la.r, .int .i64 m.la.q, .int .i64 m.la.a, .int .i64 m.la.b, .slice v.ws.a v.ws.n v.ws.c] 32)) m v) := h.out.stays HL.out
  have LW : Hid (v.ws.n = m.la.ws.length) := RI.len h.out.ws
  obtain ⟨⟨c0, c1, c2, c3, c4, c5⟩, ⟨c6, c7, c8, c9⟩, c10, c11, c12, c13, c14, c15⟩ := HA.out.cells
  clear h
  go_enter Try.func14, Try.ntmps14
  go_wp2_with fail
  clear c0 c1 c2 c3 c4 c5 c6 c7 c8 c9 c10 c11 c12 c13 c14 c15
  generalize w.alloc (.cells #[.int .i64 m.id, .int .i64 m.rid, .slice v.ms.a v.ms.n v.ms.c, .slice v.its.a v.its.n v.its.c, .slice v.lv.a v.lv.n v.lv.c, .slice v.tx.a v.tx.n v.tx.c, .int .i64 m.rd, .int .i64 m.se, .int .i64 m.li, .int .i64 m.he, .int .i64 m.la.c, .int .i64 m.la.r, .int .i64 m.la.q, .int .i64 m.la.a, .int .i64 m.la.b, .slice v.ws.a v.ws.n v.ws.c] 32) = W at *
  refine (aruOf_r m.its (show Hid (RIt W v.its.v m.its) from HR.out.its) hs.out.its).mono ?_
  rintro e w1 ⟨rfl, b⟩
  have HA : Hid (MtB w1 w.heap.size 32 m v) := Bx.later HA.out b
  have HR : Hid (MtR w1 m v) := HR.out.stays b
  have HL : Hid (Below w.heap.size w w1) := bl_next HL.out b
  clear b
  obtain ⟨⟨c0, c1, c2, c3, c4, c5⟩, ⟨c6, c7, c8, c9⟩, c10, c11, c12, c13, c14, c15⟩ := HA.out.cells
  go_wp2_with fail
  clear c0 c1 c2 c3 c4 c5 c6 c7 c8 c9 c10 c11 c12 c13 c14 c15
  refine (isMember_any m.id m.rid v.ms.v m.ms _ HR.out.ms hs.out.ms).mono ?_
  rintro e w2 ⟨rfl, b⟩
  have HA : Hid (MtB w2 w.heap.size 32 m v) := Bx.later HA.out b
  have HR : Hid (MtR w2 m v) := HR.out.stays b
  have HL : Hid (Below w.heap.size w w2) := bl_next HL.out b
  clear b
  obtain ⟨R, hR⟩ : ∃ R, (ringB m.rid m.ms && inB m.ms m.id) = R := ⟨_, rfl⟩
  rw [hR]
  have K0 : Hid ((ringB m.rid m.ms && inB m.ms m.id) = R) := hR
  clear hR
  cases R with
  | false =>
    obtain ⟨⟨c0, c1, c2, c3, c4, c5⟩, ⟨c6, c7, c8, c9⟩, c10, c11, c12, c13, c14, c15⟩ := HA.out.cells
    go_wp2_with fail
    go_ret
    exact ⟨by rw [okM_parts, K0.out]; rfl, HL.out⟩
  | true =>
    obtain ⟨⟨c0, c1, c2, c3, c4, c5⟩, ⟨c6, c7, c8, c9⟩, c10, c11, c12, c13, c14, c15⟩ := HA.out.cells
    go_wp2_with fail
    clear c0 c1 c2 c3 c4 c5 c6 c7 c8 c9 c10 c11 c12 c13 c14 c15
    refine (itemsOk_r m.its HR.out.its hs.out.its).mono ?_
    rintro e w3 ⟨rfl, b⟩
    have HA : Hid (MtB w3 w.heap.size 32 m v) := Bx.later HA.out b
    have HR : Hid (MtR w3 m v) := HR.out.stays b
    have HL : Hid (Below w.heap.size w w3) := bl_next HL.out b
    clear b
    obtain ⟨R2, hR⟩ : ∃ R, (iGo 0 m.its) = R := ⟨_, rfl⟩
    rw [hR]
    have K2 : Hid ((iGo 0 m.its) = R2) := hR
    clear hR
    cases R2 with
    | false =>
      obtain ⟨⟨c0, c1, c2, c3, c4, c5⟩, ⟨c6, c7, c8, c9⟩, c10, c11, c12, c13, c14, c15⟩ := HA.out.cells
      go_wp2_with fail
      go_ret
      exact ⟨by rw [okM_parts, K0.out, K2.out]; rfl, HL.out⟩
    | true =>
      obtain ⟨⟨c0, c1, c2, c3, c4, c5⟩, ⟨c6, c7, c8, c9⟩, c10, c11, c12, c13, c14, c15⟩ := HA.out.cells
      go_wp2_with fail
      clear c0 c1 c2 c3 c4 c5 c6 c7 c8 c9 c10 c11 c12 c13 c14 c15
      refine (toSay_any v.lv v.tx m.lv m.tx _ HR.out.lv HR.out.tx hs.out.lv hs.out.tx).mono ?_
      rintro e w4 ⟨rfl, b⟩
      have HA : Hid (MtB w4 w.heap.size 32 m v) := Bx.later HA.out b
      have HR : Hid (MtR w4 m v) := HR.out.stays b
      have HL : Hid (Below w.heap.size w w4) := bl_next HL.out b
      clear b
      obtain ⟨R3, hR⟩ : ∃ R, (sayB m.lv m.tx) = R := ⟨_, rfl⟩
      rw [hR]
      have K3 : Hid ((sayB m.lv m.tx) = R3) := hR
      clear hR
      cases R3 with
      | false =>
        obtain ⟨⟨c0, c1, c2, c3, c4, c5⟩, ⟨c6, c7, c8, c9⟩, c10, c11, c12, c13, c14, c15⟩ := HA.out.cells
        go_wp2_with fail
        go_ret
        exact ⟨by rw [okM_parts, K0.out, K2.out, K3.out]; rfl, HL.out⟩
      | true =>
        obtain ⟨⟨c0, c1, c2, c3, c4, c5⟩, ⟨c6, c7, c8, c9⟩, c10, c11, c12, c13, c14, c15⟩ := HA.out.cells
        go_wp2_with fail
        clear c0 c1 c2 c3 c4 c5 c6 c7 c8 c9 c10 c11 c12 c13 c14 c15
        refine (within_b m.rd 0 1000000000 _).mono ?_
        rintro e w5 ⟨rfl, b⟩
        have HA : Hid (MtB w5 w.heap.size 32 m v) := Bx.later HA.out b
        have HR : Hid (MtR w5 m v) := HR.out.stays b
        have HL : Hid (Below w.heap.size w w5) := bl_next HL.out b
        clear b
        obtain ⟨R4, hR⟩ : ∃ R, (decide (0 ≤ m.rd ∧ m.rd ≤ 1000000000)) = R := ⟨_, rfl⟩
        rw [hR]
        have K4 : Hid ((decide (0 ≤ m.rd ∧ m.rd ≤ 1000000000)) = R4) := hR
        clear hR
        cases R4 with
        | false =>
          obtain ⟨⟨c0, c1, c2, c3, c4, c5⟩, ⟨c6, c7, c8, c9⟩, c10, c11, c12, c13, c14, c15⟩ := HA.out.cells
          go_wp2_with fail
          go_ret
          exact ⟨by rw [okM_parts, K0.out, K2.out, K3.out, K4.out]; rfl, HL.out⟩
        | true =>
          obtain ⟨⟨c0, c1, c2, c3, c4, c5⟩, ⟨c6, c7, c8, c9⟩, c10, c11, c12, c13, c14, c15⟩ := HA.out.cells
          go_wp2_with fail
          clear c0 c1 c2 c3 c4 c5 c6 c7 c8 c9 c10 c11 c12 c13 c14 c15
          refine (within_b m.se 0 60 _).mono ?_
          rintro e w6 ⟨rfl, b⟩
          have HA : Hid (MtB w6 w.heap.size 32 m v) := Bx.later HA.out b
          have HR : Hid (MtR w6 m v) := HR.out.stays b
          have HL : Hid (Below w.heap.size w w6) := bl_next HL.out b
          clear b
          obtain ⟨R5, hR⟩ : ∃ R, (decide (0 ≤ m.se ∧ m.se ≤ 60)) = R := ⟨_, rfl⟩
          rw [hR]
          have K5 : Hid ((decide (0 ≤ m.se ∧ m.se ≤ 60)) = R5) := hR
          clear hR
          cases R5 with
          | false =>
            obtain ⟨⟨c0, c1, c2, c3, c4, c5⟩, ⟨c6, c7, c8, c9⟩, c10, c11, c12, c13, c14, c15⟩ := HA.out.cells
            go_wp2_with fail
            go_ret
            exact ⟨by rw [okM_parts, K0.out, K2.out, K3.out, K4.out, K5.out]; rfl, HL.out⟩
          | true =>
            obtain ⟨⟨c0, c1, c2, c3, c4, c5⟩, ⟨c6, c7, c8, c9⟩, c10, c11, c12, c13, c14, c15⟩ := HA.out.cells
            go_wp2_with fail
            clear c0 c1 c2 c3 c4 c5 c6 c7 c8 c9 c10 c11 c12 c13 c14 c15
            refine (within_b m.li 0 ((aruP m.its : Nat) : Int) _).mono ?_
            rintro e w7 ⟨rfl, b⟩
            have HA : Hid (MtB w7 w.heap.size 32 m v) := Bx.later HA.out b
            have HR : Hid (MtR w7 m v) := HR.out.stays b
            have HL : Hid (Below w.heap.size w w7) := bl_next HL.out b
            clear b
            obtain ⟨R6, hR⟩ : ∃ R, (decide (0 ≤ m.li ∧ m.li ≤ ((aruP m.its : Nat) : Int))) = R := ⟨_, rfl⟩
            rw [hR]
            have K6 : Hid ((decide (0 ≤ m.li ∧ m.li ≤ ((aruP m.its : Nat) : Int))) = R6) := hR
            clear hR
            cases R6 with
            | false =>
              obtain ⟨⟨c0, c1, c2, c3, c4, c5⟩, ⟨c6, c7, c8, c9⟩, c10, c11, c12, c13, c14, c15⟩ := HA.out.cells
              go_wp2_with fail
              go_ret
              exact ⟨by rw [okM_parts, K0.out, K2.out, K3.out, K4.out, K5.out, K6.out]; rfl, HL.out⟩
            | true =>
              obtain ⟨⟨c0, c1, c2, c3, c4, c5⟩, ⟨c6, c7, c8, c9⟩, c10, c11, c12, c13, c14, c15⟩ := HA.out.cells
              go_wp2_with fail
              clear c0 c1 c2 c3 c4 c5 c6 c7 c8 c9 c10 c11 c12 c13 c14 c15
              refine (within_b m.he 0 ((aruP m.its : Nat) : Int) _).mono ?_
              rintro e w8 ⟨rfl, b⟩
              have HA : Hid (MtB w8 w.heap.size 32 m v) := Bx.later HA.out b
              have HR : Hid (MtR w8 m v) := HR.out.stays b
              have HL : Hid (Below w.heap.size w w8) := bl_next HL.out b
              clear b
              obtain ⟨R7, hR⟩ : ∃ R, (decide (0 ≤ m.he ∧ m.he ≤ ((aruP m.its : Nat) : Int))) = R := ⟨_, rfl⟩
              rw [hR]
              have K7 : Hid ((decide (0 ≤ m.he ∧ m.he ≤ ((aruP m.its : Nat) : Int))) = R7) := hR
              clear hR
              cases R7 with
              | false =>
                obtain ⟨⟨c0, c1, c2, c3, c4, c5⟩, ⟨c6, c7, c8, c9⟩, c10, c11, c12, c13, c14, c15⟩ := HA.out.cells
                go_wp2_with fail
                go_ret
                exact ⟨by rw [okM_parts, K0.out, K2.out, K3.out, K4.out, K5.out, K6.out, K7.out]; rfl, HL.out⟩
              | true =>
                obtain ⟨⟨c0, c1, c2, c3, c4, c5⟩, ⟨c6, c7, c8, c9⟩, c10, c11, c12, c13, c14, c15⟩ := HA.out.cells
                go_wp2_with fail
                clear c0 c1 c2 c3 c4 c5 c6 c7 c8 c9 c10 c11 c12 c13 c14 c15
                refine (noToken_any m.la.c m.la.r m.la.q m.la.a m.la.b v.ws m.la.ws _ LW).mono ?_
                rintro e w9 ⟨rfl, b⟩
                have HA : Hid (MtB w9 w.heap.size 32 m v) := Bx.later HA.out b
                have HR : Hid (MtR w9 m v) := HR.out.stays b
                have HL : Hid (Below w.heap.size w w9) := bl_next HL.out b
                clear b
                obtain ⟨R8, hR⟩ : ∃ R, (ntB m.la.c m.la.r m.la.q m.la.a m.la.b m.la.ws) = R := ⟨_, rfl⟩
                rw [hR]
                have K8 : Hid ((ntB m.la.c m.la.r m.la.q m.la.a m.la.b m.la.ws) = R8) := hR
                clear hR
                cases R8 with
                | true =>
                  obtain ⟨⟨c0, c1, c2, c3, c4, c5⟩, ⟨c6, c7, c8, c9⟩, c10, c11, c12, c13, c14, c15⟩ := HA.out.cells
                  go_wp2_with fail
                  go_ret
                  exact ⟨by rw [okM_parts, K0.out, K2.out, K3.out, K4.out, K5.out, K6.out, K7.out, K8.out]; rfl, HL.out⟩
                | false =>
                  obtain ⟨⟨c0, c1, c2, c3, c4, c5⟩, ⟨c6, c7, c8, c9⟩, c10, c11, c12, c13, c14, c15⟩ := HA.out.cells
                  go_wp2_with fail
                  clear c0 c1 c2 c3 c4 c5 c6 c7 c8 c9 c10 c11 c12 c13 c14 c15
                  refine (tokenOk_r m.la.c m.la.r m.la.q m.la.a m.la.b m.la.ws HR.out.ws hs.out.ws).mono ?_
                  rintro e w10 ⟨rfl, b⟩
                  have HA : Hid (MtB w10 w.heap.size 32 m v) := Bx.later HA.out b
                  have HR : Hid (MtR w10 m v) := HR.out.stays b
                  have HL : Hid (Below w.heap.size w w10) := bl_next HL.out b
                  clear b
                  go_wp2_with fail
                  go_ret
                  exact ⟨by rw [okM_parts, K0.out, K2.out, K3.out, K4.out, K5.out, K6.out, K7.out, K8.out]; rfl, HL.out⟩

set_option maxRecDepth 100000 in
set_option maxHeartbeats 4000000 in
theorem spMateOk_any (m : Mt) (v : Mv) (w : World) (h : Hid (MtR w m v)) (hs : Hid (MtS m)) :
    Calls Try.prog 36 #[.agg #[.int .i64 m.id, .int .i64 m.rid, .slice v.ms.a v.ms.n v.ms.c, .slice v.its.a v.its.n v.its.c, .slice v.lv.a v.lv.n v.lv.c, .slice v.tx.a v.tx.n v.tx.c, .int .i64 m.rd, .int .i64 m.se, .int .i64 m.li, .int .i64 m.he, .int .i64 m.la.c, .int .i64 m.la.r, .int .i64 m.la.q, .int .i64 m.la.a, .int .i64 m.la.b, .slice v.ws.a v.ws.n v.ws.c]] w fun e w' => e = .returned (.bool m.ok) ∧ Below w.heap.size w w' := by
  have HA : Hid (MtB (w.alloc (.cells #[.int .i64 m.id, .int .i64 m.rid, .slice v.ms.a v.ms.n v.ms.c, .slice v.its.a v.its.n v.its.c, .slice v.lv.a v.lv.n v.lv.c, .slice v.tx.a v.tx.n v.tx.c, .int .i64 m.rd, .int .i64 m.se, .int .i64 m.li, .int .i64 m.he, .int .i64 m.la.c, .int .i64 m.la.r, .int .i64 m.la.q, .int .i64 m.la.a, .int .i64 m.la.b, .slice v.ws.a v.ws.n v.ws.c] 32)) w.heap.size 32 m v) := Bx.new w 32 _
  have HL : Hid (Below w.heap.size w (w.alloc (.cells #[.int .i64 m.id, .int .i64 m.rid, .slice v.ms.a v.ms.n v.ms.c, .slice v.its.a v.its.n v.its.c, .slice v.lv.a v.lv.n v.lv.c, .slice v.tx.a v.tx.n v.tx.c, .int .i64 m.rd, .int .i64 m.se, .int .i64 m.li, .int .i64 m.he, .int .i64 m.la.c, .int .i64 m.la.r, .int .i64 m.la.q, .int .i64 m.la.a, .int .i64 m.la.b, .slice v.ws.a v.ws.n v.ws.c] 32))) := (Below.refl _ _).alloc (Nat.le_refl _) _
  have HR : Hid (MtR (w.alloc (.cells #[.int .i64 m.id, .int .i64 m.rid, .slice v.ms.a v.ms.n v.ms.c, .slice v.its.a v.its.n v.its.c, .slice v.lv.a v.lv.n v.lv.c, .slice v.tx.a v.tx.n v.tx.c, .int .i64 m.rd, .int .i64 m.se, .int .i64 m.li, .int .i64 m.he, .int .i64 m.la.c, .int .i64 m.la.r, .int .i64 m.la.q, .int .i64 m.la.a, .int .i64 m.la.b, .slice v.ws.a v.ws.n v.ws.c] 32)) m v) := h.out.stays HL.out
  have LW : Hid (v.ws.n = m.la.ws.length) := RI.len h.out.ws
  obtain ⟨⟨c0, c1, c2, c3, c4, c5⟩, ⟨c6, c7, c8, c9⟩, c10, c11, c12, c13, c14, c15⟩ := HA.out.cells
  clear h
  go_enter Try.func36, Try.ntmps36
  go_wp2_with fail
  clear c0 c1 c2 c3 c4 c5 c6 c7 c8 c9 c10 c11 c12 c13 c14 c15
  generalize w.alloc (.cells #[.int .i64 m.id, .int .i64 m.rid, .slice v.ms.a v.ms.n v.ms.c, .slice v.its.a v.its.n v.its.c, .slice v.lv.a v.lv.n v.lv.c, .slice v.tx.a v.tx.n v.tx.c, .int .i64 m.rd, .int .i64 m.se, .int .i64 m.li, .int .i64 m.he, .int .i64 m.la.c, .int .i64 m.la.r, .int .i64 m.la.q, .int .i64 m.la.a, .int .i64 m.la.b, .slice v.ws.a v.ws.n v.ws.c] 32) = W at *
  refine (spRingOk_r m.rid m.ms (show Hid (RI W v.ms.v m.ms) from HR.out.ms) hs.out.ms).mono ?_
  rintro e w1 ⟨rfl, b⟩
  have HA : Hid (MtB w1 w.heap.size 32 m v) := Bx.later HA.out b
  have HR : Hid (MtR w1 m v) := HR.out.stays b
  have HL : Hid (Below w.heap.size w w1) := bl_next HL.out b
  clear b
  obtain ⟨R0, hR⟩ : ∃ R, (ringB m.rid m.ms) = R := ⟨_, rfl⟩
  rw [hR]
  have K0 : Hid ((ringB m.rid m.ms) = R0) := hR
  clear hR
  cases R0 with
  | false =>
    obtain ⟨⟨c0, c1, c2, c3, c4, c5⟩, ⟨c6, c7, c8, c9⟩, c10, c11, c12, c13, c14, c15⟩ := HA.out.cells
    go_wp2_with fail
    go_ret
    exact ⟨by unfold Mt.ok; rw [K0.out]; rfl, HL.out⟩
  | true =>
    obtain ⟨⟨c0, c1, c2, c3, c4, c5⟩, ⟨c6, c7, c8, c9⟩, c10, c11, c12, c13, c14, c15⟩ := HA.out.cells
    go_wp2_with fail
    clear c0 c1 c2 c3 c4 c5 c6 c7 c8 c9 c10 c11 c12 c13 c14 c15
    refine (lin_r m.ms m.id HR.out.ms hs.out.ms).mono ?_
    rintro e w2 ⟨rfl, b⟩
    have HA : Hid (MtB w2 w.heap.size 32 m v) := Bx.later HA.out b
    have HR : Hid (MtR w2 m v) := HR.out.stays b
    have HL : Hid (Below w.heap.size w w2) := bl_next HL.out b
    clear b
    obtain ⟨R1, hR⟩ : ∃ R, (inB m.ms m.id) = R := ⟨_, rfl⟩
    rw [hR]
    have K1 : Hid ((inB m.ms m.id) = R1) := hR
    clear hR
    cases R1 with
    | false =>
      obtain ⟨⟨c0, c1, c2, c3, c4, c5⟩, ⟨c6, c7, c8, c9⟩, c10, c11, c12, c13, c14, c15⟩ := HA.out.cells
      go_wp2_with fail
      go_ret
      exact ⟨by unfold Mt.ok; rw [K0.out, K1.out]; rfl, HL.out⟩
    | true =>
      obtain ⟨⟨c0, c1, c2, c3, c4, c5⟩, ⟨c6, c7, c8, c9⟩, c10, c11, c12, c13, c14, c15⟩ := HA.out.cells
      go_wp2_with fail
      clear c0 c1 c2 c3 c4 c5 c6 c7 c8 c9 c10 c11 c12 c13 c14 c15
      refine (spItemsOk_r m.its HR.out.its hs.out.its).mono ?_
      rintro e w3 ⟨rfl, b⟩
      have HA : Hid (MtB w3 w.heap.size 32 m v) := Bx.later HA.out b
      have HR : Hid (MtR w3 m v) := HR.out.stays b
      have HL : Hid (Below w.heap.size w w3) := bl_next HL.out b
      clear b
      obtain ⟨R2, hR⟩ : ∃ R, (iGo 0 m.its) = R := ⟨_, rfl⟩
      rw [hR]
      have K2 : Hid ((iGo 0 m.its) = R2) := hR
      clear hR
      cases R2 with
      | false =>
        obtain ⟨⟨c0, c1, c2, c3, c4, c5⟩, ⟨c6, c7, c8, c9⟩, c10, c11, c12, c13, c14, c15⟩ := HA.out.cells
        go_wp2_with fail
        go_ret
        exact ⟨by unfold Mt.ok; rw [K0.out, K1.out, K2.out]; rfl, HL.out⟩
      | true =>
        obtain ⟨⟨c0, c1, c2, c3, c4, c5⟩, ⟨c6, c7, c8, c9⟩, c10, c11, c12, c13, c14, c15⟩ := HA.out.cells
        go_wp2_with fail
        clear c0 c1 c2 c3 c4 c5 c6 c7 c8 c9 c10 c11 c12 c13 c14 c15
        refine (show Calls Try.prog 98 #[.slice v.lv.a v.lv.n v.lv.c, .slice v.tx.a v.tx.n v.tx.c] _ (fun e w' => e = .returned (.bool (sayB m.lv m.tx)) ∧ Below _ _ w') from (tenTexts_any v.lv v.tx m.lv m.tx _ HR.out.lv HR.out.tx hs.out.lv hs.out.tx).mono fun e w' ⟨x, y⟩ => ⟨x, same_below y⟩).mono ?_
        rintro e w4 ⟨rfl, b⟩
        have HA : Hid (MtB w4 w.heap.size 32 m v) := Bx.later HA.out b
        have HR : Hid (MtR w4 m v) := HR.out.stays b
        have HL : Hid (Below w.heap.size w w4) := bl_next HL.out b
        clear b
        obtain ⟨R3, hR⟩ : ∃ R, (sayB m.lv m.tx) = R := ⟨_, rfl⟩
        rw [hR]
        have K3 : Hid ((sayB m.lv m.tx) = R3) := hR
        clear hR
        cases R3 with
        | false =>
          obtain ⟨⟨c0, c1, c2, c3, c4, c5⟩, ⟨c6, c7, c8, c9⟩, c10, c11, c12, c13, c14, c15⟩ := HA.out.cells
          go_wp2_with fail
          go_ret
          exact ⟨by unfold Mt.ok; rw [K0.out, K1.out, K2.out, K3.out]; rfl, HL.out⟩
        | true =>
          obtain ⟨⟨c0, c1, c2, c3, c4, c5⟩, ⟨c6, c7, c8, c9⟩, c10, c11, c12, c13, c14, c15⟩ := HA.out.cells
          go_wp2_with fail
          clear c0 c1 c2 c3 c4 c5 c6 c7 c8 c9 c10 c11 c12 c13 c14 c15
          refine (in_b m.rd 0 1000000000 _).mono ?_
          rintro e w5 ⟨rfl, b⟩
          have HA : Hid (MtB w5 w.heap.size 32 m v) := Bx.later HA.out b
          have HR : Hid (MtR w5 m v) := HR.out.stays b
          have HL : Hid (Below w.heap.size w w5) := bl_next HL.out b
          clear b
          obtain ⟨R4, hR⟩ : ∃ R, (decide (0 ≤ m.rd ∧ m.rd ≤ 1000000000)) = R := ⟨_, rfl⟩
          rw [hR]
          have K4 : Hid ((decide (0 ≤ m.rd ∧ m.rd ≤ 1000000000)) = R4) := hR
          clear hR
          cases R4 with
          | false =>
            obtain ⟨⟨c0, c1, c2, c3, c4, c5⟩, ⟨c6, c7, c8, c9⟩, c10, c11, c12, c13, c14, c15⟩ := HA.out.cells
            go_wp2_with fail
            go_ret
            exact ⟨by unfold Mt.ok; rw [K0.out, K1.out, K2.out, K3.out, K4.out]; rfl, HL.out⟩
          | true =>
            obtain ⟨⟨c0, c1, c2, c3, c4, c5⟩, ⟨c6, c7, c8, c9⟩, c10, c11, c12, c13, c14, c15⟩ := HA.out.cells
            go_wp2_with fail
            clear c0 c1 c2 c3 c4 c5 c6 c7 c8 c9 c10 c11 c12 c13 c14 c15
            refine (in_b m.se 0 60 _).mono ?_
            rintro e w6 ⟨rfl, b⟩
            have HA : Hid (MtB w6 w.heap.size 32 m v) := Bx.later HA.out b
            have HR : Hid (MtR w6 m v) := HR.out.stays b
            have HL : Hid (Below w.heap.size w w6) := bl_next HL.out b
            clear b
            obtain ⟨R5, hR⟩ : ∃ R, (decide (0 ≤ m.se ∧ m.se ≤ 60)) = R := ⟨_, rfl⟩
            rw [hR]
            have K5 : Hid ((decide (0 ≤ m.se ∧ m.se ≤ 60)) = R5) := hR
            clear hR
            cases R5 with
            | false =>
              obtain ⟨⟨c0, c1, c2, c3, c4, c5⟩, ⟨c6, c7, c8, c9⟩, c10, c11, c12, c13, c14, c15⟩ := HA.out.cells
              go_wp2_with fail
              go_ret
              exact ⟨by unfold Mt.ok; rw [K0.out, K1.out, K2.out, K3.out, K4.out, K5.out]; rfl, HL.out⟩
            | true =>
              obtain ⟨⟨c0, c1, c2, c3, c4, c5⟩, ⟨c6, c7, c8, c9⟩, c10, c11, c12, c13, c14, c15⟩ := HA.out.cells
              go_wp2_with fail
              clear c0 c1 c2 c3 c4 c5 c6 c7 c8 c9 c10 c11 c12 c13 c14 c15
              refine (spAru_r m.its HR.out.its hs.out.its).mono ?_
              rintro e w7 ⟨rfl, b⟩
              have HA : Hid (MtB w7 w.heap.size 32 m v) := Bx.later HA.out b
              have HR : Hid (MtR w7 m v) := HR.out.stays b
              have HL : Hid (Below w.heap.size w w7) := bl_next HL.out b
              clear b
              obtain ⟨⟨c0, c1, c2, c3, c4, c5⟩, ⟨c6, c7, c8, c9⟩, c10, c11, c12, c13, c14, c15⟩ := HA.out.cells
              go_wp2_with fail
              clear c0 c1 c2 c3 c4 c5 c6 c7 c8 c9 c10 c11 c12 c13 c14 c15
              refine (in_b m.li 0 ((aruP m.its : Nat) : Int) _).mono ?_
              rintro e w8 ⟨rfl, b⟩
              have HA : Hid (MtB w8 w.heap.size 32 m v) := Bx.later HA.out b
              have HR : Hid (MtR w8 m v) := HR.out.stays b
              have HL : Hid (Below w.heap.size w w8) := bl_next HL.out b
              clear b
              obtain ⟨R6, hR⟩ : ∃ R, (decide (0 ≤ m.li ∧ m.li ≤ ((aruP m.its : Nat) : Int))) = R := ⟨_, rfl⟩
              rw [hR]
              have K6 : Hid ((decide (0 ≤ m.li ∧ m.li ≤ ((aruP m.its : Nat) : Int))) = R6) := hR
              clear hR
              cases R6 with
              | false =>
                obtain ⟨⟨c0, c1, c2, c3, c4, c5⟩, ⟨c6, c7, c8, c9⟩, c10, c11, c12, c13, c14, c15⟩ := HA.out.cells
                go_wp2_with fail
                go_ret
                exact ⟨by unfold Mt.ok; rw [K0.out, K1.out, K2.out, K3.out, K4.out, K5.out, K6.out]; rfl, HL.out⟩
              | true =>
                obtain ⟨⟨c0, c1, c2, c3, c4, c5⟩, ⟨c6, c7, c8, c9⟩, c10, c11, c12, c13, c14, c15⟩ := HA.out.cells
                go_wp2_with fail
                clear c0 c1 c2 c3 c4 c5 c6 c7 c8 c9 c10 c11 c12 c13 c14 c15
                refine (in_b m.he 0 ((aruP m.its : Nat) : Int) _).mono ?_
                rintro e w9 ⟨rfl, b⟩
                have HA : Hid (MtB w9 w.heap.size 32 m v) := Bx.later HA.out b
                have HR : Hid (MtR w9 m v) := HR.out.stays b
                have HL : Hid (Below w.heap.size w w9) := bl_next HL.out b
                clear b
                obtain ⟨R7, hR⟩ : ∃ R, (decide (0 ≤ m.he ∧ m.he ≤ ((aruP m.its : Nat) : Int))) = R := ⟨_, rfl⟩
                rw [hR]
                have K7 : Hid ((decide (0 ≤ m.he ∧ m.he ≤ ((aruP m.its : Nat) : Int))) = R7) := hR
                clear hR
                cases R7 with
                | false =>
                  obtain ⟨⟨c0, c1, c2, c3, c4, c5⟩, ⟨c6, c7, c8, c9⟩, c10, c11, c12, c13, c14, c15⟩ := HA.out.cells
                  go_wp2_with fail
                  go_ret
                  exact ⟨by unfold Mt.ok; rw [K0.out, K1.out, K2.out, K3.out, K4.out, K5.out, K6.out, K7.out]; rfl, HL.out⟩
                | true =>
                  obtain ⟨⟨c0, c1, c2, c3, c4, c5⟩, ⟨c6, c7, c8, c9⟩, c10, c11, c12, c13, c14, c15⟩ := HA.out.cells
                  go_wp2_with fail
                  clear c0 c1 c2 c3 c4 c5 c6 c7 c8 c9 c10 c11 c12 c13 c14 c15
                  refine (blank_any m.la.c m.la.r m.la.q m.la.a m.la.b v.ws m.la.ws _ LW).mono ?_
                  rintro e w10 ⟨rfl, b⟩
                  have HA : Hid (MtB w10 w.heap.size 32 m v) := Bx.later HA.out b
                  have HR : Hid (MtR w10 m v) := HR.out.stays b
                  have HL : Hid (Below w.heap.size w w10) := bl_next HL.out b
                  clear b
                  obtain ⟨R8, hR⟩ : ∃ R, (ntB m.la.c m.la.r m.la.q m.la.a m.la.b m.la.ws) = R := ⟨_, rfl⟩
                  rw [hR]
                  have K8 : Hid ((ntB m.la.c m.la.r m.la.q m.la.a m.la.b m.la.ws) = R8) := hR
                  clear hR
                  cases R8 with
                  | true =>
                    obtain ⟨⟨c0, c1, c2, c3, c4, c5⟩, ⟨c6, c7, c8, c9⟩, c10, c11, c12, c13, c14, c15⟩ := HA.out.cells
                    go_wp2_with fail
                    go_ret
                    exact ⟨by unfold Mt.ok; rw [K0.out, K1.out, K2.out, K3.out, K4.out, K5.out, K6.out, K7.out, K8.out]; rfl, HL.out⟩
                  | false =>
                    obtain ⟨⟨c0, c1, c2, c3, c4, c5⟩, ⟨c6, c7, c8, c9⟩, c10, c11, c12, c13, c14, c15⟩ := HA.out.cells
                    go_wp2_with fail
                    clear c0 c1 c2 c3 c4 c5 c6 c7 c8 c9 c10 c11 c12 c13 c14 c15
                    refine (spTokenOk_r m.la.c m.la.r m.la.q m.la.a m.la.b m.la.ws HR.out.ws hs.out.ws).mono ?_
                    rintro e w11 ⟨rfl, b⟩
                    have HA : Hid (MtB w11 w.heap.size 32 m v) := Bx.later HA.out b
                    have HR : Hid (MtR w11 m v) := HR.out.stays b
                    have HL : Hid (Below w.heap.size w w11) := bl_next HL.out b
                    clear b
                    go_wp2_with fail
                    go_ret
                    exact ⟨by unfold Mt.ok; rw [K0.out, K1.out, K2.out, K3.out, K4.out, K5.out, K6.out, K7.out, K8.out]; rfl, HL.out⟩
end Go.Proofs.Ytpbhcbgohgfkcaa

/- The walks over both PutItem. -/
namespace Go.Proofs.Ytpbhcbgohgfkcaa
open Go.RowKit Pl
set_option linter.unusedVariables false

/-- what PutItem answers. -/
def putP (ts : List It) (y : It) : List It := if iGo 0 ts = true ∧ itB y.1 y.2.1 y.2.2.1 y.2.2.2 = true then ins1 ts y else ts
theorem iGo_asc : ∀ (ts : List It) (L : Int), iGo L ts = true → Asc ts ∧ ∀ x ∈ ts, L < x.1 ∧ itB x.1 x.2.1 x.2.2.1 x.2.2.2 = true
  | [], _, _ => ⟨List.Pairwise.nil, fun x hx => by cases hx⟩
  | x :: xs, L, h => by
    rw [iGo] at h
    split at h
    · cases h
    · rename_i hn
      have h1 : itB x.1 x.2.1 x.2.2.1 x.2.2.2 = true := by
        cases hb : itB x.1 x.2.1 x.2.2.1 x.2.2.2 with
        | true => rfl
        | false => exact absurd (.inl hb) hn
      have h2 : L < x.1 := by
        rcases Int.lt_or_le L x.1 with h | h
        · exact h
        · exact absurd (.inr h) hn
      obtain ⟨ha, hb⟩ := iGo_asc xs x.1 h
      refine ⟨List.pairwise_cons.2 ⟨fun y hy => (hb y hy).1, ha⟩, fun y hy => ?_⟩
      rcases List.mem_cons.1 hy with rfl | hy
      · exact ⟨h2, h1⟩
      · have := hb y hy
        exact ⟨by omega, this.2⟩
theorem iGo_of : ∀ (ts : List It) (L : Int), Asc ts → (∀ x ∈ ts, L < x.1 ∧ itB x.1 x.2.1 x.2.2.1 x.2.2.2 = true) → iGo L ts = true
  | [], _, _, _ => rfl
  | x :: xs, L, ha, h => by
    obtain ⟨h1, h2⟩ := h x (List.mem_cons_self ..)
    rw [iGo_step h2 h1]
    obtain ⟨h3, h4⟩ := List.pairwise_cons.1 ha
    exact iGo_of xs x.1 h4 fun y hy => ⟨h3 y hy, (h y (List.mem_cons_of_mem _ hy)).2⟩
/-- a right list is short. -/
theorem asc_bound : ∀ (ts : List It) (L M : Int), Asc ts → (∀ x ∈ ts, L < x.1 ∧ x.1 ≤ M) → (ts.length : Int) ≤ M - L ∨ ts = []
  | [], _, _, _, _ => .inr rfl
  | x :: xs, L, M, ha, h => by
    obtain ⟨h1, h2⟩ := h x (List.mem_cons_self ..)
    obtain ⟨h3, h4⟩ := List.pairwise_cons.1 ha
    rcases asc_bound xs x.1 M h4 (fun y hy => ⟨h3 y hy, (h y (List.mem_cons_of_mem _ hy)).2⟩) with h5 | h5
    · left; simp only [List.length_cons]; omega
    · subst h5; left; simp; omega
theorem itB_range {q f l : Int} {t : ByteArray} (h : itB q f l t = true) : 1 ≤ q ∧ q ≤ 60 := by
  have := itB_true.1 h
  unfold ItOk at this
  omega
theorem iGo_short {ts : List It} (h : iGo 0 ts = true) : ts.length ≤ 60 := by
  obtain ⟨ha, hb⟩ := iGo_asc ts 0 h
  rcases asc_bound ts 0 60 ha (fun x hx => ⟨(hb x hx).1, (itB_range (hb x hx).2).2⟩) with h1 | h1
  · omega
  · subst h1; simp
theorem putP_len (ts : List It) (y : It) : (putP ts y).length ≤ ts.length + 1 := by
  unfold putP
  split
  · rename_i h
    exact ins1_len ts y (iGo_asc ts 0 h.1).1
  · omega

theorem itemsB_is {ts : List It} {b : Bool} (ao : Option Addr) (cap : Nat) (w : World) (hx : Hid (ItemsAt w ao ts)) (hl : ts.length ≤ 1048576) (h : iGo 0 ts = b) :
    Calls Try.prog 54 #[.slice ao ts.length cap] w fun e w' => e = .returned (.bool b) ∧ Below w.heap.size w w' := by rw [← h]; exact itemsOk_any ao cap ts w hx hl
theorem spItemsB_is {ts : List It} {b : Bool} (ao : Option Addr) (cap : Nat) (w : World) (hx : Hid (ItemsAt w ao ts)) (hl : ts.length ≤ 1048576) (h : iGo 0 ts = b) :
    Calls Try.prog 97 #[.slice ao ts.length cap] w fun e w' => e = .returned (.bool b) ∧ Below w.heap.size w w' := by rw [← h]; exact spItemsOk_any ao cap ts w hx hl

end Go.Proofs.Ytpbhcbgohgfkcaa

/- The walk over the specification's PutItem. -/
namespace Go.Proofs.Ytpbhcbgohgfkcaa
open Go.RowKit Pl
set_option linter.unusedVariables false

/-- where a walk is to stand. -/
def Stop (p : Prop) : Prop := p
theorem Stop.mk {p : Prop} (h : Stop p) : p := h
theorem Stop.go {p : Prop} (h : p) : Stop p := h

theorem filt_step {ts : List It} {k : Nat} (hk : k < ts.length) (g : It → Bool) : (ts.take (k + 1)).filter g = (ts.take k).filter g ++ if g ts[k] = true then [ts[k]] else [] := by
  rw [List.take_succ_eq_append_getElem hk, List.filter_append]
  congr 1
  by_cases h : g ts[k] = true <;> simp [h]
theorem filt_len (ts : List It) (k : Nat) (g : It → Bool) : ((ts.take k).filter g).length ≤ ts.length :=
  Nat.le_trans (List.length_filter_le _ _) (by rw [List.length_take]; omega)

theorem both_le (q : Int) : ∀ l : List It, (l.filter (fun x => decide (x.1 < q))).length + (l.filter (fun x => decide (q < x.1))).length ≤ l.length
  | [] => by simp
  | a :: l => by
    have ih := both_le q l
    rw [List.filter_cons, List.filter_cons]
    by_cases h1 : a.1 < q
    · have : ¬ q < a.1 := by omega
      simp [h1, this]; omega
    · by_cases h2 : q < a.1
      · simp [h1, h2]; omega
      · simp [h1, h2]; omega
theorem both_len (ts : List It) (q : Int) (y : It) (k : Nat) (h : ts.length ≤ 1048575) : (ts.filter (fun x => decide (x.1 < q)) ++ y :: (ts.take k).filter fun x => decide (q < x.1)).length ≤ 1048576 := by
  have h1 := both_le q ts
  have h2 : ((ts.take k).filter fun x => decide (q < x.1)).length ≤ (ts.filter fun x => decide (q < x.1)).length := ((List.take_sublist k ts).filter _).length_le
  simp only [List.length_append, List.length_cons]
  omega

set_option maxRecDepth 100000 in
set_option maxHeartbeats 4000000 in
theorem spPutItem_any (ao : Option Addr) (cap : Nat) (ts : List It) (q f l : Int) (t : ByteArray) (w : World) (hx : Hid (ItemsAt w ao ts)) (hl : ts.length ≤ 1048576) :
    Calls Try.prog 104 #[.slice ao ts.length cap, .agg #[.int .i64 q, .int .i64 f, .int .i64 l, .string t]] w fun e w' => ∃ v, e = .returned v ∧ SlI w' w.heap.size v (putP ts (q, f, l, t)) ∧ Below w.heap.size w w' := by
  obtain ⟨W0, hW0⟩ : ∃ W0, W0 = (w.alloc (.cells #[.int .i64 q, .int .i64 f, .int .i64 l, .string t] 38)).alloc (.cells #[] 38) := ⟨_, rfl⟩
  have I0 : Hid (ItAt W0 w.heap.size q f l t) := by
    rw [hW0]
    exact ItAt.stays (show ItAt (w.alloc (.cells #[.int .i64 q, .int .i64 f, .int .i64 l, .string t] 38)) w.heap.size q f l t from heap_alloc_new w _) ((Below.refl _ _).alloc (Nat.le_refl _) _) (by simp)
  have B0 : Hid (Below w.heap.size w W0) := by
    rw [hW0]
    exact ((Below.refl _ _).alloc (Nat.le_refl _) _).alloc (by simp) _
  have S0 : Hid (Sl W0 38 4 w.heap.size (.slice (some ⟨w.heap.size + 1, 0, none⟩) 0 0) 0 []) := by
    rw [hW0]
    have h := Sl.made (w.alloc (.cells #[.int .i64 q, .int .i64 f, .int .i64 l, .string t] 38)) 38 4 w.heap.size (by simp)
    rw [show (w.alloc (.cells #[.int .i64 q, .int .i64 f, .int .i64 l, .string t] 38)).heap.size = w.heap.size + 1 by simp] at h
    exact h
  have X0 : Hid (ItemsAt W0 ao ts) := hx.out.stays B0.out
  have N0 : Hid (∀ b off, ao = some ⟨b, off, none⟩ → 0 < ts.length → b < w.heap.size) := fun b off e h0 => by
    obtain ⟨b', off', e', hb', _⟩ := hx.out 0 h0
    rw [e] at e'
    simp at e'
    omega
  have R0 : Hid (Src Try.prog 4 27 (.slice ao ts.length cap) ts.length (cels ts) W0) := src_items 27 Try.underlying27 cap X0.out
  have zw0 : w.heap.size + 2 ≤ W0.heap.size := by rw [hW0]; simp
  have HW : Hid (W0 = (w.alloc (.cells #[.int .i64 q, .int .i64 f, .int .i64 l, .string t] 38)).alloc (.cells #[] 38)) := hW0
  clear hW0
  go_enter Try.func104, Try.ntmps104
  go_wp2_with (at_builtin; refine Stop.mk ?_)
  refine Stop.go ?_
  rw [← HW.out]
  clear HW
  refine wpList_appendS rfl _ _ 27 rfl _ 40 Try.underlying27 Try.infoI rfl rfl S0.out _ ts.length (cels ts) rfl R0.out (by unfold maxLen; omega) (by omega) (by omega) ?_
  intro v1 w1 S1 g1 o1
  have g1 : W0.grownBy w1 (some (w.heap.size + 1)) := g1
  have S1 : Hid (SlI w1 w.heap.size v1 ts) := by
    unfold SlI
    rw [show ts.length = 0 + ts.length by omega]
    exact S1
  have I1 : Hid (ItAt w1 w.heap.size q f l t) := (g1.block w.heap.size I0.out.lt (by simp)).trans I0.out
  have B1 : Hid (Below w.heap.size w w1) := B0.out.grown g1 (by omega) (fun k hk => by simp at hk; omega)
  have X1 : Hid (ItemsAt w1 ao ts) := hx.out.stays B1.out
  clear S0 g1 o1 I0 B0 X0 N0 R0 zw0
  cases hi : iGo 0 ts with
  | false =>
    have HR : Hid (putP ts (q, f, l, t) = ts) := by show _ = _; unfold putP; rw [if_neg (by rw [hi]; simp)]
    go_wp2_with fail
    refine (spItemsB_is ao cap w1 X1 (by omega) hi).mono ?_
    rintro e w2 ⟨rfl, b2⟩
    have S2 : Hid (SlI w2 w.heap.size v1 ts) := S1.out.below b2
    have B2 : Hid (Below w.heap.size w w2) := B1.out.trans (b2.mono B1.out.size)
    clear b2 hi
    go_wp2_with fail
    go_ret
    exact ⟨_, rfl, by rw [HR.out]; exact S2.out, B2.out⟩
  | true =>
    go_wp2_with fail
    refine (spItemsB_is ao cap w1 X1 (by omega) hi).mono ?_
    rintro e w2 ⟨rfl, b2⟩
    have S2 : Hid (SlI w2 w.heap.size v1 ts) := S1.out.below b2
    have I2 := I1.out.stays b2 I1.out.lt
    have B2 : Hid (Below w.heap.size w w2) := B1.out.trans (b2.mono B1.out.size)
    obtain ⟨c0, c1, c2, c3⟩ := I2.cells
    have I2 : Hid (ItAt w2 w.heap.size q f l t) := I2
    clear b2 S1 I1 X1 B1
    cases hm : itB q f l t with
    | false =>
      have HR : Hid (putP ts (q, f, l, t) = ts) := by show _ = _; unfold putP; rw [if_neg (by dsimp only; rw [hm]; simp)]
      clear hi
      go_wp2_with fail
      refine (spItB_is _ hm).mono ?_
      rintro e w3 ⟨rfl, b3⟩
      have S3 : Hid (SlI w3 w.heap.size v1 ts) := S2.out.below b3
      have B3 : Hid (Below w.heap.size w w3) := B2.out.trans (b3.mono B2.out.size)
      clear b3 hm
      go_wp2_with fail
      go_ret
      exact ⟨_, rfl, by rw [HR.out]; exact S3.out, B3.out⟩
    | true =>
      have HR : Hid (putP ts (q, f, l, t) = ins1 ts (q, f, l, t)) := by show _ = _; unfold putP; rw [if_pos ⟨hi, hm⟩]
      have hl60 : ts.length ≤ 60 := iGo_short hi
      clear hi
      go_wp2_with fail
      refine (spItB_is _ hm).mono ?_
      rintro e w3 ⟨rfl, b3⟩
      have S3 : Hid (SlI w3 w.heap.size v1 ts) := S2.out.below b3
      have I3 : Hid (ItAt w3 w.heap.size q f l t) := I2.out.stays b3 I2.out.lt
      have B3 : Hid (Below w.heap.size w w3) := B2.out.trans (b3.mono B2.out.size)
      have O0 : Hid (SlI (w3.alloc (.cells #[] 38)) w3.heap.size (.slice (some ⟨w3.heap.size, 0, none⟩) 0 0) []) := SlI.made w3 w3.heap.size (Nat.le_refl _)
      have C0 : Hid (Below w3.heap.size w3 (w3.alloc (.cells #[] 38))) := (Below.refl _ _).alloc (Nat.le_refl _) _
      have z3 : w.heap.size < w3.heap.size := I3.out.lt
      clear c0 c1 c2 c3 b3 hm S2 I2 B2
      go_wp2
      go_loopw [6, 7] (fun u i wr => ∃ (k : Nat), k ≤ ts.length ∧ i = .int .i64 k ∧ Hid (∀ x ∈ ts.take k, ¬ x.1 = q) ∧ Hid (SlI wr w3.heap.size u ((ts.take k).filter fun x => decide (x.1 < q))) ∧ Hid (Below w3.heap.size w3 wr)) (fun _ i _ => ts.length - (intOf i).toNat)
      case atStart => exact ⟨0, Nat.zero_le _, rfl, (fun x hx => by simp at hx : ∀ x ∈ ts.take 0, ¬ x.1 = q), O0, C0⟩
      case round =>
        clear O0 C0
        obtain ⟨k, hk, rfl, hst, hS, hb⟩ := hrel
        have Br : Below w.heap.size w wr := B3.out.trans (hb.out.mono (by omega))
        have zr : w3.heap.size ≤ wr.heap.size := hb.out.size
        by_cases hlt : k < ts.length
        · obtain ⟨b, off, rfl, hbb, h0, h1, h2, h3⟩ := hx.out.stays Br k hlt
          have HP : Hid (∃ x : It, x = ts[k]) := ⟨_, rfl⟩
          obtain ⟨⟨q', f', lv, tx⟩, hp⟩ := HP.out
          rw [← hp] at h0 h1 h2 h3
          have HQ : Hid ((q', f', lv, tx) = ts[k]) := hp
          have hfs := filt_step hlt (fun x => decide (x.1 < q))
          rw [← hp] at hfs
          have HFS : Hid _ := hfs
          clear hp HP hfs
          dsimp only at h0 h1 h2 h3
          obtain ⟨m0, m1, m2, m3⟩ := (I3.out.stays hb.out (by omega)).cells
          have i0 : (0 : Int) ≤ (k : Int) := by omega
          have i1 : (k : Int) < (ts.length : Int) := by omega
          by_cases hq : q' = q
          · subst hq
            have HHA : Hid (hasP ts q' = true) := hasP_iff.2 ⟨ts[k], List.getElem_mem hlt, by rw [← HQ.out]⟩
            have S4 : Hid (SlI wr w.heap.size v1 ts) := S3.out.keep (fun k hk hl => hb.out.block k hl)
            go_wp2_with fail
            go_region
            go_wp2_with fail
            go_ret
            refine ⟨_, rfl, ?_, (Br.drew : Below w.heap.size w wr.drew)⟩
            rw [HR.out, ins1_has HHA.out]
            exact S4.out.drew
          · have HST : Hid (∀ x ∈ ts.take (k + 1), ¬ x.1 = q) := take_step hlt hst.out (by rw [← HQ.out]; exact hq)
            have S4 : Hid (SlI wr.drew.drew w3.heap.size u6 ((ts.take k).filter fun x => decide (x.1 < q))) := hS.out.drew.drew
            have B4 : Hid (Below w3.heap.size w3 wr.drew.drew) := hb.out.drew.drew
            have z4 : w3.heap.size ≤ wr.drew.drew.heap.size := zr
            have e0 : wr.drew.drew.cell? ⟨b, off + k * 4, none⟩ = some (.int .i64 q') := h0
            have e1 : wr.drew.drew.cell? ⟨b, off + k * 4 + 1, none⟩ = some (.int .i64 f') := h1
            have e2 : wr.drew.drew.cell? ⟨b, off + k * 4 + 2, none⟩ = some (.int .i64 lv) := h2
            have e3 : wr.drew.drew.cell? ⟨b, off + k * 4 + 3, none⟩ = some (.string tx) := h3
            have hlk : ((ts.take k).filter fun x => decide (x.1 < q)).length ≤ 1048576 := Nat.le_trans (filt_len ts k _) (by omega)
            by_cases hq2 : q' < q
            · have HLS : Hid ((ts.take (k + 1)).filter (fun x => decide (x.1 < q)) = (ts.take k).filter (fun x => decide (x.1 < q)) ++ [(q', f', lv, tx)]) := by
                have := HFS.out
                rwa [if_pos (by simpa using hq2)] at this
              go_wp2_with fail
              go_region
              go_wp2_with fail
              go_region
              clear h0 h1 h2 h3 m0 m1 m2 m3 HFS
              generalize wr.drew.drew = W4 at *
              go_wp2_with (at_builtin; refine wpList_pushIt rfl _ _ 27 rfl Try.underlying27 w3.heap.size u6 _ rfl S4.out (q', f', lv, tx) rfl hlk z4 ?_; intro v2 w5 S5 g5 b5 _)
              have S5 : Hid (SlI w5 w3.heap.size v2 ((ts.take (k + 1)).filter fun x => decide (x.1 < q))) := by
                rw [HLS.out]
                exact S5
              have B5 : Hid (Below w3.heap.size w3 w5) := B4.out.trans b5
              go_roundw
              case rel => exact ⟨k + 1, by omega, by go_num, HST, S5, B5⟩
              case measure => simp [intOf]; omega
            · have HLS : Hid ((ts.take (k + 1)).filter (fun x => decide (x.1 < q)) = (ts.take k).filter (fun x => decide (x.1 < q))) := by
                have := HFS.out
                rwa [if_neg (by simpa using hq2), List.append_nil] at this
              have S5 : Hid (SlI wr.drew.drew w3.heap.size u6 ((ts.take (k + 1)).filter fun x => decide (x.1 < q))) := by
                rw [HLS.out]
                exact S4
              go_wp2_with fail
              go_region
              go_wp2_with fail
              go_region
              clear h0 h1 h2 h3 m0 m1 m2 m3 HFS e0 e1 e2 e3 S4
              generalize wr.drew.drew = W4 at *
              go_wp2_with fail
              go_roundw
              case rel => exact ⟨k + 1, by omega, by go_num, HST, S5, B4⟩
              case measure => simp [intOf]; omega
        · have HNO : Hid (hasP ts q = false) := hasP_false.2 (by have := hst.out; rwa [List.take_of_length_le (by omega)] at this)
          have S4 : Hid (SlI wr w3.heap.size u6 (ts.filter fun x => decide (x.1 < q))) := by
            have := hS.out
            rw [List.take_of_length_le (by omega)] at this
            exact this
          obtain ⟨m0, m1, m2, m3⟩ := (I3.out.stays hb.out (by omega)).cells
          have hlk : (ts.filter fun x => decide (x.1 < q)).length ≤ 1048576 := Nat.le_trans (List.length_filter_le _ _) (by omega)
          clear hst hS
          go_wp2_with (at_builtin; refine wpList_pushIt rfl _ _ 27 rfl Try.underlying27 w3.heap.size u6 _ rfl S4.out (q, f, l, t) rfl hlk zr ?_; intro v5 w5 S5 g5 b5 _)
          have S5 : Hid (SlI w5 w3.heap.size v5 (ts.filter (fun x => decide (x.1 < q)) ++ (q, f, l, t) :: (ts.take 0).filter fun x => decide (q < x.1))) := S5
          have B5 : Hid (Below w3.heap.size w3 w5) := hb.out.trans b5
          clear S4 m0 m1 m2 m3 g5 b5 hb Br zr hlt hlk
          go_loopw [6, 8] (fun u i wr => ∃ (k : Nat), k ≤ ts.length ∧ i = .int .i64 k ∧ Hid (SlI wr w3.heap.size u (ts.filter (fun x => decide (x.1 < q)) ++ (q, f, l, t) :: (ts.take k).filter fun x => decide (q < x.1))) ∧ Hid (Below w3.heap.size w3 wr)) (fun _ i _ => ts.length - (intOf i).toNat)
          case atStart => exact ⟨0, Nat.zero_le _, rfl, S5, B5⟩
          case round =>
            clear S5 B5
            obtain ⟨k, hk, rfl, hS, hb⟩ := hrel
            have Br : Below w.heap.size w wr := B3.out.trans (hb.out.mono (by omega))
            have zr : w3.heap.size ≤ wr.heap.size := hb.out.size
            have hlk : (ts.filter (fun x => decide (x.1 < q)) ++ (q, f, l, t) :: (ts.take k).filter fun x => decide (q < x.1)).length ≤ 1048576 := both_len ts q (q, f, l, t) k (by omega)
            by_cases hlt : k < ts.length
            · obtain ⟨b, off, rfl, hbb, h0, h1, h2, h3⟩ := hx.out.stays Br k hlt
              have HP : Hid (∃ x : It, x = ts[k]) := ⟨_, rfl⟩
              obtain ⟨⟨q', f', lv, tx⟩, hp⟩ := HP.out
              rw [← hp] at h0 h1 h2 h3
              have hfs := filt_step hlt (fun x => decide (q < x.1))
              rw [← hp] at hfs
              have HFS : Hid _ := hfs
              clear hp HP hfs
              dsimp only at h0 h1 h2 h3
              obtain ⟨m0, m1, m2, m3⟩ := (I3.out.stays hb.out (by omega)).cells
              have i0 : (0 : Int) ≤ (k : Int) := by omega
              have i1 : (k : Int) < (ts.length : Int) := by omega
              have S4 : Hid (SlI wr.drew w3.heap.size u6 (ts.filter (fun x => decide (x.1 < q)) ++ (q, f, l, t) :: (ts.take k).filter fun x => decide (q < x.1))) := hS.out.drew
              have B4 : Hid (Below w3.heap.size w3 wr.drew) := hb.out.drew
              have z4 : w3.heap.size ≤ wr.drew.heap.size := zr
              have e0 : wr.drew.cell? ⟨b, off + k * 4, none⟩ = some (.int .i64 q') := h0
              have e1 : wr.drew.cell? ⟨b, off + k * 4 + 1, none⟩ = some (.int .i64 f') := h1
              have e2 : wr.drew.cell? ⟨b, off + k * 4 + 2, none⟩ = some (.int .i64 lv) := h2
              have e3 : wr.drew.cell? ⟨b, off + k * 4 + 3, none⟩ = some (.string tx) := h3
              by_cases hq2 : q < q'
              · have HLS : Hid (ts.filter (fun x => decide (x.1 < q)) ++ (q, f, l, t) :: (ts.take (k + 1)).filter (fun x => decide (q < x.1)) = (ts.filter (fun x => decide (x.1 < q)) ++ (q, f, l, t) :: (ts.take k).filter (fun x => decide (q < x.1))) ++ [(q', f', lv, tx)]) := by
                  have := HFS.out
                  rw [if_pos (by simpa using hq2)] at this
                  show _ = _
                  rw [this]
                  simp
                go_wp2_with fail
                go_region
                clear h0 h1 h2 h3 m0 m1 m2 m3 HFS
                generalize wr.drew = W4 at *
                go_wp2_with (at_builtin; refine wpList_pushIt rfl _ _ 27 rfl Try.underlying27 w3.heap.size u6 _ rfl S4.out (q', f', lv, tx) rfl hlk z4 ?_; intro v2 w5 S5 g5 b5 _)
                have S5 : Hid (SlI w5 w3.heap.size v2 (ts.filter (fun x => decide (x.1 < q)) ++ (q, f, l, t) :: (ts.take (k + 1)).filter (fun x => decide (q < x.1)))) := by
                  rw [HLS.out]
                  exact S5
                have B5 : Hid (Below w3.heap.size w3 w5) := B4.out.trans b5
                go_roundw
                case rel => exact ⟨k + 1, by omega, by go_num, S5, B5⟩
                case measure => simp [intOf]; omega
              · have HLS : Hid ((ts.take (k + 1)).filter (fun x => decide (q < x.1)) = (ts.take k).filter (fun x => decide (q < x.1))) := by
                  have := HFS.out
                  rwa [if_neg (by simpa using hq2), List.append_nil] at this
                have S5 : Hid (SlI wr.drew w3.heap.size u6 (ts.filter (fun x => decide (x.1 < q)) ++ (q, f, l, t) :: (ts.take (k + 1)).filter (fun x => decide (q < x.1)))) := by
                  rw [HLS.out]
                  exact S4
                go_wp2_with fail
                go_region
                clear h0 h1 h2 h3 m0 m1 m2 m3 HFS e0 e1 e2 e3 S4
                generalize wr.drew = W4 at *
                go_wp2_with fail
                go_roundw
                case rel => exact ⟨k + 1, by omega, by go_num, S5, B4⟩
                case measure => simp [intOf]; omega
            · go_wp2_with fail
              go_ret
              refine ⟨_, rfl, ?_, Br⟩
              have := hS.out
              rw [List.take_of_length_le (by omega)] at this
              rw [HR.out]
              unfold ins1
              rw [if_neg (by dsimp only; rw [HNO.out]; simp)]
              exact this.down (by omega)
end Go.Proofs.Ytpbhcbgohgfkcaa

