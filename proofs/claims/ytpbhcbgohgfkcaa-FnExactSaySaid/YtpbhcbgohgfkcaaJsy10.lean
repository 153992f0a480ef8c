/- Joined texts: Mq1 Pb Rl1. -/
import Derived.Test.YtpbhcbgohgfkcaaJsy1
import Derived.Test.YtpbhcbgohgfkcaaJsy2
import Derived.Test.YtpbhcbgohgfkcaaJsy3
import Derived.Test.YtpbhcbgohgfkcaaJsy4
import Derived.Test.YtpbhcbgohgfkcaaJsy5
import Derived.Test.YtpbhcbgohgfkcaaJsy6
import Derived.Test.YtpbhcbgohgfkcaaJsy7
import Derived.Test.YtpbhcbgohgfkcaaJsy8
import Derived.Test.YtpbhcbgohgfkcaaJsy9
import Derived.Deep.RegionHeld3
/- Whether a member is right: the walks over both MateOk. Written by gen_mok.py. -/
namespace Go.Proofs.Ytpbhcbgohgfkcaa
open Go.RowKit Pl
set_option linter.unusedVariables false
set_option linter.unusedSimpArgs false

/-- whether a member is right. -/
def Mt.ok (m : Mt) : Bool := ringB m.rid m.ms && (inB m.ms m.id && (iGo 0 m.its && (sayB m.lv m.tx && (decide (0 ≤ m.rd ∧ m.rd ≤ 1000000000) && (decide (0 ≤ m.se ∧ m.se ≤ 60) && (decide (0 ≤ m.li ∧ m.li ≤ ((aruP m.its : Nat) : Int)) && (decide (0 ≤ m.he ∧ m.he ≤ ((aruP m.its : Nat) : Int)) && (ntB m.la.c m.la.r m.la.q m.la.a m.la.b m.la.ws || tkB m.la.c m.la.r m.la.q m.la.a m.la.b m.la.ws))))))))

theorem okM_parts (m : Mt) : m.ok = ((ringB m.rid m.ms && inB m.ms m.id) && (iGo 0 m.its && (sayB m.lv m.tx && (decide (0 ≤ m.rd ∧ m.rd ≤ 1000000000) && (decide (0 ≤ m.se ∧ m.se ≤ 60) && (decide (0 ≤ m.li ∧ m.li ≤ ((aruP m.its : Nat) : Int)) && (decide (0 ≤ m.he ∧ m.he ≤ ((aruP m.its : Nat) : Int)) && (ntB m.la.c m.la.r m.la.q m.la.a m.la.b m.la.ws || tkB m.la.c m.la.r m.la.q m.la.a m.la.b m.la.ws)))))))) := by
  unfold Mt.ok
  rw [Bool.and_assoc]

set_option maxRecDepth 100000 in
set_option maxHeartbeats 4000000 in
theorem mateOk_any (m : Mt) (v : Mv) (w : World) (h : Hid (MtR w m v)) (hs : Hid (MtS m)) :
    Calls Try.prog 14 #[.agg #[.int .i64 m.id, .int .i64 m.rid, .slice v.ms.a v.ms.n v.ms.c, .slice v.its.a v.its.n v.its.c, .slice v.lv.a v.lv.n v.lv.c, .slice v.tx.a v.tx.n v.tx.c, .int .i64 m.rd, .int .i64 m.se, .int .i64 m.li, .int .i64 m.he, .int .i64 m.la.c, .int .i64 m.la.r, .int .i64 m.la.q, .int .i64 m.la.a, .int .i64 m.la.b, .slice v.ws.a v.ws.n v.ws.c]] w fun e w' => e = .returned (.bool m.ok) ∧ Below w.heap.size w w' := by
  have HA : Hid (MtB (w.alloc (.cells #[.int .i64 m.id, .int .i64 m.rid, .slice v.ms.a v.ms.n v.ms.c, .slice v.its.a v.its.n v.its.c, .slice v.lv.a v.lv.n v.lv.c, .slice v.tx.a v.tx.n v.tx.c, .int .i64 m.rd, .int .i64 m.se, .int .i64 m.li, .int .i64 m.he, .int .i64 m.la.c, .int .i64 m.la.r, .int .i64 m.la.q, .int .i64 m.la.a, .int .i64 m.la.b, .slice v.ws.a v.ws.n v.ws.c] 32)) w.heap.size 32 m v) := Bx.new w 32 _
  have HL : Hid (Below w.heap.size w (w.alloc (.cells #[.int .i64 m.id, .int .i64 m.rid, .slice v.ms.a v.ms.n v.ms.c, .slice v.its.a v.its.n v.its.c, .slice v.lv.a v.lv.n v.lv.c, .slice v.tx.a v.tx.n v.tx.c, .int .i64 m.rd, .int .i64 m.se, .int .i64 m.li, .int .i64 m.he, .int .i64 m.la.c, .int .i64 m.la.r, .int .i64 m.la.q, .int .i64 m.la.a, .int .i64 m.la.b, .slice v.ws.a v.ws.n v.ws.c] 32))) := (Below.refl _ _).alloc (Nat.le_refl _) _
  have HR : Hid (MtR (w.alloc (.cells #[.int .i64 m.id, .int .i64 m.rid, .slice v.ms.a v.ms.n v.ms.c, .slice v.its.a v.its.n v.its.c, .slice v.lv.a v.lv.n v.lv.c, .slice v.tx.a v.tx.n v.tx.c, .int .i64 m.rd, .int .i64 m.se, .int .i64 m.li, .int .i64 m.he, .int .i64 m.la.c, .int .i64 m.la.r, .int .i64 m.la.q, .int .i64 m.la.a, .int .i64 m.la.b, .slice v.ws.a v.ws.n v.ws.c] 32)) m v) := h.out.stays HL.out
  have LW : Hid (v.ws.n = m.la.ws.length) := RI.len h.out.ws
  obtain ⟨⟨c0, c1, c2, c3, c4, c5⟩, ⟨c6, c7, c8, c9⟩, c10, c11, c12, c13, c14, c15⟩ := HA.out.cells
  clear h
  go_enter Try.func14, Try.ntmps14
  go_wp2_with fail
  clear c0 c1 c2 c3 c4 c5 c6 c7 c8 c9 c10 c11 c12 c13 c14 c15
  generalize w.alloc (.cells #[.int .i64 m.id, .int .i64 m.rid, .slice v.ms.a v.ms.n v.ms.c, .slice v.its.a v.its.n v.its.c, .slice v.lv.a v.lv.n v.lv.c, .slice v.tx.a v.tx.n v.tx.c, .int .i64 m.rd, .int .i64 m.se, .int .i64 m.li, .int .i64 m.he, .int .i64 m.la.c, .int .i64 m.la.r, .int .i64 m.la.q, .int .i64 m.la.a, .int .i64 m.la.b, .slice v.ws.a v.ws.n v.ws.c] 32) = W at *
  refine (aruOf_r m.its (show Hid (RIt W v.its.v m.its) from HR.out.its) hs.out.its).mono ?_
  rintro e w1 ⟨rfl, b⟩
  have HA : Hid (MtB w1 w.heap.size 32 m v) := Bx.later HA.out b
  have HR : Hid (MtR w1 m v) := HR.out.stays b
  have HL : Hid (Below w.heap.size w w1) := bl_next HL.out b
  clear b
  obtain ⟨⟨c0, c1, c2, c3, c4, c5⟩, ⟨c6, c7, c8, c9⟩, c10, c11, c12, c13, c14, c15⟩ := HA.out.cells
  go_wp2_with fail
  clear c0 c1 c2 c3 c4 c5 c6 c7 c8 c9 c10 c11 c12 c13 c14 c15
  refine (isMember_any m.id m.rid v.ms.v m.ms _ HR.out.ms hs.out.ms).mono ?_
  rintro e w2 ⟨rfl, b⟩
  have HA : Hid (MtB w2 w.heap.size 32 m v) := Bx.later HA.out b
  have HR : Hid (MtR w2 m v) := HR.out.stays b
  have HL : Hid (Below w.heap.size w w2) := bl_next HL.out b
  clear b
  obtain ⟨R, hR⟩ : ∃ R, (ringB m.rid m.ms && inB m.ms m.id) = R := ⟨_, rfl⟩
  rw [hR]
  have K0 : Hid ((ringB m.rid m.ms && inB m.ms m.id) = R) := hR
  clear hR
  cases R with
  | false =>
    obtain ⟨⟨c0, c1, c2, c3, c4, c5⟩, ⟨c6, c7, c8, c9⟩, c10, c11, c12, c13, c14, c15⟩ := HA.out.cells
    go_wp2_with fail
    go_ret
    exact ⟨by rw [okM_parts, K0.out]; rfl, HL.out⟩
  | true =>
    obtain ⟨⟨c0, c1, c2, c3, c4, c5⟩, ⟨c6, c7, c8, c9⟩, c10, c11, c12, c13, c14, c15⟩ := HA.out.cells
    go_wp2_with fail
    clear c0 c1 c2 c3 c4 c5 c6 c7 c8 c9 c10 c11 c12 c13 c14 c15
    refine (itemsOk_r m.its HR.out.its hs.out.its).mono ?_
    rintro e w3 ⟨rfl, b⟩
    have HA : Hid (MtB w3 w.heap.size 32 m v) := Bx.later HA.out b
    have HR : Hid (MtR w3 m v) := HR.out.stays b
    have HL : Hid (Below w.heap.size w w3) := bl_next HL.out b
    clear b
    obtain ⟨R2, hR⟩ : ∃ R, (iGo 0 m.its) = R := ⟨_, rfl⟩
    rw [hR]
    have K2 : Hid ((iGo 0 m.its) = R2) := hR
    clear hR
    cases R2 with
    | false =>
      obtain ⟨⟨c0, c1, c2, c3, c4, c5⟩, ⟨c6, c7, c8, c9⟩, c10, c11, c12, c13, c14, c15⟩ := HA.out.cells
      go_wp2_with fail
      go_ret
      exact ⟨by rw [okM_parts, K0.out, K2.out]; rfl, HL.out⟩
    | true =>
      obtain ⟨⟨c0, c1, c2, c3, c4, c5⟩, ⟨c6, c7, c8, c9⟩, c10, c11, c12, c13, c14, c15⟩ := HA.out.cells
      go_wp2_with fail
      clear c0 c1 c2 c3 c4 c5 c6 c7 c8 c9 c10 c11 c12 c13 c14 c15
      refine (toSay_any v.lv v.tx m.lv m.tx _ HR.out.lv HR.out.tx hs.out.lv hs.out.tx).mono ?_
      rintro e w4 ⟨rfl, b⟩
      have HA : Hid (MtB w4 w.heap.size 32 m v) := Bx.later HA.out b
      have HR : Hid (MtR w4 m v) := HR.out.stays b
      have HL : Hid (Below w.heap.size w w4) := bl_next HL.out b
      clear b
      obtain ⟨R3, hR⟩ : ∃ R, (sayB m.lv m.tx) = R := ⟨_, rfl⟩
      rw [hR]
      have K3 : Hid ((sayB m.lv m.tx) = R3) := hR
      clear hR
      cases R3 with
      | false =>
        obtain ⟨⟨c0, c1, c2, c3, c4, c5⟩, ⟨c6, c7, c8, c9⟩, c10, c11, c12, c13, c14, c15⟩ := HA.out.cells
        go_wp2_with fail
        go_ret
        exact ⟨by rw [okM_parts, K0.out, K2.out, K3.out]; rfl, HL.out⟩
      | true =>
        obtain ⟨⟨c0, c1, c2, c3, c4, c5⟩, ⟨c6, c7, c8, c9⟩, c10, c11, c12, c13, c14, c15⟩ := HA.out.cells
        go_wp2_with fail
        clear c0 c1 c2 c3 c4 c5 c6 c7 c8 c9 c10 c11 c12 c13 c14 c15
        refine (within_b m.rd 0 1000000000 _).mono ?_
        rintro e w5 ⟨rfl, b⟩
        have HA : Hid (MtB w5 w.heap.size 32 m v) := Bx.later HA.out b
        have HR : Hid (MtR w5 m v) := HR.out.stays b
        have HL : Hid (Below w.heap.size w w5) := bl_next HL.out b
        clear b
        obtain ⟨R4, hR⟩ : ∃ R, (decide (0 ≤ m.rd ∧ m.rd ≤ 1000000000)) = R := ⟨_, rfl⟩
        rw [hR]
        have K4 : Hid ((decide (0 ≤ m.rd ∧ m.rd ≤ 1000000000)) = R4) := hR
        clear hR
        cases R4 with
        | false =>
          obtain ⟨⟨c0, c1, c2, c3, c4, c5⟩, ⟨c6, c7, c8, c9⟩, c10, c11, c12, c13, c14, c15⟩ := HA.out.cells
          go_wp2_with fail
          go_ret
          exact ⟨by rw [okM_parts, K0.out, K2.out, K3.out, K4.out]; rfl, HL.out⟩
        | true =>
          obtain ⟨⟨c0, c1, c2, c3, c4, c5⟩, ⟨c6, c7, c8, c9⟩, c10, c11, c12, c13, c14, c15⟩ := HA.out.cells
          go_wp2_with fail
          clear c0 c1 c2 c3 c4 c5 c6 c7 c8 c9 c10 c11 c12 c13 c14 c15
          refine (within_b m.se 0 60 _).mono ?_
          rintro e w6 ⟨rfl, b⟩
          have HA : Hid (MtB w6 w.heap.size 32 m v) := Bx.later HA.out b
          have HR : Hid (MtR w6 m v) := HR.out.stays b
          have HL : Hid (Below w.heap.size w w6) := bl_next HL.out b
          clear b
          obtain ⟨R5, hR⟩ : ∃ R, (decide (0 ≤ m.se ∧ m.se ≤ 60)) = R := ⟨_, rfl⟩
          rw [hR]
          have K5 : Hid ((decide (0 ≤ m.se ∧ m.se ≤ 60)) = R5) := hR
          clear hR
          cases R5 with
          | false =>
            obtain ⟨⟨c0, c1, c2, c3, c4, c5⟩, ⟨c6, c7, c8, c9⟩, c10, c11, c12, c13, c14, c15⟩ := HA.out.cells
            go_wp2_with fail
            go_ret
            exact ⟨by rw [okM_parts, K0.out, K2.out, K3.out, K4.out, K5.out]; rfl, HL.out⟩
          | true =>
            obtain ⟨⟨c0, c1, c2, c3, c4, c5⟩, ⟨c6, c7, c8, c9⟩, c10, c11, c12, c13, c14, c15⟩ := HA.out.cells
            go_wp2_with fail
            clear c0 c1 c2 c3 c4 c5 c6 c7 c8 c9 c10 c11 c12 c13 c14 c15
            refine (within_b m.li 0 ((aruP m.its : Nat) : Int) _).mono ?_
            rintro e w7 ⟨rfl, b⟩
            have HA : Hid (MtB w7 w.heap.size 32 m v) := Bx.later HA.out b
            have HR : Hid (MtR w7 m v) := HR.out.stays b
            have HL : Hid (Below w.heap.size w w7) := bl_next HL.out b
            clear b
            obtain ⟨R6, hR⟩ : ∃ R, (decide (0 ≤ m.li ∧ m.li ≤ ((aruP m.its : Nat) : Int))) = R := ⟨_, rfl⟩
            rw [hR]
            have K6 : Hid ((decide (0 ≤ m.li ∧ m.li ≤ ((aruP m.its : Nat) : Int))) = R6) := hR
            clear hR
            cases R6 with
            | false =>
              obtain ⟨⟨c0, c1, c2, c3, c4, c5⟩, ⟨c6, c7, c8, c9⟩, c10, c11, c12, c13, c14, c15⟩ := HA.out.cells
              go_wp2_with fail
              go_ret
              exact ⟨by rw [okM_parts, K0.out, K2.out, K3.out, K4.out, K5.out, K6.out]; rfl, HL.out⟩
            | true =>
              obtain ⟨⟨c0, c1, c2, c3, c4, c5⟩, ⟨c6, c7, c8, c9⟩, c10, c11, c12, c13, c14, c15⟩ := HA.out.cells
              go_wp2_with fail
              clear c0 c1 c2 c3 c4 c5 c6 c7 c8 c9 c10 c11 c12 c13 c14 c15
              refine (within_b m.he 0 ((aruP m.its : Nat) : Int) _).mono ?_
              rintro e w8 ⟨rfl, b⟩
              have HA : Hid (MtB w8 w.heap.size 32 m v) := Bx.later HA.out b
              have HR : Hid (MtR w8 m v) := HR.out.stays b
              have HL : Hid (Below w.heap.size w w8) := bl_next HL.out b
              clear b
              obtain ⟨R7, hR⟩ : ∃ R, (decide (0 ≤ m.he ∧ m.he ≤ ((aruP m.its : Nat) : Int))) = R := ⟨_, rfl⟩
              rw [hR]
              have K7 : Hid ((decide (0 ≤ m.he ∧ m.he ≤ ((aruP m.its : Nat) : Int))) = R7) := hR
              clear hR
              cases R7 with
              | false =>
                obtain ⟨⟨c0, c1, c2, c3, c4, c5⟩, ⟨c6, c7, c8, c9⟩, c10, c11, c12, c13, c14, c15⟩ := HA.out.cells
                go_wp2_with fail
                go_ret
                exact ⟨by rw [okM_parts, K0.out, K2.out, K3.out, K4.out, K5.out, K6.out, K7.out]; rfl, HL.out⟩
              | true =>
                obtain ⟨⟨c0, c1, c2, c3, c4, c5⟩, ⟨c6, c7, c8, c9⟩, c10, c11, c12, c13, c14, c15⟩ := HA.out.cells
                go_wp2_with fail
                clear c0 c1 c2 c3 c4 c5 c6 c7 c8 c9 c10 c11 c12 c13 c14 c15
                refine (noToken_any m.la.c m.la.r m.la.q m.la.a m.la.b v.ws m.la.ws _ LW).mono ?_
                rintro e w9 ⟨rfl, b⟩
                have HA : Hid (MtB w9 w.heap.size 32 m v) := Bx.later HA.out b
                have HR : Hid (MtR w9 m v) := HR.out.stays b
                have HL : Hid (Below w.heap.size w w9) := bl_next HL.out b
                clear b
                obtain ⟨R8, hR⟩ : ∃ R, (ntB m.la.c m.la.r m.la.q m.la.a m.la.b m.la.ws) = R := ⟨_, rfl⟩
                rw [hR]
                have K8 : Hid ((ntB m.la.c m.la.r m.la.q m.la.a m.la.b m.la.ws) = R8) := hR
                clear hR
                cases R8 with
                | true =>
                  obtain ⟨⟨c0, c1, c2, c3, c4, c5⟩, ⟨c6, c7, c8, c9⟩, c10, c11, c12, c13, c14, c15⟩ := HA.out.cells
                  go_wp2_with fail
                  go_ret
                  exact ⟨by rw [okM_parts, K0.out, K2.out, K3.out, K4.out, K5.out, K6.out, K7.out, K8.out]; rfl, HL.out⟩
                | false =>
                  obtain ⟨⟨c0, c1, c2, c3, c4, c5⟩, ⟨c6, c7, c8, c9⟩, c10, c11, c12, c13, c14, c15⟩ := HA.out.cells
                  go_wp2_with fail
                  clear c0 c1 c2 c3 c4 c5 c6 c7 c8 c9 c10 c11 c12 c13 c14 c15
                  refine (tokenOk_r m.la.c m.la.r m.la.q m.la.a m.la.b m.la.ws HR.out.ws hs.out.ws).mono ?_
                  rintro e w10 ⟨rfl, b⟩
                  have HA : Hid (MtB w10 w.heap.size 32 m v) := Bx.later HA.out b
                  have HR : Hid (MtR w10 m v) := HR.out.stays b
                  have HL : Hid (Below w.heap.size w w10) := bl_next HL.out b
                  clear b
                  go_wp2_with fail
                  go_ret
                  exact ⟨by rw [okM_parts, K0.out, K2.out, K3.out, K4.out, K5.out, K6.out, K7.out, K8.out]; rfl, HL.out⟩

set_option maxRecDepth 100000 in
set_option maxHeartbeats 4000000 in
theorem spMateOk_any (m : Mt) (v : Mv) (w : World) (h : Hid (MtR w m v)) (hs : Hid (MtS m)) :
    Calls Try.prog 36 #[.agg #[.int .i64 m.id, .int .i64 m.rid, .slice v.ms.a v.ms.n v.ms.c, .slice v.its.a v.its.n v.its.c, .slice v.lv.a v.lv.n v.lv.c, .slice v.tx.a v.tx.n v.tx.c, .int .i64 m.rd, .int .i64 m.se, .int .i64 m.li, .int .i64 m.he, .int .i64 m.la.c, .int .i64 m.la.r, .int .i64 m.la.q, .int .i64 m.la.a, .int .i64 m.la.b, .slice v.ws.a v.ws.n v.ws.c]] w fun e w' => e = .returned (.bool m.ok) ∧ Below w.heap.size w w' := by
  have HA : Hid (MtB (w.alloc (.cells #[.int .i64 m.id, .int .i64 m.rid, .slice v.ms.a v.ms.n v.ms.c, .slice v.its.a v.its.n v.its.c, .slice v.lv.a v.lv.n v.lv.c, .slice v.tx.a v.tx.n v.tx.c, .int .i64 m.rd, .int .i64 m.se, .int .i64 m.li, .int .i64 m.he, .int .i64 m.la.c, .int .i64 m.la.r, .int .i64 m.la.q, .int .i64 m.la.a, .int .i64 m.la.b, .slice v.ws.a v.ws.n v.ws.c] 32)) w.heap.size 32 m v) := Bx.new w 32 _
  have HL : Hid (Below w.heap.size w (w.alloc (.cells #[.int .i64 m.id, .int .i64 m.rid, .slice v.ms.a v.ms.n v.ms.c, .slice v.its.a v.its.n v.its.c, .slice v.lv.a v.lv.n v.lv.c, .slice v.tx.a v.tx.n v.tx.c, .int .i64 m.rd, .int .i64 m.se, .int .i64 m.li, .int .i64 m.he, .int .i64 m.la.c, .int .i64 m.la.r, .int .i64 m.la.q, .int .i64 m.la.a, .int .i64 m.la.b, .slice v.ws.a v.ws.n v.ws.c] 32))) := (Below.refl _ _).alloc (Nat.le_refl _) _
  have HR : Hid (MtR (w.alloc (.cells #[.int .i64 m.id, .int .i64 m.rid, .slice v.ms.a v.ms.n v.ms.c, .slice v.its.a v.its.n v.its.c, .slice v.lv.a v.lv.n v.lv.c, .slice v.tx.a v.tx.n v.tx.c, .int .i64 m.rd, .int .i64 m.se, .int .i64 m.li, .int .i64 m.he, .int .i64 m.la.c, .int .i64 m.la.r, .int .i64 m.la.q, .int .i64 m.la.a, .int .i64 m.la.b, .slice v.ws.a v.ws.n v.ws.c] 32)) m v) := h.out.stays HL.out
  have LW : Hid (v.ws.n = m.la.ws.length) := RI.len h.out.ws
  obtain ⟨⟨c0, c1, c2, c3, c4, c5⟩, ⟨c6, c7, c8, c9⟩, c10, c11, c12, c13, c14, c15⟩ := HA.out.cells
  clear h
  go_enter Try.func36, Try.ntmps36
  go_wp2_with fail
  clear c0 c1 c2 c3 c4 c5 c6 c7 c8 c9 c10 c11 c12 c13 c14 c15
  generalize w.alloc (.cells #[.int .i64 m.id, .int .i64 m.rid, .slice v.ms.a v.ms.n v.ms.c, .slice v.its.a v.its.n v.its.c, .slice v.lv.a v.lv.n v.lv.c, .slice v.tx.a v.tx.n v.tx.c, .int .i64 m.rd, .int .i64 m.se, .int .i64 m.li, .int .i64 m.he, .int .i64 m.la.c, .int .i64 m.la.r, .int .i64 m.la.q, .int .i64 m.la.a, .int .i64 m.la.b, .slice v.ws.a v.ws.n v.ws.c] 32) = W at *
  refine (spRingOk_r m.rid m.ms (show Hid (RI W v.ms.v m.ms) from HR.out.ms) hs.out.ms).mono ?_
  rintro e w1 ⟨rfl, b⟩
  have HA : Hid (MtB w1 w.heap.size 32 m v) := Bx.later HA.out b
  have HR : Hid (MtR w1 m v) := HR.out.stays b
  have HL : Hid (Below w.heap.size w w1) := bl_next HL.out b
  clear b
  obtain ⟨R0, hR⟩ : ∃ R, (ringB m.rid m.ms) = R := ⟨_, rfl⟩
  rw [hR]
  have K0 : Hid ((ringB m.rid m.ms) = R0) := hR
  clear hR
  cases R0 with
  | false =>
    obtain ⟨⟨c0, c1, c2, c3, c4, c5⟩, ⟨c6, c7, c8, c9⟩, c10, c11, c12, c13, c14, c15⟩ := HA.out.cells
    go_wp2_with fail
    go_ret
    exact ⟨by unfold Mt.ok; rw [K0.out]; rfl, HL.out⟩
  | true =>
    obtain ⟨⟨c0, c1, c2, c3, c4, c5⟩, ⟨c6, c7, c8, c9⟩, c10, c11, c12, c13, c14, c15⟩ := HA.out.cells
    go_wp2_with fail
    clear c0 c1 c2 c3 c4 c5 c6 c7 c8 c9 c10 c11 c12 c13 c14 c15
    refine (lin_r m.ms m.id HR.out.ms hs.out.ms).mono ?_
    rintro e w2 ⟨rfl, b⟩
    have HA : Hid (MtB w2 w.heap.size 32 m v) := Bx.later HA.out b
    have HR : Hid (MtR w2 m v) := HR.out.stays b
    have HL : Hid (Below w.heap.size w w2) := bl_next HL.out b
    clear b
    obtain ⟨R1, hR⟩ : ∃ R, (inB m.ms m.id) = R := ⟨_, rfl⟩
    rw [hR]
    have K1 : Hid ((inB m.ms m.id) = R1) := hR
    clear hR
    cases R1 with
    | false =>
      obtain ⟨⟨c0, c1, c2, c3, c4, c5⟩, ⟨c6, c7, c8, c9⟩, c10, c11, c12, c13, c14, c15⟩ := HA.out.cells
      go_wp2_with fail
      go_ret
      exact ⟨by unfold Mt.ok; rw [K0.out, K1.out]; rfl, HL.out⟩
    | true =>
      obtain ⟨⟨c0, c1, c2, c3, c4, c5⟩, ⟨c6, c7, c8, c9⟩, c10, c11, c12, c13, c14, c15⟩ := HA.out.cells
      go_wp2_with fail
      clear c0 c1 c2 c3 c4 c5 c6 c7 c8 c9 c10 c11 c12 c13 c14 c15
      refine (spItemsOk_r m.its HR.out.its hs.out.its).mono ?_
      rintro e w3 ⟨rfl, b⟩
      have HA : Hid (MtB w3 w.heap.size 32 m v) := Bx.later HA.out b
      have HR : Hid (MtR w3 m v) := HR.out.stays b
      have HL : Hid (Below w.heap.size w w3) := bl_next HL.out b
      clear b
      obtain ⟨R2, hR⟩ : ∃ R, (iGo 0 m.its) = R := ⟨_, rfl⟩
      rw [hR]
      have K2 : Hid ((iGo 0 m.its) = R2) := hR
      clear hR
      cases R2 with
      | false =>
        obtain ⟨⟨c0, c1, c2, c3, c4, c5⟩, ⟨c6, c7, c8, c9⟩, c10, c11, c12, c13, c14, c15⟩ := HA.out.cells
        go_wp2_with fail
        go_ret
        exact ⟨by unfold Mt.ok; rw [K0.out, K1.out, K2.out]; rfl, HL.out⟩
      | true =>
        obtain ⟨⟨c0, c1, c2, c3, c4, c5⟩, ⟨c6, c7, c8, c9⟩, c10, c11, c12, c13, c14, c15⟩ := HA.out.cells
        go_wp2_with fail
        clear c0 c1 c2 c3 c4 c5 c6 c7 c8 c9 c10 c11 c12 c13 c14 c15
        refine (show Calls Try.prog 98 #[.slice v.lv.a v.lv.n v.lv.c, .slice v.tx.a v.tx.n v.tx.c] _ (fun e w' => e = .returned (.bool (sayB m.lv m.tx)) ∧ Below _ _ w') from (tenTexts_any v.lv v.tx m.lv m.tx _ HR.out.lv HR.out.tx hs.out.lv hs.out.tx).mono fun e w' ⟨x, y⟩ => ⟨x, same_below y⟩).mono ?_
        rintro e w4 ⟨rfl, b⟩
        have HA : Hid (MtB w4 w.heap.size 32 m v) := Bx.later HA.out b
        have HR : Hid (MtR w4 m v) := HR.out.stays b
        have HL : Hid (Below w.heap.size w w4) := bl_next HL.out b
        clear b
        obtain ⟨R3, hR⟩ : ∃ R, (sayB m.lv m.tx) = R := ⟨_, rfl⟩
        rw [hR]
        have K3 : Hid ((sayB m.lv m.tx) = R3) := hR
        clear hR
        cases R3 with
        | false =>
          obtain ⟨⟨c0, c1, c2, c3, c4, c5⟩, ⟨c6, c7, c8, c9⟩, c10, c11, c12, c13, c14, c15⟩ := HA.out.cells
          go_wp2_with fail
          go_ret
          exact ⟨by unfold Mt.ok; rw [K0.out, K1.out, K2.out, K3.out]; rfl, HL.out⟩
        | true =>
          obtain ⟨⟨c0, c1, c2, c3, c4, c5⟩, ⟨c6, c7, c8, c9⟩, c10, c11, c12, c13, c14, c15⟩ := HA.out.cells
          go_wp2_with fail
          clear c0 c1 c2 c3 c4 c5 c6 c7 c8 c9 c10 c11 c12 c13 c14 c15
          refine (in_b m.rd 0 1000000000 _).mono ?_
          rintro e w5 ⟨rfl, b⟩
          have HA : Hid (MtB w5 w.heap.size 32 m v) := Bx.later HA.out b
          have HR : Hid (MtR w5 m v) := HR.out.stays b
          have HL : Hid (Below w.heap.size w w5) := bl_next HL.out b
          clear b
          obtain ⟨R4, hR⟩ : ∃ R, (decide (0 ≤ m.rd ∧ m.rd ≤ 1000000000)) = R := ⟨_, rfl⟩
          rw [hR]
          have K4 : Hid ((decide (0 ≤ m.rd ∧ m.rd ≤ 1000000000)) = R4) := hR
          clear hR
          cases R4 with
          | false =>
            obtain ⟨⟨c0, c1, c2, c3, c4, c5⟩, ⟨c6, c7, c8, c9⟩, c10, c11, c12, c13, c14, c15⟩ := HA.out.cells
            go_wp2_with fail
            go_ret
            exact ⟨by unfold Mt.ok; rw [K0.out, K1.out, K2.out, K3.out, K4.out]; rfl, HL.out⟩
          | true =>
            obtain ⟨⟨c0, c1, c2, c3, c4, c5⟩, ⟨c6, c7, c8, c9⟩, c10, c11, c12, c13, c14, c15⟩ := HA.out.cells
            go_wp2_with fail
            clear c0 c1 c2 c3 c4 c5 c6 c7 c8 c9 c10 c11 c12 c13 c14 c15
            refine (in_b m.se 0 60 _).mono ?_
            rintro e w6 ⟨rfl, b⟩
            have HA : Hid (MtB w6 w.heap.size 32 m v) := Bx.later HA.out b
            have HR : Hid (MtR w6 m v) := HR.out.stays b
            have HL : Hid (Below w.heap.size w w6) := bl_next HL.out b
            clear b
            obtain ⟨R5, hR⟩ : ∃ R, (decide (0 ≤ m.se ∧ m.se ≤ 60)) = R := ⟨_, rfl⟩
            rw [hR]
            have K5 : Hid ((decide (0 ≤ m.se ∧ m.se ≤ 60)) = R5) := hR
            clear hR
            cases R5 with
            | false =>
              obtain ⟨⟨c0, c1, c2, c3, c4, c5⟩, ⟨c6, c7, c8, c9⟩, c10, c11, c12, c13, c14, c15⟩ := HA.out.cells
              go_wp2_with fail
              go_ret
              exact ⟨by unfold Mt.ok; rw [K0.out, K1.out, K2.out, K3.out, K4.out, K5.out]; rfl, HL.out⟩
            | true =>
              obtain ⟨⟨c0, c1, c2, c3, c4, c5⟩, ⟨c6, c7, c8, c9⟩, c10, c11, c12, c13, c14, c15⟩ := HA.out.cells
              go_wp2_with fail
              clear c0 c1 c2 c3 c4 c5 c6 c7 c8 c9 c10 c11 c12 c13 c14 c15
              refine (spAru_r m.its HR.out.its hs.out.its).mono ?_
              rintro e w7 ⟨rfl, b⟩
              have HA : Hid (MtB w7 w.heap.size 32 m v) := Bx.later HA.out b
              have HR : Hid (MtR w7 m v) := HR.out.stays b
              have HL : Hid (Below w.heap.size w w7) := bl_next HL.out b
              clear b
              obtain ⟨⟨c0, c1, c2, c3, c4, c5⟩, ⟨c6, c7, c8, c9⟩, c10, c11, c12, c13, c14, c15⟩ := HA.out.cells
              go_wp2_with fail
              clear c0 c1 c2 c3 c4 c5 c6 c7 c8 c9 c10 c11 c12 c13 c14 c15
              refine (in_b m.li 0 ((aruP m.its : Nat) : Int) _).mono ?_
              rintro e w8 ⟨rfl, b⟩
              have HA : Hid (MtB w8 w.heap.size 32 m v) := Bx.later HA.out b
              have HR : Hid (MtR w8 m v) := HR.out.stays b
              have HL : Hid (Below w.heap.size w w8) := bl_next HL.out b
              clear b
              obtain ⟨R6, hR⟩ : ∃ R, (decide (0 ≤ m.li ∧ m.li ≤ ((aruP m.its : Nat) : Int))) = R := ⟨_, rfl⟩
              rw [hR]
              have K6 : Hid ((decide (0 ≤ m.li ∧ m.li ≤ ((aruP m.its : Nat) : Int))) = R6) := hR
              clear hR
              cases R6 with
              | false =>
                obtain ⟨⟨c0, c1, c2, c3, c4, c5⟩, ⟨c6, c7, c8, c9⟩, c10, c11, c12, c13, c14, c15⟩ := HA.out.cells
                go_wp2_with fail
                go_ret
                exact ⟨by unfold Mt.ok; rw [K0.out, K1.out, K2.out, K3.out, K4.out, K5.out, K6.out]; rfl, HL.out⟩
              | true =>
                obtain ⟨⟨c0, c1, c2, c3, c4, c5⟩, ⟨c6, c7, c8, c9⟩, c10, c11, c12, c13, c14, c15⟩ := HA.out.cells
                go_wp2_with fail
                clear c0 c1 c2 c3 c4 c5 c6 c7 c8 c9 c10 c11 c12 c13 c14 c15
                refine (in_b m.he 0 ((aruP m.its : Nat) : Int) _).mono ?_
                rintro e w9 ⟨rfl, b⟩
                have HA : Hid (MtB w9 w.heap.size 32 m v) := Bx.later HA.out b
                have HR : Hid (MtR w9 m v) := HR.out.stays b
                have HL : Hid (Below w.heap.size w w9) := bl_next HL.out b
                clear b
                obtain ⟨R7, hR⟩ : ∃ R, (decide (0 ≤ m.he ∧ m.he ≤ ((aruP m.its : Nat) : Int))) = R := ⟨_, rfl⟩
                rw [hR]
                have K7 : Hid ((decide (0 ≤ m.he ∧ m.he ≤ ((aruP m.its : Nat) : Int))) = R7) := hR
                clear hR
                cases R7 with
                | false =>
                  obtain ⟨⟨c0, c1, c2, c3, c4, c5⟩, ⟨c6, c7, c8, c9⟩, c10, c11, c12, c13, c14, c15⟩ := HA.out.cells
                  go_wp2_with fail
                  go_ret
                  exact ⟨by unfold Mt.ok; rw [K0.out, K1.out, K2.out, K3.out, K4.out, K5.out, K6.out, K7.out]; rfl, HL.out⟩
                | true =>
                  obtain ⟨⟨c0, c1, c2, c3, c4, c5⟩, ⟨c6, c7, c8, c9⟩, c10, c11, c12, c13, c14, c15⟩ := HA.out.cells
                  go_wp2_with fail
                  clear c0 c1 c2 c3 c4 c5 c6 c7 c8 c9 c10 c11 c12 c13 c14 c15
                  refine (blank_any m.la.c m.la.r m.la.q m.la.a m.la.b v.ws m.la.ws _ LW).mono ?_
                  rintro e w10 ⟨rfl, b⟩
                  have HA : Hid (MtB w10 w.heap.size 32 m v) := Bx.later HA.out b
                  have HR : Hid (MtR w10 m v) := HR.out.stays b
                  have HL : Hid (Below w.heap.size w w10) := bl_next HL.out b
                  clear b
                  obtain ⟨R8, hR⟩ : ∃ R, (ntB m.la.c m.la.r m.la.q m.la.a m.la.b m.la.ws) = R := ⟨_, rfl⟩
                  rw [hR]
                  have K8 : Hid ((ntB m.la.c m.la.r m.la.q m.la.a m.la.b m.la.ws) = R8) := hR
                  clear hR
                  cases R8 with
                  | true =>
                    obtain ⟨⟨c0, c1, c2, c3, c4, c5⟩, ⟨c6, c7, c8, c9⟩, c10, c11, c12, c13, c14, c15⟩ := HA.out.cells
                    go_wp2_with fail
                    go_ret
                    exact ⟨by unfold Mt.ok; rw [K0.out, K1.out, K2.out, K3.out, K4.out, K5.out, K6.out, K7.out, K8.out]; rfl, HL.out⟩
                  | false =>
                    obtain ⟨⟨c0, c1, c2, c3, c4, c5⟩, ⟨c6, c7, c8, c9⟩, c10, c11, c12, c13, c14, c15⟩ := HA.out.cells
                    go_wp2_with fail
                    clear c0 c1 c2 c3 c4 c5 c6 c7 c8 c9 c10 c11 c12 c13 c14 c15
                    refine (spTokenOk_r m.la.c m.la.r m.la.q m.la.a m.la.b m.la.ws HR.out.ws hs.out.ws).mono ?_
                    rintro e w11 ⟨rfl, b⟩
                    have HA : Hid (MtB w11 w.heap.size 32 m v) := Bx.later HA.out b
                    have HR : Hid (MtR w11 m v) := HR.out.stays b
                    have HL : Hid (Below w.heap.size w w11) := bl_next HL.out b
                    clear b
                    go_wp2_with fail
                    go_ret
                    exact ⟨by unfold Mt.ok; rw [K0.out, K1.out, K2.out, K3.out, K4.out, K5.out, K6.out, K7.out, K8.out]; rfl, HL.out⟩
end Go.Proofs.Ytpbhcbgohgfkcaa

/- One element put behind a slice of the call's own, and which block it lies in then. No function of the program is named here. -/
namespace Go.Proofs.Ytpbhcbgohgfkcaa
open Go.RowKit Pl
set_option linter.unusedVariables false

section
variable {P : Program} {w : World}
theorem run_append_blk (base : Nat) (t ty e : TypeId) (i : TypeInfo) (z : Value) (size bytes : Nat) (ht : P.underlying t = some (.slice e)) (hi : P.info? e = some i) (hz : i.zero = some z)
    (hsize : i.size = size) (hby : i.bytes = bytes) (hzs : z.cells.size = size) (hsz : 0 < size)
    (v : Value) (n : Nat) (xs : List Value) (hown : w.ownsRow base e size v n xs)
    (a : Addr) (m c : Nat) (news : List Value) (hl : news.length = m * size) (hnews : ∀ j u, news[j]? = some u → w.cell? (a.add j) = some u) (h1 : ∀ u ∈ news, u.oneCell' = true)
    (h63 : n + m ≤ maxLen) (hbytes : (n + m) * bytes ≤ 140737488355328) (hbase : base ≤ w.heap.size) :
    ∃ v' w', (Builtin.append_ #[t, t] ty #[v, .slice (some a) m c]).run P w = .ok v' w' ∧ w'.ownsRow base e size v' (n + m) (xs ++ news) ∧ w.grownBy w' v.ownBlock ∧ (v'.ownBlock = v.ownBlock ∨ v'.ownBlock = some w.heap.size) := by
  obtain ⟨v', w', hr, h2, h3, _⟩ := run_append_own (P := P) w base t ty e i z size bytes ht hi hz hsize hby hzs hsz v n xs hown a m c news hl hnews h1 h63 hbytes hbase
  obtain ⟨v2, w2, hr2, _, _, h4⟩ := run_appendS (P := P) t t ty i z bytes ht hi hz hsize hby hzs (Sl.ofOwn hown) (.slice (some a) m c) m news (Src.ofSlice _ ht a m c news hl hnews h1) h63 hbytes hbase
  rw [hr] at hr2
  cases hr2
  exact ⟨v', w', hr, h2, h3, h4⟩
end

section
variable {P : Program} {w : World} {ops : Array Oper} {rest : List Oper} {o : Oper} {a : Act} {Q : Exit → Act → World → Prop} {K : Act → World → Prop}
theorem wp_pushIb (s x : Operand) (t : TypeId) (ho : o.op = .call { callee := .builtin .append, args := #[s, x], argTypes := #[t, t] })
    (ht : P.underlying t = some (.slice 3)) (hinfo : (P.info? 3).map (fun i => (i.zero, i.size, i.bytes)) = some (some (.int .i64 0), 1, 8))
    (B : Nat) (v : Value) (xs : List Int) (hs : a.eval s = v) (hown : OwnI w B v xs) (b : Int)
    (hx : a.eval x = .slice (some ⟨w.heap.size, 0, none⟩) 1 1) (hn : xs.length < 4000000) (hB : B ≤ w.heap.size)
    (h : ∀ v' w', OwnI w' B v' (xs ++ [b]) → (w.alloc (.cells #[.int .i64 b] 3)).grownBy w' v.ownBlock → (v'.ownBlock = v.ownBlock ∨ v'.ownBlock = some (w.heap.size + 1)) → K (a.put o.dst v') w') :
    o.wp P a (w.alloc (.cells #[.int .i64 b] 3)) K Q := by
  obtain ⟨i0, hi, hz0, hz1, hz2⟩ := info_parts hinfo
  obtain ⟨v', w', hr, h2, h3, h4⟩ := run_append_blk (P := P) B t o.type 3 i0 (.int .i64 0) 1 8 ht hi hz0 hz1 hz2 rfl (by decide) v xs.length (xs.map (Value.int .i64)) (World.ownsRow.alloc hown (.cells #[.int .i64 b] 3)) ⟨w.heap.size, 0, none⟩ 1 1 [.int .i64 b] rfl (by
    intro j u hj
    match j, hj with
    | 0, hj => simp at hj; subst hj; simp [Addr.add]) (by intro u hu; simp at hu; subst hu; rfl) (by unfold maxLen; omega) (by omega) (by simp; omega)
  unfold Oper.wp execOp
  simp only [ho, resolve, invoke, builtin, Sem.run_bind, Sem.run_pure, Result.andThen_ok, List.map_toArray, List.map_cons, List.map_nil, hs, hx, hr]
  exact h v' w' (by simpa [OwnI] using h2) h3 (by simpa using h4)
theorem wpList_pushIb (hgd : o.guard = none) (s x : Operand) (t : TypeId) (ho : o.op = .call { callee := .builtin .append, args := #[s, x], argTypes := #[t, t] })
    (ht : P.underlying t = some (.slice 3)) (hinfo : (P.info? 3).map (fun i => (i.zero, i.size, i.bytes)) = some (some (.int .i64 0), 1, 8))
    (B : Nat) (v : Value) (xs : List Int) (hs : a.eval s = v) (hown : OwnI w B v xs) (b : Int)
    (hx : a.eval x = .slice (some ⟨w.heap.size, 0, none⟩) 1 1) (hn : xs.length < 4000000) (hB : B ≤ w.heap.size)
    (h : ∀ v' w', OwnI w' B v' (xs ++ [b]) → (w.alloc (.cells #[.int .i64 b] 3)).grownBy w' v.ownBlock → (v'.ownBlock = v.ownBlock ∨ v'.ownBlock = some (w.heap.size + 1)) → wpList P ops Q rest (a.put o.dst v') w') :
    wpList P ops Q (o :: rest) a (w.alloc (.cells #[.int .i64 b] 3)) :=
  wpList_plain hgd fun _ hK => wp_pushIb s x t ho ht hinfo B v xs hs hown b hx hn hB fun v' w' h1 h2 h3 => hK _ _ (h v' w' h1 h2 h3)
theorem wp_pushSb (s x : Operand) (t : TypeId) (ho : o.op = .call { callee := .builtin .append, args := #[s, x], argTypes := #[t, t] })
    (ht : P.underlying t = some (.slice 9)) (hinfo : (P.info? 9).map (fun i => (i.zero, i.size, i.bytes)) = some (some (.string ⟨#[]⟩), 1, 16))
    (B : Nat) (v : Value) (xs : List ByteArray) (hs : a.eval s = v) (hown : OwnS w B v xs) (b : ByteArray)
    (hx : a.eval x = .slice (some ⟨w.heap.size, 0, none⟩) 1 1) (hn : xs.length < 4000000) (hB : B ≤ w.heap.size)
    (h : ∀ v' w', OwnS w' B v' (xs ++ [b]) → (w.alloc (.cells #[.string b] 9)).grownBy w' v.ownBlock → (v'.ownBlock = v.ownBlock ∨ v'.ownBlock = some (w.heap.size + 1)) → K (a.put o.dst v') w') :
    o.wp P a (w.alloc (.cells #[.string b] 9)) K Q := by
  obtain ⟨i0, hi, hz0, hz1, hz2⟩ := info_parts hinfo
  obtain ⟨v', w', hr, h2, h3, h4⟩ := run_append_blk (P := P) B t o.type 9 i0 (.string ⟨#[]⟩) 1 16 ht hi hz0 hz1 hz2 rfl (by decide) v xs.length (xs.map Value.string) (World.ownsRow.alloc hown (.cells #[.string b] 9)) ⟨w.heap.size, 0, none⟩ 1 1 [.string b] rfl (by
    intro j u hj
    match j, hj with
    | 0, hj => simp at hj; subst hj; simp [Addr.add]) (by intro u hu; simp at hu; subst hu; rfl) (by unfold maxLen; omega) (by omega) (by simp; omega)
  unfold Oper.wp execOp
  simp only [ho, resolve, invoke, builtin, Sem.run_bind, Sem.run_pure, Result.andThen_ok, List.map_toArray, List.map_cons, List.map_nil, hs, hx, hr]
  exact h v' w' (by simpa [OwnS] using h2) h3 (by simpa using h4)
theorem wpList_pushSb (hgd : o.guard = none) (s x : Operand) (t : TypeId) (ho : o.op = .call { callee := .builtin .append, args := #[s, x], argTypes := #[t, t] })
    (ht : P.underlying t = some (.slice 9)) (hinfo : (P.info? 9).map (fun i => (i.zero, i.size, i.bytes)) = some (some (.string ⟨#[]⟩), 1, 16))
    (B : Nat) (v : Value) (xs : List ByteArray) (hs : a.eval s = v) (hown : OwnS w B v xs) (b : ByteArray)
    (hx : a.eval x = .slice (some ⟨w.heap.size, 0, none⟩) 1 1) (hn : xs.length < 4000000) (hB : B ≤ w.heap.size)
    (h : ∀ v' w', OwnS w' B v' (xs ++ [b]) → (w.alloc (.cells #[.string b] 9)).grownBy w' v.ownBlock → (v'.ownBlock = v.ownBlock ∨ v'.ownBlock = some (w.heap.size + 1)) → wpList P ops Q rest (a.put o.dst v') w') :
    wpList P ops Q (o :: rest) a (w.alloc (.cells #[.string b] 9)) :=
  wpList_plain hgd fun _ hK => wp_pushSb s x t ho ht hinfo B v xs hs hown b hx hn hB fun v' w' h1 h2 h3 => hK _ _ (h v' w' h1 h2 h3)
end
end Go.Proofs.Ytpbhcbgohgfkcaa

/- A statement that leaves its order open, walked with a condition on the worlds that it passes through, its last operation apart: that one waits for all others, and the condition need not hold behind it. -/
namespace Go.Proofs.Ytpbhcbgohgfkcaa.Pl
open Go Go.RowKit
set_option linter.unusedVariables false

section
variable {P : Program} {ops : Array Oper} {Q : Exit → Act → World → Prop} {a : Act} {w : World}
/-! ### a statement that leaves its order open, its last operation apart -/
/-- i comes, by edges, ahead of j. -/
def reachB (ops : Array Oper) : Nat → Nat → Nat → Bool
  | 0, _, _ => false
  | f + 1, j, i => ((ops[j]?).map (fun o => o.after.any fun e => Region.binds .any e && (e.on == i || reachB ops f e.on i))).getD false
/-- every edge goes back. -/
def backB (ops : Array Oper) : Bool := (List.range ops.size).all fun i => ((ops[i]?).map (fun o => o.after.all fun e => !Region.binds .any e || decide (e.on < i))).getD true

def DownL (ops : Array Oper) (listed : Array Bool) : Prop := ∀ i o, ops[i]? = some o → listed.getD i false = true → ∀ e ∈ o.after, Region.binds .any e = true → listed.getD e.on false = true

theorem reach_listed {listed : Array Bool} (hd : DownL ops listed) : ∀ (f j i : Nat), reachB ops f j i = true → (∀ o, ops[j]? = some o → ∀ e ∈ o.after, Region.binds .any e = true → listed.getD e.on false = true) → listed.getD i false = true
  | 0, j, i, h, _ => by simp [reachB] at h
  | f + 1, j, i, h, hj => by
    unfold reachB at h
    cases ho : ops[j]? with
    | none => simp [ho] at h
    | some o =>
      simp only [ho, Option.map_some, Option.getD_some] at h
      obtain ⟨e, he, hb⟩ := Array.any_eq_true'.1 h
      simp only [Bool.and_eq_true, Bool.or_eq_true, beq_iff_eq] at hb
      have hl := hj o ho e he hb.1
      rcases hb.2 with rfl | hr
      · exact hl
      · exact reach_listed hd f e.on i hr (fun o' ho' e' he' hb' => hd e.on o' ho' hl e' he' hb')

theorem ready_some {listed : Array Bool} (hs : listed.size = ops.size) (hb : backB ops = true) {j : Nat} (hj : j < ops.size) (hu : listed.getD j false = false) : Region.ready .any ops listed ≠ [] := by
  have key : ∀ n j, j ≤ n → j < ops.size → listed.getD j false = false → ∃ i, i ∈ Region.ready .any ops listed := by
    intro n
    induction n with
    | zero =>
      intro j hj0 hj hu
      obtain rfl : j = 0 := by omega
      refine ⟨0, mem_ready.2 ⟨?_, ops[0], Array.getElem?_eq_getElem hj, fun e he hbe => ?_⟩⟩
      · have : 0 < listed.size := by omega
        simpa [this] using hu
      · have := List.all_eq_true.1 hb 0 (List.mem_range.2 hj)
        rw [Array.getElem?_eq_getElem hj] at this
        simp only [Option.map_some, Option.getD_some] at this
        have := Array.all_eq_true_iff_forall_mem.1 this e he
        simp [hbe] at this
    | succ n ih =>
      intro j hjn hj hu
      by_cases hall : ∀ e ∈ ops[j].after, Region.binds .any e = true → listed.getD e.on false = true
      · refine ⟨j, mem_ready.2 ⟨?_, ops[j], Array.getElem?_eq_getElem hj, hall⟩⟩
        have : j < listed.size := by omega
        simpa [this] using hu
      · simp only [Classical.not_forall] at hall
        obtain ⟨e, he, hbe, hne⟩ := hall
        have h1 := List.all_eq_true.1 hb j (List.mem_range.2 hj)
        rw [Array.getElem?_eq_getElem hj] at h1
        simp only [Option.map_some, Option.getD_some] at h1
        have h2 := Array.all_eq_true_iff_forall_mem.1 h1 e he
        simp [hbe] at h2
        exact ih e.on (by omega) (by omega) (by simpa using hne)
  obtain ⟨i, hi⟩ := key j j (Nat.le_refl _) hj hu
  intro h0
  rw [h0] at hi
  cases hi

theorem down_set {listed : Array Bool} (hd : DownL ops listed) {i : Nat} (hi : i ∈ Region.ready .any ops listed) : DownL ops (listed.setIfInBounds i true) := by
  obtain ⟨_, oi, hoi, hall⟩ := mem_ready.1 hi
  intro k o ho hk e he hb
  by_cases hki : k = i
  · subst hki
    rw [hoi] at ho
    cases ho
    exact getD_set_true (hall e he hb)
  · rw [getD_set_ne false (Ne.symm hki)] at hk
    exact getD_set_true (hd k o ho hk e he hb)

theorem ready_like {ops' : Array Oper} (hsz : ops'.size = ops.size) (ha : ∀ i : Nat, (ops'[i]?).map Oper.after = (ops[i]?).map Oper.after) (listed : Array Bool) : Region.ready .any ops' listed = Region.ready .any ops listed := by
  unfold Region.ready
  rw [hsz]
  refine congrArg (fun f => List.filter f (List.range ops.size)) (funext fun i => ?_)
  have h := ha i
  have e1 : ∀ x : Option Oper, (x.map (fun o => o.after.all fun e => !Region.binds .any e || listed.getD e.on false)) = (x.map Oper.after).map (fun s => s.all fun e => !Region.binds .any e || listed.getD e.on false) := fun x => by cases x <;> rfl
  rw [e1, e1, h]

theorem all_listed {listed : Array Bool} (hs : listed.size = ops.size) (h : ∀ j, j < ops.size → listed.getD j false = true) : Region.ready .any ops listed = [] := by
  cases hr : Region.ready .any ops listed with
  | nil => rfl
  | cons x xs =>
    have hx : x ∈ Region.ready .any ops listed := by rw [hr]; exact List.mem_cons_self ..
    obtain ⟨h0, o, ho, _⟩ := mem_ready.1 hx
    have hlt : x < ops.size := (Array.getElem?_eq_some_iff.1 ho).1
    have h1 := h x hlt
    have : x < listed.size := by omega
    simp [this] at h0 h1
    rw [h0] at h1
    cases h1

end
section
variable {P : Program} {Q : Exit → Act → World → Prop} {S : World → Prop}
/-- Q, but behind all the others: the last operation. -/
def LastQ (P : Program) (ops : Array Oper) (Q : Exit → Act → World → Prop) (m : Nat) : Exit → Act → World → Prop
  | .normal, a, w => wpOp P ops Q m (fun a' w' => Q .normal a' w') a w
  | e, a, w => Q e a w

theorem letsOut_last {ops : Array Oper} {m : Nat} : LetsOut (LastQ P ops Q m) = LetsOut Q := rfl
theorem upon_last {ops : Array Oper} {m : Nat} {o : Oper} {a : Act} {K : Act → World → Prop} (r : Result Next) : o.upon P a K (LastQ P ops Q m) r = o.upon P a K Q r := by
  cases r with
  | ok n w' => cases n <;> rfl
  | _ => rfl
theorem wpOp_last {ops ops' : Array Oper} {m i : Nat} {K : Act → World → Prop} {a : Act} {w : World} (hs : ops'[i]? = ops[i]?) (hy : ∀ tmps, yielded ops' tmps = yielded ops tmps) (h : wpOp P ops' (LastQ P ops Q m) i K a w) : wpOp P ops Q i K a w := by
  unfold wpOp at h ⊢
  rw [hs] at h
  cases ho : ops[i]? with
  | none => simpa [ho] using h
  | some o =>
    simp only [ho, hy] at h ⊢
    unfold Oper.wp at h ⊢
    rw [upon_last, letsOut_last] at h
    exact h

theorem any_last {ops ops' : Array Oper} {m : Nat} (hm : ops.size = m + 1) (hsz : ops'.size = ops.size) (hsame : ∀ i : Nat, i ≠ m → ops'[i]? = ops[i]?) {o' : Oper} (ho' : ops'[m]? = some o') (ha : ∀ i : Nat, (ops'[i]?).map Oper.after = (ops[i]?).map Oper.after)
    (hop : o'.op = .move (.const undef)) (hdst : o'.dst = none) (hgd : o'.guard = none) (hy : ∀ tmps, yielded ops' tmps = yielded ops tmps) (hback : backB ops = true) (hreach : (List.range m).all (fun i => reachB ops (m + 1) m i) = true) :
    ∀ (fuel : Nat) (listed : Array Bool) (a : Act) (w : World), listed.size = ops.size → DownL ops listed → listed.getD m false = false → wpAnyH P .any ops' (LastQ P ops Q m) S fuel listed a w → wpAny P .any ops Q fuel listed a w := by
  intro fuel
  induction fuel with
  | zero =>
    intro listed a w hs hd hu h
    have h0 := h.1
    rw [ready_like hsz ha] at h0
    exact absurd h0 (ready_some hs hback (by omega) hu)
  | succ fuel ih =>
    intro listed a w hs hd hu h
    obtain ⟨_, h1⟩ := h
    rw [ready_like hsz ha] at h1
    have hne := ready_some hs hback (j := m) (by omega) hu
    refine ⟨fun h0 => absurd h0 hne, fun i hir => ?_⟩
    have hq := h1 i hir
    by_cases him : i = m
    · subst him
      obtain ⟨_, oi, hoi, hall⟩ := mem_ready.1 hir
      have hl : ∀ j, j < ops.size → (listed.setIfInBounds i true).getD j false = true := by
        intro j hj
        by_cases hji : j = i
        · subst hji
          have : j < listed.size := by omega
          simp [this]
        · refine getD_set_true (reach_listed hd (i + 1) i j (List.all_eq_true.1 hreach j (List.mem_range.2 (by omega))) (fun o ho e he hb => ?_))
          rw [hoi] at ho
          cases ho
          exact hall e he hb
      have hr0 := all_listed (ops := ops) (listed := listed.setIfInBounds i true) (by simpa using hs) hl
      have hr0' : Region.ready .any ops' (listed.setIfInBounds i true) = [] := by rw [ready_like hsz ha]; exact hr0
      have hk : LastQ P ops Q i .normal a w := by
        unfold wpOp at hq
        simp only [ho'] at hq
        rw [if_pos (by simp [Region.wanted, hgd])] at hq
        have hk' : wpAnyH P .any ops' (LastQ P ops Q i) S fuel (listed.setIfInBounds i true) a w := by
          rcases hq with hq | ⟨hq, _⟩
          · have : (execOp a.eval o').run P w = .ok (.value undef) w := by simp [execOp, hop, Act.eval]
            unfold Oper.wp at hq
            rw [this] at hq
            simpa [Oper.upon, hdst, Act.put] using hq.2
          · exfalso
            simp [Oper.asks, execOp, hop] at hq
            have e : Sem.events P (pure (Next.value (a.eval (Operand.const undef)))) w #[] = #[] := rfl
            rw [e] at hq
            simp at hq
        cases fuel with
        | zero => exact hk'.2
        | succ f => exact hk'.1 hr0'
      refine wpOp_mono (fun a' w' hq' => ?_) (show wpOp P ops Q i (fun a' w' => Q .normal a' w') a w from hk)
      cases fuel with
      | zero => exact ⟨hr0, hq'⟩
      | succ f => exact ⟨fun _ => hq', by rw [hr0]; intro j hj; cases hj⟩
    · exact wpOp_mono (fun a' w' hh => ih _ a' w' (by simpa using hs) (down_set hd hir) (by rw [getD_set_ne false him]; exact hu) hh.2) (wpOp_last (hsame i him) hy hq)

/-- the beginning. -/
theorem wp_region_heldL {id : Nat} {a : Act} {w : World} (pre : List Oper) (o : Oper) (hmx : P.follows .mixedOrders = true) (hdst : o.dst = none) (hgd : o.guard = none) (hback : backB (pre ++ [o]).toArray = true) (hreach : (List.range pre.length).all (fun i => reachB (pre ++ [o]).toArray (pre.length + 1) pre.length i) = true)
    (h : wpAnyH P .any (pre ++ [{ o with op := .move (.const undef) }]).toArray (LastQ P (pre ++ [o]).toArray Q pre.length) S (pre.length + 1) (Array.replicate (pre.length + 1) false) a w.drew) : (Code.region id (pre ++ [o]).toArray true).wp P Q a w := by
  generalize ho' : ({ o with op := .move (.const undef) } : Oper) = o' at h
  have hgl : (pre ++ [o]).toArray[pre.length]? = some o := by simp
  have hgl' : (pre ++ [o']).toArray[pre.length]? = some o' := by simp
  have hget : ∀ i : Nat, i ≠ pre.length → (pre ++ [o']).toArray[i]? = (pre ++ [o]).toArray[i]? := by
    intro i hi
    by_cases h1 : i < pre.length
    · simp [List.getElem?_append_left h1]
    · have : pre.length + 1 ≤ i := by omega
      simp [this]
  have ha : ∀ i : Nat, ((pre ++ [o']).toArray[i]?).map Oper.after = ((pre ++ [o]).toArray[i]?).map Oper.after := by
    intro i
    by_cases hi : i = pre.length
    · subst hi; rw [hgl, hgl', ← ho']; rfl
    · rw [hget i hi]
  have hy : ∀ tmps, yielded (pre ++ [o']).toArray tmps = yielded (pre ++ [o]).toArray tmps := by
    intro tmps
    funext g
    have : ((pre ++ [o']).toArray[g]?).bind Oper.dst = ((pre ++ [o]).toArray[g]?).bind Oper.dst := by
      by_cases hi : g = pre.length
      · subst hi; rw [hgl, hgl', ← ho']; rfl
      · rw [hget g hi]
    unfold yielded
    rw [this]
  refine wp_region_any hmx ?_
  have := any_last (P := P) (Q := Q) (S := S) (ops := (pre ++ [o]).toArray) (ops' := (pre ++ [o']).toArray) (m := pre.length) (by simp) (by simp) hget hgl' ha (by rw [← ho']) (by rw [← ho']; exact hdst) (by rw [← ho']; exact hgd) hy hback hreach (pre.length + 1) (Array.replicate (pre.length + 1) false) a w.drew (by simp)
    (fun i o ho hli => by simp [Array.getElem?_replicate] at hli; split at hli <;> simp at hli) (by simp) h
  simpa using this
/-- the same, the list given whole. -/
theorem wp_region_heldLast {id : Nat} {a : Act} {w : World} (l : List Oper) (hne : l ≠ []) (hmx : P.follows .mixedOrders = true) (hdst : (l.getLast hne).dst = none) (hgd : (l.getLast hne).guard = none) (hback : backB l.toArray = true) (hreach : (List.range l.dropLast.length).all (fun i => reachB l.toArray (l.dropLast.length + 1) l.dropLast.length i) = true)
    (hS : S w.drew) (h : S w.drew → wpAnyH P .any (l.dropLast ++ [{ l.getLast hne with op := .move (.const undef) }]).toArray (LastQ P l.toArray Q l.dropLast.length) S (l.dropLast.length + 1) (Array.replicate (l.dropLast.length + 1) false) a w.drew) : (Code.region id l.toArray true).wp P Q a w := by
  have e := List.dropLast_concat_getLast hne
  have := wp_region_heldL (P := P) (Q := Q) (S := S) (id := id) (a := a) (w := w) l.dropLast (l.getLast hne) hmx hdst hgd (by rw [e]; exact hback) (by rw [e]; exact hreach) (by rw [e]; exact h hS)
  rw [e] at this
  exact this
end
theorem wpOp_of {P : Program} {ops : Array Oper} {Q : Exit → Act → World → Prop} {i : Nat} {K : Act → World → Prop} {a : Act} {w : World} {o : Oper} (ho : ops[i]? = some o) (hg : o.guard = none) (h : o.wp P a w K Q) : wpOp P ops Q i K a w := by
  unfold wpOp
  simp only [ho]
  rw [if_pos (by simp [Region.wanted, hg])]
  exact .inl h
theorem lastQ_of {P : Program} {ops : Array Oper} {Q : Exit → Act → World → Prop} {m : Nat} {a : Act} {w : World} {o : Oper} (ho : ops[m]? = some o) (hg : o.guard = none) (h : o.wp P a w (fun a' w' => Q .normal a' w') Q) : LastQ P ops Q m .normal a w := wpOp_of ho hg h
end Go.Proofs.Ytpbhcbgohgfkcaa.Pl

