/- Whether a member is right: the walks over both MateOk. Written by gen_mok.py. -/
import Derived.Test.YtpbhcbgohgfkcaaMp
import Derived.Test.YtpbhcbgohgfkcaaMn
import Derived.Test.YtpbhcbgohgfkcaaSm
namespace Go.Proofs.Ytpbhcbgohgfkcaa
open Go.RowKit Pl
set_option linter.unusedVariables false
set_option linter.unusedSimpArgs false

/-- whether a member is right. -/
def Mt.ok (m : Mt) : Bool := ringB m.rid m.ms && (inB m.ms m.id && (iGo 0 m.its && (sayB m.lv m.tx && (decide (0 ≤ m.rd ∧ m.rd ≤ 1000000000) && (decide (0 ≤ m.se ∧ m.se ≤ 60) && (decide (0 ≤ m.li ∧ m.li ≤ ((aruP m.its : Nat) : Int)) && (decide (0 ≤ m.he ∧ m.he ≤ ((aruP m.its : Nat) : Int)) && (ntB m.la.c m.la.r m.la.q m.la.a m.la.b m.la.ws || tkB m.la.c m.la.r m.la.q m.la.a m.la.b m.la.ws))))))))

theorem okM_parts (m : Mt) : m.ok = ((ringB m.rid m.ms && inB m.ms m.id) && (iGo 0 m.its && (sayB m.lv m.tx && (decide (0 ≤ m.rd ∧ m.rd ≤ 1000000000) && (decide (0 ≤ m.se ∧ m.se ≤ 60) && (decide (0 ≤ m.li ∧ m.li ≤ ((aruP m.its : Nat) : Int)) && (decide (0 ≤ m.he ∧ m.he ≤ ((aruP m.its : Nat) : Int)) && (ntB m.la.c m.la.r m.la.q m.la.a m.la.b m.la.ws || tkB m.la.c m.la.r m.la.q m.la.a m.la.b m.la.ws)))))))) := by
  unfold Mt.ok
  rw [Bool.and_assoc]

set_option maxRecDepth 100000 in
set_option maxHeartbeats 4000000 in
theorem mateOk_any (m : Mt) (v : Mv) (w : World) (h : Hid (MtR w m v)) (hs : Hid (MtS m)) :
    Calls Try.prog 14 #[.agg #[.int .i64 m.id, .int .i64 m.rid, .slice v.ms.a v.ms.n v.ms.c, .slice v.its.a v.its.n v.its.c, .slice v.lv.a v.lv.n v.lv.c, .slice v.tx.a v.tx.n v.tx.c, .int .i64 m.rd, .int .i64 m.se, .int .i64 m.li, .int .i64 m.he, .int .i64 m.la.c, .int .i64 m.la.r, .int .i64 m.la.q, .int .i64 m.la.a, .int .i64 m.la.b, .slice v.ws.a v.ws.n v.ws.c]] w fun e w' => e = .returned (.bool m.ok) ∧ Below w.heap.size w w' := by
  have HA : Hid (MtB (w.alloc (.cells #[.int .i64 m.id, .int .i64 m.rid, .slice v.ms.a v.ms.n v.ms.c, .slice v.its.a v.its.n v.its.c, .slice v.lv.a v.lv.n v.lv.c, .slice v.tx.a v.tx.n v.tx.c, .int .i64 m.rd, .int .i64 m.se, .int .i64 m.li, .int .i64 m.he, .int .i64 m.la.c, .int .i64 m.la.r, .int .i64 m.la.q, .int .i64 m.la.a, .int .i64 m.la.b, .slice v.ws.a v.ws.n v.ws.c] 32)) w.heap.size 32 m v) := Bx.new w 32 _
  have HL : Hid (Below w.heap.size w (w.alloc (.cells #[.int .i64 m.id, .int .i64 m.rid, .slice v.ms.a v.ms.n v.ms.c, .slice v.its.a v.its.n v.its.c, .slice v.lv.a v.lv.n v.lv.c, .slice v.tx.a v.tx.n v.tx.c, .int .i64 m.rd, .int .i64 m.se, .int .i64 m.li, .int .i64 m.he, .int .i64 m.la.c, .int .i64 m.la.r, .int .i64 m.la.q, .int .i64 m.la.a, .int .i64 m.la.b, .slice v.ws.a v.ws.n v.ws.c] 32))) := (Below.refl _ _).alloc (Nat.le_refl _) _
  have HR : Hid (MtR (w.alloc (.cells #[.int .i64 m.id, .int .i64 m.rid, .slice v.ms.a v.ms.n v.ms.c, .slice v.its.a v.its.n v.its.c, .slice v.lv.a v.lv.n v.lv.c, .slice v.tx.a v.tx.n v.tx.c, .int .i64 m.rd, .int .i64 m.se, .int .i64 m.li, .int .i64 m.he, .int .i64 m.la.c, .int .i64 m.la.r, .int .i64 m.la.q, .int .i64 m.la.a, .int .i64 m.la.b, .slice v.ws.a v.ws.n v.ws.c] 32)) m v) := h.out.stays HL.out
  have LW : Hid (v.ws.n = m.la.ws.length) := RI.len h.out.ws
  obtain ⟨⟨c0, c1, c2, c3, c4, c5⟩, ⟨c6, c7, c8, c9⟩, c10, c11, c12, c13, c14, c15⟩ := HA.out.cells
  clear h
  go_enter Try.func14, Try.ntmps14
  go_wp2_with fail
  clear c0 c1 c2 c3 c4 c5 c6 c7 c8 c9 c10 c11 c12 c13 c14 c15
  generalize w.alloc (.cells #[.int .i64 m.id, .int .i64 m.rid, .slice v.ms.a v.ms.n v.ms.c, .slice v.its.a v.its.n v.its.c, .slice v.lv.a v.lv.n v.lv.c, .slice v.tx.a v.tx.n v.tx.c, .int .i64 m.rd, .int .i64 m.se, .int .i64 m.li, .int .i64 m.he, .int .i64 m.la.c, .int .i64 m.la.r, .int .i64 m.la.q, .int .i64 m.la.a, .int .i64 m.la.b, .slice v.ws.a v.ws.n v.ws.c] 32) = W at *
  refine (aruOf_r m.its (show Hid (RIt W v.its.v m.its) from HR.out.its) hs.out.its).mono ?_
  rintro e w1 ⟨rfl, b⟩
  have HA : Hid (MtB w1 w.heap.size 32 m v) := Bx.later HA.out b
  have HR : Hid (MtR w1 m v) := HR.out.stays b
  have HL : Hid (Below w.heap.size w w1) := bl_next HL.out b
  clear b
  obtain ⟨⟨c0, c1, c2, c3, c4, c5⟩, ⟨c6, c7, c8, c9⟩, c10, c11, c12, c13, c14, c15⟩ := HA.out.cells
  go_wp2_with fail
  clear c0 c1 c2 c3 c4 c5 c6 c7 c8 c9 c10 c11 c12 c13 c14 c15
  refine (isMember_any m.id m.rid v.ms.v m.ms _ HR.out.ms hs.out.ms).mono ?_
  rintro e w2 ⟨rfl, b⟩
  have HA : Hid (MtB w2 w.heap.size 32 m v) := Bx.later HA.out b
  have HR : Hid (MtR w2 m v) := HR.out.stays b
  have HL : Hid (Below w.heap.size w w2) := bl_next HL.out b
  clear b
  obtain ⟨R, hR⟩ : ∃ R, (ringB m.rid m.ms && inB m.ms m.id) = R := ⟨_, rfl⟩
  rw [hR]
  have K0 : Hid ((ringB m.rid m.ms && inB m.ms m.id) = R) := hR
  clear hR
  cases R with
  | false =>
    obtain ⟨⟨c0, c1, c2, c3, c4, c5⟩, ⟨c6, c7, c8, c9⟩, c10, c11, c12, c13, c14, c15⟩ := HA.out.cells
    go_wp2_with fail
    go_ret
    exact ⟨by rw [okM_parts, K0.out]; rfl, HL.out⟩
  | true =>
    obtain ⟨⟨c0, c1, c2, c3, c4, c5⟩, ⟨c6, c7, c8, c9⟩, c10, c11, c12, c13, c14, c15⟩ := HA.out.cells
    go_wp2_with fail
    clear c0 c1 c2 c3 c4 c5 c6 c7 c8 c9 c10 c11 c12 c13 c14 c15
    refine (itemsOk_r m.its HR.out.its hs.out.its).mono ?_
    rintro e w3 ⟨rfl, b⟩
    have HA : Hid (MtB w3 w.heap.size 32 m v) := Bx.later HA.out b
    have HR : Hid (MtR w3 m v) := HR.out.stays b
    have HL : Hid (Below w.heap.size w w3) := bl_next HL.out b
    clear b
    obtain ⟨R2, hR⟩ : ∃ R, (iGo 0 m.its) = R := ⟨_, rfl⟩
    rw [hR]
    have K2 : Hid ((iGo 0 m.its) = R2) := hR
    clear hR
    cases R2 with
    | false =>
      obtain ⟨⟨c0, c1, c2, c3, c4, c5⟩, ⟨c6, c7, c8, c9⟩, c10, c11, c12, c13, c14, c15⟩ := HA.out.cells
      go_wp2_with fail
      go_ret
      exact ⟨by rw [okM_parts, K0.out, K2.out]; rfl, HL.out⟩
    | true =>
      obtain ⟨⟨c0, c1, c2, c3, c4, c5⟩, ⟨c6, c7, c8, c9⟩, c10, c11, c12, c13, c14, c15⟩ := HA.out.cells
      go_wp2_with fail
      clear c0 c1 c2 c3 c4 c5 c6 c7 c8 c9 c10 c11 c12 c13 c14 c15
      refine (toSay_any v.lv v.tx m.lv m.tx _ HR.out.lv HR.out.tx hs.out.lv hs.out.tx).mono ?_
      rintro e w4 ⟨rfl, b⟩
      have HA : Hid (MtB w4 w.heap.size 32 m v) := Bx.later HA.out b
      have HR : Hid (MtR w4 m v) := HR.out.stays b
      have HL : Hid (Below w.heap.size w w4) := bl_next HL.out b
      clear b
      obtain ⟨R3, hR⟩ : ∃ R, (sayB m.lv m.tx) = R := ⟨_, rfl⟩
      rw [hR]
      have K3 : Hid ((sayB m.lv m.tx) = R3) := hR
      clear hR
      cases R3 with
      | false =>
        obtain ⟨⟨c0, c1, c2, c3, c4, c5⟩, ⟨c6, c7, c8, c9⟩, c10, c11, c12, c13, c14, c15⟩ := HA.out.cells
        go_wp2_with fail
        go_ret
        exact ⟨by rw [okM_parts, K0.out, K2.out, K3.out]; rfl, HL.out⟩
      | true =>
        obtain ⟨⟨c0, c1, c2, c3, c4, c5⟩, ⟨c6, c7, c8, c9⟩, c10, c11, c12, c13, c14, c15⟩ := HA.out.cells
        go_wp2_with fail
        clear c0 c1 c2 c3 c4 c5 c6 c7 c8 c9 c10 c11 c12 c13 c14 c15
        refine (within_b m.rd 0 1000000000 _).mono ?_
        rintro e w5 ⟨rfl, b⟩
        have HA : Hid (MtB w5 w.heap.size 32 m v) := Bx.later HA.out b
        have HR : Hid (MtR w5 m v) := HR.out.stays b
        have HL : Hid (Below w.heap.size w w5) := bl_next HL.out b
        clear b
        obtain ⟨R4, hR⟩ : ∃ R, (decide (0 ≤ m.rd ∧ m.rd ≤ 1000000000)) = R := ⟨_, rfl⟩
        rw [hR]
        have K4 : Hid ((decide (0 ≤ m.rd ∧ m.rd ≤ 1000000000)) = R4) := hR
        clear hR
        cases R4 with
        | false =>
          obtain ⟨⟨c0, c1, c2, c3, c4, c5⟩, ⟨c6, c7, c8, c9⟩, c10, c11, c12, c13, c14, c15⟩ := HA.out.cells
          go_wp2_with fail
          go_ret
          exact ⟨by rw [okM_parts, K0.out, K2.out, K3.out, K4.out]; rfl, HL.out⟩
        | true =>
          obtain ⟨⟨c0, c1, c2, c3, c4, c5⟩, ⟨c6, c7, c8, c9⟩, c10, c11, c12, c13, c14, c15⟩ := HA.out.cells
          go_wp2_with fail
          clear c0 c1 c2 c3 c4 c5 c6 c7 c8 c9 c10 c11 c12 c13 c14 c15
          refine (within_b m.se 0 60 _).mono ?_
          rintro e w6 ⟨rfl, b⟩
          have HA : Hid (MtB w6 w.heap.size 32 m v) := Bx.later HA.out b
          have HR : Hid (MtR w6 m v) := HR.out.stays b
          have HL : Hid (Below w.heap.size w w6) := bl_next HL.out b
          clear b
          obtain ⟨R5, hR⟩ : ∃ R, (decide (0 ≤ m.se ∧ m.se ≤ 60)) = R := ⟨_, rfl⟩
          rw [hR]
          have K5 : Hid ((decide (0 ≤ m.se ∧ m.se ≤ 60)) = R5) := hR
          clear hR
          cases R5 with
          | false =>
            obtain ⟨⟨c0, c1, c2, c3, c4, c5⟩, ⟨c6, c7, c8, c9⟩, c10, c11, c12, c13, c14, c15⟩ := HA.out.cells
            go_wp2_with fail
            go_ret
            exact ⟨by rw [okM_parts, K0.out, K2.out, K3.out, K4.out, K5.out]; rfl, HL.out⟩
          | true =>
            obtain ⟨⟨c0, c1, c2, c3, c4, c5⟩, ⟨c6, c7, c8, c9⟩, c10, c11, c12, c13, c14, c15⟩ := HA.out.cells
            go_wp2_with fail
            clear c0 c1 c2 c3 c4 c5 c6 c7 c8 c9 c10 c11 c12 c13 c14 c15
            refine (within_b m.li 0 ((aruP m.its : Nat) : Int) _).mono ?_
            rintro e w7 ⟨rfl, b⟩
            have HA : Hid (MtB w7 w.heap.size 32 m v) := Bx.later HA.out b
            have HR : Hid (MtR w7 m v) := HR.out.stays b
            have HL : Hid (Below w.heap.size w w7) := bl_next HL.out b
            clear b
            obtain ⟨R6, hR⟩ : ∃ R, (decide (0 ≤ m.li ∧ m.li ≤ ((aruP m.its : Nat) : Int))) = R := ⟨_, rfl⟩
            rw [hR]
            have K6 : Hid ((decide (0 ≤ m.li ∧ m.li ≤ ((aruP m.its : Nat) : Int))) = R6) := hR
            clear hR
            cases R6 with
            | false =>
              obtain ⟨⟨c0, c1, c2, c3, c4, c5⟩, ⟨c6, c7, c8, c9⟩, c10, c11, c12, c13, c14, c15⟩ := HA.out.cells
              go_wp2_with fail
              go_ret
              exact ⟨by rw [okM_parts, K0.out, K2.out, K3.out, K4.out, K5.out, K6.out]; rfl, HL.out⟩
            | true =>
              obtain ⟨⟨c0, c1, c2, c3, c4, c5⟩, ⟨c6, c7, c8, c9⟩, c10, c11, c12, c13, c14, c15⟩ := HA.out.cells
              go_wp2_with fail
              clear c0 c1 c2 c3 c4 c5 c6 c7 c8 c9 c10 c11 c12 c13 c14 c15
              refine (within_b m.he 0 ((aruP m.its : Nat) : Int) _).mono ?_
              rintro e w8 ⟨rfl, b⟩
              have HA : Hid (MtB w8 w.heap.size 32 m v) := Bx.later HA.out b
              have HR : Hid (MtR w8 m v) := HR.out.stays b
              have HL : Hid (Below w.heap.size w w8) := bl_next HL.out b
              clear b
              obtain ⟨R7, hR⟩ : ∃ R, (decide (0 ≤ m.he ∧ m.he ≤ ((aruP m.its : Nat) : Int))) = R := ⟨_, rfl⟩
              rw [hR]
              have K7 : Hid ((decide (0 ≤ m.he ∧ m.he ≤ ((aruP m.its : Nat) : Int))) = R7) := hR
              clear hR
              cases R7 with
              | false =>
                obtain ⟨⟨c0, c1, c2, c3, c4, c5⟩, ⟨c6, c7, c8, c9⟩, c10, c11, c12, c13, c14, c15⟩ := HA.out.cells
                go_wp2_with fail
                go_ret
                exact ⟨by rw [okM_parts, K0.out, K2.out, K3.out, K4.out, K5.out, K6.out, K7.out]; rfl, HL.out⟩
              | true =>
                obtain ⟨⟨c0, c1, c2, c3, c4, c5⟩, ⟨c6, c7, c8, c9⟩, c10, c11, c12, c13, c14, c15⟩ := HA.out.cells
                go_wp2_with fail
                clear c0 c1 c2 c3 c4 c5 c6 c7 c8 c9 c10 c11 c12 c13 c14 c15
                refine (noToken_any m.la.c m.la.r m.la.q m.la.a m.la.b v.ws m.la.ws _ LW).mono ?_
                rintro e w9 ⟨rfl, b⟩
                have HA : Hid (MtB w9 w.heap.size 32 m v) := Bx.later HA.out b
                have HR : Hid (MtR w9 m v) := HR.out.stays b
                have HL : Hid (Below w.heap.size w w9) := bl_next HL.out b
                clear b
                obtain ⟨R8, hR⟩ : ∃ R, (ntB m.la.c m.la.r m.la.q m.la.a m.la.b m.la.ws) = R := ⟨_, rfl⟩
                rw [hR]
                have K8 : Hid ((ntB m.la.c m.la.r m.la.q m.la.a m.la.b m.la.ws) = R8) := hR
                clear hR
                cases R8 with
                | true =>
                  obtain ⟨⟨c0, c1, c2, c3, c4, c5⟩, ⟨c6, c7, c8, c9⟩, c10, c11, c12, c13, c14, c15⟩ := HA.out.cells
                  go_wp2_with fail
                  go_ret
                  exact ⟨by rw [okM_parts, K0.out, K2.out, K3.out, K4.out, K5.out, K6.out, K7.out, K8.out]; rfl, HL.out⟩
                | false =>
                  obtain ⟨⟨c0, c1, c2, c3, c4, c5⟩, ⟨c6, c7, c8, c9⟩, c10, c11, c12, c13, c14, c15⟩ := HA.out.cells
                  go_wp2_with fail
                  clear c0 c1 c2 c3 c4 c5 c6 c7 c8 c9 c10 c11 c12 c13 c14 c15
                  refine (tokenOk_r m.la.c m.la.r m.la.q m.la.a m.la.b m.la.ws HR.out.ws hs.out.ws).mono ?_
                  rintro e w10 ⟨rfl, b⟩
                  have HA : Hid (MtB w10 w.heap.size 32 m v) := Bx.later HA.out b
                  have HR : Hid (MtR w10 m v) := HR.out.stays b
                  have HL : Hid (Below w.heap.size w w10) := bl_next HL.out b
                  clear b
                  go_wp2_with fail
                  go_ret
                  exact ⟨by rw [okM_parts, K0.out, K2.out, K3.out, K4.out, K5.out, K6.out, K7.out, K8.out]; rfl, HL.out⟩

set_option maxRecDepth 100000 in
set_option maxHeartbeats 4000000 in
theorem spMateOk_any (m : Mt) (v : Mv) (w : World) (h : Hid (MtR w m v)) (hs : Hid (MtS m)) :
    Calls Try.prog 36 #[.agg #[.int .i64 m.id, .int .i64 m.rid, .slice v.ms.a v.ms.n v.ms.c, .slice v.its.a v.its.n v.its.c, .slice v.lv.a v.lv.n v.lv.c, .slice v.tx.a v.tx.n v.tx.c, .int .i64 m.rd, .int .i64 m.se, .int .i64 m.li, .int .i64 m.he, .int .i64 m.la.c, .int .i64 m.la.r, .int .i64 m.la.q, .int .i64 m.la.a, .int .i64 m.la.b, .slice v.ws.a v.ws.n v.ws.c]] w fun e w' => e = .returned (.bool m.ok) ∧ Below w.heap.size w w' := by
  have HA : Hid (MtB (w.alloc (.cells #[.int .i64 m.id, .int .i64 m.rid, .slice v.ms.a v.ms.n v.ms.c, .slice v.its.a v.its.n v.its.c, .slice v.lv.a v.lv.n v.lv.c, .slice v.tx.a v.tx.n v.tx.c, .int .i64 m.rd, .int .i64 m.se, .int .i64 m.li, .int .i64 m.he, .int .i64 m.la.c, .int .i64 m.la.r, .int .i64 m.la.q, .int .i64 m.la.a, .int .i64 m.la.b, .slice v.ws.a v.ws.n v.ws.c] 32)) w.heap.size 32 m v) := Bx.new w 32 _
  have HL : Hid (Below w.heap.size w (w.alloc (.cells #[.int .i64 m.id, .int .i64 m.rid, .slice v.ms.a v.ms.n v.ms.c, .slice v.its.a v.its.n v.its.c, .slice v.lv.a v.lv.n v.lv.c, .slice v.tx.a v.tx.n v.tx.c, .int .i64 m.rd, .int .i64 m.se, .int .i64 m.li, .int .i64 m.he, .int .i64 m.la.c, .int .i64 m.la.r, .int .i64 m.la.q, .int .i64 m.la.a, .int .i64 m.la.b, .slice v.ws.a v.ws.n v.ws.c] 32))) := (Below.refl _ _).alloc (Nat.le_refl _) _
  have HR : Hid (MtR (w.alloc (.cells #[.int .i64 m.id, .int .i64 m.rid, .slice v.ms.a v.ms.n v.ms.c, .slice v.its.a v.its.n v.its.c, .slice v.lv.a v.lv.n v.lv.c, .slice v.tx.a v.tx.n v.tx.c, .int .i64 m.rd, .int .i64 m.se, .int .i64 m.li, .int .i64 m.he, .int .i64 m.la.c, .int .i64 m.la.r, .int .i64 m.la.q, .int .i64 m.la.a, .int .i64 m.la.b, .slice v.ws.a v.ws.n v.ws.c] 32)) m v) := h.out.stays HL.out
  have LW : Hid (v.ws.n = m.la.ws.length) := RI.len h.out.ws
  obtain ⟨⟨c0, c1, c2, c3, c4, c5⟩, ⟨c6, c7, c8, c9⟩, c10, c11, c12, c13, c14, c15⟩ := HA.out.cells
  clear h
  go_enter Try.func36, Try.ntmps36
  go_wp2_with fail
  clear c0 c1 c2 c3 c4 c5 c6 c7 c8 c9 c10 c11 c12 c13 c14 c15
  generalize w.alloc (.cells #[.int .i64 m.id, .int .i64 m.rid, .slice v.ms.a v.ms.n v.ms.c, .slice v.its.a v.its.n v.its.c, .slice v.lv.a v.lv.n v.lv.c, .slice v.tx.a v.tx.n v.tx.c, .int .i64 m.rd, .int .i64 m.se, .int .i64 m.li, .int .i64 m.he, .int .i64 m.la.c, .int .i64 m.la.r, .int .i64 m.la.q, .int .i64 m.la.a, .int .i64 m.la.b, .slice v.ws.a v.ws.n v.ws.c] 32) = W at *
  refine (spRingOk_r m.rid m.ms (show Hid (RI W v.ms.v m.ms) from HR.out.ms) hs.out.ms).mono ?_
  rintro e w1 ⟨rfl, b⟩
  have HA : Hid (MtB w1 w.heap.size 32 m v) := Bx.later HA.out b
  have HR : Hid (MtR w1 m v) := HR.out.stays b
  have HL : Hid (Below w.heap.size w w1) := bl_next HL.out b
  clear b
  obtain ⟨R0, hR⟩ : ∃ R, (ringB m.rid m.ms) = R := ⟨_, rfl⟩
  rw [hR]
  have K0 : Hid ((ringB m.rid m.ms) = R0) := hR
  clear hR
  cases R0 with
  | false =>
    obtain ⟨⟨c0, c1, c2, c3, c4, c5⟩, ⟨c6, c7, c8, c9⟩, c10, c11, c12, c13, c14, c15⟩ := HA.out.cells
    go_wp2_with fail
    go_ret
    exact ⟨by unfold Mt.ok; rw [K0.out]; rfl, HL.out⟩
  | true =>
    obtain ⟨⟨c0, c1, c2, c3, c4, c5⟩, ⟨c6, c7, c8, c9⟩, c10, c11, c12, c13, c14, c15⟩ := HA.out.cells
    go_wp2_with fail
    clear c0 c1 c2 c3 c4 c5 c6 c7 c8 c9 c10 c11 c12 c13 c14 c15
    refine (lin_r m.ms m.id HR.out.ms hs.out.ms).mono ?_
    rintro e w2 ⟨rfl, b⟩
    have HA : Hid (MtB w2 w.heap.size 32 m v) := Bx.later HA.out b
    have HR : Hid (MtR w2 m v) := HR.out.stays b
    have HL : Hid (Below w.heap.size w w2) := bl_next HL.out b
    clear b
    obtain ⟨R1, hR⟩ : ∃ R, (inB m.ms m.id) = R := ⟨_, rfl⟩
    rw [hR]
    have K1 : Hid ((inB m.ms m.id) = R1) := hR
    clear hR
    cases R1 with
    | false =>
      obtain ⟨⟨c0, c1, c2, c3, c4, c5⟩, ⟨c6, c7, c8, c9⟩, c10, c11, c12, c13, c14, c15⟩ := HA.out.cells
      go_wp2_with fail
      go_ret
      exact ⟨by unfold Mt.ok; rw [K0.out, K1.out]; rfl, HL.out⟩
    | true =>
      obtain ⟨⟨c0, c1, c2, c3, c4, c5⟩, ⟨c6, c7, c8, c9⟩, c10, c11, c12, c13, c14, c15⟩ := HA.out.cells
      go_wp2_with fail
      clear c0 c1 c2 c3 c4 c5 c6 c7 c8 c9 c10 c11 c12 c13 c14 c15
      refine (spItemsOk_r m.its HR.out.its hs.out.its).mono ?_
      rintro e w3 ⟨rfl, b⟩
      have HA : Hid (MtB w3 w.heap.size 32 m v) := Bx.later HA.out b
      have HR : Hid (MtR w3 m v) := HR.out.stays b
      have HL : Hid (Below w.heap.size w w3) := bl_next HL.out b
      clear b
      obtain ⟨R2, hR⟩ : ∃ R, (iGo 0 m.its) = R := ⟨_, rfl⟩
      rw [hR]
      have K2 : Hid ((iGo 0 m.its) = R2) := hR
      clear hR
      cases R2 with
      | false =>
        obtain ⟨⟨c0, c1, c2, c3, c4, c5⟩, ⟨c6, c7, c8, c9⟩, c10, c11, c12, c13, c14, c15⟩ := HA.out.cells
        go_wp2_with fail
        go_ret
        exact ⟨by unfold Mt.ok; rw [K0.out, K1.out, K2.out]; rfl, HL.out⟩
      | true =>
        obtain ⟨⟨c0, c1, c2, c3, c4, c5⟩, ⟨c6, c7, c8, c9⟩, c10, c11, c12, c13, c14, c15⟩ := HA.out.cells
        go_wp2_with fail
        clear c0 c1 c2 c3 c4 c5 c6 c7 c8 c9 c10 c11 c12 c13 c14 c15
        refine (show Calls Try.prog 98 #[.slice v.lv.a v.lv.n v.lv.c, .slice v.tx.a v.tx.n v.tx.c] _ (fun e w' => e = .returned (.bool (sayB m.lv m.tx)) ∧ Below _ _ w') from (tenTexts_any v.lv v.tx m.lv m.tx _ HR.out.lv HR.out.tx hs.out.lv hs.out.tx).mono fun e w' ⟨x, y⟩ => ⟨x, same_below y⟩).mono ?_
        rintro e w4 ⟨rfl, b⟩
        have HA : Hid (MtB w4 w.heap.size 32 m v) := Bx.later HA.out b
        have HR : Hid (MtR w4 m v) := HR.out.stays b
        have HL : Hid (Below w.heap.size w w4) := bl_next HL.out b
        clear b
        obtain ⟨R3, hR⟩ : ∃ R, (sayB m.lv m.tx) = R := ⟨_, rfl⟩
        rw [hR]
        have K3 : Hid ((sayB m.lv m.tx) = R3) := hR
        clear hR
        cases R3 with
        | false =>
          obtain ⟨⟨c0, c1, c2, c3, c4, c5⟩, ⟨c6, c7, c8, c9⟩, c10, c11, c12, c13, c14, c15⟩ := HA.out.cells
          go_wp2_with fail
          go_ret
          exact ⟨by unfold Mt.ok; rw [K0.out, K1.out, K2.out, K3.out]; rfl, HL.out⟩
        | true =>
          obtain ⟨⟨c0, c1, c2, c3, c4, c5⟩, ⟨c6, c7, c8, c9⟩, c10, c11, c12, c13, c14, c15⟩ := HA.out.cells
          go_wp2_with fail
          clear c0 c1 c2 c3 c4 c5 c6 c7 c8 c9 c10 c11 c12 c13 c14 c15
          refine (in_b m.rd 0 1000000000 _).mono ?_
          rintro e w5 ⟨rfl, b⟩
          have HA : Hid (MtB w5 w.heap.size 32 m v) := Bx.later HA.out b
          have HR : Hid (MtR w5 m v) := HR.out.stays b
          have HL : Hid (Below w.heap.size w w5) := bl_next HL.out b
          clear b
          obtain ⟨R4, hR⟩ : ∃ R, (decide (0 ≤ m.rd ∧ m.rd ≤ 1000000000)) = R := ⟨_, rfl⟩
          rw [hR]
          have K4 : Hid ((decide (0 ≤ m.rd ∧ m.rd ≤ 1000000000)) = R4) := hR
          clear hR
          cases R4 with
          | false =>
            obtain ⟨⟨c0, c1, c2, c3, c4, c5⟩, ⟨c6, c7, c8, c9⟩, c10, c11, c12, c13, c14, c15⟩ := HA.out.cells
            go_wp2_with fail
            go_ret
            exact ⟨by unfold Mt.ok; rw [K0.out, K1.out, K2.out, K3.out, K4.out]; rfl, HL.out⟩
          | true =>
            obtain ⟨⟨c0, c1, c2, c3, c4, c5⟩, ⟨c6, c7, c8, c9⟩, c10, c11, c12, c13, c14, c15⟩ := HA.out.cells
            go_wp2_with fail
            clear c0 c1 c2 c3 c4 c5 c6 c7 c8 c9 c10 c11 c12 c13 c14 c15
            refine (in_b m.se 0 60 _).mono ?_
            rintro e w6 ⟨rfl, b⟩
            have HA : Hid (MtB w6 w.heap.size 32 m v) := Bx.later HA.out b
            have HR : Hid (MtR w6 m v) := HR.out.stays b
            have HL : Hid (Below w.heap.size w w6) := bl_next HL.out b
            clear b
            obtain ⟨R5, hR⟩ : ∃ R, (decide (0 ≤ m.se ∧ m.se ≤ 60)) = R := ⟨_, rfl⟩
            rw [hR]
            have K5 : Hid ((decide (0 ≤ m.se ∧ m.se ≤ 60)) = R5) := hR
            clear hR
            cases R5 with
            | false =>
              obtain ⟨⟨c0, c1, c2, c3, c4, c5⟩, ⟨c6, c7, c8, c9⟩, c10, c11, c12, c13, c14, c15⟩ := HA.out.cells
              go_wp2_with fail
              go_ret
              exact ⟨by unfold Mt.ok; rw [K0.out, K1.out, K2.out, K3.out, K4.out, K5.out]; rfl, HL.out⟩
            | true =>
              obtain ⟨⟨c0, c1, c2, c3, c4, c5⟩, ⟨c6, c7, c8, c9⟩, c10, c11, c12, c13, c14, c15⟩ := HA.out.cells
              go_wp2_with fail
              clear c0 c1 c2 c3 c4 c5 c6 c7 c8 c9 c10 c11 c12 c13 c14 c15
              refine (spAru_r m.its HR.out.its hs.out.its).mono ?_
              rintro e w7 ⟨rfl, b⟩
              have HA : Hid (MtB w7 w.heap.size 32 m v) := Bx.later HA.out b
              have HR : Hid (MtR w7 m v) := HR.out.stays b
              have HL : Hid (Below w.heap.size w w7) := bl_next HL.out b
              clear b
              obtain ⟨⟨c0, c1, c2, c3, c4, c5⟩, ⟨c6, c7, c8, c9⟩, c10, c11, c12, c13, c14, c15⟩ := HA.out.cells
              go_wp2_with fail
              clear c0 c1 c2 c3 c4 c5 c6 c7 c8 c9 c10 c11 c12 c13 c14 c15
              refine (in_b m.li 0 ((aruP m.its : Nat) : Int) _).mono ?_
              rintro e w8 ⟨rfl, b⟩
              have HA : Hid (MtB w8 w.heap.size 32 m v) := Bx.later HA.out b
              have HR : Hid (MtR w8 m v) := HR.out.stays b
              have HL : Hid (Below w.heap.size w w8) := bl_next HL.out b
              clear b
              obtain ⟨R6, hR⟩ : ∃ R, (decide (0 ≤ m.li ∧ m.li ≤ ((aruP m.its : Nat) : Int))) = R := ⟨_, rfl⟩
              rw [hR]
              have K6 : Hid ((decide (0 ≤ m.li ∧ m.li ≤ ((aruP m.its : Nat) : Int))) = R6) := hR
              clear hR
              cases R6 with
              | false =>
                obtain ⟨⟨c0, c1, c2, c3, c4, c5⟩, ⟨c6, c7, c8, c9⟩, c10, c11, c12, c13, c14, c15⟩ := HA.out.cells
                go_wp2_with fail
                go_ret
                exact ⟨by unfold Mt.ok; rw [K0.out, K1.out, K2.out, K3.out, K4.out, K5.out, K6.out]; rfl, HL.out⟩
              | true =>
                obtain ⟨⟨c0, c1, c2, c3, c4, c5⟩, ⟨c6, c7, c8, c9⟩, c10, c11, c12, c13, c14, c15⟩ := HA.out.cells
                go_wp2_with fail
                clear c0 c1 c2 c3 c4 c5 c6 c7 c8 c9 c10 c11 c12 c13 c14 c15
                refine (in_b m.he 0 ((aruP m.its : Nat) : Int) _).mono ?_
                rintro e w9 ⟨rfl, b⟩
                have HA : Hid (MtB w9 w.heap.size 32 m v) := Bx.later HA.out b
                have HR : Hid (MtR w9 m v) := HR.out.stays b
                have HL : Hid (Below w.heap.size w w9) := bl_next HL.out b
                clear b
                obtain ⟨R7, hR⟩ : ∃ R, (decide (0 ≤ m.he ∧ m.he ≤ ((aruP m.its : Nat) : Int))) = R := ⟨_, rfl⟩
                rw [hR]
                have K7 : Hid ((decide (0 ≤ m.he ∧ m.he ≤ ((aruP m.its : Nat) : Int))) = R7) := hR
                clear hR
                cases R7 with
                | false =>
                  obtain ⟨⟨c0, c1, c2, c3, c4, c5⟩, ⟨c6, c7, c8, c9⟩, c10, c11, c12, c13, c14, c15⟩ := HA.out.cells
                  go_wp2_with fail
                  go_ret
                  exact ⟨by unfold Mt.ok; rw [K0.out, K1.out, K2.out, K3.out, K4.out, K5.out, K6.out, K7.out]; rfl, HL.out⟩
                | true =>
                  obtain ⟨⟨c0, c1, c2, c3, c4, c5⟩, ⟨c6, c7, c8, c9⟩, c10, c11, c12, c13, c14, c15⟩ := HA.out.cells
                  go_wp2_with fail
                  clear c0 c1 c2 c3 c4 c5 c6 c7 c8 c9 c10 c11 c12 c13 c14 c15
                  refine (blank_any m.la.c m.la.r m.la.q m.la.a m.la.b v.ws m.la.ws _ LW).mono ?_
                  rintro e w10 ⟨rfl, b⟩
                  have HA : Hid (MtB w10 w.heap.size 32 m v) := Bx.later HA.out b
                  have HR : Hid (MtR w10 m v) := HR.out.stays b
                  have HL : Hid (Below w.heap.size w w10) := bl_next HL.out b
                  clear b
                  obtain ⟨R8, hR⟩ : ∃ R, (ntB m.la.c m.la.r m.la.q m.la.a m.la.b m.la.ws) = R := ⟨_, rfl⟩
                  rw [hR]
                  have K8 : Hid ((ntB m.la.c m.la.r m.la.q m.la.a m.la.b m.la.ws) = R8) := hR
                  clear hR
                  cases R8 with
                  | true =>
                    obtain ⟨⟨c0, c1, c2, c3, c4, c5⟩, ⟨c6, c7, c8, c9⟩, c10, c11, c12, c13, c14, c15⟩ := HA.out.cells
                    go_wp2_with fail
                    go_ret
                    exact ⟨by unfold Mt.ok; rw [K0.out, K1.out, K2.out, K3.out, K4.out, K5.out, K6.out, K7.out, K8.out]; rfl, HL.out⟩
                  | false =>
                    obtain ⟨⟨c0, c1, c2, c3, c4, c5⟩, ⟨c6, c7, c8, c9⟩, c10, c11, c12, c13, c14, c15⟩ := HA.out.cells
                    go_wp2_with fail
                    clear c0 c1 c2 c3 c4 c5 c6 c7 c8 c9 c10 c11 c12 c13 c14 c15
                    refine (spTokenOk_r m.la.c m.la.r m.la.q m.la.a m.la.b m.la.ws HR.out.ws hs.out.ws).mono ?_
                    rintro e w11 ⟨rfl, b⟩
                    have HA : Hid (MtB w11 w.heap.size 32 m v) := Bx.later HA.out b
                    have HR : Hid (MtR w11 m v) := HR.out.stays b
                    have HL : Hid (Below w.heap.size w w11) := bl_next HL.out b
                    clear b
                    go_wp2_with fail
                    go_ret
                    exact ⟨by unfold Mt.ok; rw [K0.out, K1.out, K2.out, K3.out, K4.out, K5.out, K6.out, K7.out, K8.out]; rfl, HL.out⟩
end Go.Proofs.Ytpbhcbgohgfkcaa
