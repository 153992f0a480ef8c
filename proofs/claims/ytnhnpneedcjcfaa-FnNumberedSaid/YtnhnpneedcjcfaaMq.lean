/- The walks over both Mark. -/
import Derived.Test.YtnhnpneedcjcfaaMf
import Derived.Test.YtnhnpneedcjcfaaT2
namespace Go.Proofs.Ytnhnpneedcjcfaa
open Go.RowKit Pl
set_option linter.unusedVariables false

theorem own_later' {w w' : World} {B : Nat} {v : Value} {ss : List Int} (h : OwnI w B v ss) (hb : Below w.heap.size w w') : OwnI w' B v ss := h.stays hb (fun k hk => (h.lt k hk).2)
theorem own_keep {w w' : World} {B g : Nat} {v : Value} {xs : List Int} {c r q a b : Int} {u : Value} (h : OwnI w B v xs) (hu : TokAt w g c r q a b u) (ht : KeepBut g w w') : OwnI w' B v xs := by
  refine ⟨h.1, ?_⟩
  rcases h.2 with hn | ⟨k, cap, cur, rfl, hbg, hk, rest⟩
  · exact .inl hn
  · have hne : k ≠ g := by
      rintro rfl
      unfold TokAt at hu
      rw [hk] at hu
      simp at hu
    exact .inr ⟨k, cap, cur, rfl, hbg, (ht.block k (Array.getElem?_eq_some_iff.1 hk).1 hne).trans hk, rest⟩

def markOk (c r q a b : Int) (ws : List Int) (d u : Int) : Bool := tkB c r q a b ws && (decide (1 ≤ d ∧ d ≤ 5) && decide (0 ≤ u))
def markA (c r q a b : Int) (ws : List Int) (d u : Int) : Int := if markOk c r q a b ws d u then aruM q a b d u else a
def markD (c r q a b : Int) (ws : List Int) (d u : Int) : Int := if markOk c r q a b ws d u then byM q a b d u else b

set_option maxRecDepth 100000 in
set_option maxHeartbeats 2000000 in
theorem mark_0 (c r q a b d u : Int) (u0 : Value) (ws : List Int) (B0 : Nat) (w : World) (h : Hid (OwnI w B0 u0 ws)) (hl : ws.length ≤ 1048576) (ht : Hid (tkB c r q a b ws = false)) :
    Calls Try.prog 25 #[.agg #[.int .i64 c, .int .i64 r, .int .i64 q, .int .i64 a, .int .i64 b, u0], .int .i64 d, .int .i64 u] w fun e w' => ∃ v, e = .returned (.agg #[.int .i64 c, .int .i64 r, .int .i64 q, .int .i64 a, .int .i64 b, v]) ∧ OwnI w' w.heap.size v ws ∧ Below w.heap.size w w' := by
  have hn1 : (w.alloc (.cells #[.int .i64 c, .int .i64 r, .int .i64 q, .int .i64 a, .int .i64 b, u0] 30)).heap.size = w.heap.size + 1 := by simp
  have HA : Hid (TokAt ((w.alloc (.cells #[.int .i64 c, .int .i64 r, .int .i64 q, .int .i64 a, .int .i64 b, u0] 30)).alloc (.cells #[.int .i64 0, .int .i64 0, .int .i64 0, .int .i64 0, .int .i64 0, .slice none 0 0] 30)) w.heap.size c r q a b u0) := by
    have h := heap_alloc_new w (.cells #[.int .i64 c, .int .i64 r, .int .i64 q, .int .i64 a, .int .i64 b, u0] 30)
    exact TokAt.stays (B := w.heap.size + 1) h ((Below.refl _ _).alloc (by rw [hn1]; exact Nat.le_refl _) _) (by omega)
  have HR : Hid (TokAt ((w.alloc (.cells #[.int .i64 c, .int .i64 r, .int .i64 q, .int .i64 a, .int .i64 b, u0] 30)).alloc (.cells #[.int .i64 0, .int .i64 0, .int .i64 0, .int .i64 0, .int .i64 0, .slice none 0 0] 30)) (w.heap.size + 1) 0 0 0 0 0 (.slice none 0 0)) := by
    have h := heap_alloc_new (w.alloc (.cells #[.int .i64 c, .int .i64 r, .int .i64 q, .int .i64 a, .int .i64 b, u0] 30)) (.cells #[.int .i64 0, .int .i64 0, .int .i64 0, .int .i64 0, .int .i64 0, .slice none 0 0] 30)
    rw [hn1] at h
    exact h
  have HB : Hid (Below w.heap.size w ((w.alloc (.cells #[.int .i64 c, .int .i64 r, .int .i64 q, .int .i64 a, .int .i64 b, u0] 30)).alloc (.cells #[.int .i64 0, .int .i64 0, .int .i64 0, .int .i64 0, .int .i64 0, .slice none 0 0] 30))) := ((Below.refl _ _).alloc (Nat.le_refl _) _).alloc (by simp) _
  have HU : Hid (OwnI ((w.alloc (.cells #[.int .i64 c, .int .i64 r, .int .i64 q, .int .i64 a, .int .i64 b, u0] 30)).alloc (.cells #[.int .i64 0, .int .i64 0, .int .i64 0, .int .i64 0, .int .i64 0, .slice none 0 0] 30)) B0 u0 ws) := (h.out.alloc _).alloc _
  clear h hn1
  go_enter Try.func25, Try.ntmps25
  go_wp2_with fail
  generalize ((w.alloc (.cells #[.int .i64 c, .int .i64 r, .int .i64 q, .int .i64 a, .int .i64 b, u0] 30)).alloc (.cells #[.int .i64 0, .int .i64 0, .int .i64 0, .int .i64 0, .int .i64 0, .slice none 0 0] 30)) = W at *
  have hWs : w.heap.size ≤ W.heap.size := HB.out.size
  have hWr : w.heap.size + 1 < W.heap.size := HR.out.lt
  refine (copyTok c r q a b u0 ws B0 W HU hl).mono ?_
  rintro e w1 ⟨v1, rfl, hv1, hb1⟩
  obtain ⟨ao1, cap1, hf1⟩ := hv1.form
  subst hf1
  have O1 : Hid (TokAt (w1.alloc (.cells #[.int .i64 c, .int .i64 r, .int .i64 q, .int .i64 a, .int .i64 b, .slice ao1 ws.length cap1] 30)) w1.heap.size c r q a b (.slice ao1 ws.length cap1)) := heap_alloc_new w1 _
  have E1 : Below W.heap.size W (w1.alloc (.cells #[.int .i64 c, .int .i64 r, .int .i64 q, .int .i64 a, .int .i64 b, .slice ao1 ws.length cap1] 30)) := hb1.alloc hb1.size _
  have A1 : Hid (TokAt (w1.alloc (.cells #[.int .i64 c, .int .i64 r, .int .i64 q, .int .i64 a, .int .i64 b, .slice ao1 ws.length cap1] 30)) w.heap.size c r q a b u0) := HA.out.stays E1 HA.out.lt
  have R1 : Hid (TokAt (w1.alloc (.cells #[.int .i64 c, .int .i64 r, .int .i64 q, .int .i64 a, .int .i64 b, .slice ao1 ws.length cap1] 30)) (w.heap.size + 1) 0 0 0 0 0 (.slice none 0 0)) := HR.out.stays E1 HR.out.lt
  have V1 : Hid (OwnI (w1.alloc (.cells #[.int .i64 c, .int .i64 r, .int .i64 q, .int .i64 a, .int .i64 b, .slice ao1 ws.length cap1] 30)) w.heap.size (.slice ao1 ws.length cap1) ws) := (hv1.alloc _).down hWs
  have B1 : Hid (Below w.heap.size w (w1.alloc (.cells #[.int .i64 c, .int .i64 r, .int .i64 q, .int .i64 a, .int .i64 b, .slice ao1 ws.length cap1] 30))) := HB.out.trans (E1.mono hWs)
  have U1 : Hid (OwnI (w1.alloc (.cells #[.int .i64 c, .int .i64 r, .int .i64 q, .int .i64 a, .int .i64 b, .slice ao1 ws.length cap1] 30)) B0 u0 ws) := HU.out.stays E1 (fun k hk => (HU.out.lt k hk).2)
  have hgO : w.heap.size + 1 < w1.heap.size := Nat.lt_of_lt_of_le hWr hb1.size
  obtain ⟨s0, s1, s2, s3, s4, s5⟩ := A1.out.cells
  clear hv1 hb1 E1 HA HR HU HB hWs hWr
  go_wp2_with fail
  generalize w1.alloc (.cells #[.int .i64 c, .int .i64 r, .int .i64 q, .int .i64 a, .int .i64 b, .slice ao1 ws.length cap1] 30) = W1 at *
  generalize w1.heap.size = gO at *
  obtain ⟨ao0, cap0, hu0, hx0⟩ := U1.out.ints
  have X1 : Hid (IntsAt W1 ao0 ws) := hx0
  subst hu0
  refine (tokenOk_any c r q a b ao0 cap0 ws _ X1 hl).mono ?_
  rintro e w2 ⟨rfl, hb2⟩
  have OO : Hid (TokAt w2 gO c r q a b (.slice ao1 ws.length cap1)) := O1.out.stays hb2 O1.out.lt
  have RR : Hid (TokAt w2 (w.heap.size + 1) 0 0 0 0 0 (.slice none 0 0)) := R1.out.stays hb2 R1.out.lt
  have LL : Hid (OwnI w2 w.heap.size (.slice ao1 ws.length cap1) ws) := own_later' V1.out hb2
  have BB : Hid (Below w.heap.size w w2) := B1.out.trans (hb2.mono B1.out.size)
  clear hb2 O1 R1 V1 B1 A1 U1 X1 hx0 s0 s1 s2 s3 s4 s5
  rw [ht.out]
  clear ht
  obtain ⟨x0, x1, x2, x3, x4, x5⟩ := OO.out.cells
  obtain ⟨y0, y1, y2, y3, y4, y5⟩ := RR.out.cells
  have m0 := RR.out.frozen 0
  have m1 := RR.out.frozen 1
  have m2 := RR.out.frozen 2
  have m3 := RR.out.frozen 3
  have m4 := RR.out.frozen 4
  have m5 := RR.out.frozen 5
  go_wp2_with fail
  have R3 : TokAt _ (w.heap.size + 1) c r q a b (.slice ao1 ws.length cap1) := RR.out.agg c r q a b (.slice ao1 ws.length cap1)
  have T3 := (((((( TurnAt.refl (w.heap.size + 1) w2).setCell 0 (.int .i64 c)).setCell 1 (.int .i64 r)).setCell 2 (.int .i64 q)).setCell 3 (.int .i64 a)).setCell 4 (.int .i64 b)).setCell 5 (.slice ao1 ws.length cap1)
  have V3 := own_tok LL.out RR.out T3
  have B3 := BB.out.trans (T3.below (by omega))
  clear T3
  generalize ((((((w2.setCell ⟨w.heap.size + 1, 0, none⟩ (.int .i64 c)).setCell ⟨w.heap.size + 1, 1, none⟩ (.int .i64 r)).setCell ⟨w.heap.size + 1, 2, none⟩ (.int .i64 q)).setCell ⟨w.heap.size + 1, 3, none⟩ (.int .i64 a)).setCell ⟨w.heap.size + 1, 4, none⟩ (.int .i64 b)).setCell ⟨w.heap.size + 1, 5, none⟩ (.slice ao1 ws.length cap1)) = W3 at *
  obtain ⟨q0, q1, q2, q3, q4, q5⟩ := R3.cells
  refine bodyPost_ret (v := .agg #[.int .i64 c, .int .i64 r, .int .i64 q, .int .i64 a, .int .i64 b, .slice ao1 ws.length cap1]) (by simp [results, Try.results25, go_sem, q0, q1, q2, q3, q4, q5]) rfl ?_
  exact ⟨_, rfl, V3, B3⟩

set_option maxRecDepth 100000 in
set_option maxHeartbeats 2000000 in
theorem mark_1 (c r q a b d u : Int) (u0 : Value) (ws : List Int) (B0 : Nat) (w : World) (h : Hid (OwnI w B0 u0 ws)) (hl : ws.length ≤ 1048576) (ht : Hid (tkB c r q a b ws = true)) (hd : decide (1 ≤ d ∧ d ≤ 5) = false) :
    Calls Try.prog 25 #[.agg #[.int .i64 c, .int .i64 r, .int .i64 q, .int .i64 a, .int .i64 b, u0], .int .i64 d, .int .i64 u] w fun e w' => ∃ v, e = .returned (.agg #[.int .i64 c, .int .i64 r, .int .i64 q, .int .i64 a, .int .i64 b, v]) ∧ OwnI w' w.heap.size v ws ∧ Below w.heap.size w w' := by
  have hn1 : (w.alloc (.cells #[.int .i64 c, .int .i64 r, .int .i64 q, .int .i64 a, .int .i64 b, u0] 30)).heap.size = w.heap.size + 1 := by simp
  have HA : Hid (TokAt ((w.alloc (.cells #[.int .i64 c, .int .i64 r, .int .i64 q, .int .i64 a, .int .i64 b, u0] 30)).alloc (.cells #[.int .i64 0, .int .i64 0, .int .i64 0, .int .i64 0, .int .i64 0, .slice none 0 0] 30)) w.heap.size c r q a b u0) := by
    have h := heap_alloc_new w (.cells #[.int .i64 c, .int .i64 r, .int .i64 q, .int .i64 a, .int .i64 b, u0] 30)
    exact TokAt.stays (B := w.heap.size + 1) h ((Below.refl _ _).alloc (by rw [hn1]; exact Nat.le_refl _) _) (by omega)
  have HR : Hid (TokAt ((w.alloc (.cells #[.int .i64 c, .int .i64 r, .int .i64 q, .int .i64 a, .int .i64 b, u0] 30)).alloc (.cells #[.int .i64 0, .int .i64 0, .int .i64 0, .int .i64 0, .int .i64 0, .slice none 0 0] 30)) (w.heap.size + 1) 0 0 0 0 0 (.slice none 0 0)) := by
    have h := heap_alloc_new (w.alloc (.cells #[.int .i64 c, .int .i64 r, .int .i64 q, .int .i64 a, .int .i64 b, u0] 30)) (.cells #[.int .i64 0, .int .i64 0, .int .i64 0, .int .i64 0, .int .i64 0, .slice none 0 0] 30)
    rw [hn1] at h
    exact h
  have HB : Hid (Below w.heap.size w ((w.alloc (.cells #[.int .i64 c, .int .i64 r, .int .i64 q, .int .i64 a, .int .i64 b, u0] 30)).alloc (.cells #[.int .i64 0, .int .i64 0, .int .i64 0, .int .i64 0, .int .i64 0, .slice none 0 0] 30))) := ((Below.refl _ _).alloc (Nat.le_refl _) _).alloc (by simp) _
  have HU : Hid (OwnI ((w.alloc (.cells #[.int .i64 c, .int .i64 r, .int .i64 q, .int .i64 a, .int .i64 b, u0] 30)).alloc (.cells #[.int .i64 0, .int .i64 0, .int .i64 0, .int .i64 0, .int .i64 0, .slice none 0 0] 30)) B0 u0 ws) := (h.out.alloc _).alloc _
  clear h hn1
  go_enter Try.func25, Try.ntmps25
  go_wp2_with fail
  generalize ((w.alloc (.cells #[.int .i64 c, .int .i64 r, .int .i64 q, .int .i64 a, .int .i64 b, u0] 30)).alloc (.cells #[.int .i64 0, .int .i64 0, .int .i64 0, .int .i64 0, .int .i64 0, .slice none 0 0] 30)) = W at *
  have hWs : w.heap.size ≤ W.heap.size := HB.out.size
  have hWr : w.heap.size + 1 < W.heap.size := HR.out.lt
  refine (copyTok c r q a b u0 ws B0 W HU hl).mono ?_
  rintro e w1 ⟨v1, rfl, hv1, hb1⟩
  obtain ⟨ao1, cap1, hf1⟩ := hv1.form
  subst hf1
  have O1 : Hid (TokAt (w1.alloc (.cells #[.int .i64 c, .int .i64 r, .int .i64 q, .int .i64 a, .int .i64 b, .slice ao1 ws.length cap1] 30)) w1.heap.size c r q a b (.slice ao1 ws.length cap1)) := heap_alloc_new w1 _
  have E1 : Below W.heap.size W (w1.alloc (.cells #[.int .i64 c, .int .i64 r, .int .i64 q, .int .i64 a, .int .i64 b, .slice ao1 ws.length cap1] 30)) := hb1.alloc hb1.size _
  have A1 : Hid (TokAt (w1.alloc (.cells #[.int .i64 c, .int .i64 r, .int .i64 q, .int .i64 a, .int .i64 b, .slice ao1 ws.length cap1] 30)) w.heap.size c r q a b u0) := HA.out.stays E1 HA.out.lt
  have R1 : Hid (TokAt (w1.alloc (.cells #[.int .i64 c, .int .i64 r, .int .i64 q, .int .i64 a, .int .i64 b, .slice ao1 ws.length cap1] 30)) (w.heap.size + 1) 0 0 0 0 0 (.slice none 0 0)) := HR.out.stays E1 HR.out.lt
  have V1 : Hid (OwnI (w1.alloc (.cells #[.int .i64 c, .int .i64 r, .int .i64 q, .int .i64 a, .int .i64 b, .slice ao1 ws.length cap1] 30)) w.heap.size (.slice ao1 ws.length cap1) ws) := (hv1.alloc _).down hWs
  have B1 : Hid (Below w.heap.size w (w1.alloc (.cells #[.int .i64 c, .int .i64 r, .int .i64 q, .int .i64 a, .int .i64 b, .slice ao1 ws.length cap1] 30))) := HB.out.trans (E1.mono hWs)
  have U1 : Hid (OwnI (w1.alloc (.cells #[.int .i64 c, .int .i64 r, .int .i64 q, .int .i64 a, .int .i64 b, .slice ao1 ws.length cap1] 30)) B0 u0 ws) := HU.out.stays E1 (fun k hk => (HU.out.lt k hk).2)
  have hgO : w.heap.size + 1 < w1.heap.size := Nat.lt_of_lt_of_le hWr hb1.size
  obtain ⟨s0, s1, s2, s3, s4, s5⟩ := A1.out.cells
  clear hv1 hb1 E1 HA HR HU HB hWs hWr
  go_wp2_with fail
  generalize w1.alloc (.cells #[.int .i64 c, .int .i64 r, .int .i64 q, .int .i64 a, .int .i64 b, .slice ao1 ws.length cap1] 30) = W1 at *
  generalize w1.heap.size = gO at *
  obtain ⟨ao0, cap0, hu0, hx0⟩ := U1.out.ints
  have X1 : Hid (IntsAt W1 ao0 ws) := hx0
  subst hu0
  refine (tokenOk_any c r q a b ao0 cap0 ws _ X1 hl).mono ?_
  rintro e w2 ⟨rfl, hb2⟩
  have OO : Hid (TokAt w2 gO c r q a b (.slice ao1 ws.length cap1)) := O1.out.stays hb2 O1.out.lt
  have RR : Hid (TokAt w2 (w.heap.size + 1) 0 0 0 0 0 (.slice none 0 0)) := R1.out.stays hb2 R1.out.lt
  have LL : Hid (OwnI w2 w.heap.size (.slice ao1 ws.length cap1) ws) := own_later' V1.out hb2
  have BB : Hid (Below w.heap.size w w2) := B1.out.trans (hb2.mono B1.out.size)
  clear hb2 O1 R1 V1 B1 A1 U1 X1 hx0 s0 s1 s2 s3 s4 s5
  rw [ht.out]
  clear ht
  go_wp2_with fail
  refine (within_is _ hd).mono ?_
  rintro e w3 ⟨rfl, rfl⟩
  obtain ⟨x0, x1, x2, x3, x4, x5⟩ := OO.out.cells
  obtain ⟨y0, y1, y2, y3, y4, y5⟩ := RR.out.cells
  have m0 := RR.out.frozen 0
  have m1 := RR.out.frozen 1
  have m2 := RR.out.frozen 2
  have m3 := RR.out.frozen 3
  have m4 := RR.out.frozen 4
  have m5 := RR.out.frozen 5
  go_wp2_with fail
  have R3 : TokAt _ (w.heap.size + 1) c r q a b (.slice ao1 ws.length cap1) := RR.out.agg c r q a b (.slice ao1 ws.length cap1)
  have T3 := (((((( TurnAt.refl (w.heap.size + 1) w3).setCell 0 (.int .i64 c)).setCell 1 (.int .i64 r)).setCell 2 (.int .i64 q)).setCell 3 (.int .i64 a)).setCell 4 (.int .i64 b)).setCell 5 (.slice ao1 ws.length cap1)
  have V3 := own_tok LL.out RR.out T3
  have B3 := BB.out.trans (T3.below (by omega))
  clear T3
  generalize ((((((w3.setCell ⟨w.heap.size + 1, 0, none⟩ (.int .i64 c)).setCell ⟨w.heap.size + 1, 1, none⟩ (.int .i64 r)).setCell ⟨w.heap.size + 1, 2, none⟩ (.int .i64 q)).setCell ⟨w.heap.size + 1, 3, none⟩ (.int .i64 a)).setCell ⟨w.heap.size + 1, 4, none⟩ (.int .i64 b)).setCell ⟨w.heap.size + 1, 5, none⟩ (.slice ao1 ws.length cap1)) = W3 at *
  obtain ⟨q0, q1, q2, q3, q4, q5⟩ := R3.cells
  refine bodyPost_ret (v := .agg #[.int .i64 c, .int .i64 r, .int .i64 q, .int .i64 a, .int .i64 b, .slice ao1 ws.length cap1]) (by simp [results, Try.results25, go_sem, q0, q1, q2, q3, q4, q5]) rfl ?_
  exact ⟨_, rfl, V3, B3⟩

set_option maxRecDepth 100000 in
set_option maxHeartbeats 2000000 in
theorem mark_2 (c r q a b d u : Int) (u0 : Value) (ws : List Int) (B0 : Nat) (w : World) (h : Hid (OwnI w B0 u0 ws)) (hl : ws.length ≤ 1048576) (ht : Hid (tkB c r q a b ws = true)) (hd : decide (1 ≤ d ∧ d ≤ 5) = true) (hu : u < 0) :
    Calls Try.prog 25 #[.agg #[.int .i64 c, .int .i64 r, .int .i64 q, .int .i64 a, .int .i64 b, u0], .int .i64 d, .int .i64 u] w fun e w' => ∃ v, e = .returned (.agg #[.int .i64 c, .int .i64 r, .int .i64 q, .int .i64 a, .int .i64 b, v]) ∧ OwnI w' w.heap.size v ws ∧ Below w.heap.size w w' := by
  have hn1 : (w.alloc (.cells #[.int .i64 c, .int .i64 r, .int .i64 q, .int .i64 a, .int .i64 b, u0] 30)).heap.size = w.heap.size + 1 := by simp
  have HA : Hid (TokAt ((w.alloc (.cells #[.int .i64 c, .int .i64 r, .int .i64 q, .int .i64 a, .int .i64 b, u0] 30)).alloc (.cells #[.int .i64 0, .int .i64 0, .int .i64 0, .int .i64 0, .int .i64 0, .slice none 0 0] 30)) w.heap.size c r q a b u0) := by
    have h := heap_alloc_new w (.cells #[.int .i64 c, .int .i64 r, .int .i64 q, .int .i64 a, .int .i64 b, u0] 30)
    exact TokAt.stays (B := w.heap.size + 1) h ((Below.refl _ _).alloc (by rw [hn1]; exact Nat.le_refl _) _) (by omega)
  have HR : Hid (TokAt ((w.alloc (.cells #[.int .i64 c, .int .i64 r, .int .i64 q, .int .i64 a, .int .i64 b, u0] 30)).alloc (.cells #[.int .i64 0, .int .i64 0, .int .i64 0, .int .i64 0, .int .i64 0, .slice none 0 0] 30)) (w.heap.size + 1) 0 0 0 0 0 (.slice none 0 0)) := by
    have h := heap_alloc_new (w.alloc (.cells #[.int .i64 c, .int .i64 r, .int .i64 q, .int .i64 a, .int .i64 b, u0] 30)) (.cells #[.int .i64 0, .int .i64 0, .int .i64 0, .int .i64 0, .int .i64 0, .slice none 0 0] 30)
    rw [hn1] at h
    exact h
  have HB : Hid (Below w.heap.size w ((w.alloc (.cells #[.int .i64 c, .int .i64 r, .int .i64 q, .int .i64 a, .int .i64 b, u0] 30)).alloc (.cells #[.int .i64 0, .int .i64 0, .int .i64 0, .int .i64 0, .int .i64 0, .slice none 0 0] 30))) := ((Below.refl _ _).alloc (Nat.le_refl _) _).alloc (by simp) _
  have HU : Hid (OwnI ((w.alloc (.cells #[.int .i64 c, .int .i64 r, .int .i64 q, .int .i64 a, .int .i64 b, u0] 30)).alloc (.cells #[.int .i64 0, .int .i64 0, .int .i64 0, .int .i64 0, .int .i64 0, .slice none 0 0] 30)) B0 u0 ws) := (h.out.alloc _).alloc _
  clear h hn1
  go_enter Try.func25, Try.ntmps25
  go_wp2_with fail
  generalize ((w.alloc (.cells #[.int .i64 c, .int .i64 r, .int .i64 q, .int .i64 a, .int .i64 b, u0] 30)).alloc (.cells #[.int .i64 0, .int .i64 0, .int .i64 0, .int .i64 0, .int .i64 0, .slice none 0 0] 30)) = W at *
  have hWs : w.heap.size ≤ W.heap.size := HB.out.size
  have hWr : w.heap.size + 1 < W.heap.size := HR.out.lt
  refine (copyTok c r q a b u0 ws B0 W HU hl).mono ?_
  rintro e w1 ⟨v1, rfl, hv1, hb1⟩
  obtain ⟨ao1, cap1, hf1⟩ := hv1.form
  subst hf1
  have O1 : Hid (TokAt (w1.alloc (.cells #[.int .i64 c, .int .i64 r, .int .i64 q, .int .i64 a, .int .i64 b, .slice ao1 ws.length cap1] 30)) w1.heap.size c r q a b (.slice ao1 ws.length cap1)) := heap_alloc_new w1 _
  have E1 : Below W.heap.size W (w1.alloc (.cells #[.int .i64 c, .int .i64 r, .int .i64 q, .int .i64 a, .int .i64 b, .slice ao1 ws.length cap1] 30)) := hb1.alloc hb1.size _
  have A1 : Hid (TokAt (w1.alloc (.cells #[.int .i64 c, .int .i64 r, .int .i64 q, .int .i64 a, .int .i64 b, .slice ao1 ws.length cap1] 30)) w.heap.size c r q a b u0) := HA.out.stays E1 HA.out.lt
  have R1 : Hid (TokAt (w1.alloc (.cells #[.int .i64 c, .int .i64 r, .int .i64 q, .int .i64 a, .int .i64 b, .slice ao1 ws.length cap1] 30)) (w.heap.size + 1) 0 0 0 0 0 (.slice none 0 0)) := HR.out.stays E1 HR.out.lt
  have V1 : Hid (OwnI (w1.alloc (.cells #[.int .i64 c, .int .i64 r, .int .i64 q, .int .i64 a, .int .i64 b, .slice ao1 ws.length cap1] 30)) w.heap.size (.slice ao1 ws.length cap1) ws) := (hv1.alloc _).down hWs
  have B1 : Hid (Below w.heap.size w (w1.alloc (.cells #[.int .i64 c, .int .i64 r, .int .i64 q, .int .i64 a, .int .i64 b, .slice ao1 ws.length cap1] 30))) := HB.out.trans (E1.mono hWs)
  have U1 : Hid (OwnI (w1.alloc (.cells #[.int .i64 c, .int .i64 r, .int .i64 q, .int .i64 a, .int .i64 b, .slice ao1 ws.length cap1] 30)) B0 u0 ws) := HU.out.stays E1 (fun k hk => (HU.out.lt k hk).2)
  have hgO : w.heap.size + 1 < w1.heap.size := Nat.lt_of_lt_of_le hWr hb1.size
  obtain ⟨s0, s1, s2, s3, s4, s5⟩ := A1.out.cells
  clear hv1 hb1 E1 HA HR HU HB hWs hWr
  go_wp2_with fail
  generalize w1.alloc (.cells #[.int .i64 c, .int .i64 r, .int .i64 q, .int .i64 a, .int .i64 b, .slice ao1 ws.length cap1] 30) = W1 at *
  generalize w1.heap.size = gO at *
  obtain ⟨ao0, cap0, hu0, hx0⟩ := U1.out.ints
  have X1 : Hid (IntsAt W1 ao0 ws) := hx0
  subst hu0
  refine (tokenOk_any c r q a b ao0 cap0 ws _ X1 hl).mono ?_
  rintro e w2 ⟨rfl, hb2⟩
  have OO : Hid (TokAt w2 gO c r q a b (.slice ao1 ws.length cap1)) := O1.out.stays hb2 O1.out.lt
  have RR : Hid (TokAt w2 (w.heap.size + 1) 0 0 0 0 0 (.slice none 0 0)) := R1.out.stays hb2 R1.out.lt
  have LL : Hid (OwnI w2 w.heap.size (.slice ao1 ws.length cap1) ws) := own_later' V1.out hb2
  have BB : Hid (Below w.heap.size w w2) := B1.out.trans (hb2.mono B1.out.size)
  clear hb2 O1 R1 V1 B1 A1 U1 X1 hx0 s0 s1 s2 s3 s4 s5
  rw [ht.out]
  clear ht
  go_wp2_with fail
  refine (within_is _ hd).mono ?_
  rintro e w3 ⟨rfl, rfl⟩
  obtain ⟨x0, x1, x2, x3, x4, x5⟩ := OO.out.cells
  obtain ⟨y0, y1, y2, y3, y4, y5⟩ := RR.out.cells
  have m0 := RR.out.frozen 0
  have m1 := RR.out.frozen 1
  have m2 := RR.out.frozen 2
  have m3 := RR.out.frozen 3
  have m4 := RR.out.frozen 4
  have m5 := RR.out.frozen 5
  go_wp2_with fail
  have R3 : TokAt _ (w.heap.size + 1) c r q a b (.slice ao1 ws.length cap1) := RR.out.agg c r q a b (.slice ao1 ws.length cap1)
  have T3 := (((((( TurnAt.refl (w.heap.size + 1) w3).setCell 0 (.int .i64 c)).setCell 1 (.int .i64 r)).setCell 2 (.int .i64 q)).setCell 3 (.int .i64 a)).setCell 4 (.int .i64 b)).setCell 5 (.slice ao1 ws.length cap1)
  have V3 := own_tok LL.out RR.out T3
  have B3 := BB.out.trans (T3.below (by omega))
  clear T3
  generalize ((((((w3.setCell ⟨w.heap.size + 1, 0, none⟩ (.int .i64 c)).setCell ⟨w.heap.size + 1, 1, none⟩ (.int .i64 r)).setCell ⟨w.heap.size + 1, 2, none⟩ (.int .i64 q)).setCell ⟨w.heap.size + 1, 3, none⟩ (.int .i64 a)).setCell ⟨w.heap.size + 1, 4, none⟩ (.int .i64 b)).setCell ⟨w.heap.size + 1, 5, none⟩ (.slice ao1 ws.length cap1)) = W3 at *
  obtain ⟨q0, q1, q2, q3, q4, q5⟩ := R3.cells
  refine bodyPost_ret (v := .agg #[.int .i64 c, .int .i64 r, .int .i64 q, .int .i64 a, .int .i64 b, .slice ao1 ws.length cap1]) (by simp [results, Try.results25, go_sem, q0, q1, q2, q3, q4, q5]) rfl ?_
  exact ⟨_, rfl, V3, B3⟩

set_option maxRecDepth 100000 in
set_option maxHeartbeats 2000000 in
theorem mark_3 (c r q a b d u : Int) (u0 : Value) (ws : List Int) (B0 : Nat) (w : World) (h : Hid (OwnI w B0 u0 ws)) (hl : ws.length ≤ 1048576) (ht : Hid (tkB c r q a b ws = true)) (hd : decide (1 ≤ d ∧ d ≤ 5) = true) (hu : ¬ u < 0) :
    Calls Try.prog 25 #[.agg #[.int .i64 c, .int .i64 r, .int .i64 q, .int .i64 a, .int .i64 b, u0], .int .i64 d, .int .i64 u] w fun e w' => ∃ v, e = .returned (.agg #[.int .i64 c, .int .i64 r, .int .i64 q, .int .i64 (aruM q a b d u), .int .i64 (byM q a b d u), v]) ∧ OwnI w' w.heap.size v ws ∧ Below w.heap.size w w' := by
  have hn1 : (w.alloc (.cells #[.int .i64 c, .int .i64 r, .int .i64 q, .int .i64 a, .int .i64 b, u0] 30)).heap.size = w.heap.size + 1 := by simp
  have HA : Hid (TokAt ((w.alloc (.cells #[.int .i64 c, .int .i64 r, .int .i64 q, .int .i64 a, .int .i64 b, u0] 30)).alloc (.cells #[.int .i64 0, .int .i64 0, .int .i64 0, .int .i64 0, .int .i64 0, .slice none 0 0] 30)) w.heap.size c r q a b u0) := by
    have h := heap_alloc_new w (.cells #[.int .i64 c, .int .i64 r, .int .i64 q, .int .i64 a, .int .i64 b, u0] 30)
    exact TokAt.stays (B := w.heap.size + 1) h ((Below.refl _ _).alloc (by rw [hn1]; exact Nat.le_refl _) _) (by omega)
  have HR : Hid (TokAt ((w.alloc (.cells #[.int .i64 c, .int .i64 r, .int .i64 q, .int .i64 a, .int .i64 b, u0] 30)).alloc (.cells #[.int .i64 0, .int .i64 0, .int .i64 0, .int .i64 0, .int .i64 0, .slice none 0 0] 30)) (w.heap.size + 1) 0 0 0 0 0 (.slice none 0 0)) := by
    have h := heap_alloc_new (w.alloc (.cells #[.int .i64 c, .int .i64 r, .int .i64 q, .int .i64 a, .int .i64 b, u0] 30)) (.cells #[.int .i64 0, .int .i64 0, .int .i64 0, .int .i64 0, .int .i64 0, .slice none 0 0] 30)
    rw [hn1] at h
    exact h
  have HB : Hid (Below w.heap.size w ((w.alloc (.cells #[.int .i64 c, .int .i64 r, .int .i64 q, .int .i64 a, .int .i64 b, u0] 30)).alloc (.cells #[.int .i64 0, .int .i64 0, .int .i64 0, .int .i64 0, .int .i64 0, .slice none 0 0] 30))) := ((Below.refl _ _).alloc (Nat.le_refl _) _).alloc (by simp) _
  have HU : Hid (OwnI ((w.alloc (.cells #[.int .i64 c, .int .i64 r, .int .i64 q, .int .i64 a, .int .i64 b, u0] 30)).alloc (.cells #[.int .i64 0, .int .i64 0, .int .i64 0, .int .i64 0, .int .i64 0, .slice none 0 0] 30)) B0 u0 ws) := (h.out.alloc _).alloc _
  clear h hn1
  go_enter Try.func25, Try.ntmps25
  go_wp2_with fail
  generalize ((w.alloc (.cells #[.int .i64 c, .int .i64 r, .int .i64 q, .int .i64 a, .int .i64 b, u0] 30)).alloc (.cells #[.int .i64 0, .int .i64 0, .int .i64 0, .int .i64 0, .int .i64 0, .slice none 0 0] 30)) = W at *
  have hWs : w.heap.size ≤ W.heap.size := HB.out.size
  have hWr : w.heap.size + 1 < W.heap.size := HR.out.lt
  refine (copyTok c r q a b u0 ws B0 W HU hl).mono ?_
  rintro e w1 ⟨v1, rfl, hv1, hb1⟩
  obtain ⟨ao1, cap1, hf1⟩ := hv1.form
  subst hf1
  have O1 : Hid (TokAt (w1.alloc (.cells #[.int .i64 c, .int .i64 r, .int .i64 q, .int .i64 a, .int .i64 b, .slice ao1 ws.length cap1] 30)) w1.heap.size c r q a b (.slice ao1 ws.length cap1)) := heap_alloc_new w1 _
  have E1 : Below W.heap.size W (w1.alloc (.cells #[.int .i64 c, .int .i64 r, .int .i64 q, .int .i64 a, .int .i64 b, .slice ao1 ws.length cap1] 30)) := hb1.alloc hb1.size _
  have A1 : Hid (TokAt (w1.alloc (.cells #[.int .i64 c, .int .i64 r, .int .i64 q, .int .i64 a, .int .i64 b, .slice ao1 ws.length cap1] 30)) w.heap.size c r q a b u0) := HA.out.stays E1 HA.out.lt
  have R1 : Hid (TokAt (w1.alloc (.cells #[.int .i64 c, .int .i64 r, .int .i64 q, .int .i64 a, .int .i64 b, .slice ao1 ws.length cap1] 30)) (w.heap.size + 1) 0 0 0 0 0 (.slice none 0 0)) := HR.out.stays E1 HR.out.lt
  have V1 : Hid (OwnI (w1.alloc (.cells #[.int .i64 c, .int .i64 r, .int .i64 q, .int .i64 a, .int .i64 b, .slice ao1 ws.length cap1] 30)) w.heap.size (.slice ao1 ws.length cap1) ws) := (hv1.alloc _).down hWs
  have B1 : Hid (Below w.heap.size w (w1.alloc (.cells #[.int .i64 c, .int .i64 r, .int .i64 q, .int .i64 a, .int .i64 b, .slice ao1 ws.length cap1] 30))) := HB.out.trans (E1.mono hWs)
  have U1 : Hid (OwnI (w1.alloc (.cells #[.int .i64 c, .int .i64 r, .int .i64 q, .int .i64 a, .int .i64 b, .slice ao1 ws.length cap1] 30)) B0 u0 ws) := HU.out.stays E1 (fun k hk => (HU.out.lt k hk).2)
  have hgO : w.heap.size + 1 < w1.heap.size := Nat.lt_of_lt_of_le hWr hb1.size
  obtain ⟨s0, s1, s2, s3, s4, s5⟩ := A1.out.cells
  clear hv1 hb1 E1 HA HR HU HB hWs hWr
  go_wp2_with fail
  generalize w1.alloc (.cells #[.int .i64 c, .int .i64 r, .int .i64 q, .int .i64 a, .int .i64 b, .slice ao1 ws.length cap1] 30) = W1 at *
  generalize w1.heap.size = gO at *
  obtain ⟨ao0, cap0, hu0, hx0⟩ := U1.out.ints
  have X1 : Hid (IntsAt W1 ao0 ws) := hx0
  subst hu0
  refine (tokenOk_any c r q a b ao0 cap0 ws _ X1 hl).mono ?_
  rintro e w2 ⟨rfl, hb2⟩
  have OO : Hid (TokAt w2 gO c r q a b (.slice ao1 ws.length cap1)) := O1.out.stays hb2 O1.out.lt
  have RR : Hid (TokAt w2 (w.heap.size + 1) 0 0 0 0 0 (.slice none 0 0)) := R1.out.stays hb2 R1.out.lt
  have LL : Hid (OwnI w2 w.heap.size (.slice ao1 ws.length cap1) ws) := own_later' V1.out hb2
  have BB : Hid (Below w.heap.size w w2) := B1.out.trans (hb2.mono B1.out.size)
  clear hb2 O1 R1 V1 B1 A1 U1 X1 hx0 s0 s1 s2 s3 s4 s5
  rw [ht.out]
  clear ht
  go_wp2_with fail
  refine (within_is _ hd).mono ?_
  rintro e w3 ⟨rfl, rfl⟩
  have K1 : Below w3.heap.size w3 ((w3.alloc (.cells #[.int .i64 d, .int .i64 u] 85)).alloc (.cells #[.func (Fn.func 71) #[.agg #[.int .i64 d, .int .i64 u]] #[], .func (Fn.func 72) #[.agg #[.int .i64 d, .int .i64 u]] #[]] 104)) := ((Below.refl _ _).alloc (Nat.le_refl _) _).alloc (by simp) _
  have M1 : Hid (MkAt (w3.alloc (.cells #[.int .i64 d, .int .i64 u] 85)) w3.heap.size d u) := heap_alloc_new w3 _
  have L1 : Hid (RlAt ((w3.alloc (.cells #[.int .i64 d, .int .i64 u] 85)).alloc (.cells #[.func (Fn.func 71) #[.agg #[.int .i64 d, .int .i64 u]] #[], .func (Fn.func 72) #[.agg #[.int .i64 d, .int .i64 u]] #[]] 104)) (w3.heap.size + 1) d u) := by
    have h := heap_alloc_new (w3.alloc (.cells #[.int .i64 d, .int .i64 u] 85)) (.cells #[.func (Fn.func 71) #[.agg #[.int .i64 d, .int .i64 u]] #[], .func (Fn.func 72) #[.agg #[.int .i64 d, .int .i64 u]] #[]] 104)
    rw [show (w3.alloc (.cells #[.int .i64 d, .int .i64 u] 85)).heap.size = w3.heap.size + 1 by simp] at h
    exact h
  obtain ⟨k0, k1⟩ := M1.out.cells
  have P1 : Hid (TokAt ((w3.alloc (.cells #[.int .i64 d, .int .i64 u] 85)).alloc (.cells #[.func (Fn.func 71) #[.agg #[.int .i64 d, .int .i64 u]] #[], .func (Fn.func 72) #[.agg #[.int .i64 d, .int .i64 u]] #[]] 104)) gO c r q a b (.slice ao1 ws.length cap1)) := OO.out.stays K1 OO.out.lt
  have P2 : Hid (TokAt ((w3.alloc (.cells #[.int .i64 d, .int .i64 u] 85)).alloc (.cells #[.func (Fn.func 71) #[.agg #[.int .i64 d, .int .i64 u]] #[], .func (Fn.func 72) #[.agg #[.int .i64 d, .int .i64 u]] #[]] 104)) (w.heap.size + 1) 0 0 0 0 0 (.slice none 0 0)) := RR.out.stays K1 RR.out.lt
  have P3 : Hid (OwnI ((w3.alloc (.cells #[.int .i64 d, .int .i64 u] 85)).alloc (.cells #[.func (Fn.func 71) #[.agg #[.int .i64 d, .int .i64 u]] #[], .func (Fn.func 72) #[.agg #[.int .i64 d, .int .i64 u]] #[]] 104)) w.heap.size (.slice ao1 ws.length cap1) ws) := own_later' LL.out K1
  have P4 : Hid (Below w.heap.size w ((w3.alloc (.cells #[.int .i64 d, .int .i64 u] 85)).alloc (.cells #[.func (Fn.func 71) #[.agg #[.int .i64 d, .int .i64 u]] #[], .func (Fn.func 72) #[.agg #[.int .i64 d, .int .i64 u]] #[]] 104))) := BB.out.trans (K1.mono BB.out.size)
  clear OO RR LL BB K1
  go_wp2_with fail
  generalize (w3.alloc (.cells #[.int .i64 d, .int .i64 u] 85)).alloc (.cells #[.func (Fn.func 71) #[.agg #[.int .i64 d, .int .i64 u]] #[], .func (Fn.func 72) #[.agg #[.int .i64 d, .int .i64 u]] #[]] 104) = W4 at *
  refine (follow_any d u c r q a b (.slice ao1 ws.length cap1) gO (w3.heap.size + 1) W4 P1 L1).mono ?_
  rintro e w5 ⟨⟨xr, rfl⟩, ht5, hk5⟩
  have OO : Hid (TokAt w5 gO c r q (aruM q a b d u) (byM q a b d u) (.slice ao1 ws.length cap1)) := ht5
  have RR : Hid (TokAt w5 (w.heap.size + 1) 0 0 0 0 0 (.slice none 0 0)) := (hk5.block _ P2.out.lt (by omega)).trans P2.out
  have LL : Hid (OwnI w5 w.heap.size (.slice ao1 ws.length cap1) ws) := own_keep P3.out P1.out hk5
  have BB : Hid (Below w.heap.size w w5) := P4.out.trans (hk5.below (by omega) P4.out.size)
  clear ht5 hk5 P1 P2 P3 P4 L1 M1 k0 k1
  obtain ⟨A', hA'⟩ : ∃ A' : Int, A' = aruM q a b d u := ⟨_, rfl⟩
  obtain ⟨D', hD'⟩ : ∃ D' : Int, D' = byM q a b d u := ⟨_, rfl⟩
  rw [← hA', ← hD'] at OO
  have HA' : Hid (A' = aruM q a b d u) := hA'
  have HD' : Hid (D' = byM q a b d u) := hD'
  clear hA' hD'
  obtain ⟨x0, x1, x2, x3, x4, x5⟩ := OO.out.cells
  obtain ⟨y0, y1, y2, y3, y4, y5⟩ := RR.out.cells
  have m0 := RR.out.frozen 0
  have m1 := RR.out.frozen 1
  have m2 := RR.out.frozen 2
  have m3 := RR.out.frozen 3
  have m4 := RR.out.frozen 4
  have m5 := RR.out.frozen 5
  go_wp2_with fail
  have R3 : TokAt _ (w.heap.size + 1) c r q A' D' (.slice ao1 ws.length cap1) := RR.out.agg c r q A' D' (.slice ao1 ws.length cap1)
  have T3 := (((((( TurnAt.refl (w.heap.size + 1) w5).setCell 0 (.int .i64 c)).setCell 1 (.int .i64 r)).setCell 2 (.int .i64 q)).setCell 3 (.int .i64 A')).setCell 4 (.int .i64 D')).setCell 5 (.slice ao1 ws.length cap1)
  have V3 := own_tok LL.out RR.out T3
  have B3 := BB.out.trans (T3.below (by omega))
  clear T3
  generalize ((((((w5.setCell ⟨w.heap.size + 1, 0, none⟩ (.int .i64 c)).setCell ⟨w.heap.size + 1, 1, none⟩ (.int .i64 r)).setCell ⟨w.heap.size + 1, 2, none⟩ (.int .i64 q)).setCell ⟨w.heap.size + 1, 3, none⟩ (.int .i64 A')).setCell ⟨w.heap.size + 1, 4, none⟩ (.int .i64 D')).setCell ⟨w.heap.size + 1, 5, none⟩ (.slice ao1 ws.length cap1)) = W3 at *
  obtain ⟨q0, q1, q2, q3, q4, q5⟩ := R3.cells
  refine bodyPost_ret (v := .agg #[.int .i64 c, .int .i64 r, .int .i64 q, .int .i64 A', .int .i64 D', .slice ao1 ws.length cap1]) (by simp [results, Try.results25, go_sem, q0, q1, q2, q3, q4, q5]) rfl ?_
  exact ⟨_, by rw [← HA'.out, ← HD'.out], V3, B3⟩

set_option maxRecDepth 100000 in
set_option maxHeartbeats 2000000 in
theorem spMark_0 (c r q a b d u : Int) (u0 : Value) (ws : List Int) (B0 : Nat) (w : World) (h : Hid (OwnI w B0 u0 ws)) (hl : ws.length ≤ 1048576) (ht : Hid (tkB c r q a b ws = false)) :
    Calls Try.prog 26 #[.agg #[.int .i64 c, .int .i64 r, .int .i64 q, .int .i64 a, .int .i64 b, u0], .int .i64 d, .int .i64 u] w fun e w' => ∃ v, e = .returned (.agg #[.int .i64 c, .int .i64 r, .int .i64 q, .int .i64 a, .int .i64 b, v]) ∧ OwnI w' w.heap.size v ws ∧ Below w.heap.size w w' := by
  have hn1 : (w.alloc (.cells #[.int .i64 c, .int .i64 r, .int .i64 q, .int .i64 a, .int .i64 b, u0] 30)).heap.size = w.heap.size + 1 := by simp
  have HA : Hid (TokAt ((w.alloc (.cells #[.int .i64 c, .int .i64 r, .int .i64 q, .int .i64 a, .int .i64 b, u0] 30)).alloc (.cells #[.int .i64 0, .int .i64 0, .int .i64 0, .int .i64 0, .int .i64 0, .slice none 0 0] 30)) w.heap.size c r q a b u0) := by
    have h := heap_alloc_new w (.cells #[.int .i64 c, .int .i64 r, .int .i64 q, .int .i64 a, .int .i64 b, u0] 30)
    exact TokAt.stays (B := w.heap.size + 1) h ((Below.refl _ _).alloc (by rw [hn1]; exact Nat.le_refl _) _) (by omega)
  have HR : Hid (TokAt ((w.alloc (.cells #[.int .i64 c, .int .i64 r, .int .i64 q, .int .i64 a, .int .i64 b, u0] 30)).alloc (.cells #[.int .i64 0, .int .i64 0, .int .i64 0, .int .i64 0, .int .i64 0, .slice none 0 0] 30)) (w.heap.size + 1) 0 0 0 0 0 (.slice none 0 0)) := by
    have h := heap_alloc_new (w.alloc (.cells #[.int .i64 c, .int .i64 r, .int .i64 q, .int .i64 a, .int .i64 b, u0] 30)) (.cells #[.int .i64 0, .int .i64 0, .int .i64 0, .int .i64 0, .int .i64 0, .slice none 0 0] 30)
    rw [hn1] at h
    exact h
  have HB : Hid (Below w.heap.size w ((w.alloc (.cells #[.int .i64 c, .int .i64 r, .int .i64 q, .int .i64 a, .int .i64 b, u0] 30)).alloc (.cells #[.int .i64 0, .int .i64 0, .int .i64 0, .int .i64 0, .int .i64 0, .slice none 0 0] 30))) := ((Below.refl _ _).alloc (Nat.le_refl _) _).alloc (by simp) _
  have HU : Hid (OwnI ((w.alloc (.cells #[.int .i64 c, .int .i64 r, .int .i64 q, .int .i64 a, .int .i64 b, u0] 30)).alloc (.cells #[.int .i64 0, .int .i64 0, .int .i64 0, .int .i64 0, .int .i64 0, .slice none 0 0] 30)) B0 u0 ws) := (h.out.alloc _).alloc _
  clear h hn1
  go_enter Try.func26, Try.ntmps26
  go_wp2_with fail
  generalize ((w.alloc (.cells #[.int .i64 c, .int .i64 r, .int .i64 q, .int .i64 a, .int .i64 b, u0] 30)).alloc (.cells #[.int .i64 0, .int .i64 0, .int .i64 0, .int .i64 0, .int .i64 0, .slice none 0 0] 30)) = W at *
  have hWs : w.heap.size ≤ W.heap.size := HB.out.size
  have hWr : w.heap.size + 1 < W.heap.size := HR.out.lt
  refine (spCopyTok c r q a b u0 ws B0 W HU hl).mono ?_
  rintro e w1 ⟨v1, rfl, hv1, hb1⟩
  obtain ⟨ao1, cap1, hf1⟩ := hv1.form
  subst hf1
  have O1 : Hid (TokAt (w1.alloc (.cells #[.int .i64 c, .int .i64 r, .int .i64 q, .int .i64 a, .int .i64 b, .slice ao1 ws.length cap1] 30)) w1.heap.size c r q a b (.slice ao1 ws.length cap1)) := heap_alloc_new w1 _
  have E1 : Below W.heap.size W (w1.alloc (.cells #[.int .i64 c, .int .i64 r, .int .i64 q, .int .i64 a, .int .i64 b, .slice ao1 ws.length cap1] 30)) := hb1.alloc hb1.size _
  have A1 : Hid (TokAt (w1.alloc (.cells #[.int .i64 c, .int .i64 r, .int .i64 q, .int .i64 a, .int .i64 b, .slice ao1 ws.length cap1] 30)) w.heap.size c r q a b u0) := HA.out.stays E1 HA.out.lt
  have R1 : Hid (TokAt (w1.alloc (.cells #[.int .i64 c, .int .i64 r, .int .i64 q, .int .i64 a, .int .i64 b, .slice ao1 ws.length cap1] 30)) (w.heap.size + 1) 0 0 0 0 0 (.slice none 0 0)) := HR.out.stays E1 HR.out.lt
  have V1 : Hid (OwnI (w1.alloc (.cells #[.int .i64 c, .int .i64 r, .int .i64 q, .int .i64 a, .int .i64 b, .slice ao1 ws.length cap1] 30)) w.heap.size (.slice ao1 ws.length cap1) ws) := (hv1.alloc _).down hWs
  have B1 : Hid (Below w.heap.size w (w1.alloc (.cells #[.int .i64 c, .int .i64 r, .int .i64 q, .int .i64 a, .int .i64 b, .slice ao1 ws.length cap1] 30))) := HB.out.trans (E1.mono hWs)
  have U1 : Hid (OwnI (w1.alloc (.cells #[.int .i64 c, .int .i64 r, .int .i64 q, .int .i64 a, .int .i64 b, .slice ao1 ws.length cap1] 30)) B0 u0 ws) := HU.out.stays E1 (fun k hk => (HU.out.lt k hk).2)
  have hgO : w.heap.size + 1 < w1.heap.size := Nat.lt_of_lt_of_le hWr hb1.size
  obtain ⟨s0, s1, s2, s3, s4, s5⟩ := A1.out.cells
  clear hv1 hb1 E1 HA HR HU HB hWs hWr
  go_wp2_with fail
  generalize w1.alloc (.cells #[.int .i64 c, .int .i64 r, .int .i64 q, .int .i64 a, .int .i64 b, .slice ao1 ws.length cap1] 30) = W1 at *
  generalize w1.heap.size = gO at *
  obtain ⟨ao0, cap0, hu0, hx0⟩ := U1.out.ints
  have X1 : Hid (IntsAt W1 ao0 ws) := hx0
  subst hu0
  refine (spTokenOk_any c r q a b ao0 cap0 ws _ X1 hl).mono ?_
  rintro e w2 ⟨rfl, hb2⟩
  have OO : Hid (TokAt w2 gO c r q a b (.slice ao1 ws.length cap1)) := O1.out.stays hb2 O1.out.lt
  have RR : Hid (TokAt w2 (w.heap.size + 1) 0 0 0 0 0 (.slice none 0 0)) := R1.out.stays hb2 R1.out.lt
  have LL : Hid (OwnI w2 w.heap.size (.slice ao1 ws.length cap1) ws) := own_later' V1.out hb2
  have BB : Hid (Below w.heap.size w w2) := B1.out.trans (hb2.mono B1.out.size)
  clear hb2 O1 R1 V1 B1 A1 U1 X1 hx0 s0 s1 s2 s3 s4 s5
  rw [ht.out]
  clear ht
  obtain ⟨x0, x1, x2, x3, x4, x5⟩ := OO.out.cells
  obtain ⟨y0, y1, y2, y3, y4, y5⟩ := RR.out.cells
  have m0 := RR.out.frozen 0
  have m1 := RR.out.frozen 1
  have m2 := RR.out.frozen 2
  have m3 := RR.out.frozen 3
  have m4 := RR.out.frozen 4
  have m5 := RR.out.frozen 5
  go_wp2_with fail
  have R3 : TokAt _ (w.heap.size + 1) c r q a b (.slice ao1 ws.length cap1) := RR.out.agg c r q a b (.slice ao1 ws.length cap1)
  have T3 := (((((( TurnAt.refl (w.heap.size + 1) w2).setCell 0 (.int .i64 c)).setCell 1 (.int .i64 r)).setCell 2 (.int .i64 q)).setCell 3 (.int .i64 a)).setCell 4 (.int .i64 b)).setCell 5 (.slice ao1 ws.length cap1)
  have V3 := own_tok LL.out RR.out T3
  have B3 := BB.out.trans (T3.below (by omega))
  clear T3
  generalize ((((((w2.setCell ⟨w.heap.size + 1, 0, none⟩ (.int .i64 c)).setCell ⟨w.heap.size + 1, 1, none⟩ (.int .i64 r)).setCell ⟨w.heap.size + 1, 2, none⟩ (.int .i64 q)).setCell ⟨w.heap.size + 1, 3, none⟩ (.int .i64 a)).setCell ⟨w.heap.size + 1, 4, none⟩ (.int .i64 b)).setCell ⟨w.heap.size + 1, 5, none⟩ (.slice ao1 ws.length cap1)) = W3 at *
  obtain ⟨q0, q1, q2, q3, q4, q5⟩ := R3.cells
  refine bodyPost_ret (v := .agg #[.int .i64 c, .int .i64 r, .int .i64 q, .int .i64 a, .int .i64 b, .slice ao1 ws.length cap1]) (by simp [results, Try.results26, go_sem, q0, q1, q2, q3, q4, q5]) rfl ?_
  exact ⟨_, rfl, V3, B3⟩

set_option maxRecDepth 100000 in
set_option maxHeartbeats 2000000 in
theorem spMark_1 (c r q a b d u : Int) (u0 : Value) (ws : List Int) (B0 : Nat) (w : World) (h : Hid (OwnI w B0 u0 ws)) (hl : ws.length ≤ 1048576) (ht : Hid (tkB c r q a b ws = true)) (hd : decide (1 ≤ d ∧ d ≤ 5) = false) :
    Calls Try.prog 26 #[.agg #[.int .i64 c, .int .i64 r, .int .i64 q, .int .i64 a, .int .i64 b, u0], .int .i64 d, .int .i64 u] w fun e w' => ∃ v, e = .returned (.agg #[.int .i64 c, .int .i64 r, .int .i64 q, .int .i64 a, .int .i64 b, v]) ∧ OwnI w' w.heap.size v ws ∧ Below w.heap.size w w' := by
  have hn1 : (w.alloc (.cells #[.int .i64 c, .int .i64 r, .int .i64 q, .int .i64 a, .int .i64 b, u0] 30)).heap.size = w.heap.size + 1 := by simp
  have HA : Hid (TokAt ((w.alloc (.cells #[.int .i64 c, .int .i64 r, .int .i64 q, .int .i64 a, .int .i64 b, u0] 30)).alloc (.cells #[.int .i64 0, .int .i64 0, .int .i64 0, .int .i64 0, .int .i64 0, .slice none 0 0] 30)) w.heap.size c r q a b u0) := by
    have h := heap_alloc_new w (.cells #[.int .i64 c, .int .i64 r, .int .i64 q, .int .i64 a, .int .i64 b, u0] 30)
    exact TokAt.stays (B := w.heap.size + 1) h ((Below.refl _ _).alloc (by rw [hn1]; exact Nat.le_refl _) _) (by omega)
  have HR : Hid (TokAt ((w.alloc (.cells #[.int .i64 c, .int .i64 r, .int .i64 q, .int .i64 a, .int .i64 b, u0] 30)).alloc (.cells #[.int .i64 0, .int .i64 0, .int .i64 0, .int .i64 0, .int .i64 0, .slice none 0 0] 30)) (w.heap.size + 1) 0 0 0 0 0 (.slice none 0 0)) := by
    have h := heap_alloc_new (w.alloc (.cells #[.int .i64 c, .int .i64 r, .int .i64 q, .int .i64 a, .int .i64 b, u0] 30)) (.cells #[.int .i64 0, .int .i64 0, .int .i64 0, .int .i64 0, .int .i64 0, .slice none 0 0] 30)
    rw [hn1] at h
    exact h
  have HB : Hid (Below w.heap.size w ((w.alloc (.cells #[.int .i64 c, .int .i64 r, .int .i64 q, .int .i64 a, .int .i64 b, u0] 30)).alloc (.cells #[.int .i64 0, .int .i64 0, .int .i64 0, .int .i64 0, .int .i64 0, .slice none 0 0] 30))) := ((Below.refl _ _).alloc (Nat.le_refl _) _).alloc (by simp) _
  have HU : Hid (OwnI ((w.alloc (.cells #[.int .i64 c, .int .i64 r, .int .i64 q, .int .i64 a, .int .i64 b, u0] 30)).alloc (.cells #[.int .i64 0, .int .i64 0, .int .i64 0, .int .i64 0, .int .i64 0, .slice none 0 0] 30)) B0 u0 ws) := (h.out.alloc _).alloc _
  clear h hn1
  go_enter Try.func26, Try.ntmps26
  go_wp2_with fail
  generalize ((w.alloc (.cells #[.int .i64 c, .int .i64 r, .int .i64 q, .int .i64 a, .int .i64 b, u0] 30)).alloc (.cells #[.int .i64 0, .int .i64 0, .int .i64 0, .int .i64 0, .int .i64 0, .slice none 0 0] 30)) = W at *
  have hWs : w.heap.size ≤ W.heap.size := HB.out.size
  have hWr : w.heap.size + 1 < W.heap.size := HR.out.lt
  refine (spCopyTok c r q a b u0 ws B0 W HU hl).mono ?_
  rintro e w1 ⟨v1, rfl, hv1, hb1⟩
  obtain ⟨ao1, cap1, hf1⟩ := hv1.form
  subst hf1
  have O1 : Hid (TokAt (w1.alloc (.cells #[.int .i64 c, .int .i64 r, .int .i64 q, .int .i64 a, .int .i64 b, .slice ao1 ws.length cap1] 30)) w1.heap.size c r q a b (.slice ao1 ws.length cap1)) := heap_alloc_new w1 _
  have E1 : Below W.heap.size W (w1.alloc (.cells #[.int .i64 c, .int .i64 r, .int .i64 q, .int .i64 a, .int .i64 b, .slice ao1 ws.length cap1] 30)) := hb1.alloc hb1.size _
  have A1 : Hid (TokAt (w1.alloc (.cells #[.int .i64 c, .int .i64 r, .int .i64 q, .int .i64 a, .int .i64 b, .slice ao1 ws.length cap1] 30)) w.heap.size c r q a b u0) := HA.out.stays E1 HA.out.lt
  have R1 : Hid (TokAt (w1.alloc (.cells #[.int .i64 c, .int .i64 r, .int .i64 q, .int .i64 a, .int .i64 b, .slice ao1 ws.length cap1] 30)) (w.heap.size + 1) 0 0 0 0 0 (.slice none 0 0)) := HR.out.stays E1 HR.out.lt
  have V1 : Hid (OwnI (w1.alloc (.cells #[.int .i64 c, .int .i64 r, .int .i64 q, .int .i64 a, .int .i64 b, .slice ao1 ws.length cap1] 30)) w.heap.size (.slice ao1 ws.length cap1) ws) := (hv1.alloc _).down hWs
  have B1 : Hid (Below w.heap.size w (w1.alloc (.cells #[.int .i64 c, .int .i64 r, .int .i64 q, .int .i64 a, .int .i64 b, .slice ao1 ws.length cap1] 30))) := HB.out.trans (E1.mono hWs)
  have U1 : Hid (OwnI (w1.alloc (.cells #[.int .i64 c, .int .i64 r, .int .i64 q, .int .i64 a, .int .i64 b, .slice ao1 ws.length cap1] 30)) B0 u0 ws) := HU.out.stays E1 (fun k hk => (HU.out.lt k hk).2)
  have hgO : w.heap.size + 1 < w1.heap.size := Nat.lt_of_lt_of_le hWr hb1.size
  obtain ⟨s0, s1, s2, s3, s4, s5⟩ := A1.out.cells
  clear hv1 hb1 E1 HA HR HU HB hWs hWr
  go_wp2_with fail
  generalize w1.alloc (.cells #[.int .i64 c, .int .i64 r, .int .i64 q, .int .i64 a, .int .i64 b, .slice ao1 ws.length cap1] 30) = W1 at *
  generalize w1.heap.size = gO at *
  obtain ⟨ao0, cap0, hu0, hx0⟩ := U1.out.ints
  have X1 : Hid (IntsAt W1 ao0 ws) := hx0
  subst hu0
  refine (spTokenOk_any c r q a b ao0 cap0 ws _ X1 hl).mono ?_
  rintro e w2 ⟨rfl, hb2⟩
  have OO : Hid (TokAt w2 gO c r q a b (.slice ao1 ws.length cap1)) := O1.out.stays hb2 O1.out.lt
  have RR : Hid (TokAt w2 (w.heap.size + 1) 0 0 0 0 0 (.slice none 0 0)) := R1.out.stays hb2 R1.out.lt
  have LL : Hid (OwnI w2 w.heap.size (.slice ao1 ws.length cap1) ws) := own_later' V1.out hb2
  have BB : Hid (Below w.heap.size w w2) := B1.out.trans (hb2.mono B1.out.size)
  clear hb2 O1 R1 V1 B1 A1 U1 X1 hx0 s0 s1 s2 s3 s4 s5
  rw [ht.out]
  clear ht
  go_wp2_with fail
  refine (in_is _ hd).mono ?_
  rintro e w3 ⟨rfl, rfl⟩
  obtain ⟨x0, x1, x2, x3, x4, x5⟩ := OO.out.cells
  obtain ⟨y0, y1, y2, y3, y4, y5⟩ := RR.out.cells
  have m0 := RR.out.frozen 0
  have m1 := RR.out.frozen 1
  have m2 := RR.out.frozen 2
  have m3 := RR.out.frozen 3
  have m4 := RR.out.frozen 4
  have m5 := RR.out.frozen 5
  go_wp2_with fail
  have R3 : TokAt _ (w.heap.size + 1) c r q a b (.slice ao1 ws.length cap1) := RR.out.agg c r q a b (.slice ao1 ws.length cap1)
  have T3 := (((((( TurnAt.refl (w.heap.size + 1) w3).setCell 0 (.int .i64 c)).setCell 1 (.int .i64 r)).setCell 2 (.int .i64 q)).setCell 3 (.int .i64 a)).setCell 4 (.int .i64 b)).setCell 5 (.slice ao1 ws.length cap1)
  have V3 := own_tok LL.out RR.out T3
  have B3 := BB.out.trans (T3.below (by omega))
  clear T3
  generalize ((((((w3.setCell ⟨w.heap.size + 1, 0, none⟩ (.int .i64 c)).setCell ⟨w.heap.size + 1, 1, none⟩ (.int .i64 r)).setCell ⟨w.heap.size + 1, 2, none⟩ (.int .i64 q)).setCell ⟨w.heap.size + 1, 3, none⟩ (.int .i64 a)).setCell ⟨w.heap.size + 1, 4, none⟩ (.int .i64 b)).setCell ⟨w.heap.size + 1, 5, none⟩ (.slice ao1 ws.length cap1)) = W3 at *
  obtain ⟨q0, q1, q2, q3, q4, q5⟩ := R3.cells
  refine bodyPost_ret (v := .agg #[.int .i64 c, .int .i64 r, .int .i64 q, .int .i64 a, .int .i64 b, .slice ao1 ws.length cap1]) (by simp [results, Try.results26, go_sem, q0, q1, q2, q3, q4, q5]) rfl ?_
  exact ⟨_, rfl, V3, B3⟩

set_option maxRecDepth 100000 in
set_option maxHeartbeats 2000000 in
theorem spMark_2 (c r q a b d u : Int) (u0 : Value) (ws : List Int) (B0 : Nat) (w : World) (h : Hid (OwnI w B0 u0 ws)) (hl : ws.length ≤ 1048576) (ht : Hid (tkB c r q a b ws = true)) (hd : decide (1 ≤ d ∧ d ≤ 5) = true) (hu : u < 0) :
    Calls Try.prog 26 #[.agg #[.int .i64 c, .int .i64 r, .int .i64 q, .int .i64 a, .int .i64 b, u0], .int .i64 d, .int .i64 u] w fun e w' => ∃ v, e = .returned (.agg #[.int .i64 c, .int .i64 r, .int .i64 q, .int .i64 a, .int .i64 b, v]) ∧ OwnI w' w.heap.size v ws ∧ Below w.heap.size w w' := by
  have hn1 : (w.alloc (.cells #[.int .i64 c, .int .i64 r, .int .i64 q, .int .i64 a, .int .i64 b, u0] 30)).heap.size = w.heap.size + 1 := by simp
  have HA : Hid (TokAt ((w.alloc (.cells #[.int .i64 c, .int .i64 r, .int .i64 q, .int .i64 a, .int .i64 b, u0] 30)).alloc (.cells #[.int .i64 0, .int .i64 0, .int .i64 0, .int .i64 0, .int .i64 0, .slice none 0 0] 30)) w.heap.size c r q a b u0) := by
    have h := heap_alloc_new w (.cells #[.int .i64 c, .int .i64 r, .int .i64 q, .int .i64 a, .int .i64 b, u0] 30)
    exact TokAt.stays (B := w.heap.size + 1) h ((Below.refl _ _).alloc (by rw [hn1]; exact Nat.le_refl _) _) (by omega)
  have HR : Hid (TokAt ((w.alloc (.cells #[.int .i64 c, .int .i64 r, .int .i64 q, .int .i64 a, .int .i64 b, u0] 30)).alloc (.cells #[.int .i64 0, .int .i64 0, .int .i64 0, .int .i64 0, .int .i64 0, .slice none 0 0] 30)) (w.heap.size + 1) 0 0 0 0 0 (.slice none 0 0)) := by
    have h := heap_alloc_new (w.alloc (.cells #[.int .i64 c, .int .i64 r, .int .i64 q, .int .i64 a, .int .i64 b, u0] 30)) (.cells #[.int .i64 0, .int .i64 0, .int .i64 0, .int .i64 0, .int .i64 0, .slice none 0 0] 30)
    rw [hn1] at h
    exact h
  have HB : Hid (Below w.heap.size w ((w.alloc (.cells #[.int .i64 c, .int .i64 r, .int .i64 q, .int .i64 a, .int .i64 b, u0] 30)).alloc (.cells #[.int .i64 0, .int .i64 0, .int .i64 0, .int .i64 0, .int .i64 0, .slice none 0 0] 30))) := ((Below.refl _ _).alloc (Nat.le_refl _) _).alloc (by simp) _
  have HU : Hid (OwnI ((w.alloc (.cells #[.int .i64 c, .int .i64 r, .int .i64 q, .int .i64 a, .int .i64 b, u0] 30)).alloc (.cells #[.int .i64 0, .int .i64 0, .int .i64 0, .int .i64 0, .int .i64 0, .slice none 0 0] 30)) B0 u0 ws) := (h.out.alloc _).alloc _
  clear h hn1
  go_enter Try.func26, Try.ntmps26
  go_wp2_with fail
  generalize ((w.alloc (.cells #[.int .i64 c, .int .i64 r, .int .i64 q, .int .i64 a, .int .i64 b, u0] 30)).alloc (.cells #[.int .i64 0, .int .i64 0, .int .i64 0, .int .i64 0, .int .i64 0, .slice none 0 0] 30)) = W at *
  have hWs : w.heap.size ≤ W.heap.size := HB.out.size
  have hWr : w.heap.size + 1 < W.heap.size := HR.out.lt
  refine (spCopyTok c r q a b u0 ws B0 W HU hl).mono ?_
  rintro e w1 ⟨v1, rfl, hv1, hb1⟩
  obtain ⟨ao1, cap1, hf1⟩ := hv1.form
  subst hf1
  have O1 : Hid (TokAt (w1.alloc (.cells #[.int .i64 c, .int .i64 r, .int .i64 q, .int .i64 a, .int .i64 b, .slice ao1 ws.length cap1] 30)) w1.heap.size c r q a b (.slice ao1 ws.length cap1)) := heap_alloc_new w1 _
  have E1 : Below W.heap.size W (w1.alloc (.cells #[.int .i64 c, .int .i64 r, .int .i64 q, .int .i64 a, .int .i64 b, .slice ao1 ws.length cap1] 30)) := hb1.alloc hb1.size _
  have A1 : Hid (TokAt (w1.alloc (.cells #[.int .i64 c, .int .i64 r, .int .i64 q, .int .i64 a, .int .i64 b, .slice ao1 ws.length cap1] 30)) w.heap.size c r q a b u0) := HA.out.stays E1 HA.out.lt
  have R1 : Hid (TokAt (w1.alloc (.cells #[.int .i64 c, .int .i64 r, .int .i64 q, .int .i64 a, .int .i64 b, .slice ao1 ws.length cap1] 30)) (w.heap.size + 1) 0 0 0 0 0 (.slice none 0 0)) := HR.out.stays E1 HR.out.lt
  have V1 : Hid (OwnI (w1.alloc (.cells #[.int .i64 c, .int .i64 r, .int .i64 q, .int .i64 a, .int .i64 b, .slice ao1 ws.length cap1] 30)) w.heap.size (.slice ao1 ws.length cap1) ws) := (hv1.alloc _).down hWs
  have B1 : Hid (Below w.heap.size w (w1.alloc (.cells #[.int .i64 c, .int .i64 r, .int .i64 q, .int .i64 a, .int .i64 b, .slice ao1 ws.length cap1] 30))) := HB.out.trans (E1.mono hWs)
  have U1 : Hid (OwnI (w1.alloc (.cells #[.int .i64 c, .int .i64 r, .int .i64 q, .int .i64 a, .int .i64 b, .slice ao1 ws.length cap1] 30)) B0 u0 ws) := HU.out.stays E1 (fun k hk => (HU.out.lt k hk).2)
  have hgO : w.heap.size + 1 < w1.heap.size := Nat.lt_of_lt_of_le hWr hb1.size
  obtain ⟨s0, s1, s2, s3, s4, s5⟩ := A1.out.cells
  clear hv1 hb1 E1 HA HR HU HB hWs hWr
  go_wp2_with fail
  generalize w1.alloc (.cells #[.int .i64 c, .int .i64 r, .int .i64 q, .int .i64 a, .int .i64 b, .slice ao1 ws.length cap1] 30) = W1 at *
  generalize w1.heap.size = gO at *
  obtain ⟨ao0, cap0, hu0, hx0⟩ := U1.out.ints
  have X1 : Hid (IntsAt W1 ao0 ws) := hx0
  subst hu0
  refine (spTokenOk_any c r q a b ao0 cap0 ws _ X1 hl).mono ?_
  rintro e w2 ⟨rfl, hb2⟩
  have OO : Hid (TokAt w2 gO c r q a b (.slice ao1 ws.length cap1)) := O1.out.stays hb2 O1.out.lt
  have RR : Hid (TokAt w2 (w.heap.size + 1) 0 0 0 0 0 (.slice none 0 0)) := R1.out.stays hb2 R1.out.lt
  have LL : Hid (OwnI w2 w.heap.size (.slice ao1 ws.length cap1) ws) := own_later' V1.out hb2
  have BB : Hid (Below w.heap.size w w2) := B1.out.trans (hb2.mono B1.out.size)
  clear hb2 O1 R1 V1 B1 A1 U1 X1 hx0 s0 s1 s2 s3 s4 s5
  rw [ht.out]
  clear ht
  go_wp2_with fail
  refine (in_is _ hd).mono ?_
  rintro e w3 ⟨rfl, rfl⟩
  obtain ⟨x0, x1, x2, x3, x4, x5⟩ := OO.out.cells
  obtain ⟨y0, y1, y2, y3, y4, y5⟩ := RR.out.cells
  have m0 := RR.out.frozen 0
  have m1 := RR.out.frozen 1
  have m2 := RR.out.frozen 2
  have m3 := RR.out.frozen 3
  have m4 := RR.out.frozen 4
  have m5 := RR.out.frozen 5
  go_wp2_with fail
  have R3 : TokAt _ (w.heap.size + 1) c r q a b (.slice ao1 ws.length cap1) := RR.out.agg c r q a b (.slice ao1 ws.length cap1)
  have T3 := (((((( TurnAt.refl (w.heap.size + 1) w3).setCell 0 (.int .i64 c)).setCell 1 (.int .i64 r)).setCell 2 (.int .i64 q)).setCell 3 (.int .i64 a)).setCell 4 (.int .i64 b)).setCell 5 (.slice ao1 ws.length cap1)
  have V3 := own_tok LL.out RR.out T3
  have B3 := BB.out.trans (T3.below (by omega))
  clear T3
  generalize ((((((w3.setCell ⟨w.heap.size + 1, 0, none⟩ (.int .i64 c)).setCell ⟨w.heap.size + 1, 1, none⟩ (.int .i64 r)).setCell ⟨w.heap.size + 1, 2, none⟩ (.int .i64 q)).setCell ⟨w.heap.size + 1, 3, none⟩ (.int .i64 a)).setCell ⟨w.heap.size + 1, 4, none⟩ (.int .i64 b)).setCell ⟨w.heap.size + 1, 5, none⟩ (.slice ao1 ws.length cap1)) = W3 at *
  obtain ⟨q0, q1, q2, q3, q4, q5⟩ := R3.cells
  refine bodyPost_ret (v := .agg #[.int .i64 c, .int .i64 r, .int .i64 q, .int .i64 a, .int .i64 b, .slice ao1 ws.length cap1]) (by simp [results, Try.results26, go_sem, q0, q1, q2, q3, q4, q5]) rfl ?_
  exact ⟨_, rfl, V3, B3⟩

set_option maxRecDepth 100000 in
set_option maxHeartbeats 2000000 in
theorem spMark_3 (c r q a b d u : Int) (u0 : Value) (ws : List Int) (B0 : Nat) (w : World) (h : Hid (OwnI w B0 u0 ws)) (hl : ws.length ≤ 1048576) (ht : Hid (tkB c r q a b ws = true)) (hd : decide (1 ≤ d ∧ d ≤ 5) = true) (hu : ¬ u < 0) (h1 : u < a) :
    Calls Try.prog 26 #[.agg #[.int .i64 c, .int .i64 r, .int .i64 q, .int .i64 a, .int .i64 b, u0], .int .i64 d, .int .i64 u] w fun e w' => ∃ v, e = .returned (.agg #[.int .i64 c, .int .i64 r, .int .i64 q, .int .i64 u, .int .i64 d, v]) ∧ OwnI w' w.heap.size v ws ∧ Below w.heap.size w w' := by
  have hn1 : (w.alloc (.cells #[.int .i64 c, .int .i64 r, .int .i64 q, .int .i64 a, .int .i64 b, u0] 30)).heap.size = w.heap.size + 1 := by simp
  have HA : Hid (TokAt ((w.alloc (.cells #[.int .i64 c, .int .i64 r, .int .i64 q, .int .i64 a, .int .i64 b, u0] 30)).alloc (.cells #[.int .i64 0, .int .i64 0, .int .i64 0, .int .i64 0, .int .i64 0, .slice none 0 0] 30)) w.heap.size c r q a b u0) := by
    have h := heap_alloc_new w (.cells #[.int .i64 c, .int .i64 r, .int .i64 q, .int .i64 a, .int .i64 b, u0] 30)
    exact TokAt.stays (B := w.heap.size + 1) h ((Below.refl _ _).alloc (by rw [hn1]; exact Nat.le_refl _) _) (by omega)
  have HR : Hid (TokAt ((w.alloc (.cells #[.int .i64 c, .int .i64 r, .int .i64 q, .int .i64 a, .int .i64 b, u0] 30)).alloc (.cells #[.int .i64 0, .int .i64 0, .int .i64 0, .int .i64 0, .int .i64 0, .slice none 0 0] 30)) (w.heap.size + 1) 0 0 0 0 0 (.slice none 0 0)) := by
    have h := heap_alloc_new (w.alloc (.cells #[.int .i64 c, .int .i64 r, .int .i64 q, .int .i64 a, .int .i64 b, u0] 30)) (.cells #[.int .i64 0, .int .i64 0, .int .i64 0, .int .i64 0, .int .i64 0, .slice none 0 0] 30)
    rw [hn1] at h
    exact h
  have HB : Hid (Below w.heap.size w ((w.alloc (.cells #[.int .i64 c, .int .i64 r, .int .i64 q, .int .i64 a, .int .i64 b, u0] 30)).alloc (.cells #[.int .i64 0, .int .i64 0, .int .i64 0, .int .i64 0, .int .i64 0, .slice none 0 0] 30))) := ((Below.refl _ _).alloc (Nat.le_refl _) _).alloc (by simp) _
  have HU : Hid (OwnI ((w.alloc (.cells #[.int .i64 c, .int .i64 r, .int .i64 q, .int .i64 a, .int .i64 b, u0] 30)).alloc (.cells #[.int .i64 0, .int .i64 0, .int .i64 0, .int .i64 0, .int .i64 0, .slice none 0 0] 30)) B0 u0 ws) := (h.out.alloc _).alloc _
  clear h hn1
  go_enter Try.func26, Try.ntmps26
  go_wp2_with fail
  generalize ((w.alloc (.cells #[.int .i64 c, .int .i64 r, .int .i64 q, .int .i64 a, .int .i64 b, u0] 30)).alloc (.cells #[.int .i64 0, .int .i64 0, .int .i64 0, .int .i64 0, .int .i64 0, .slice none 0 0] 30)) = W at *
  have hWs : w.heap.size ≤ W.heap.size := HB.out.size
  have hWr : w.heap.size + 1 < W.heap.size := HR.out.lt
  refine (spCopyTok c r q a b u0 ws B0 W HU hl).mono ?_
  rintro e w1 ⟨v1, rfl, hv1, hb1⟩
  obtain ⟨ao1, cap1, hf1⟩ := hv1.form
  subst hf1
  have O1 : Hid (TokAt (w1.alloc (.cells #[.int .i64 c, .int .i64 r, .int .i64 q, .int .i64 a, .int .i64 b, .slice ao1 ws.length cap1] 30)) w1.heap.size c r q a b (.slice ao1 ws.length cap1)) := heap_alloc_new w1 _
  have E1 : Below W.heap.size W (w1.alloc (.cells #[.int .i64 c, .int .i64 r, .int .i64 q, .int .i64 a, .int .i64 b, .slice ao1 ws.length cap1] 30)) := hb1.alloc hb1.size _
  have A1 : Hid (TokAt (w1.alloc (.cells #[.int .i64 c, .int .i64 r, .int .i64 q, .int .i64 a, .int .i64 b, .slice ao1 ws.length cap1] 30)) w.heap.size c r q a b u0) := HA.out.stays E1 HA.out.lt
  have R1 : Hid (TokAt (w1.alloc (.cells #[.int .i64 c, .int .i64 r, .int .i64 q, .int .i64 a, .int .i64 b, .slice ao1 ws.length cap1] 30)) (w.heap.size + 1) 0 0 0 0 0 (.slice none 0 0)) := HR.out.stays E1 HR.out.lt
  have V1 : Hid (OwnI (w1.alloc (.cells #[.int .i64 c, .int .i64 r, .int .i64 q, .int .i64 a, .int .i64 b, .slice ao1 ws.length cap1] 30)) w.heap.size (.slice ao1 ws.length cap1) ws) := (hv1.alloc _).down hWs
  have B1 : Hid (Below w.heap.size w (w1.alloc (.cells #[.int .i64 c, .int .i64 r, .int .i64 q, .int .i64 a, .int .i64 b, .slice ao1 ws.length cap1] 30))) := HB.out.trans (E1.mono hWs)
  have U1 : Hid (OwnI (w1.alloc (.cells #[.int .i64 c, .int .i64 r, .int .i64 q, .int .i64 a, .int .i64 b, .slice ao1 ws.length cap1] 30)) B0 u0 ws) := HU.out.stays E1 (fun k hk => (HU.out.lt k hk).2)
  have hgO : w.heap.size + 1 < w1.heap.size := Nat.lt_of_lt_of_le hWr hb1.size
  obtain ⟨s0, s1, s2, s3, s4, s5⟩ := A1.out.cells
  clear hv1 hb1 E1 HA HR HU HB hWs hWr
  go_wp2_with fail
  generalize w1.alloc (.cells #[.int .i64 c, .int .i64 r, .int .i64 q, .int .i64 a, .int .i64 b, .slice ao1 ws.length cap1] 30) = W1 at *
  generalize w1.heap.size = gO at *
  obtain ⟨ao0, cap0, hu0, hx0⟩ := U1.out.ints
  have X1 : Hid (IntsAt W1 ao0 ws) := hx0
  subst hu0
  refine (spTokenOk_any c r q a b ao0 cap0 ws _ X1 hl).mono ?_
  rintro e w2 ⟨rfl, hb2⟩
  have OO : Hid (TokAt w2 gO c r q a b (.slice ao1 ws.length cap1)) := O1.out.stays hb2 O1.out.lt
  have RR : Hid (TokAt w2 (w.heap.size + 1) 0 0 0 0 0 (.slice none 0 0)) := R1.out.stays hb2 R1.out.lt
  have LL : Hid (OwnI w2 w.heap.size (.slice ao1 ws.length cap1) ws) := own_later' V1.out hb2
  have BB : Hid (Below w.heap.size w w2) := B1.out.trans (hb2.mono B1.out.size)
  clear hb2 O1 R1 V1 B1 A1 U1 X1 hx0 s0 s1 s2 s3 s4 s5
  rw [ht.out]
  clear ht
  go_wp2_with fail
  refine (in_is _ hd).mono ?_
  rintro e w3 ⟨rfl, rfl⟩
  obtain ⟨x0, x1, x2, x3, x4, x5⟩ := OO.out.cells
  have n3 := OO.out.frozen 3
  have n4 := OO.out.frozen 4
  have O1 : Hid (TokAt (w3.setCell ⟨gO, 3, none⟩ (.int .i64 u)) gO c r q u b (.slice ao1 ws.length cap1)) := OO.out.set3 u
  have RR1 : Hid (TokAt (w3.setCell ⟨gO, 3, none⟩ (.int .i64 u)) (w.heap.size + 1) 0 0 0 0 0 (.slice none 0 0)) := RR.out.turn ((TurnAt.refl gO w3).setCell 3 _) (by omega)
  have LL1 : Hid (OwnI (w3.setCell ⟨gO, 3, none⟩ (.int .i64 u)) w.heap.size (.slice ao1 ws.length cap1) ws) := own_tok LL.out OO.out ((TurnAt.refl gO w3).setCell 3 _)
  have BB1 : Hid (Below w.heap.size w (w3.setCell ⟨gO, 3, none⟩ (.int .i64 u))) := BB.out.trans (((TurnAt.refl gO w3).setCell 3 _).below (by omega))
  obtain ⟨x10, x11, x12, x13, x14, x15⟩ := O1.out.cells
  have n13 := O1.out.frozen 3
  have n14 := O1.out.frozen 4
  have O2 : Hid (TokAt ((w3.setCell ⟨gO, 3, none⟩ (.int .i64 u)).setCell ⟨gO, 4, none⟩ (.int .i64 d)) gO c r q u d (.slice ao1 ws.length cap1)) := O1.out.set4 d
  have RR2 : Hid (TokAt ((w3.setCell ⟨gO, 3, none⟩ (.int .i64 u)).setCell ⟨gO, 4, none⟩ (.int .i64 d)) (w.heap.size + 1) 0 0 0 0 0 (.slice none 0 0)) := RR1.out.turn ((TurnAt.refl gO (w3.setCell ⟨gO, 3, none⟩ (.int .i64 u))).setCell 4 _) (by omega)
  have LL2 : Hid (OwnI ((w3.setCell ⟨gO, 3, none⟩ (.int .i64 u)).setCell ⟨gO, 4, none⟩ (.int .i64 d)) w.heap.size (.slice ao1 ws.length cap1) ws) := own_tok LL1.out O1.out ((TurnAt.refl gO (w3.setCell ⟨gO, 3, none⟩ (.int .i64 u))).setCell 4 _)
  have BB2 : Hid (Below w.heap.size w ((w3.setCell ⟨gO, 3, none⟩ (.int .i64 u)).setCell ⟨gO, 4, none⟩ (.int .i64 d))) := BB1.out.trans (((TurnAt.refl gO (w3.setCell ⟨gO, 3, none⟩ (.int .i64 u))).setCell 4 _).below (by omega))
  obtain ⟨x20, x21, x22, x23, x24, x25⟩ := O2.out.cells
  have n23 := O2.out.frozen 3
  have n24 := O2.out.frozen 4
  obtain ⟨y0, y1, y2, y3, y4, y5⟩ := RR2.out.cells
  have m0 := RR2.out.frozen 0
  have m1 := RR2.out.frozen 1
  have m2 := RR2.out.frozen 2
  have m3 := RR2.out.frozen 3
  have m4 := RR2.out.frozen 4
  have m5 := RR2.out.frozen 5
  go_wp2_with fail
  have R3 : TokAt _ (w.heap.size + 1) c r q u d (.slice ao1 ws.length cap1) := RR2.out.agg c r q u d (.slice ao1 ws.length cap1)
  have T3 := (((((( TurnAt.refl (w.heap.size + 1) ((w3.setCell ⟨gO, 3, none⟩ (.int .i64 u)).setCell ⟨gO, 4, none⟩ (.int .i64 d))).setCell 0 (.int .i64 c)).setCell 1 (.int .i64 r)).setCell 2 (.int .i64 q)).setCell 3 (.int .i64 u)).setCell 4 (.int .i64 d)).setCell 5 (.slice ao1 ws.length cap1)
  have V3 := own_tok LL2.out RR2.out T3
  have B3 := BB2.out.trans (T3.below (by omega))
  clear T3
  generalize ((((((((w3.setCell ⟨gO, 3, none⟩ (.int .i64 u)).setCell ⟨gO, 4, none⟩ (.int .i64 d)).setCell ⟨w.heap.size + 1, 0, none⟩ (.int .i64 c)).setCell ⟨w.heap.size + 1, 1, none⟩ (.int .i64 r)).setCell ⟨w.heap.size + 1, 2, none⟩ (.int .i64 q)).setCell ⟨w.heap.size + 1, 3, none⟩ (.int .i64 u)).setCell ⟨w.heap.size + 1, 4, none⟩ (.int .i64 d)).setCell ⟨w.heap.size + 1, 5, none⟩ (.slice ao1 ws.length cap1)) = W3 at *
  obtain ⟨q0, q1, q2, q3, q4, q5⟩ := R3.cells
  refine bodyPost_ret (v := .agg #[.int .i64 c, .int .i64 r, .int .i64 q, .int .i64 u, .int .i64 d, .slice ao1 ws.length cap1]) (by simp [results, Try.results26, go_sem, q0, q1, q2, q3, q4, q5]) rfl ?_
  exact ⟨_, rfl, V3, B3⟩

set_option maxRecDepth 100000 in
set_option maxHeartbeats 2000000 in
theorem spMark_4 (c r q a b d u : Int) (u0 : Value) (ws : List Int) (B0 : Nat) (w : World) (h : Hid (OwnI w B0 u0 ws)) (hl : ws.length ≤ 1048576) (ht : Hid (tkB c r q a b ws = true)) (hd : decide (1 ≤ d ∧ d ≤ 5) = true) (hu : ¬ u < 0) (h1 : ¬ u < a) (h2 : b = d) (h3 : q < u) :
    Calls Try.prog 26 #[.agg #[.int .i64 c, .int .i64 r, .int .i64 q, .int .i64 a, .int .i64 b, u0], .int .i64 d, .int .i64 u] w fun e w' => ∃ v, e = .returned (.agg #[.int .i64 c, .int .i64 r, .int .i64 q, .int .i64 q, .int .i64 0, v]) ∧ OwnI w' w.heap.size v ws ∧ Below w.heap.size w w' := by
  subst h2
  have hn1 : (w.alloc (.cells #[.int .i64 c, .int .i64 r, .int .i64 q, .int .i64 a, .int .i64 b, u0] 30)).heap.size = w.heap.size + 1 := by simp
  have HA : Hid (TokAt ((w.alloc (.cells #[.int .i64 c, .int .i64 r, .int .i64 q, .int .i64 a, .int .i64 b, u0] 30)).alloc (.cells #[.int .i64 0, .int .i64 0, .int .i64 0, .int .i64 0, .int .i64 0, .slice none 0 0] 30)) w.heap.size c r q a b u0) := by
    have h := heap_alloc_new w (.cells #[.int .i64 c, .int .i64 r, .int .i64 q, .int .i64 a, .int .i64 b, u0] 30)
    exact TokAt.stays (B := w.heap.size + 1) h ((Below.refl _ _).alloc (by rw [hn1]; exact Nat.le_refl _) _) (by omega)
  have HR : Hid (TokAt ((w.alloc (.cells #[.int .i64 c, .int .i64 r, .int .i64 q, .int .i64 a, .int .i64 b, u0] 30)).alloc (.cells #[.int .i64 0, .int .i64 0, .int .i64 0, .int .i64 0, .int .i64 0, .slice none 0 0] 30)) (w.heap.size + 1) 0 0 0 0 0 (.slice none 0 0)) := by
    have h := heap_alloc_new (w.alloc (.cells #[.int .i64 c, .int .i64 r, .int .i64 q, .int .i64 a, .int .i64 b, u0] 30)) (.cells #[.int .i64 0, .int .i64 0, .int .i64 0, .int .i64 0, .int .i64 0, .slice none 0 0] 30)
    rw [hn1] at h
    exact h
  have HB : Hid (Below w.heap.size w ((w.alloc (.cells #[.int .i64 c, .int .i64 r, .int .i64 q, .int .i64 a, .int .i64 b, u0] 30)).alloc (.cells #[.int .i64 0, .int .i64 0, .int .i64 0, .int .i64 0, .int .i64 0, .slice none 0 0] 30))) := ((Below.refl _ _).alloc (Nat.le_refl _) _).alloc (by simp) _
  have HU : Hid (OwnI ((w.alloc (.cells #[.int .i64 c, .int .i64 r, .int .i64 q, .int .i64 a, .int .i64 b, u0] 30)).alloc (.cells #[.int .i64 0, .int .i64 0, .int .i64 0, .int .i64 0, .int .i64 0, .slice none 0 0] 30)) B0 u0 ws) := (h.out.alloc _).alloc _
  clear h hn1
  go_enter Try.func26, Try.ntmps26
  go_wp2_with fail
  generalize ((w.alloc (.cells #[.int .i64 c, .int .i64 r, .int .i64 q, .int .i64 a, .int .i64 b, u0] 30)).alloc (.cells #[.int .i64 0, .int .i64 0, .int .i64 0, .int .i64 0, .int .i64 0, .slice none 0 0] 30)) = W at *
  have hWs : w.heap.size ≤ W.heap.size := HB.out.size
  have hWr : w.heap.size + 1 < W.heap.size := HR.out.lt
  refine (spCopyTok c r q a b u0 ws B0 W HU hl).mono ?_
  rintro e w1 ⟨v1, rfl, hv1, hb1⟩
  obtain ⟨ao1, cap1, hf1⟩ := hv1.form
  subst hf1
  have O1 : Hid (TokAt (w1.alloc (.cells #[.int .i64 c, .int .i64 r, .int .i64 q, .int .i64 a, .int .i64 b, .slice ao1 ws.length cap1] 30)) w1.heap.size c r q a b (.slice ao1 ws.length cap1)) := heap_alloc_new w1 _
  have E1 : Below W.heap.size W (w1.alloc (.cells #[.int .i64 c, .int .i64 r, .int .i64 q, .int .i64 a, .int .i64 b, .slice ao1 ws.length cap1] 30)) := hb1.alloc hb1.size _
  have A1 : Hid (TokAt (w1.alloc (.cells #[.int .i64 c, .int .i64 r, .int .i64 q, .int .i64 a, .int .i64 b, .slice ao1 ws.length cap1] 30)) w.heap.size c r q a b u0) := HA.out.stays E1 HA.out.lt
  have R1 : Hid (TokAt (w1.alloc (.cells #[.int .i64 c, .int .i64 r, .int .i64 q, .int .i64 a, .int .i64 b, .slice ao1 ws.length cap1] 30)) (w.heap.size + 1) 0 0 0 0 0 (.slice none 0 0)) := HR.out.stays E1 HR.out.lt
  have V1 : Hid (OwnI (w1.alloc (.cells #[.int .i64 c, .int .i64 r, .int .i64 q, .int .i64 a, .int .i64 b, .slice ao1 ws.length cap1] 30)) w.heap.size (.slice ao1 ws.length cap1) ws) := (hv1.alloc _).down hWs
  have B1 : Hid (Below w.heap.size w (w1.alloc (.cells #[.int .i64 c, .int .i64 r, .int .i64 q, .int .i64 a, .int .i64 b, .slice ao1 ws.length cap1] 30))) := HB.out.trans (E1.mono hWs)
  have U1 : Hid (OwnI (w1.alloc (.cells #[.int .i64 c, .int .i64 r, .int .i64 q, .int .i64 a, .int .i64 b, .slice ao1 ws.length cap1] 30)) B0 u0 ws) := HU.out.stays E1 (fun k hk => (HU.out.lt k hk).2)
  have hgO : w.heap.size + 1 < w1.heap.size := Nat.lt_of_lt_of_le hWr hb1.size
  obtain ⟨s0, s1, s2, s3, s4, s5⟩ := A1.out.cells
  clear hv1 hb1 E1 HA HR HU HB hWs hWr
  go_wp2_with fail
  generalize w1.alloc (.cells #[.int .i64 c, .int .i64 r, .int .i64 q, .int .i64 a, .int .i64 b, .slice ao1 ws.length cap1] 30) = W1 at *
  generalize w1.heap.size = gO at *
  obtain ⟨ao0, cap0, hu0, hx0⟩ := U1.out.ints
  have X1 : Hid (IntsAt W1 ao0 ws) := hx0
  subst hu0
  refine (spTokenOk_any c r q a b ao0 cap0 ws _ X1 hl).mono ?_
  rintro e w2 ⟨rfl, hb2⟩
  have OO : Hid (TokAt w2 gO c r q a b (.slice ao1 ws.length cap1)) := O1.out.stays hb2 O1.out.lt
  have RR : Hid (TokAt w2 (w.heap.size + 1) 0 0 0 0 0 (.slice none 0 0)) := R1.out.stays hb2 R1.out.lt
  have LL : Hid (OwnI w2 w.heap.size (.slice ao1 ws.length cap1) ws) := own_later' V1.out hb2
  have BB : Hid (Below w.heap.size w w2) := B1.out.trans (hb2.mono B1.out.size)
  clear hb2 O1 R1 V1 B1 A1 U1 X1 hx0 s0 s1 s2 s3 s4 s5
  rw [ht.out]
  clear ht
  go_wp2_with fail
  refine (in_is _ hd).mono ?_
  rintro e w3 ⟨rfl, rfl⟩
  obtain ⟨x0, x1, x2, x3, x4, x5⟩ := OO.out.cells
  have n3 := OO.out.frozen 3
  have n4 := OO.out.frozen 4
  have O1 : Hid (TokAt (w3.setCell ⟨gO, 3, none⟩ (.int .i64 u)) gO c r q u b (.slice ao1 ws.length cap1)) := OO.out.set3 u
  have RR1 : Hid (TokAt (w3.setCell ⟨gO, 3, none⟩ (.int .i64 u)) (w.heap.size + 1) 0 0 0 0 0 (.slice none 0 0)) := RR.out.turn ((TurnAt.refl gO w3).setCell 3 _) (by omega)
  have LL1 : Hid (OwnI (w3.setCell ⟨gO, 3, none⟩ (.int .i64 u)) w.heap.size (.slice ao1 ws.length cap1) ws) := own_tok LL.out OO.out ((TurnAt.refl gO w3).setCell 3 _)
  have BB1 : Hid (Below w.heap.size w (w3.setCell ⟨gO, 3, none⟩ (.int .i64 u))) := BB.out.trans (((TurnAt.refl gO w3).setCell 3 _).below (by omega))
  obtain ⟨x10, x11, x12, x13, x14, x15⟩ := O1.out.cells
  have n13 := O1.out.frozen 3
  have n14 := O1.out.frozen 4
  have O2 : Hid (TokAt ((w3.setCell ⟨gO, 3, none⟩ (.int .i64 u)).setCell ⟨gO, 3, none⟩ (.int .i64 q)) gO c r q q b (.slice ao1 ws.length cap1)) := O1.out.set3 q
  have RR2 : Hid (TokAt ((w3.setCell ⟨gO, 3, none⟩ (.int .i64 u)).setCell ⟨gO, 3, none⟩ (.int .i64 q)) (w.heap.size + 1) 0 0 0 0 0 (.slice none 0 0)) := RR1.out.turn ((TurnAt.refl gO (w3.setCell ⟨gO, 3, none⟩ (.int .i64 u))).setCell 3 _) (by omega)
  have LL2 : Hid (OwnI ((w3.setCell ⟨gO, 3, none⟩ (.int .i64 u)).setCell ⟨gO, 3, none⟩ (.int .i64 q)) w.heap.size (.slice ao1 ws.length cap1) ws) := own_tok LL1.out O1.out ((TurnAt.refl gO (w3.setCell ⟨gO, 3, none⟩ (.int .i64 u))).setCell 3 _)
  have BB2 : Hid (Below w.heap.size w ((w3.setCell ⟨gO, 3, none⟩ (.int .i64 u)).setCell ⟨gO, 3, none⟩ (.int .i64 q))) := BB1.out.trans (((TurnAt.refl gO (w3.setCell ⟨gO, 3, none⟩ (.int .i64 u))).setCell 3 _).below (by omega))
  obtain ⟨x20, x21, x22, x23, x24, x25⟩ := O2.out.cells
  have n23 := O2.out.frozen 3
  have n24 := O2.out.frozen 4
  have O3 : Hid (TokAt (((w3.setCell ⟨gO, 3, none⟩ (.int .i64 u)).setCell ⟨gO, 3, none⟩ (.int .i64 q)).setCell ⟨gO, 4, none⟩ (.int .i64 0)) gO c r q q 0 (.slice ao1 ws.length cap1)) := O2.out.set4 0
  have RR3 : Hid (TokAt (((w3.setCell ⟨gO, 3, none⟩ (.int .i64 u)).setCell ⟨gO, 3, none⟩ (.int .i64 q)).setCell ⟨gO, 4, none⟩ (.int .i64 0)) (w.heap.size + 1) 0 0 0 0 0 (.slice none 0 0)) := RR2.out.turn ((TurnAt.refl gO ((w3.setCell ⟨gO, 3, none⟩ (.int .i64 u)).setCell ⟨gO, 3, none⟩ (.int .i64 q))).setCell 4 _) (by omega)
  have LL3 : Hid (OwnI (((w3.setCell ⟨gO, 3, none⟩ (.int .i64 u)).setCell ⟨gO, 3, none⟩ (.int .i64 q)).setCell ⟨gO, 4, none⟩ (.int .i64 0)) w.heap.size (.slice ao1 ws.length cap1) ws) := own_tok LL2.out O2.out ((TurnAt.refl gO ((w3.setCell ⟨gO, 3, none⟩ (.int .i64 u)).setCell ⟨gO, 3, none⟩ (.int .i64 q))).setCell 4 _)
  have BB3 : Hid (Below w.heap.size w (((w3.setCell ⟨gO, 3, none⟩ (.int .i64 u)).setCell ⟨gO, 3, none⟩ (.int .i64 q)).setCell ⟨gO, 4, none⟩ (.int .i64 0))) := BB2.out.trans (((TurnAt.refl gO ((w3.setCell ⟨gO, 3, none⟩ (.int .i64 u)).setCell ⟨gO, 3, none⟩ (.int .i64 q))).setCell 4 _).below (by omega))
  obtain ⟨x30, x31, x32, x33, x34, x35⟩ := O3.out.cells
  have n33 := O3.out.frozen 3
  have n34 := O3.out.frozen 4
  obtain ⟨y0, y1, y2, y3, y4, y5⟩ := RR3.out.cells
  have m0 := RR3.out.frozen 0
  have m1 := RR3.out.frozen 1
  have m2 := RR3.out.frozen 2
  have m3 := RR3.out.frozen 3
  have m4 := RR3.out.frozen 4
  have m5 := RR3.out.frozen 5
  go_wp2_with fail
  have R3 : TokAt _ (w.heap.size + 1) c r q q 0 (.slice ao1 ws.length cap1) := RR3.out.agg c r q q 0 (.slice ao1 ws.length cap1)
  have T3 := (((((( TurnAt.refl (w.heap.size + 1) (((w3.setCell ⟨gO, 3, none⟩ (.int .i64 u)).setCell ⟨gO, 3, none⟩ (.int .i64 q)).setCell ⟨gO, 4, none⟩ (.int .i64 0))).setCell 0 (.int .i64 c)).setCell 1 (.int .i64 r)).setCell 2 (.int .i64 q)).setCell 3 (.int .i64 q)).setCell 4 (.int .i64 0)).setCell 5 (.slice ao1 ws.length cap1)
  have V3 := own_tok LL3.out RR3.out T3
  have B3 := BB3.out.trans (T3.below (by omega))
  clear T3
  generalize (((((((((w3.setCell ⟨gO, 3, none⟩ (.int .i64 u)).setCell ⟨gO, 3, none⟩ (.int .i64 q)).setCell ⟨gO, 4, none⟩ (.int .i64 0)).setCell ⟨w.heap.size + 1, 0, none⟩ (.int .i64 c)).setCell ⟨w.heap.size + 1, 1, none⟩ (.int .i64 r)).setCell ⟨w.heap.size + 1, 2, none⟩ (.int .i64 q)).setCell ⟨w.heap.size + 1, 3, none⟩ (.int .i64 q)).setCell ⟨w.heap.size + 1, 4, none⟩ (.int .i64 0)).setCell ⟨w.heap.size + 1, 5, none⟩ (.slice ao1 ws.length cap1)) = W3 at *
  obtain ⟨q0, q1, q2, q3, q4, q5⟩ := R3.cells
  refine bodyPost_ret (v := .agg #[.int .i64 c, .int .i64 r, .int .i64 q, .int .i64 q, .int .i64 0, .slice ao1 ws.length cap1]) (by simp [results, Try.results26, go_sem, q0, q1, q2, q3, q4, q5]) rfl ?_
  exact ⟨_, rfl, V3, B3⟩

set_option maxRecDepth 100000 in
set_option maxHeartbeats 2000000 in
theorem spMark_5 (c r q a b d u : Int) (u0 : Value) (ws : List Int) (B0 : Nat) (w : World) (h : Hid (OwnI w B0 u0 ws)) (hl : ws.length ≤ 1048576) (ht : Hid (tkB c r q a b ws = true)) (hd : decide (1 ≤ d ∧ d ≤ 5) = true) (hu : ¬ u < 0) (h1 : ¬ u < a) (h2 : b = d) (h3 : u = q) :
    Calls Try.prog 26 #[.agg #[.int .i64 c, .int .i64 r, .int .i64 q, .int .i64 a, .int .i64 b, u0], .int .i64 d, .int .i64 u] w fun e w' => ∃ v, e = .returned (.agg #[.int .i64 c, .int .i64 r, .int .i64 q, .int .i64 u, .int .i64 0, v]) ∧ OwnI w' w.heap.size v ws ∧ Below w.heap.size w w' := by
  subst h2
  subst h3
  have hn1 : (w.alloc (.cells #[.int .i64 c, .int .i64 r, .int .i64 u, .int .i64 a, .int .i64 b, u0] 30)).heap.size = w.heap.size + 1 := by simp
  have HA : Hid (TokAt ((w.alloc (.cells #[.int .i64 c, .int .i64 r, .int .i64 u, .int .i64 a, .int .i64 b, u0] 30)).alloc (.cells #[.int .i64 0, .int .i64 0, .int .i64 0, .int .i64 0, .int .i64 0, .slice none 0 0] 30)) w.heap.size c r u a b u0) := by
    have h := heap_alloc_new w (.cells #[.int .i64 c, .int .i64 r, .int .i64 u, .int .i64 a, .int .i64 b, u0] 30)
    exact TokAt.stays (B := w.heap.size + 1) h ((Below.refl _ _).alloc (by rw [hn1]; exact Nat.le_refl _) _) (by omega)
  have HR : Hid (TokAt ((w.alloc (.cells #[.int .i64 c, .int .i64 r, .int .i64 u, .int .i64 a, .int .i64 b, u0] 30)).alloc (.cells #[.int .i64 0, .int .i64 0, .int .i64 0, .int .i64 0, .int .i64 0, .slice none 0 0] 30)) (w.heap.size + 1) 0 0 0 0 0 (.slice none 0 0)) := by
    have h := heap_alloc_new (w.alloc (.cells #[.int .i64 c, .int .i64 r, .int .i64 u, .int .i64 a, .int .i64 b, u0] 30)) (.cells #[.int .i64 0, .int .i64 0, .int .i64 0, .int .i64 0, .int .i64 0, .slice none 0 0] 30)
    rw [hn1] at h
    exact h
  have HB : Hid (Below w.heap.size w ((w.alloc (.cells #[.int .i64 c, .int .i64 r, .int .i64 u, .int .i64 a, .int .i64 b, u0] 30)).alloc (.cells #[.int .i64 0, .int .i64 0, .int .i64 0, .int .i64 0, .int .i64 0, .slice none 0 0] 30))) := ((Below.refl _ _).alloc (Nat.le_refl _) _).alloc (by simp) _
  have HU : Hid (OwnI ((w.alloc (.cells #[.int .i64 c, .int .i64 r, .int .i64 u, .int .i64 a, .int .i64 b, u0] 30)).alloc (.cells #[.int .i64 0, .int .i64 0, .int .i64 0, .int .i64 0, .int .i64 0, .slice none 0 0] 30)) B0 u0 ws) := (h.out.alloc _).alloc _
  clear h hn1
  go_enter Try.func26, Try.ntmps26
  go_wp2_with fail
  generalize ((w.alloc (.cells #[.int .i64 c, .int .i64 r, .int .i64 u, .int .i64 a, .int .i64 b, u0] 30)).alloc (.cells #[.int .i64 0, .int .i64 0, .int .i64 0, .int .i64 0, .int .i64 0, .slice none 0 0] 30)) = W at *
  have hWs : w.heap.size ≤ W.heap.size := HB.out.size
  have hWr : w.heap.size + 1 < W.heap.size := HR.out.lt
  refine (spCopyTok c r u a b u0 ws B0 W HU hl).mono ?_
  rintro e w1 ⟨v1, rfl, hv1, hb1⟩
  obtain ⟨ao1, cap1, hf1⟩ := hv1.form
  subst hf1
  have O1 : Hid (TokAt (w1.alloc (.cells #[.int .i64 c, .int .i64 r, .int .i64 u, .int .i64 a, .int .i64 b, .slice ao1 ws.length cap1] 30)) w1.heap.size c r u a b (.slice ao1 ws.length cap1)) := heap_alloc_new w1 _
  have E1 : Below W.heap.size W (w1.alloc (.cells #[.int .i64 c, .int .i64 r, .int .i64 u, .int .i64 a, .int .i64 b, .slice ao1 ws.length cap1] 30)) := hb1.alloc hb1.size _
  have A1 : Hid (TokAt (w1.alloc (.cells #[.int .i64 c, .int .i64 r, .int .i64 u, .int .i64 a, .int .i64 b, .slice ao1 ws.length cap1] 30)) w.heap.size c r u a b u0) := HA.out.stays E1 HA.out.lt
  have R1 : Hid (TokAt (w1.alloc (.cells #[.int .i64 c, .int .i64 r, .int .i64 u, .int .i64 a, .int .i64 b, .slice ao1 ws.length cap1] 30)) (w.heap.size + 1) 0 0 0 0 0 (.slice none 0 0)) := HR.out.stays E1 HR.out.lt
  have V1 : Hid (OwnI (w1.alloc (.cells #[.int .i64 c, .int .i64 r, .int .i64 u, .int .i64 a, .int .i64 b, .slice ao1 ws.length cap1] 30)) w.heap.size (.slice ao1 ws.length cap1) ws) := (hv1.alloc _).down hWs
  have B1 : Hid (Below w.heap.size w (w1.alloc (.cells #[.int .i64 c, .int .i64 r, .int .i64 u, .int .i64 a, .int .i64 b, .slice ao1 ws.length cap1] 30))) := HB.out.trans (E1.mono hWs)
  have U1 : Hid (OwnI (w1.alloc (.cells #[.int .i64 c, .int .i64 r, .int .i64 u, .int .i64 a, .int .i64 b, .slice ao1 ws.length cap1] 30)) B0 u0 ws) := HU.out.stays E1 (fun k hk => (HU.out.lt k hk).2)
  have hgO : w.heap.size + 1 < w1.heap.size := Nat.lt_of_lt_of_le hWr hb1.size
  obtain ⟨s0, s1, s2, s3, s4, s5⟩ := A1.out.cells
  clear hv1 hb1 E1 HA HR HU HB hWs hWr
  go_wp2_with fail
  generalize w1.alloc (.cells #[.int .i64 c, .int .i64 r, .int .i64 u, .int .i64 a, .int .i64 b, .slice ao1 ws.length cap1] 30) = W1 at *
  generalize w1.heap.size = gO at *
  obtain ⟨ao0, cap0, hu0, hx0⟩ := U1.out.ints
  have X1 : Hid (IntsAt W1 ao0 ws) := hx0
  subst hu0
  refine (spTokenOk_any c r u a b ao0 cap0 ws _ X1 hl).mono ?_
  rintro e w2 ⟨rfl, hb2⟩
  have OO : Hid (TokAt w2 gO c r u a b (.slice ao1 ws.length cap1)) := O1.out.stays hb2 O1.out.lt
  have RR : Hid (TokAt w2 (w.heap.size + 1) 0 0 0 0 0 (.slice none 0 0)) := R1.out.stays hb2 R1.out.lt
  have LL : Hid (OwnI w2 w.heap.size (.slice ao1 ws.length cap1) ws) := own_later' V1.out hb2
  have BB : Hid (Below w.heap.size w w2) := B1.out.trans (hb2.mono B1.out.size)
  clear hb2 O1 R1 V1 B1 A1 U1 X1 hx0 s0 s1 s2 s3 s4 s5
  rw [ht.out]
  clear ht
  go_wp2_with fail
  refine (in_is _ hd).mono ?_
  rintro e w3 ⟨rfl, rfl⟩
  obtain ⟨x0, x1, x2, x3, x4, x5⟩ := OO.out.cells
  have n3 := OO.out.frozen 3
  have n4 := OO.out.frozen 4
  have O1 : Hid (TokAt (w3.setCell ⟨gO, 3, none⟩ (.int .i64 u)) gO c r u u b (.slice ao1 ws.length cap1)) := OO.out.set3 u
  have RR1 : Hid (TokAt (w3.setCell ⟨gO, 3, none⟩ (.int .i64 u)) (w.heap.size + 1) 0 0 0 0 0 (.slice none 0 0)) := RR.out.turn ((TurnAt.refl gO w3).setCell 3 _) (by omega)
  have LL1 : Hid (OwnI (w3.setCell ⟨gO, 3, none⟩ (.int .i64 u)) w.heap.size (.slice ao1 ws.length cap1) ws) := own_tok LL.out OO.out ((TurnAt.refl gO w3).setCell 3 _)
  have BB1 : Hid (Below w.heap.size w (w3.setCell ⟨gO, 3, none⟩ (.int .i64 u))) := BB.out.trans (((TurnAt.refl gO w3).setCell 3 _).below (by omega))
  obtain ⟨x10, x11, x12, x13, x14, x15⟩ := O1.out.cells
  have n13 := O1.out.frozen 3
  have n14 := O1.out.frozen 4
  have O2 : Hid (TokAt ((w3.setCell ⟨gO, 3, none⟩ (.int .i64 u)).setCell ⟨gO, 4, none⟩ (.int .i64 0)) gO c r u u 0 (.slice ao1 ws.length cap1)) := O1.out.set4 0
  have RR2 : Hid (TokAt ((w3.setCell ⟨gO, 3, none⟩ (.int .i64 u)).setCell ⟨gO, 4, none⟩ (.int .i64 0)) (w.heap.size + 1) 0 0 0 0 0 (.slice none 0 0)) := RR1.out.turn ((TurnAt.refl gO (w3.setCell ⟨gO, 3, none⟩ (.int .i64 u))).setCell 4 _) (by omega)
  have LL2 : Hid (OwnI ((w3.setCell ⟨gO, 3, none⟩ (.int .i64 u)).setCell ⟨gO, 4, none⟩ (.int .i64 0)) w.heap.size (.slice ao1 ws.length cap1) ws) := own_tok LL1.out O1.out ((TurnAt.refl gO (w3.setCell ⟨gO, 3, none⟩ (.int .i64 u))).setCell 4 _)
  have BB2 : Hid (Below w.heap.size w ((w3.setCell ⟨gO, 3, none⟩ (.int .i64 u)).setCell ⟨gO, 4, none⟩ (.int .i64 0))) := BB1.out.trans (((TurnAt.refl gO (w3.setCell ⟨gO, 3, none⟩ (.int .i64 u))).setCell 4 _).below (by omega))
  obtain ⟨x20, x21, x22, x23, x24, x25⟩ := O2.out.cells
  have n23 := O2.out.frozen 3
  have n24 := O2.out.frozen 4
  obtain ⟨y0, y1, y2, y3, y4, y5⟩ := RR2.out.cells
  have m0 := RR2.out.frozen 0
  have m1 := RR2.out.frozen 1
  have m2 := RR2.out.frozen 2
  have m3 := RR2.out.frozen 3
  have m4 := RR2.out.frozen 4
  have m5 := RR2.out.frozen 5
  go_wp2_with fail
  have R3 : TokAt _ (w.heap.size + 1) c r u u 0 (.slice ao1 ws.length cap1) := RR2.out.agg c r u u 0 (.slice ao1 ws.length cap1)
  have T3 := (((((( TurnAt.refl (w.heap.size + 1) ((w3.setCell ⟨gO, 3, none⟩ (.int .i64 u)).setCell ⟨gO, 4, none⟩ (.int .i64 0))).setCell 0 (.int .i64 c)).setCell 1 (.int .i64 r)).setCell 2 (.int .i64 u)).setCell 3 (.int .i64 u)).setCell 4 (.int .i64 0)).setCell 5 (.slice ao1 ws.length cap1)
  have V3 := own_tok LL2.out RR2.out T3
  have B3 := BB2.out.trans (T3.below (by omega))
  clear T3
  generalize ((((((((w3.setCell ⟨gO, 3, none⟩ (.int .i64 u)).setCell ⟨gO, 4, none⟩ (.int .i64 0)).setCell ⟨w.heap.size + 1, 0, none⟩ (.int .i64 c)).setCell ⟨w.heap.size + 1, 1, none⟩ (.int .i64 r)).setCell ⟨w.heap.size + 1, 2, none⟩ (.int .i64 u)).setCell ⟨w.heap.size + 1, 3, none⟩ (.int .i64 u)).setCell ⟨w.heap.size + 1, 4, none⟩ (.int .i64 0)).setCell ⟨w.heap.size + 1, 5, none⟩ (.slice ao1 ws.length cap1)) = W3 at *
  obtain ⟨q0, q1, q2, q3, q4, q5⟩ := R3.cells
  refine bodyPost_ret (v := .agg #[.int .i64 c, .int .i64 r, .int .i64 u, .int .i64 u, .int .i64 0, .slice ao1 ws.length cap1]) (by simp [results, Try.results26, go_sem, q0, q1, q2, q3, q4, q5]) rfl ?_
  exact ⟨_, rfl, V3, B3⟩

set_option maxRecDepth 100000 in
set_option maxHeartbeats 2000000 in
theorem spMark_6 (c r q a b d u : Int) (u0 : Value) (ws : List Int) (B0 : Nat) (w : World) (h : Hid (OwnI w B0 u0 ws)) (hl : ws.length ≤ 1048576) (ht : Hid (tkB c r q a b ws = true)) (hd : decide (1 ≤ d ∧ d ≤ 5) = true) (hu : ¬ u < 0) (h1 : ¬ u < a) (h2 : b = d) (h3 : u < q) :
    Calls Try.prog 26 #[.agg #[.int .i64 c, .int .i64 r, .int .i64 q, .int .i64 a, .int .i64 b, u0], .int .i64 d, .int .i64 u] w fun e w' => ∃ v, e = .returned (.agg #[.int .i64 c, .int .i64 r, .int .i64 q, .int .i64 u, .int .i64 b, v]) ∧ OwnI w' w.heap.size v ws ∧ Below w.heap.size w w' := by
  subst h2
  have h4 : ¬ q < u := by omega
  have h5 : ¬ u = q := by omega
  have hn1 : (w.alloc (.cells #[.int .i64 c, .int .i64 r, .int .i64 q, .int .i64 a, .int .i64 b, u0] 30)).heap.size = w.heap.size + 1 := by simp
  have HA : Hid (TokAt ((w.alloc (.cells #[.int .i64 c, .int .i64 r, .int .i64 q, .int .i64 a, .int .i64 b, u0] 30)).alloc (.cells #[.int .i64 0, .int .i64 0, .int .i64 0, .int .i64 0, .int .i64 0, .slice none 0 0] 30)) w.heap.size c r q a b u0) := by
    have h := heap_alloc_new w (.cells #[.int .i64 c, .int .i64 r, .int .i64 q, .int .i64 a, .int .i64 b, u0] 30)
    exact TokAt.stays (B := w.heap.size + 1) h ((Below.refl _ _).alloc (by rw [hn1]; exact Nat.le_refl _) _) (by omega)
  have HR : Hid (TokAt ((w.alloc (.cells #[.int .i64 c, .int .i64 r, .int .i64 q, .int .i64 a, .int .i64 b, u0] 30)).alloc (.cells #[.int .i64 0, .int .i64 0, .int .i64 0, .int .i64 0, .int .i64 0, .slice none 0 0] 30)) (w.heap.size + 1) 0 0 0 0 0 (.slice none 0 0)) := by
    have h := heap_alloc_new (w.alloc (.cells #[.int .i64 c, .int .i64 r, .int .i64 q, .int .i64 a, .int .i64 b, u0] 30)) (.cells #[.int .i64 0, .int .i64 0, .int .i64 0, .int .i64 0, .int .i64 0, .slice none 0 0] 30)
    rw [hn1] at h
    exact h
  have HB : Hid (Below w.heap.size w ((w.alloc (.cells #[.int .i64 c, .int .i64 r, .int .i64 q, .int .i64 a, .int .i64 b, u0] 30)).alloc (.cells #[.int .i64 0, .int .i64 0, .int .i64 0, .int .i64 0, .int .i64 0, .slice none 0 0] 30))) := ((Below.refl _ _).alloc (Nat.le_refl _) _).alloc (by simp) _
  have HU : Hid (OwnI ((w.alloc (.cells #[.int .i64 c, .int .i64 r, .int .i64 q, .int .i64 a, .int .i64 b, u0] 30)).alloc (.cells #[.int .i64 0, .int .i64 0, .int .i64 0, .int .i64 0, .int .i64 0, .slice none 0 0] 30)) B0 u0 ws) := (h.out.alloc _).alloc _
  clear h hn1
  go_enter Try.func26, Try.ntmps26
  go_wp2_with fail
  generalize ((w.alloc (.cells #[.int .i64 c, .int .i64 r, .int .i64 q, .int .i64 a, .int .i64 b, u0] 30)).alloc (.cells #[.int .i64 0, .int .i64 0, .int .i64 0, .int .i64 0, .int .i64 0, .slice none 0 0] 30)) = W at *
  have hWs : w.heap.size ≤ W.heap.size := HB.out.size
  have hWr : w.heap.size + 1 < W.heap.size := HR.out.lt
  refine (spCopyTok c r q a b u0 ws B0 W HU hl).mono ?_
  rintro e w1 ⟨v1, rfl, hv1, hb1⟩
  obtain ⟨ao1, cap1, hf1⟩ := hv1.form
  subst hf1
  have O1 : Hid (TokAt (w1.alloc (.cells #[.int .i64 c, .int .i64 r, .int .i64 q, .int .i64 a, .int .i64 b, .slice ao1 ws.length cap1] 30)) w1.heap.size c r q a b (.slice ao1 ws.length cap1)) := heap_alloc_new w1 _
  have E1 : Below W.heap.size W (w1.alloc (.cells #[.int .i64 c, .int .i64 r, .int .i64 q, .int .i64 a, .int .i64 b, .slice ao1 ws.length cap1] 30)) := hb1.alloc hb1.size _
  have A1 : Hid (TokAt (w1.alloc (.cells #[.int .i64 c, .int .i64 r, .int .i64 q, .int .i64 a, .int .i64 b, .slice ao1 ws.length cap1] 30)) w.heap.size c r q a b u0) := HA.out.stays E1 HA.out.lt
  have R1 : Hid (TokAt (w1.alloc (.cells #[.int .i64 c, .int .i64 r, .int .i64 q, .int .i64 a, .int .i64 b, .slice ao1 ws.length cap1] 30)) (w.heap.size + 1) 0 0 0 0 0 (.slice none 0 0)) := HR.out.stays E1 HR.out.lt
  have V1 : Hid (OwnI (w1.alloc (.cells #[.int .i64 c, .int .i64 r, .int .i64 q, .int .i64 a, .int .i64 b, .slice ao1 ws.length cap1] 30)) w.heap.size (.slice ao1 ws.length cap1) ws) := (hv1.alloc _).down hWs
  have B1 : Hid (Below w.heap.size w (w1.alloc (.cells #[.int .i64 c, .int .i64 r, .int .i64 q, .int .i64 a, .int .i64 b, .slice ao1 ws.length cap1] 30))) := HB.out.trans (E1.mono hWs)
  have U1 : Hid (OwnI (w1.alloc (.cells #[.int .i64 c, .int .i64 r, .int .i64 q, .int .i64 a, .int .i64 b, .slice ao1 ws.length cap1] 30)) B0 u0 ws) := HU.out.stays E1 (fun k hk => (HU.out.lt k hk).2)
  have hgO : w.heap.size + 1 < w1.heap.size := Nat.lt_of_lt_of_le hWr hb1.size
  obtain ⟨s0, s1, s2, s3, s4, s5⟩ := A1.out.cells
  clear hv1 hb1 E1 HA HR HU HB hWs hWr
  go_wp2_with fail
  generalize w1.alloc (.cells #[.int .i64 c, .int .i64 r, .int .i64 q, .int .i64 a, .int .i64 b, .slice ao1 ws.length cap1] 30) = W1 at *
  generalize w1.heap.size = gO at *
  obtain ⟨ao0, cap0, hu0, hx0⟩ := U1.out.ints
  have X1 : Hid (IntsAt W1 ao0 ws) := hx0
  subst hu0
  refine (spTokenOk_any c r q a b ao0 cap0 ws _ X1 hl).mono ?_
  rintro e w2 ⟨rfl, hb2⟩
  have OO : Hid (TokAt w2 gO c r q a b (.slice ao1 ws.length cap1)) := O1.out.stays hb2 O1.out.lt
  have RR : Hid (TokAt w2 (w.heap.size + 1) 0 0 0 0 0 (.slice none 0 0)) := R1.out.stays hb2 R1.out.lt
  have LL : Hid (OwnI w2 w.heap.size (.slice ao1 ws.length cap1) ws) := own_later' V1.out hb2
  have BB : Hid (Below w.heap.size w w2) := B1.out.trans (hb2.mono B1.out.size)
  clear hb2 O1 R1 V1 B1 A1 U1 X1 hx0 s0 s1 s2 s3 s4 s5
  rw [ht.out]
  clear ht
  go_wp2_with fail
  refine (in_is _ hd).mono ?_
  rintro e w3 ⟨rfl, rfl⟩
  obtain ⟨x0, x1, x2, x3, x4, x5⟩ := OO.out.cells
  have n3 := OO.out.frozen 3
  have n4 := OO.out.frozen 4
  have O1 : Hid (TokAt (w3.setCell ⟨gO, 3, none⟩ (.int .i64 u)) gO c r q u b (.slice ao1 ws.length cap1)) := OO.out.set3 u
  have RR1 : Hid (TokAt (w3.setCell ⟨gO, 3, none⟩ (.int .i64 u)) (w.heap.size + 1) 0 0 0 0 0 (.slice none 0 0)) := RR.out.turn ((TurnAt.refl gO w3).setCell 3 _) (by omega)
  have LL1 : Hid (OwnI (w3.setCell ⟨gO, 3, none⟩ (.int .i64 u)) w.heap.size (.slice ao1 ws.length cap1) ws) := own_tok LL.out OO.out ((TurnAt.refl gO w3).setCell 3 _)
  have BB1 : Hid (Below w.heap.size w (w3.setCell ⟨gO, 3, none⟩ (.int .i64 u))) := BB.out.trans (((TurnAt.refl gO w3).setCell 3 _).below (by omega))
  obtain ⟨x10, x11, x12, x13, x14, x15⟩ := O1.out.cells
  have n13 := O1.out.frozen 3
  have n14 := O1.out.frozen 4
  obtain ⟨y0, y1, y2, y3, y4, y5⟩ := RR1.out.cells
  have m0 := RR1.out.frozen 0
  have m1 := RR1.out.frozen 1
  have m2 := RR1.out.frozen 2
  have m3 := RR1.out.frozen 3
  have m4 := RR1.out.frozen 4
  have m5 := RR1.out.frozen 5
  go_wp2_with fail
  have R3 : TokAt _ (w.heap.size + 1) c r q u b (.slice ao1 ws.length cap1) := RR1.out.agg c r q u b (.slice ao1 ws.length cap1)
  have T3 := (((((( TurnAt.refl (w.heap.size + 1) (w3.setCell ⟨gO, 3, none⟩ (.int .i64 u))).setCell 0 (.int .i64 c)).setCell 1 (.int .i64 r)).setCell 2 (.int .i64 q)).setCell 3 (.int .i64 u)).setCell 4 (.int .i64 b)).setCell 5 (.slice ao1 ws.length cap1)
  have V3 := own_tok LL1.out RR1.out T3
  have B3 := BB1.out.trans (T3.below (by omega))
  clear T3
  generalize (((((((w3.setCell ⟨gO, 3, none⟩ (.int .i64 u)).setCell ⟨w.heap.size + 1, 0, none⟩ (.int .i64 c)).setCell ⟨w.heap.size + 1, 1, none⟩ (.int .i64 r)).setCell ⟨w.heap.size + 1, 2, none⟩ (.int .i64 q)).setCell ⟨w.heap.size + 1, 3, none⟩ (.int .i64 u)).setCell ⟨w.heap.size + 1, 4, none⟩ (.int .i64 b)).setCell ⟨w.heap.size + 1, 5, none⟩ (.slice ao1 ws.length cap1)) = W3 at *
  obtain ⟨q0, q1, q2, q3, q4, q5⟩ := R3.cells
  refine bodyPost_ret (v := .agg #[.int .i64 c, .int .i64 r, .int .i64 q, .int .i64 u, .int .i64 b, .slice ao1 ws.length cap1]) (by simp [results, Try.results26, go_sem, q0, q1, q2, q3, q4, q5]) rfl ?_
  exact ⟨_, rfl, V3, B3⟩

set_option maxRecDepth 100000 in
set_option maxHeartbeats 2000000 in
theorem spMark_7 (c r q a b d u : Int) (u0 : Value) (ws : List Int) (B0 : Nat) (w : World) (h : Hid (OwnI w B0 u0 ws)) (hl : ws.length ≤ 1048576) (ht : Hid (tkB c r q a b ws = true)) (hd : decide (1 ≤ d ∧ d ≤ 5) = true) (hu : ¬ u < 0) (h1 : ¬ u < a) (h2 : ¬ b = d) :
    Calls Try.prog 26 #[.agg #[.int .i64 c, .int .i64 r, .int .i64 q, .int .i64 a, .int .i64 b, u0], .int .i64 d, .int .i64 u] w fun e w' => ∃ v, e = .returned (.agg #[.int .i64 c, .int .i64 r, .int .i64 q, .int .i64 a, .int .i64 b, v]) ∧ OwnI w' w.heap.size v ws ∧ Below w.heap.size w w' := by
  have hn1 : (w.alloc (.cells #[.int .i64 c, .int .i64 r, .int .i64 q, .int .i64 a, .int .i64 b, u0] 30)).heap.size = w.heap.size + 1 := by simp
  have HA : Hid (TokAt ((w.alloc (.cells #[.int .i64 c, .int .i64 r, .int .i64 q, .int .i64 a, .int .i64 b, u0] 30)).alloc (.cells #[.int .i64 0, .int .i64 0, .int .i64 0, .int .i64 0, .int .i64 0, .slice none 0 0] 30)) w.heap.size c r q a b u0) := by
    have h := heap_alloc_new w (.cells #[.int .i64 c, .int .i64 r, .int .i64 q, .int .i64 a, .int .i64 b, u0] 30)
    exact TokAt.stays (B := w.heap.size + 1) h ((Below.refl _ _).alloc (by rw [hn1]; exact Nat.le_refl _) _) (by omega)
  have HR : Hid (TokAt ((w.alloc (.cells #[.int .i64 c, .int .i64 r, .int .i64 q, .int .i64 a, .int .i64 b, u0] 30)).alloc (.cells #[.int .i64 0, .int .i64 0, .int .i64 0, .int .i64 0, .int .i64 0, .slice none 0 0] 30)) (w.heap.size + 1) 0 0 0 0 0 (.slice none 0 0)) := by
    have h := heap_alloc_new (w.alloc (.cells #[.int .i64 c, .int .i64 r, .int .i64 q, .int .i64 a, .int .i64 b, u0] 30)) (.cells #[.int .i64 0, .int .i64 0, .int .i64 0, .int .i64 0, .int .i64 0, .slice none 0 0] 30)
    rw [hn1] at h
    exact h
  have HB : Hid (Below w.heap.size w ((w.alloc (.cells #[.int .i64 c, .int .i64 r, .int .i64 q, .int .i64 a, .int .i64 b, u0] 30)).alloc (.cells #[.int .i64 0, .int .i64 0, .int .i64 0, .int .i64 0, .int .i64 0, .slice none 0 0] 30))) := ((Below.refl _ _).alloc (Nat.le_refl _) _).alloc (by simp) _
  have HU : Hid (OwnI ((w.alloc (.cells #[.int .i64 c, .int .i64 r, .int .i64 q, .int .i64 a, .int .i64 b, u0] 30)).alloc (.cells #[.int .i64 0, .int .i64 0, .int .i64 0, .int .i64 0, .int .i64 0, .slice none 0 0] 30)) B0 u0 ws) := (h.out.alloc _).alloc _
  clear h hn1
  go_enter Try.func26, Try.ntmps26
  go_wp2_with fail
  generalize ((w.alloc (.cells #[.int .i64 c, .int .i64 r, .int .i64 q, .int .i64 a, .int .i64 b, u0] 30)).alloc (.cells #[.int .i64 0, .int .i64 0, .int .i64 0, .int .i64 0, .int .i64 0, .slice none 0 0] 30)) = W at *
  have hWs : w.heap.size ≤ W.heap.size := HB.out.size
  have hWr : w.heap.size + 1 < W.heap.size := HR.out.lt
  refine (spCopyTok c r q a b u0 ws B0 W HU hl).mono ?_
  rintro e w1 ⟨v1, rfl, hv1, hb1⟩
  obtain ⟨ao1, cap1, hf1⟩ := hv1.form
  subst hf1
  have O1 : Hid (TokAt (w1.alloc (.cells #[.int .i64 c, .int .i64 r, .int .i64 q, .int .i64 a, .int .i64 b, .slice ao1 ws.length cap1] 30)) w1.heap.size c r q a b (.slice ao1 ws.length cap1)) := heap_alloc_new w1 _
  have E1 : Below W.heap.size W (w1.alloc (.cells #[.int .i64 c, .int .i64 r, .int .i64 q, .int .i64 a, .int .i64 b, .slice ao1 ws.length cap1] 30)) := hb1.alloc hb1.size _
  have A1 : Hid (TokAt (w1.alloc (.cells #[.int .i64 c, .int .i64 r, .int .i64 q, .int .i64 a, .int .i64 b, .slice ao1 ws.length cap1] 30)) w.heap.size c r q a b u0) := HA.out.stays E1 HA.out.lt
  have R1 : Hid (TokAt (w1.alloc (.cells #[.int .i64 c, .int .i64 r, .int .i64 q, .int .i64 a, .int .i64 b, .slice ao1 ws.length cap1] 30)) (w.heap.size + 1) 0 0 0 0 0 (.slice none 0 0)) := HR.out.stays E1 HR.out.lt
  have V1 : Hid (OwnI (w1.alloc (.cells #[.int .i64 c, .int .i64 r, .int .i64 q, .int .i64 a, .int .i64 b, .slice ao1 ws.length cap1] 30)) w.heap.size (.slice ao1 ws.length cap1) ws) := (hv1.alloc _).down hWs
  have B1 : Hid (Below w.heap.size w (w1.alloc (.cells #[.int .i64 c, .int .i64 r, .int .i64 q, .int .i64 a, .int .i64 b, .slice ao1 ws.length cap1] 30))) := HB.out.trans (E1.mono hWs)
  have U1 : Hid (OwnI (w1.alloc (.cells #[.int .i64 c, .int .i64 r, .int .i64 q, .int .i64 a, .int .i64 b, .slice ao1 ws.length cap1] 30)) B0 u0 ws) := HU.out.stays E1 (fun k hk => (HU.out.lt k hk).2)
  have hgO : w.heap.size + 1 < w1.heap.size := Nat.lt_of_lt_of_le hWr hb1.size
  obtain ⟨s0, s1, s2, s3, s4, s5⟩ := A1.out.cells
  clear hv1 hb1 E1 HA HR HU HB hWs hWr
  go_wp2_with fail
  generalize w1.alloc (.cells #[.int .i64 c, .int .i64 r, .int .i64 q, .int .i64 a, .int .i64 b, .slice ao1 ws.length cap1] 30) = W1 at *
  generalize w1.heap.size = gO at *
  obtain ⟨ao0, cap0, hu0, hx0⟩ := U1.out.ints
  have X1 : Hid (IntsAt W1 ao0 ws) := hx0
  subst hu0
  refine (spTokenOk_any c r q a b ao0 cap0 ws _ X1 hl).mono ?_
  rintro e w2 ⟨rfl, hb2⟩
  have OO : Hid (TokAt w2 gO c r q a b (.slice ao1 ws.length cap1)) := O1.out.stays hb2 O1.out.lt
  have RR : Hid (TokAt w2 (w.heap.size + 1) 0 0 0 0 0 (.slice none 0 0)) := R1.out.stays hb2 R1.out.lt
  have LL : Hid (OwnI w2 w.heap.size (.slice ao1 ws.length cap1) ws) := own_later' V1.out hb2
  have BB : Hid (Below w.heap.size w w2) := B1.out.trans (hb2.mono B1.out.size)
  clear hb2 O1 R1 V1 B1 A1 U1 X1 hx0 s0 s1 s2 s3 s4 s5
  rw [ht.out]
  clear ht
  go_wp2_with fail
  refine (in_is _ hd).mono ?_
  rintro e w3 ⟨rfl, rfl⟩
  obtain ⟨x0, x1, x2, x3, x4, x5⟩ := OO.out.cells
  obtain ⟨y0, y1, y2, y3, y4, y5⟩ := RR.out.cells
  have m0 := RR.out.frozen 0
  have m1 := RR.out.frozen 1
  have m2 := RR.out.frozen 2
  have m3 := RR.out.frozen 3
  have m4 := RR.out.frozen 4
  have m5 := RR.out.frozen 5
  go_wp2_with fail
  have R3 : TokAt _ (w.heap.size + 1) c r q a b (.slice ao1 ws.length cap1) := RR.out.agg c r q a b (.slice ao1 ws.length cap1)
  have T3 := (((((( TurnAt.refl (w.heap.size + 1) w3).setCell 0 (.int .i64 c)).setCell 1 (.int .i64 r)).setCell 2 (.int .i64 q)).setCell 3 (.int .i64 a)).setCell 4 (.int .i64 b)).setCell 5 (.slice ao1 ws.length cap1)
  have V3 := own_tok LL.out RR.out T3
  have B3 := BB.out.trans (T3.below (by omega))
  clear T3
  generalize ((((((w3.setCell ⟨w.heap.size + 1, 0, none⟩ (.int .i64 c)).setCell ⟨w.heap.size + 1, 1, none⟩ (.int .i64 r)).setCell ⟨w.heap.size + 1, 2, none⟩ (.int .i64 q)).setCell ⟨w.heap.size + 1, 3, none⟩ (.int .i64 a)).setCell ⟨w.heap.size + 1, 4, none⟩ (.int .i64 b)).setCell ⟨w.heap.size + 1, 5, none⟩ (.slice ao1 ws.length cap1)) = W3 at *
  obtain ⟨q0, q1, q2, q3, q4, q5⟩ := R3.cells
  refine bodyPost_ret (v := .agg #[.int .i64 c, .int .i64 r, .int .i64 q, .int .i64 a, .int .i64 b, .slice ao1 ws.length cap1]) (by simp [results, Try.results26, go_sem, q0, q1, q2, q3, q4, q5]) rfl ?_
  exact ⟨_, rfl, V3, B3⟩

theorem mark_any (c r q a b d u : Int) (u0 : Value) (ws : List Int) (B0 : Nat) (w : World) (h : Hid (OwnI w B0 u0 ws)) (hl : ws.length ≤ 1048576) :
    Calls Try.prog 25 #[.agg #[.int .i64 c, .int .i64 r, .int .i64 q, .int .i64 a, .int .i64 b, u0], .int .i64 d, .int .i64 u] w fun e w' => ∃ v, e = .returned (.agg #[.int .i64 c, .int .i64 r, .int .i64 q, .int .i64 (markA c r q a b ws d u), .int .i64 (markD c r q a b ws d u), v]) ∧ OwnI w' w.heap.size v ws ∧ Below w.heap.size w w' := by
  unfold markA markD markOk
  cases ht : tkB c r q a b ws with
  | false => exact mark_0 c r q a b d u u0 ws B0 w h hl ht
  | true =>
    cases hd : decide (1 ≤ d ∧ d ≤ 5) with
    | false => exact mark_1 c r q a b d u u0 ws B0 w h hl ht hd
    | true =>
      by_cases hu : u < 0
      · rw [show decide (0 ≤ u) = false by simp; omega]; exact mark_2 c r q a b d u u0 ws B0 w h hl ht hd hu
      · rw [show decide (0 ≤ u) = true by simp; omega]; exact mark_3 c r q a b d u u0 ws B0 w h hl ht hd hu
theorem spMark_any (c r q a b d u : Int) (u0 : Value) (ws : List Int) (B0 : Nat) (w : World) (h : Hid (OwnI w B0 u0 ws)) (hl : ws.length ≤ 1048576) :
    Calls Try.prog 26 #[.agg #[.int .i64 c, .int .i64 r, .int .i64 q, .int .i64 a, .int .i64 b, u0], .int .i64 d, .int .i64 u] w fun e w' => ∃ v, e = .returned (.agg #[.int .i64 c, .int .i64 r, .int .i64 q, .int .i64 (markA c r q a b ws d u), .int .i64 (markD c r q a b ws d u), v]) ∧ OwnI w' w.heap.size v ws ∧ Below w.heap.size w w' := by
  unfold markA markD markOk
  cases ht : tkB c r q a b ws with
  | false => exact spMark_0 c r q a b d u u0 ws B0 w h hl ht
  | true =>
    cases hd : decide (1 ≤ d ∧ d ≤ 5) with
    | false => exact spMark_1 c r q a b d u u0 ws B0 w h hl ht hd
    | true =>
      by_cases hu : u < 0
      · rw [show decide (0 ≤ u) = false by simp; omega]; exact spMark_2 c r q a b d u u0 ws B0 w h hl ht hd hu
      · rw [show decide (0 ≤ u) = true by simp; omega]
        simp only [Bool.and_self, if_true]
        unfold aruM byM
        by_cases h1 : u < a
        · rw [if_pos h1, if_pos h1]; exact spMark_3 c r q a b d u u0 ws B0 w h hl ht hd hu h1
        · rw [if_neg h1, if_neg h1]
          by_cases h2 : b = d
          · rw [if_pos h2, if_pos h2]
            by_cases h3 : q < u
            · rw [show min u q = q by omega, if_pos rfl]; exact spMark_4 c r q a b d u u0 ws B0 w h hl ht hd hu h1 h2 h3
            · by_cases h4 : u = q
              · rw [show min u q = u by omega, if_pos h4]; exact spMark_5 c r q a b d u u0 ws B0 w h hl ht hd hu h1 h2 h4
              · rw [show min u q = u by omega, if_neg h4]; exact spMark_6 c r q a b d u u0 ws B0 w h hl ht hd hu h1 h2 (by omega)
          · rw [if_neg h2, if_neg h2]; exact spMark_7 c r q a b d u u0 ws B0 w h hl ht hd hu h1 h2
end Go.Proofs.Ytnhnpneedcjcfaa
