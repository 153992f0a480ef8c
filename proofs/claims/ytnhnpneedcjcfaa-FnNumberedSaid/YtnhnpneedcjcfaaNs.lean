/- The walk over the specification's Number. -/
import Derived.Test.YtnhnpneedcjcfaaNw
namespace Go.Proofs.Ytnhnpneedcjcfaa
open Go.RowKit Pl
set_option linter.unusedVariables false

theorem ItAt.set2 {w : World} {g : Nat} {q f l : Int} {t : ByteArray} (h : ItAt w g q f l t) (x : Int) : ItAt (w.setCell ⟨g, 2, none⟩ (.int .i64 x)) g q f x t := by
  have := heap_setCell_same w g 2 _ 43 (.int .i64 x) h
  unfold ItAt; rw [this]; rfl

set_option maxRecDepth 100000 in
set_option maxHeartbeats 8000000 in
theorem spNum_0 (c r q a b f : Int) (u0 : Value) (ws : List Int) (B0 : Nat) (al : Option Addr) (cl : Nat) (lv : List Int) (at_ : Option Addr) (ct : Nat) (tx : List ByteArray) (w : World) (h : Hid (OwnI w B0 u0 ws)) (hl : ws.length ≤ 1048576) (hlv : Hid (IntsAt w al lv)) (hll : lv.length ≤ 1048576) (htx : Hid (TextsAt w at_ tx)) (hlt : tx.length ≤ 1048576) (ht : Hid (tkB c r q a b ws = false)) :
    Calls Try.prog 21 #[.agg #[.int .i64 c, .int .i64 r, .int .i64 q, .int .i64 a, .int .i64 b, u0], .int .i64 f, .slice al lv.length cl, .slice at_ tx.length ct] w fun e w' => ∃ v vi, e = .returned (.tuple #[.agg #[.int .i64 c, .int .i64 r, .int .i64 q, .int .i64 a, .int .i64 b, v], vi]) ∧ OwnI w' w.heap.size v ws ∧ SlI w' w.heap.size vi [] ∧ Below w.heap.size w w' := by
  have hn1 : (w.alloc (.cells #[.int .i64 c, .int .i64 r, .int .i64 q, .int .i64 a, .int .i64 b, u0] 30)).heap.size = w.heap.size + 1 := by simp
  have HA : Hid (TokAt ((w.alloc (.cells #[.int .i64 c, .int .i64 r, .int .i64 q, .int .i64 a, .int .i64 b, u0] 30)).alloc (.cells #[.int .i64 0, .int .i64 0, .int .i64 0, .int .i64 0, .int .i64 0, .slice none 0 0] 30)) w.heap.size c r q a b u0) := by
    have h := heap_alloc_new w (.cells #[.int .i64 c, .int .i64 r, .int .i64 q, .int .i64 a, .int .i64 b, u0] 30)
    exact TokAt.stays (B := w.heap.size + 1) h ((Below.refl _ _).alloc (by rw [hn1]; exact Nat.le_refl _) _) (by omega)
  have HR : Hid (TokAt ((w.alloc (.cells #[.int .i64 c, .int .i64 r, .int .i64 q, .int .i64 a, .int .i64 b, u0] 30)).alloc (.cells #[.int .i64 0, .int .i64 0, .int .i64 0, .int .i64 0, .int .i64 0, .slice none 0 0] 30)) (w.heap.size + 1) 0 0 0 0 0 (.slice none 0 0)) := by
    have h := heap_alloc_new (w.alloc (.cells #[.int .i64 c, .int .i64 r, .int .i64 q, .int .i64 a, .int .i64 b, u0] 30)) (.cells #[.int .i64 0, .int .i64 0, .int .i64 0, .int .i64 0, .int .i64 0, .slice none 0 0] 30)
    rw [hn1] at h
    exact h
  have HB : Hid (Below w.heap.size w ((w.alloc (.cells #[.int .i64 c, .int .i64 r, .int .i64 q, .int .i64 a, .int .i64 b, u0] 30)).alloc (.cells #[.int .i64 0, .int .i64 0, .int .i64 0, .int .i64 0, .int .i64 0, .slice none 0 0] 30))) := ((Below.refl _ _).alloc (Nat.le_refl _) _).alloc (by simp) _
  have HU : Hid (OwnI ((w.alloc (.cells #[.int .i64 c, .int .i64 r, .int .i64 q, .int .i64 a, .int .i64 b, u0] 30)).alloc (.cells #[.int .i64 0, .int .i64 0, .int .i64 0, .int .i64 0, .int .i64 0, .slice none 0 0] 30)) B0 u0 ws) := (h.out.alloc _).alloc _
  clear h hn1
  go_enter Try.func21, Try.ntmps21
  go_wp2_with fail
  generalize ((w.alloc (.cells #[.int .i64 c, .int .i64 r, .int .i64 q, .int .i64 a, .int .i64 b, u0] 30)).alloc (.cells #[.int .i64 0, .int .i64 0, .int .i64 0, .int .i64 0, .int .i64 0, .slice none 0 0] 30)) = W at *
  have hWs : w.heap.size ≤ W.heap.size := HB.out.size
  have hWr : w.heap.size + 1 < W.heap.size := HR.out.lt
  refine (spCopyTok c r q a b u0 ws B0 W HU hl).mono ?_
  rintro e w1 ⟨v1, rfl, hv1, hb1⟩
  obtain ⟨ao1, cap1, hf1⟩ := hv1.form
  subst hf1
  have hWm := hb1.size
  have hm1 : (w1.alloc (.cells #[] 43)).heap.size = w1.heap.size + 1 := by simp
  have hm2 : (w1.alloc (.cells #[.int .i64 c, .int .i64 r, .int .i64 q, .int .i64 a, .int .i64 b, .slice ao1 ws.length cap1] 30)).heap.size = w1.heap.size + 1 := by simp
  have hm3 : ((w1.alloc (.cells #[.int .i64 c, .int .i64 r, .int .i64 q, .int .i64 a, .int .i64 b, .slice ao1 ws.length cap1] 30)).alloc (.cells #[] 43)).heap.size = w1.heap.size + 2 := by simp
  have E1 : Below W.heap.size W ((w1.alloc (.cells #[.int .i64 c, .int .i64 r, .int .i64 q, .int .i64 a, .int .i64 b, .slice ao1 ws.length cap1] 30)).alloc (.cells #[] 43)) := (hb1.alloc hb1.size _).alloc (by simp; omega) _
  have O1 : Hid (TokAt ((w1.alloc (.cells #[.int .i64 c, .int .i64 r, .int .i64 q, .int .i64 a, .int .i64 b, .slice ao1 ws.length cap1] 30)).alloc (.cells #[] 43)) w1.heap.size c r q a b (.slice ao1 ws.length cap1)) := by
    have h := heap_alloc_new w1 (.cells #[.int .i64 c, .int .i64 r, .int .i64 q, .int .i64 a, .int .i64 b, .slice ao1 ws.length cap1] 30); exact TokAt.stays (B := w1.heap.size + 1) h ((Below.refl _ _).alloc (by rw [hm2]; exact Nat.le_refl _) _) (by omega)
  have I1 : Hid (SlI ((w1.alloc (.cells #[.int .i64 c, .int .i64 r, .int .i64 q, .int .i64 a, .int .i64 b, .slice ao1 ws.length cap1] 30)).alloc (.cells #[] 43)) w1.heap.size (.slice (some ⟨(w1.heap.size + 1), 0, none⟩) 0 0) []) := by
    have h := SlI.made (w1.alloc (.cells #[.int .i64 c, .int .i64 r, .int .i64 q, .int .i64 a, .int .i64 b, .slice ao1 ws.length cap1] 30)) w1.heap.size (by simp); rw [hm2] at h; exact h
  have A1 : Hid (TokAt ((w1.alloc (.cells #[.int .i64 c, .int .i64 r, .int .i64 q, .int .i64 a, .int .i64 b, .slice ao1 ws.length cap1] 30)).alloc (.cells #[] 43)) w.heap.size c r q a b u0) := HA.out.stays E1 HA.out.lt
  have R1 : Hid (TokAt ((w1.alloc (.cells #[.int .i64 c, .int .i64 r, .int .i64 q, .int .i64 a, .int .i64 b, .slice ao1 ws.length cap1] 30)).alloc (.cells #[] 43)) (w.heap.size + 1) 0 0 0 0 0 (.slice none 0 0)) := HR.out.stays E1 HR.out.lt
  have VL : Hid (∀ k, (Value.slice ao1 ws.length cap1).ownBlock = some k → k < w1.heap.size) := fun k hk => (hv1.lt k hk).2
  have V1 : Hid (OwnI ((w1.alloc (.cells #[.int .i64 c, .int .i64 r, .int .i64 q, .int .i64 a, .int .i64 b, .slice ao1 ws.length cap1] 30)).alloc (.cells #[] 43)) w.heap.size (.slice ao1 ws.length cap1) ws) := ((hv1.alloc _).alloc _).down hWs
  have B1 : Hid (Below w.heap.size w ((w1.alloc (.cells #[.int .i64 c, .int .i64 r, .int .i64 q, .int .i64 a, .int .i64 b, .slice ao1 ws.length cap1] 30)).alloc (.cells #[] 43))) := HB.out.trans (E1.mono hWs)
  have U1 : Hid (OwnI ((w1.alloc (.cells #[.int .i64 c, .int .i64 r, .int .i64 q, .int .i64 a, .int .i64 b, .slice ao1 ws.length cap1] 30)).alloc (.cells #[] 43)) B0 u0 ws) := HU.out.stays E1 (fun k hk => (HU.out.lt k hk).2)
  have hgO : w.heap.size + 1 < w1.heap.size := Nat.lt_of_lt_of_le hWr hWm
  obtain ⟨s0, s1, s2, s3, s4, s5⟩ := A1.out.cells
  clear hv1 hb1 E1 HA HR HU HB hWs hWr hWm hm1 hm2
  go_wp2_with fail
  generalize ((w1.alloc (.cells #[.int .i64 c, .int .i64 r, .int .i64 q, .int .i64 a, .int .i64 b, .slice ao1 ws.length cap1] 30)).alloc (.cells #[] 43)) = W1 at *
  generalize w1.heap.size = N1 at *
  obtain ⟨ao0, cap0, hu0, hx0⟩ := U1.out.ints
  have X1 : Hid (IntsAt W1 ao0 ws) := hx0
  subst hu0
  refine (spTokenOk_any c r q a b ao0 cap0 ws _ X1 hl).mono ?_
  rintro e w2 ⟨rfl, hb2⟩
  have OO : Hid (TokAt w2 N1 c r q a b (.slice ao1 ws.length cap1)) := O1.out.stays hb2 O1.out.lt
  have AA : Hid (TokAt w2 w.heap.size c r q a b (.slice ao0 ws.length cap0)) := A1.out.stays hb2 A1.out.lt
  have RR : Hid (TokAt w2 (w.heap.size + 1) 0 0 0 0 0 (.slice none 0 0)) := R1.out.stays hb2 R1.out.lt
  have LL : Hid (OwnI w2 w.heap.size (.slice ao1 ws.length cap1) ws) := own_later' V1.out hb2
  have SI : Hid (SlI w2 N1 (.slice (some ⟨(N1 + 1), 0, none⟩) 0 0) []) := I1.out.below hb2
  have BB : Hid (Below w.heap.size w w2) := B1.out.trans (hb2.mono B1.out.size)
  have z2 : N1 + 2 ≤ w2.heap.size := by rw [← hm3]; exact hb2.size
  clear hb2 O1 R1 V1 B1 A1 U1 X1 hx0 s0 s1 s2 s3 s4 s5 I1 hm3
  rw [ht.out]
  clear ht
  have SS : Hid (SlI w2 w.heap.size (.slice (some ⟨(N1 + 1), 0, none⟩) 0 0) []) := SI.out.down (by omega)
  obtain ⟨x0, x1, x2, x3, x4, x5⟩ := OO.out.cells
  obtain ⟨y0, y1, y2, y3, y4, y5⟩ := RR.out.cells
  have m0 := RR.out.frozen 0
  have m1 := RR.out.frozen 1
  have m2 := RR.out.frozen 2
  have m3 := RR.out.frozen 3
  have m4 := RR.out.frozen 4
  have m5 := RR.out.frozen 5
  go_wp2_with fail
  have R3 : TokAt _ (w.heap.size + 1) c r q a b (.slice ao1 ws.length cap1) := RR.out.agg c r q a b (.slice ao1 ws.length cap1)
  have T3 := ((((((TurnAt.refl (w.heap.size + 1) w2).setCell 0 (.int .i64 c)).setCell 1 (.int .i64 r)).setCell 2 (.int .i64 q)).setCell 3 (.int .i64 a)).setCell 4 (.int .i64 b)).setCell 5 (.slice ao1 ws.length cap1)
  have V3 := own_tok LL.out RR.out T3
  have S3 := sl_turn SS.out RR.out T3
  have B3 := BB.out.trans (T3.below (by omega))
  clear T3
  generalize ((((((w2.setCell ⟨w.heap.size + 1, 0, none⟩ (.int .i64 c)).setCell ⟨w.heap.size + 1, 1, none⟩ (.int .i64 r)).setCell ⟨w.heap.size + 1, 2, none⟩ (.int .i64 q)).setCell ⟨w.heap.size + 1, 3, none⟩ (.int .i64 a)).setCell ⟨w.heap.size + 1, 4, none⟩ (.int .i64 b)).setCell ⟨w.heap.size + 1, 5, none⟩ (.slice ao1 ws.length cap1)) = W3 at *
  obtain ⟨q0, q1, q2, q3, q4, q5⟩ := R3.cells
  refine bodyPost_ret (v := .tuple #[.agg #[.int .i64 c, .int .i64 r, .int .i64 q, .int .i64 a, .int .i64 b, .slice ao1 ws.length cap1], .slice (some ⟨(N1 + 1), 0, none⟩) 0 0]) (by simp [results, Try.results21, go_sem, q0, q1, q2, q3, q4, q5]) rfl ?_
  exact ⟨_, _, rfl, V3, S3, B3⟩

set_option maxRecDepth 100000 in
set_option maxHeartbeats 8000000 in
theorem spNum_1 (c r q a b f : Int) (u0 : Value) (ws : List Int) (B0 : Nat) (al : Option Addr) (cl : Nat) (lv : List Int) (at_ : Option Addr) (ct : Nat) (tx : List ByteArray) (w : World) (h : Hid (OwnI w B0 u0 ws)) (hl : ws.length ≤ 1048576) (hlv : Hid (IntsAt w al lv)) (hll : lv.length ≤ 1048576) (htx : Hid (TextsAt w at_ tx)) (hlt : tx.length ≤ 1048576) (ht : Hid (tkB c r q a b ws = true)) (hd : decide (1 ≤ f ∧ f ≤ 5) = false) :
    Calls Try.prog 21 #[.agg #[.int .i64 c, .int .i64 r, .int .i64 q, .int .i64 a, .int .i64 b, u0], .int .i64 f, .slice al lv.length cl, .slice at_ tx.length ct] w fun e w' => ∃ v vi, e = .returned (.tuple #[.agg #[.int .i64 c, .int .i64 r, .int .i64 q, .int .i64 a, .int .i64 b, v], vi]) ∧ OwnI w' w.heap.size v ws ∧ SlI w' w.heap.size vi [] ∧ Below w.heap.size w w' := by
  have hn1 : (w.alloc (.cells #[.int .i64 c, .int .i64 r, .int .i64 q, .int .i64 a, .int .i64 b, u0] 30)).heap.size = w.heap.size + 1 := by simp
  have HA : Hid (TokAt ((w.alloc (.cells #[.int .i64 c, .int .i64 r, .int .i64 q, .int .i64 a, .int .i64 b, u0] 30)).alloc (.cells #[.int .i64 0, .int .i64 0, .int .i64 0, .int .i64 0, .int .i64 0, .slice none 0 0] 30)) w.heap.size c r q a b u0) := by
    have h := heap_alloc_new w (.cells #[.int .i64 c, .int .i64 r, .int .i64 q, .int .i64 a, .int .i64 b, u0] 30)
    exact TokAt.stays (B := w.heap.size + 1) h ((Below.refl _ _).alloc (by rw [hn1]; exact Nat.le_refl _) _) (by omega)
  have HR : Hid (TokAt ((w.alloc (.cells #[.int .i64 c, .int .i64 r, .int .i64 q, .int .i64 a, .int .i64 b, u0] 30)).alloc (.cells #[.int .i64 0, .int .i64 0, .int .i64 0, .int .i64 0, .int .i64 0, .slice none 0 0] 30)) (w.heap.size + 1) 0 0 0 0 0 (.slice none 0 0)) := by
    have h := heap_alloc_new (w.alloc (.cells #[.int .i64 c, .int .i64 r, .int .i64 q, .int .i64 a, .int .i64 b, u0] 30)) (.cells #[.int .i64 0, .int .i64 0, .int .i64 0, .int .i64 0, .int .i64 0, .slice none 0 0] 30)
    rw [hn1] at h
    exact h
  have HB : Hid (Below w.heap.size w ((w.alloc (.cells #[.int .i64 c, .int .i64 r, .int .i64 q, .int .i64 a, .int .i64 b, u0] 30)).alloc (.cells #[.int .i64 0, .int .i64 0, .int .i64 0, .int .i64 0, .int .i64 0, .slice none 0 0] 30))) := ((Below.refl _ _).alloc (Nat.le_refl _) _).alloc (by simp) _
  have HU : Hid (OwnI ((w.alloc (.cells #[.int .i64 c, .int .i64 r, .int .i64 q, .int .i64 a, .int .i64 b, u0] 30)).alloc (.cells #[.int .i64 0, .int .i64 0, .int .i64 0, .int .i64 0, .int .i64 0, .slice none 0 0] 30)) B0 u0 ws) := (h.out.alloc _).alloc _
  clear h hn1
  go_enter Try.func21, Try.ntmps21
  go_wp2_with fail
  generalize ((w.alloc (.cells #[.int .i64 c, .int .i64 r, .int .i64 q, .int .i64 a, .int .i64 b, u0] 30)).alloc (.cells #[.int .i64 0, .int .i64 0, .int .i64 0, .int .i64 0, .int .i64 0, .slice none 0 0] 30)) = W at *
  have hWs : w.heap.size ≤ W.heap.size := HB.out.size
  have hWr : w.heap.size + 1 < W.heap.size := HR.out.lt
  refine (spCopyTok c r q a b u0 ws B0 W HU hl).mono ?_
  rintro e w1 ⟨v1, rfl, hv1, hb1⟩
  obtain ⟨ao1, cap1, hf1⟩ := hv1.form
  subst hf1
  have hWm := hb1.size
  have hm1 : (w1.alloc (.cells #[] 43)).heap.size = w1.heap.size + 1 := by simp
  have hm2 : (w1.alloc (.cells #[.int .i64 c, .int .i64 r, .int .i64 q, .int .i64 a, .int .i64 b, .slice ao1 ws.length cap1] 30)).heap.size = w1.heap.size + 1 := by simp
  have hm3 : ((w1.alloc (.cells #[.int .i64 c, .int .i64 r, .int .i64 q, .int .i64 a, .int .i64 b, .slice ao1 ws.length cap1] 30)).alloc (.cells #[] 43)).heap.size = w1.heap.size + 2 := by simp
  have E1 : Below W.heap.size W ((w1.alloc (.cells #[.int .i64 c, .int .i64 r, .int .i64 q, .int .i64 a, .int .i64 b, .slice ao1 ws.length cap1] 30)).alloc (.cells #[] 43)) := (hb1.alloc hb1.size _).alloc (by simp; omega) _
  have O1 : Hid (TokAt ((w1.alloc (.cells #[.int .i64 c, .int .i64 r, .int .i64 q, .int .i64 a, .int .i64 b, .slice ao1 ws.length cap1] 30)).alloc (.cells #[] 43)) w1.heap.size c r q a b (.slice ao1 ws.length cap1)) := by
    have h := heap_alloc_new w1 (.cells #[.int .i64 c, .int .i64 r, .int .i64 q, .int .i64 a, .int .i64 b, .slice ao1 ws.length cap1] 30); exact TokAt.stays (B := w1.heap.size + 1) h ((Below.refl _ _).alloc (by rw [hm2]; exact Nat.le_refl _) _) (by omega)
  have I1 : Hid (SlI ((w1.alloc (.cells #[.int .i64 c, .int .i64 r, .int .i64 q, .int .i64 a, .int .i64 b, .slice ao1 ws.length cap1] 30)).alloc (.cells #[] 43)) w1.heap.size (.slice (some ⟨(w1.heap.size + 1), 0, none⟩) 0 0) []) := by
    have h := SlI.made (w1.alloc (.cells #[.int .i64 c, .int .i64 r, .int .i64 q, .int .i64 a, .int .i64 b, .slice ao1 ws.length cap1] 30)) w1.heap.size (by simp); rw [hm2] at h; exact h
  have A1 : Hid (TokAt ((w1.alloc (.cells #[.int .i64 c, .int .i64 r, .int .i64 q, .int .i64 a, .int .i64 b, .slice ao1 ws.length cap1] 30)).alloc (.cells #[] 43)) w.heap.size c r q a b u0) := HA.out.stays E1 HA.out.lt
  have R1 : Hid (TokAt ((w1.alloc (.cells #[.int .i64 c, .int .i64 r, .int .i64 q, .int .i64 a, .int .i64 b, .slice ao1 ws.length cap1] 30)).alloc (.cells #[] 43)) (w.heap.size + 1) 0 0 0 0 0 (.slice none 0 0)) := HR.out.stays E1 HR.out.lt
  have VL : Hid (∀ k, (Value.slice ao1 ws.length cap1).ownBlock = some k → k < w1.heap.size) := fun k hk => (hv1.lt k hk).2
  have V1 : Hid (OwnI ((w1.alloc (.cells #[.int .i64 c, .int .i64 r, .int .i64 q, .int .i64 a, .int .i64 b, .slice ao1 ws.length cap1] 30)).alloc (.cells #[] 43)) w.heap.size (.slice ao1 ws.length cap1) ws) := ((hv1.alloc _).alloc _).down hWs
  have B1 : Hid (Below w.heap.size w ((w1.alloc (.cells #[.int .i64 c, .int .i64 r, .int .i64 q, .int .i64 a, .int .i64 b, .slice ao1 ws.length cap1] 30)).alloc (.cells #[] 43))) := HB.out.trans (E1.mono hWs)
  have U1 : Hid (OwnI ((w1.alloc (.cells #[.int .i64 c, .int .i64 r, .int .i64 q, .int .i64 a, .int .i64 b, .slice ao1 ws.length cap1] 30)).alloc (.cells #[] 43)) B0 u0 ws) := HU.out.stays E1 (fun k hk => (HU.out.lt k hk).2)
  have hgO : w.heap.size + 1 < w1.heap.size := Nat.lt_of_lt_of_le hWr hWm
  obtain ⟨s0, s1, s2, s3, s4, s5⟩ := A1.out.cells
  clear hv1 hb1 E1 HA HR HU HB hWs hWr hWm hm1 hm2
  go_wp2_with fail
  generalize ((w1.alloc (.cells #[.int .i64 c, .int .i64 r, .int .i64 q, .int .i64 a, .int .i64 b, .slice ao1 ws.length cap1] 30)).alloc (.cells #[] 43)) = W1 at *
  generalize w1.heap.size = N1 at *
  obtain ⟨ao0, cap0, hu0, hx0⟩ := U1.out.ints
  have X1 : Hid (IntsAt W1 ao0 ws) := hx0
  subst hu0
  refine (spTokenOk_any c r q a b ao0 cap0 ws _ X1 hl).mono ?_
  rintro e w2 ⟨rfl, hb2⟩
  have OO : Hid (TokAt w2 N1 c r q a b (.slice ao1 ws.length cap1)) := O1.out.stays hb2 O1.out.lt
  have AA : Hid (TokAt w2 w.heap.size c r q a b (.slice ao0 ws.length cap0)) := A1.out.stays hb2 A1.out.lt
  have RR : Hid (TokAt w2 (w.heap.size + 1) 0 0 0 0 0 (.slice none 0 0)) := R1.out.stays hb2 R1.out.lt
  have LL : Hid (OwnI w2 w.heap.size (.slice ao1 ws.length cap1) ws) := own_later' V1.out hb2
  have SI : Hid (SlI w2 N1 (.slice (some ⟨(N1 + 1), 0, none⟩) 0 0) []) := I1.out.below hb2
  have BB : Hid (Below w.heap.size w w2) := B1.out.trans (hb2.mono B1.out.size)
  have z2 : N1 + 2 ≤ w2.heap.size := by rw [← hm3]; exact hb2.size
  clear hb2 O1 R1 V1 B1 A1 U1 X1 hx0 s0 s1 s2 s3 s4 s5 I1 hm3
  rw [ht.out]
  clear ht
  go_wp2_with fail
  refine (in_is _ hd).mono ?_
  rintro e w3 ⟨rfl, rfl⟩
  have SS : Hid (SlI w3 w.heap.size (.slice (some ⟨(N1 + 1), 0, none⟩) 0 0) []) := SI.out.down (by omega)
  obtain ⟨x0, x1, x2, x3, x4, x5⟩ := OO.out.cells
  obtain ⟨y0, y1, y2, y3, y4, y5⟩ := RR.out.cells
  have m0 := RR.out.frozen 0
  have m1 := RR.out.frozen 1
  have m2 := RR.out.frozen 2
  have m3 := RR.out.frozen 3
  have m4 := RR.out.frozen 4
  have m5 := RR.out.frozen 5
  go_wp2_with fail
  have R3 : TokAt _ (w.heap.size + 1) c r q a b (.slice ao1 ws.length cap1) := RR.out.agg c r q a b (.slice ao1 ws.length cap1)
  have T3 := ((((((TurnAt.refl (w.heap.size + 1) w3).setCell 0 (.int .i64 c)).setCell 1 (.int .i64 r)).setCell 2 (.int .i64 q)).setCell 3 (.int .i64 a)).setCell 4 (.int .i64 b)).setCell 5 (.slice ao1 ws.length cap1)
  have V3 := own_tok LL.out RR.out T3
  have S3 := sl_turn SS.out RR.out T3
  have B3 := BB.out.trans (T3.below (by omega))
  clear T3
  generalize ((((((w3.setCell ⟨w.heap.size + 1, 0, none⟩ (.int .i64 c)).setCell ⟨w.heap.size + 1, 1, none⟩ (.int .i64 r)).setCell ⟨w.heap.size + 1, 2, none⟩ (.int .i64 q)).setCell ⟨w.heap.size + 1, 3, none⟩ (.int .i64 a)).setCell ⟨w.heap.size + 1, 4, none⟩ (.int .i64 b)).setCell ⟨w.heap.size + 1, 5, none⟩ (.slice ao1 ws.length cap1)) = W3 at *
  obtain ⟨q0, q1, q2, q3, q4, q5⟩ := R3.cells
  refine bodyPost_ret (v := .tuple #[.agg #[.int .i64 c, .int .i64 r, .int .i64 q, .int .i64 a, .int .i64 b, .slice ao1 ws.length cap1], .slice (some ⟨(N1 + 1), 0, none⟩) 0 0]) (by simp [results, Try.results21, go_sem, q0, q1, q2, q3, q4, q5]) rfl ?_
  exact ⟨_, _, rfl, V3, S3, B3⟩

set_option maxRecDepth 100000 in
set_option maxHeartbeats 8000000 in
theorem spNum_2 (c r q a b f : Int) (u0 : Value) (ws : List Int) (B0 : Nat) (al : Option Addr) (cl : Nat) (lv : List Int) (at_ : Option Addr) (ct : Nat) (tx : List ByteArray) (w : World) (h : Hid (OwnI w B0 u0 ws)) (hl : ws.length ≤ 1048576) (hlv : Hid (IntsAt w al lv)) (hll : lv.length ≤ 1048576) (htx : Hid (TextsAt w at_ tx)) (hlt : tx.length ≤ 1048576) (ht : Hid (tkB c r q a b ws = true)) (hd : decide (1 ≤ f ∧ f ≤ 5) = true) (hq0 : 0 ≤ q) (hq1 : q ≤ 60) (L2 : List It) (Q2 A2 : Int) (hL2 : Hid (L2 = numGo f lv q 0 tx)) (hQ2 : Hid (Q2 = q + (L2.length : Int))) (hA2 : Hid (A2 = if numF a q b then Q2 else a)) :
    Calls Try.prog 21 #[.agg #[.int .i64 c, .int .i64 r, .int .i64 q, .int .i64 a, .int .i64 b, u0], .int .i64 f, .slice al lv.length cl, .slice at_ tx.length ct] w fun e w' => ∃ v vi, e = .returned (.tuple #[.agg #[.int .i64 c, .int .i64 r, .int .i64 Q2, .int .i64 A2, .int .i64 b, v], vi]) ∧ OwnI w' w.heap.size v ws ∧ SlI w' w.heap.size vi L2 ∧ Below w.heap.size w w' := by
  have hn1 : (w.alloc (.cells #[.int .i64 c, .int .i64 r, .int .i64 q, .int .i64 a, .int .i64 b, u0] 30)).heap.size = w.heap.size + 1 := by simp
  have HA : Hid (TokAt ((w.alloc (.cells #[.int .i64 c, .int .i64 r, .int .i64 q, .int .i64 a, .int .i64 b, u0] 30)).alloc (.cells #[.int .i64 0, .int .i64 0, .int .i64 0, .int .i64 0, .int .i64 0, .slice none 0 0] 30)) w.heap.size c r q a b u0) := by
    have h := heap_alloc_new w (.cells #[.int .i64 c, .int .i64 r, .int .i64 q, .int .i64 a, .int .i64 b, u0] 30)
    exact TokAt.stays (B := w.heap.size + 1) h ((Below.refl _ _).alloc (by rw [hn1]; exact Nat.le_refl _) _) (by omega)
  have HR : Hid (TokAt ((w.alloc (.cells #[.int .i64 c, .int .i64 r, .int .i64 q, .int .i64 a, .int .i64 b, u0] 30)).alloc (.cells #[.int .i64 0, .int .i64 0, .int .i64 0, .int .i64 0, .int .i64 0, .slice none 0 0] 30)) (w.heap.size + 1) 0 0 0 0 0 (.slice none 0 0)) := by
    have h := heap_alloc_new (w.alloc (.cells #[.int .i64 c, .int .i64 r, .int .i64 q, .int .i64 a, .int .i64 b, u0] 30)) (.cells #[.int .i64 0, .int .i64 0, .int .i64 0, .int .i64 0, .int .i64 0, .slice none 0 0] 30)
    rw [hn1] at h
    exact h
  have HB : Hid (Below w.heap.size w ((w.alloc (.cells #[.int .i64 c, .int .i64 r, .int .i64 q, .int .i64 a, .int .i64 b, u0] 30)).alloc (.cells #[.int .i64 0, .int .i64 0, .int .i64 0, .int .i64 0, .int .i64 0, .slice none 0 0] 30))) := ((Below.refl _ _).alloc (Nat.le_refl _) _).alloc (by simp) _
  have HU : Hid (OwnI ((w.alloc (.cells #[.int .i64 c, .int .i64 r, .int .i64 q, .int .i64 a, .int .i64 b, u0] 30)).alloc (.cells #[.int .i64 0, .int .i64 0, .int .i64 0, .int .i64 0, .int .i64 0, .slice none 0 0] 30)) B0 u0 ws) := (h.out.alloc _).alloc _
  clear h hn1
  go_enter Try.func21, Try.ntmps21
  go_wp2_with fail
  generalize ((w.alloc (.cells #[.int .i64 c, .int .i64 r, .int .i64 q, .int .i64 a, .int .i64 b, u0] 30)).alloc (.cells #[.int .i64 0, .int .i64 0, .int .i64 0, .int .i64 0, .int .i64 0, .slice none 0 0] 30)) = W at *
  have hWs : w.heap.size ≤ W.heap.size := HB.out.size
  have hWr : w.heap.size + 1 < W.heap.size := HR.out.lt
  refine (spCopyTok c r q a b u0 ws B0 W HU hl).mono ?_
  rintro e w1 ⟨v1, rfl, hv1, hb1⟩
  obtain ⟨ao1, cap1, hf1⟩ := hv1.form
  subst hf1
  have hWm := hb1.size
  have hm1 : (w1.alloc (.cells #[] 43)).heap.size = w1.heap.size + 1 := by simp
  have hm2 : (w1.alloc (.cells #[.int .i64 c, .int .i64 r, .int .i64 q, .int .i64 a, .int .i64 b, .slice ao1 ws.length cap1] 30)).heap.size = w1.heap.size + 1 := by simp
  have hm3 : ((w1.alloc (.cells #[.int .i64 c, .int .i64 r, .int .i64 q, .int .i64 a, .int .i64 b, .slice ao1 ws.length cap1] 30)).alloc (.cells #[] 43)).heap.size = w1.heap.size + 2 := by simp
  have E1 : Below W.heap.size W ((w1.alloc (.cells #[.int .i64 c, .int .i64 r, .int .i64 q, .int .i64 a, .int .i64 b, .slice ao1 ws.length cap1] 30)).alloc (.cells #[] 43)) := (hb1.alloc hb1.size _).alloc (by simp; omega) _
  have O1 : Hid (TokAt ((w1.alloc (.cells #[.int .i64 c, .int .i64 r, .int .i64 q, .int .i64 a, .int .i64 b, .slice ao1 ws.length cap1] 30)).alloc (.cells #[] 43)) w1.heap.size c r q a b (.slice ao1 ws.length cap1)) := by
    have h := heap_alloc_new w1 (.cells #[.int .i64 c, .int .i64 r, .int .i64 q, .int .i64 a, .int .i64 b, .slice ao1 ws.length cap1] 30); exact TokAt.stays (B := w1.heap.size + 1) h ((Below.refl _ _).alloc (by rw [hm2]; exact Nat.le_refl _) _) (by omega)
  have I1 : Hid (SlI ((w1.alloc (.cells #[.int .i64 c, .int .i64 r, .int .i64 q, .int .i64 a, .int .i64 b, .slice ao1 ws.length cap1] 30)).alloc (.cells #[] 43)) w1.heap.size (.slice (some ⟨(w1.heap.size + 1), 0, none⟩) 0 0) []) := by
    have h := SlI.made (w1.alloc (.cells #[.int .i64 c, .int .i64 r, .int .i64 q, .int .i64 a, .int .i64 b, .slice ao1 ws.length cap1] 30)) w1.heap.size (by simp); rw [hm2] at h; exact h
  have A1 : Hid (TokAt ((w1.alloc (.cells #[.int .i64 c, .int .i64 r, .int .i64 q, .int .i64 a, .int .i64 b, .slice ao1 ws.length cap1] 30)).alloc (.cells #[] 43)) w.heap.size c r q a b u0) := HA.out.stays E1 HA.out.lt
  have R1 : Hid (TokAt ((w1.alloc (.cells #[.int .i64 c, .int .i64 r, .int .i64 q, .int .i64 a, .int .i64 b, .slice ao1 ws.length cap1] 30)).alloc (.cells #[] 43)) (w.heap.size + 1) 0 0 0 0 0 (.slice none 0 0)) := HR.out.stays E1 HR.out.lt
  have VL : Hid (∀ k, (Value.slice ao1 ws.length cap1).ownBlock = some k → k < w1.heap.size) := fun k hk => (hv1.lt k hk).2
  have V1 : Hid (OwnI ((w1.alloc (.cells #[.int .i64 c, .int .i64 r, .int .i64 q, .int .i64 a, .int .i64 b, .slice ao1 ws.length cap1] 30)).alloc (.cells #[] 43)) w.heap.size (.slice ao1 ws.length cap1) ws) := ((hv1.alloc _).alloc _).down hWs
  have B1 : Hid (Below w.heap.size w ((w1.alloc (.cells #[.int .i64 c, .int .i64 r, .int .i64 q, .int .i64 a, .int .i64 b, .slice ao1 ws.length cap1] 30)).alloc (.cells #[] 43))) := HB.out.trans (E1.mono hWs)
  have U1 : Hid (OwnI ((w1.alloc (.cells #[.int .i64 c, .int .i64 r, .int .i64 q, .int .i64 a, .int .i64 b, .slice ao1 ws.length cap1] 30)).alloc (.cells #[] 43)) B0 u0 ws) := HU.out.stays E1 (fun k hk => (HU.out.lt k hk).2)
  have hgO : w.heap.size + 1 < w1.heap.size := Nat.lt_of_lt_of_le hWr hWm
  obtain ⟨s0, s1, s2, s3, s4, s5⟩ := A1.out.cells
  clear hv1 hb1 E1 HA HR HU HB hWs hWr hWm hm1 hm2
  go_wp2_with fail
  generalize ((w1.alloc (.cells #[.int .i64 c, .int .i64 r, .int .i64 q, .int .i64 a, .int .i64 b, .slice ao1 ws.length cap1] 30)).alloc (.cells #[] 43)) = W1 at *
  generalize w1.heap.size = N1 at *
  obtain ⟨ao0, cap0, hu0, hx0⟩ := U1.out.ints
  have X1 : Hid (IntsAt W1 ao0 ws) := hx0
  subst hu0
  refine (spTokenOk_any c r q a b ao0 cap0 ws _ X1 hl).mono ?_
  rintro e w2 ⟨rfl, hb2⟩
  have OO : Hid (TokAt w2 N1 c r q a b (.slice ao1 ws.length cap1)) := O1.out.stays hb2 O1.out.lt
  have AA : Hid (TokAt w2 w.heap.size c r q a b (.slice ao0 ws.length cap0)) := A1.out.stays hb2 A1.out.lt
  have RR : Hid (TokAt w2 (w.heap.size + 1) 0 0 0 0 0 (.slice none 0 0)) := R1.out.stays hb2 R1.out.lt
  have LL : Hid (OwnI w2 w.heap.size (.slice ao1 ws.length cap1) ws) := own_later' V1.out hb2
  have SI : Hid (SlI w2 N1 (.slice (some ⟨(N1 + 1), 0, none⟩) 0 0) []) := I1.out.below hb2
  have BB : Hid (Below w.heap.size w w2) := B1.out.trans (hb2.mono B1.out.size)
  have z2 : N1 + 2 ≤ w2.heap.size := by rw [← hm3]; exact hb2.size
  clear hb2 O1 R1 V1 B1 A1 U1 X1 hx0 s0 s1 s2 s3 s4 s5 I1 hm3
  rw [ht.out]
  clear ht
  go_wp2_with fail
  refine (in_is _ hd).mono ?_
  rintro e w3 ⟨rfl, rfl⟩
  clear hd
  have HST : Hid (NSt f lv q tx 0 []) := nSt_start hq0 hq1
  have HB0 : Hid (Below N1 w3 w3) := Below.refl _ _
  go_wp2_with fail
  go_loopw [11, 12] (fun v i wr => ∃ (k : Nat) (Qk : Int) (L : List It), k ≤ 3 ∧ k ≤ tx.length ∧ i = .int .i64 k ∧ (0 ≤ Qk ∧ Qk ≤ 60) ∧ Hid (Qk = q + (k : Int)) ∧ Hid (NSt f lv q tx k L) ∧ Hid (TokAt wr N1 c r Qk a b (.slice ao1 ws.length cap1)) ∧ Hid (SlI wr N1 v L) ∧ Hid (Below N1 w3 wr)) (fun _ i _ => tx.length - (intOf i).toNat)
  case atStart => exact ⟨0, q, [], by omega, by omega, rfl, ⟨hq0, hq1⟩, (show q = q + ((0 : Nat) : Int) by omega), HST, OO, SI, HB0⟩
  case round =>
    clear HST HB0 OO SI
    obtain ⟨k, Qk, L, hk3, hk, rfl, hQ, HQk, HST, OO, SX, BW⟩ := hrel
    have hL : L.length ≤ 3 := by rw [HST.out.1]; exact hk3
    obtain ⟨uI, hui⟩ : ∃ uI, uI = u11 := ⟨_, rfl⟩
    subst hui
    by_cases hltk : k < tx.length
    · obtain ⟨bt, ot, hat, hbt, hct⟩ := (htx.out.stays (BB.out.trans (BW.out.mono (by omega)))) k hltk
      obtain ⟨t, ht⟩ : ∃ t, t = tx[k] := ⟨_, rfl⟩
      rw [← ht] at hct
      have HTX : Hid (t = tx[k]) := ht
      obtain ⟨o0, o1, o2, o3, o4, o5⟩ := OO.out.cells
      have i1 : (k : Int) < (tx.length : Int) := by omega
      clear o0 o1 o3 o4 o5 ht
      subst hat
      by_cases c1 : k = 3
      · have HL : Hid (numGo f lv q 0 tx = L) := nSt_stop HST.out (fun _ h => by omega)
        have HQ : Hid (Qk = q + (L.length : Int)) := by rw [HST.out.1]; exact HQk.out
        subst c1
        have RR : Hid (TokAt wr (w.heap.size + 1) 0 0 0 0 0 (.slice none 0 0)) := RR.out.stays BW.out (by omega)
        have AA : Hid (TokAt wr w.heap.size c r q a b (.slice ao0 ws.length cap0)) := AA.out.stays BW.out (by omega)
        have LL : Hid (OwnI wr w.heap.size (.slice ao1 ws.length cap1) ws) := LL.out.stays BW.out VL.out
        have BB : Hid (Below w.heap.size w wr) := BB.out.trans (BW.out.mono (by omega))
        have SS : Hid (SlI wr w.heap.size uI L) := SX.out.down (by omega)
        obtain ⟨a0, a1, a2, a3, a4, a5⟩ := AA.out.cells
        clear a0 a1 a5
        have EL : Hid (L2 = L) := by have h1 := hL2.out; have h2 := HL.out; show _ = _; rw [h1, h2]
        have EQ : Hid (Q2 = Qk) := by have h1 := hQ2.out; have h2 := HQ.out; have h3 := EL.out; show _ = _; rw [h1, h3, h2]
        by_cases ha : a = q
        · by_cases hb0 : b = 0
          · have EA : Hid (A2 = Qk) := by have h1 := hA2.out; have h2 := EQ.out; show _ = _; rw [h1, if_pos (show numF a q b = true from decide_eq_true ⟨ha, hb0⟩), h2]
            subst ha
            subst hb0
            have n3 := OO.out.frozen 3
            obtain ⟨g0, g1, g2, g3, g4, g5⟩ := OO.out.cells
            have HT := (TurnAt.refl N1 wr).setCell 3 (.int .i64 Qk)
            have LL : Hid (OwnI (wr.setCell ⟨N1, 3, none⟩ (.int .i64 Qk)) w.heap.size (.slice ao1 ws.length cap1) ws) := own_tok LL.out OO.out HT
            have SS : Hid (SlI (wr.setCell ⟨N1, 3, none⟩ (.int .i64 Qk)) w.heap.size uI L) := sl_turn SS.out OO.out HT
            have RR : Hid (TokAt (wr.setCell ⟨N1, 3, none⟩ (.int .i64 Qk)) (w.heap.size + 1) 0 0 0 0 0 (.slice none 0 0)) := RR.out.turn HT (by omega)
            have BB : Hid (Below w.heap.size w (wr.setCell ⟨N1, 3, none⟩ (.int .i64 Qk))) := BB.out.trans (HT.below (by omega))
            have OO : Hid (TokAt (wr.setCell ⟨N1, 3, none⟩ (.int .i64 Qk)) N1 c r Qk Qk 0 (.slice ao1 ws.length cap1)) := OO.out.set3 Qk
            clear HT
            obtain ⟨x0, x1, x2, x3, x4, x5⟩ := OO.out.cells
            obtain ⟨y0, y1, y2, y3, y4, y5⟩ := RR.out.cells
            have m0 := RR.out.frozen 0
            have m1 := RR.out.frozen 1
            have m2 := RR.out.frozen 2
            have m3 := RR.out.frozen 3
            have m4 := RR.out.frozen 4
            have m5 := RR.out.frozen 5
            go_wp2_with fail
            have R3 : TokAt _ (w.heap.size + 1) c r Qk Qk 0 (.slice ao1 ws.length cap1) := RR.out.agg c r Qk Qk 0 (.slice ao1 ws.length cap1)
            have T3 := ((((((TurnAt.refl (w.heap.size + 1) (wr.setCell ⟨N1, 3, none⟩ (.int .i64 Qk))).setCell 0 (.int .i64 c)).setCell 1 (.int .i64 r)).setCell 2 (.int .i64 Qk)).setCell 3 (.int .i64 Qk)).setCell 4 (.int .i64 0)).setCell 5 (.slice ao1 ws.length cap1)
            have V3 := own_tok LL.out RR.out T3
            have S3 := sl_turn SS.out RR.out T3
            have B3 := BB.out.trans (T3.below (by omega))
            clear T3
            generalize (((((((wr.setCell ⟨N1, 3, none⟩ (.int .i64 Qk)).setCell ⟨w.heap.size + 1, 0, none⟩ (.int .i64 c)).setCell ⟨w.heap.size + 1, 1, none⟩ (.int .i64 r)).setCell ⟨w.heap.size + 1, 2, none⟩ (.int .i64 Qk)).setCell ⟨w.heap.size + 1, 3, none⟩ (.int .i64 Qk)).setCell ⟨w.heap.size + 1, 4, none⟩ (.int .i64 0)).setCell ⟨w.heap.size + 1, 5, none⟩ (.slice ao1 ws.length cap1)) = W3 at *
            obtain ⟨q0, q1, q2, q3, q4, q5⟩ := R3.cells
            refine bodyPost_ret (v := .tuple #[.agg #[.int .i64 c, .int .i64 r, .int .i64 Qk, .int .i64 Qk, .int .i64 0, .slice ao1 ws.length cap1], uI]) (by simp [results, Try.results21, go_sem, q0, q1, q2, q3, q4, q5]) rfl ?_
            exact ⟨_, _, by rw [EQ.out, EA.out], V3, by rw [EL.out]; exact S3, B3⟩
          · have EA : Hid (A2 = a) := by have h1 := hA2.out; show _ = _; rw [h1, if_neg (by unfold numF; simp [hb0])]
            subst ha
            obtain ⟨x0, x1, x2, x3, x4, x5⟩ := OO.out.cells
            obtain ⟨y0, y1, y2, y3, y4, y5⟩ := RR.out.cells
            have m0 := RR.out.frozen 0
            have m1 := RR.out.frozen 1
            have m2 := RR.out.frozen 2
            have m3 := RR.out.frozen 3
            have m4 := RR.out.frozen 4
            have m5 := RR.out.frozen 5
            go_wp2_with fail
            have R3 : TokAt _ (w.heap.size + 1) c r Qk a b (.slice ao1 ws.length cap1) := RR.out.agg c r Qk a b (.slice ao1 ws.length cap1)
            have T3 := ((((((TurnAt.refl (w.heap.size + 1) wr).setCell 0 (.int .i64 c)).setCell 1 (.int .i64 r)).setCell 2 (.int .i64 Qk)).setCell 3 (.int .i64 a)).setCell 4 (.int .i64 b)).setCell 5 (.slice ao1 ws.length cap1)
            have V3 := own_tok LL.out RR.out T3
            have S3 := sl_turn SS.out RR.out T3
            have B3 := BB.out.trans (T3.below (by omega))
            clear T3
            generalize ((((((wr.setCell ⟨w.heap.size + 1, 0, none⟩ (.int .i64 c)).setCell ⟨w.heap.size + 1, 1, none⟩ (.int .i64 r)).setCell ⟨w.heap.size + 1, 2, none⟩ (.int .i64 Qk)).setCell ⟨w.heap.size + 1, 3, none⟩ (.int .i64 a)).setCell ⟨w.heap.size + 1, 4, none⟩ (.int .i64 b)).setCell ⟨w.heap.size + 1, 5, none⟩ (.slice ao1 ws.length cap1)) = W3 at *
            obtain ⟨q0, q1, q2, q3, q4, q5⟩ := R3.cells
            refine bodyPost_ret (v := .tuple #[.agg #[.int .i64 c, .int .i64 r, .int .i64 Qk, .int .i64 a, .int .i64 b, .slice ao1 ws.length cap1], uI]) (by simp [results, Try.results21, go_sem, q0, q1, q2, q3, q4, q5]) rfl ?_
            exact ⟨_, _, by rw [EQ.out, EA.out], V3, by rw [EL.out]; exact S3, B3⟩
        · have EA : Hid (A2 = a) := by have h1 := hA2.out; show _ = _; rw [h1, if_neg (by unfold numF; simp [ha])]
          obtain ⟨x0, x1, x2, x3, x4, x5⟩ := OO.out.cells
          obtain ⟨y0, y1, y2, y3, y4, y5⟩ := RR.out.cells
          have m0 := RR.out.frozen 0
          have m1 := RR.out.frozen 1
          have m2 := RR.out.frozen 2
          have m3 := RR.out.frozen 3
          have m4 := RR.out.frozen 4
          have m5 := RR.out.frozen 5
          go_wp2_with fail
          have R3 : TokAt _ (w.heap.size + 1) c r Qk a b (.slice ao1 ws.length cap1) := RR.out.agg c r Qk a b (.slice ao1 ws.length cap1)
          have T3 := ((((((TurnAt.refl (w.heap.size + 1) wr).setCell 0 (.int .i64 c)).setCell 1 (.int .i64 r)).setCell 2 (.int .i64 Qk)).setCell 3 (.int .i64 a)).setCell 4 (.int .i64 b)).setCell 5 (.slice ao1 ws.length cap1)
          have V3 := own_tok LL.out RR.out T3
          have S3 := sl_turn SS.out RR.out T3
          have B3 := BB.out.trans (T3.below (by omega))
          clear T3
          generalize ((((((wr.setCell ⟨w.heap.size + 1, 0, none⟩ (.int .i64 c)).setCell ⟨w.heap.size + 1, 1, none⟩ (.int .i64 r)).setCell ⟨w.heap.size + 1, 2, none⟩ (.int .i64 Qk)).setCell ⟨w.heap.size + 1, 3, none⟩ (.int .i64 a)).setCell ⟨w.heap.size + 1, 4, none⟩ (.int .i64 b)).setCell ⟨w.heap.size + 1, 5, none⟩ (.slice ao1 ws.length cap1)) = W3 at *
          obtain ⟨q0, q1, q2, q3, q4, q5⟩ := R3.cells
          refine bodyPost_ret (v := .tuple #[.agg #[.int .i64 c, .int .i64 r, .int .i64 Qk, .int .i64 a, .int .i64 b, .slice ao1 ws.length cap1], uI]) (by simp [results, Try.results21, go_sem, q0, q1, q2, q3, q4, q5]) rfl ?_
          exact ⟨_, _, by rw [EQ.out, EA.out], V3, by rw [EL.out]; exact S3, B3⟩
      · have d1 : (k : Int) < 3 := by omega
        by_cases c2 : Qk = 60
        · have HL : Hid (numGo f lv q 0 tx = L) := nSt_stop HST.out (fun _ h => by have := HQk.out; omega)
          have HQ : Hid (Qk = q + (L.length : Int)) := by rw [HST.out.1]; exact HQk.out
          subst c2
          have RR : Hid (TokAt wr (w.heap.size + 1) 0 0 0 0 0 (.slice none 0 0)) := RR.out.stays BW.out (by omega)
          have AA : Hid (TokAt wr w.heap.size c r q a b (.slice ao0 ws.length cap0)) := AA.out.stays BW.out (by omega)
          have LL : Hid (OwnI wr w.heap.size (.slice ao1 ws.length cap1) ws) := LL.out.stays BW.out VL.out
          have BB : Hid (Below w.heap.size w wr) := BB.out.trans (BW.out.mono (by omega))
          have SS : Hid (SlI wr w.heap.size uI L) := SX.out.down (by omega)
          obtain ⟨a0, a1, a2, a3, a4, a5⟩ := AA.out.cells
          clear a0 a1 a5
          have EL : Hid (L2 = L) := by have h1 := hL2.out; have h2 := HL.out; show _ = _; rw [h1, h2]
          have EQ : Hid (Q2 = 60) := by have h1 := hQ2.out; have h2 := HQ.out; have h3 := EL.out; show _ = _; rw [h1, h3, h2]
          by_cases ha : a = q
          · by_cases hb0 : b = 0
            · have EA : Hid (A2 = 60) := by have h1 := hA2.out; have h2 := EQ.out; show _ = _; rw [h1, if_pos (show numF a q b = true from decide_eq_true ⟨ha, hb0⟩), h2]
              subst ha
              subst hb0
              have n3 := OO.out.frozen 3
              obtain ⟨g0, g1, g2, g3, g4, g5⟩ := OO.out.cells
              have HT := (TurnAt.refl N1 wr).setCell 3 (.int .i64 60)
              have LL : Hid (OwnI (wr.setCell ⟨N1, 3, none⟩ (.int .i64 60)) w.heap.size (.slice ao1 ws.length cap1) ws) := own_tok LL.out OO.out HT
              have SS : Hid (SlI (wr.setCell ⟨N1, 3, none⟩ (.int .i64 60)) w.heap.size uI L) := sl_turn SS.out OO.out HT
              have RR : Hid (TokAt (wr.setCell ⟨N1, 3, none⟩ (.int .i64 60)) (w.heap.size + 1) 0 0 0 0 0 (.slice none 0 0)) := RR.out.turn HT (by omega)
              have BB : Hid (Below w.heap.size w (wr.setCell ⟨N1, 3, none⟩ (.int .i64 60))) := BB.out.trans (HT.below (by omega))
              have OO : Hid (TokAt (wr.setCell ⟨N1, 3, none⟩ (.int .i64 60)) N1 c r 60 60 0 (.slice ao1 ws.length cap1)) := OO.out.set3 60
              clear HT
              obtain ⟨x0, x1, x2, x3, x4, x5⟩ := OO.out.cells
              obtain ⟨y0, y1, y2, y3, y4, y5⟩ := RR.out.cells
              have m0 := RR.out.frozen 0
              have m1 := RR.out.frozen 1
              have m2 := RR.out.frozen 2
              have m3 := RR.out.frozen 3
              have m4 := RR.out.frozen 4
              have m5 := RR.out.frozen 5
              go_wp2_with fail
              have R3 : TokAt _ (w.heap.size + 1) c r 60 60 0 (.slice ao1 ws.length cap1) := RR.out.agg c r 60 60 0 (.slice ao1 ws.length cap1)
              have T3 := ((((((TurnAt.refl (w.heap.size + 1) (wr.setCell ⟨N1, 3, none⟩ (.int .i64 60))).setCell 0 (.int .i64 c)).setCell 1 (.int .i64 r)).setCell 2 (.int .i64 60)).setCell 3 (.int .i64 60)).setCell 4 (.int .i64 0)).setCell 5 (.slice ao1 ws.length cap1)
              have V3 := own_tok LL.out RR.out T3
              have S3 := sl_turn SS.out RR.out T3
              have B3 := BB.out.trans (T3.below (by omega))
              clear T3
              generalize (((((((wr.setCell ⟨N1, 3, none⟩ (.int .i64 60)).setCell ⟨w.heap.size + 1, 0, none⟩ (.int .i64 c)).setCell ⟨w.heap.size + 1, 1, none⟩ (.int .i64 r)).setCell ⟨w.heap.size + 1, 2, none⟩ (.int .i64 60)).setCell ⟨w.heap.size + 1, 3, none⟩ (.int .i64 60)).setCell ⟨w.heap.size + 1, 4, none⟩ (.int .i64 0)).setCell ⟨w.heap.size + 1, 5, none⟩ (.slice ao1 ws.length cap1)) = W3 at *
              obtain ⟨q0, q1, q2, q3, q4, q5⟩ := R3.cells
              refine bodyPost_ret (v := .tuple #[.agg #[.int .i64 c, .int .i64 r, .int .i64 60, .int .i64 60, .int .i64 0, .slice ao1 ws.length cap1], uI]) (by simp [results, Try.results21, go_sem, q0, q1, q2, q3, q4, q5]) rfl ?_
              exact ⟨_, _, by rw [EQ.out, EA.out], V3, by rw [EL.out]; exact S3, B3⟩
            · have EA : Hid (A2 = a) := by have h1 := hA2.out; show _ = _; rw [h1, if_neg (by unfold numF; simp [hb0])]
              subst ha
              obtain ⟨x0, x1, x2, x3, x4, x5⟩ := OO.out.cells
              obtain ⟨y0, y1, y2, y3, y4, y5⟩ := RR.out.cells
              have m0 := RR.out.frozen 0
              have m1 := RR.out.frozen 1
              have m2 := RR.out.frozen 2
              have m3 := RR.out.frozen 3
              have m4 := RR.out.frozen 4
              have m5 := RR.out.frozen 5
              go_wp2_with fail
              have R3 : TokAt _ (w.heap.size + 1) c r 60 a b (.slice ao1 ws.length cap1) := RR.out.agg c r 60 a b (.slice ao1 ws.length cap1)
              have T3 := ((((((TurnAt.refl (w.heap.size + 1) wr).setCell 0 (.int .i64 c)).setCell 1 (.int .i64 r)).setCell 2 (.int .i64 60)).setCell 3 (.int .i64 a)).setCell 4 (.int .i64 b)).setCell 5 (.slice ao1 ws.length cap1)
              have V3 := own_tok LL.out RR.out T3
              have S3 := sl_turn SS.out RR.out T3
              have B3 := BB.out.trans (T3.below (by omega))
              clear T3
              generalize ((((((wr.setCell ⟨w.heap.size + 1, 0, none⟩ (.int .i64 c)).setCell ⟨w.heap.size + 1, 1, none⟩ (.int .i64 r)).setCell ⟨w.heap.size + 1, 2, none⟩ (.int .i64 60)).setCell ⟨w.heap.size + 1, 3, none⟩ (.int .i64 a)).setCell ⟨w.heap.size + 1, 4, none⟩ (.int .i64 b)).setCell ⟨w.heap.size + 1, 5, none⟩ (.slice ao1 ws.length cap1)) = W3 at *
              obtain ⟨q0, q1, q2, q3, q4, q5⟩ := R3.cells
              refine bodyPost_ret (v := .tuple #[.agg #[.int .i64 c, .int .i64 r, .int .i64 60, .int .i64 a, .int .i64 b, .slice ao1 ws.length cap1], uI]) (by simp [results, Try.results21, go_sem, q0, q1, q2, q3, q4, q5]) rfl ?_
              exact ⟨_, _, by rw [EQ.out, EA.out], V3, by rw [EL.out]; exact S3, B3⟩
          · have EA : Hid (A2 = a) := by have h1 := hA2.out; show _ = _; rw [h1, if_neg (by unfold numF; simp [ha])]
            obtain ⟨x0, x1, x2, x3, x4, x5⟩ := OO.out.cells
            obtain ⟨y0, y1, y2, y3, y4, y5⟩ := RR.out.cells
            have m0 := RR.out.frozen 0
            have m1 := RR.out.frozen 1
            have m2 := RR.out.frozen 2
            have m3 := RR.out.frozen 3
            have m4 := RR.out.frozen 4
            have m5 := RR.out.frozen 5
            go_wp2_with fail
            have R3 : TokAt _ (w.heap.size + 1) c r 60 a b (.slice ao1 ws.length cap1) := RR.out.agg c r 60 a b (.slice ao1 ws.length cap1)
            have T3 := ((((((TurnAt.refl (w.heap.size + 1) wr).setCell 0 (.int .i64 c)).setCell 1 (.int .i64 r)).setCell 2 (.int .i64 60)).setCell 3 (.int .i64 a)).setCell 4 (.int .i64 b)).setCell 5 (.slice ao1 ws.length cap1)
            have V3 := own_tok LL.out RR.out T3
            have S3 := sl_turn SS.out RR.out T3
            have B3 := BB.out.trans (T3.below (by omega))
            clear T3
            generalize ((((((wr.setCell ⟨w.heap.size + 1, 0, none⟩ (.int .i64 c)).setCell ⟨w.heap.size + 1, 1, none⟩ (.int .i64 r)).setCell ⟨w.heap.size + 1, 2, none⟩ (.int .i64 60)).setCell ⟨w.heap.size + 1, 3, none⟩ (.int .i64 a)).setCell ⟨w.heap.size + 1, 4, none⟩ (.int .i64 b)).setCell ⟨w.heap.size + 1, 5, none⟩ (.slice ao1 ws.length cap1)) = W3 at *
            obtain ⟨q0, q1, q2, q3, q4, q5⟩ := R3.cells
            refine bodyPost_ret (v := .tuple #[.agg #[.int .i64 c, .int .i64 r, .int .i64 60, .int .i64 a, .int .i64 b, .slice ao1 ws.length cap1], uI]) (by simp [results, Try.results21, go_sem, q0, q1, q2, q3, q4, q5]) rfl ?_
            exact ⟨_, _, by rw [EQ.out, EA.out], V3, by rw [EL.out]; exact S3, B3⟩
        · have d2 : Qk < 60 := by omega
          by_cases c3 : 60 < t.size
          · have d3 : decide ((t.size : Int) ≤ 60) = false := by simp; omega
            have HL : Hid (numGo f lv q 0 tx = L) := nSt_stop HST.out (fun _ h => by have := HTX.out; rw [← this] at h; omega)
            have HQ : Hid (Qk = q + (L.length : Int)) := by rw [HST.out.1]; exact HQk.out
            have RR : Hid (TokAt wr (w.heap.size + 1) 0 0 0 0 0 (.slice none 0 0)) := RR.out.stays BW.out (by omega)
            have AA : Hid (TokAt wr w.heap.size c r q a b (.slice ao0 ws.length cap0)) := AA.out.stays BW.out (by omega)
            have LL : Hid (OwnI wr w.heap.size (.slice ao1 ws.length cap1) ws) := LL.out.stays BW.out VL.out
            have BB : Hid (Below w.heap.size w wr) := BB.out.trans (BW.out.mono (by omega))
            have SS : Hid (SlI wr w.heap.size uI L) := SX.out.down (by omega)
            obtain ⟨a0, a1, a2, a3, a4, a5⟩ := AA.out.cells
            clear a0 a1 a5
            have EL : Hid (L2 = L) := by have h1 := hL2.out; have h2 := HL.out; show _ = _; rw [h1, h2]
            have EQ : Hid (Q2 = Qk) := by have h1 := hQ2.out; have h2 := HQ.out; have h3 := EL.out; show _ = _; rw [h1, h3, h2]
            by_cases ha : a = q
            · by_cases hb0 : b = 0
              · have EA : Hid (A2 = Qk) := by have h1 := hA2.out; have h2 := EQ.out; show _ = _; rw [h1, if_pos (show numF a q b = true from decide_eq_true ⟨ha, hb0⟩), h2]
                subst ha
                subst hb0
                have n3 := OO.out.frozen 3
                obtain ⟨g0, g1, g2, g3, g4, g5⟩ := OO.out.cells
                have HT := (TurnAt.refl N1 wr).setCell 3 (.int .i64 Qk)
                have LL : Hid (OwnI (wr.setCell ⟨N1, 3, none⟩ (.int .i64 Qk)) w.heap.size (.slice ao1 ws.length cap1) ws) := own_tok LL.out OO.out HT
                have SS : Hid (SlI (wr.setCell ⟨N1, 3, none⟩ (.int .i64 Qk)) w.heap.size uI L) := sl_turn SS.out OO.out HT
                have RR : Hid (TokAt (wr.setCell ⟨N1, 3, none⟩ (.int .i64 Qk)) (w.heap.size + 1) 0 0 0 0 0 (.slice none 0 0)) := RR.out.turn HT (by omega)
                have BB : Hid (Below w.heap.size w (wr.setCell ⟨N1, 3, none⟩ (.int .i64 Qk))) := BB.out.trans (HT.below (by omega))
                have OO : Hid (TokAt (wr.setCell ⟨N1, 3, none⟩ (.int .i64 Qk)) N1 c r Qk Qk 0 (.slice ao1 ws.length cap1)) := OO.out.set3 Qk
                clear HT
                obtain ⟨x0, x1, x2, x3, x4, x5⟩ := OO.out.cells
                obtain ⟨y0, y1, y2, y3, y4, y5⟩ := RR.out.cells
                have m0 := RR.out.frozen 0
                have m1 := RR.out.frozen 1
                have m2 := RR.out.frozen 2
                have m3 := RR.out.frozen 3
                have m4 := RR.out.frozen 4
                have m5 := RR.out.frozen 5
                go_wp2_with fail
                have R3 : TokAt _ (w.heap.size + 1) c r Qk Qk 0 (.slice ao1 ws.length cap1) := RR.out.agg c r Qk Qk 0 (.slice ao1 ws.length cap1)
                have T3 := ((((((TurnAt.refl (w.heap.size + 1) (wr.setCell ⟨N1, 3, none⟩ (.int .i64 Qk))).setCell 0 (.int .i64 c)).setCell 1 (.int .i64 r)).setCell 2 (.int .i64 Qk)).setCell 3 (.int .i64 Qk)).setCell 4 (.int .i64 0)).setCell 5 (.slice ao1 ws.length cap1)
                have V3 := own_tok LL.out RR.out T3
                have S3 := sl_turn SS.out RR.out T3
                have B3 := BB.out.trans (T3.below (by omega))
                clear T3
                generalize (((((((wr.setCell ⟨N1, 3, none⟩ (.int .i64 Qk)).setCell ⟨w.heap.size + 1, 0, none⟩ (.int .i64 c)).setCell ⟨w.heap.size + 1, 1, none⟩ (.int .i64 r)).setCell ⟨w.heap.size + 1, 2, none⟩ (.int .i64 Qk)).setCell ⟨w.heap.size + 1, 3, none⟩ (.int .i64 Qk)).setCell ⟨w.heap.size + 1, 4, none⟩ (.int .i64 0)).setCell ⟨w.heap.size + 1, 5, none⟩ (.slice ao1 ws.length cap1)) = W3 at *
                obtain ⟨q0, q1, q2, q3, q4, q5⟩ := R3.cells
                refine bodyPost_ret (v := .tuple #[.agg #[.int .i64 c, .int .i64 r, .int .i64 Qk, .int .i64 Qk, .int .i64 0, .slice ao1 ws.length cap1], uI]) (by simp [results, Try.results21, go_sem, q0, q1, q2, q3, q4, q5]) rfl ?_
                exact ⟨_, _, by rw [EQ.out, EA.out], V3, by rw [EL.out]; exact S3, B3⟩
              · have EA : Hid (A2 = a) := by have h1 := hA2.out; show _ = _; rw [h1, if_neg (by unfold numF; simp [hb0])]
                subst ha
                obtain ⟨x0, x1, x2, x3, x4, x5⟩ := OO.out.cells
                obtain ⟨y0, y1, y2, y3, y4, y5⟩ := RR.out.cells
                have m0 := RR.out.frozen 0
                have m1 := RR.out.frozen 1
                have m2 := RR.out.frozen 2
                have m3 := RR.out.frozen 3
                have m4 := RR.out.frozen 4
                have m5 := RR.out.frozen 5
                go_wp2_with fail
                have R3 : TokAt _ (w.heap.size + 1) c r Qk a b (.slice ao1 ws.length cap1) := RR.out.agg c r Qk a b (.slice ao1 ws.length cap1)
                have T3 := ((((((TurnAt.refl (w.heap.size + 1) wr).setCell 0 (.int .i64 c)).setCell 1 (.int .i64 r)).setCell 2 (.int .i64 Qk)).setCell 3 (.int .i64 a)).setCell 4 (.int .i64 b)).setCell 5 (.slice ao1 ws.length cap1)
                have V3 := own_tok LL.out RR.out T3
                have S3 := sl_turn SS.out RR.out T3
                have B3 := BB.out.trans (T3.below (by omega))
                clear T3
                generalize ((((((wr.setCell ⟨w.heap.size + 1, 0, none⟩ (.int .i64 c)).setCell ⟨w.heap.size + 1, 1, none⟩ (.int .i64 r)).setCell ⟨w.heap.size + 1, 2, none⟩ (.int .i64 Qk)).setCell ⟨w.heap.size + 1, 3, none⟩ (.int .i64 a)).setCell ⟨w.heap.size + 1, 4, none⟩ (.int .i64 b)).setCell ⟨w.heap.size + 1, 5, none⟩ (.slice ao1 ws.length cap1)) = W3 at *
                obtain ⟨q0, q1, q2, q3, q4, q5⟩ := R3.cells
                refine bodyPost_ret (v := .tuple #[.agg #[.int .i64 c, .int .i64 r, .int .i64 Qk, .int .i64 a, .int .i64 b, .slice ao1 ws.length cap1], uI]) (by simp [results, Try.results21, go_sem, q0, q1, q2, q3, q4, q5]) rfl ?_
                exact ⟨_, _, by rw [EQ.out, EA.out], V3, by rw [EL.out]; exact S3, B3⟩
            · have EA : Hid (A2 = a) := by have h1 := hA2.out; show _ = _; rw [h1, if_neg (by unfold numF; simp [ha])]
              obtain ⟨x0, x1, x2, x3, x4, x5⟩ := OO.out.cells
              obtain ⟨y0, y1, y2, y3, y4, y5⟩ := RR.out.cells
              have m0 := RR.out.frozen 0
              have m1 := RR.out.frozen 1
              have m2 := RR.out.frozen 2
              have m3 := RR.out.frozen 3
              have m4 := RR.out.frozen 4
              have m5 := RR.out.frozen 5
              go_wp2_with fail
              have R3 : TokAt _ (w.heap.size + 1) c r Qk a b (.slice ao1 ws.length cap1) := RR.out.agg c r Qk a b (.slice ao1 ws.length cap1)
              have T3 := ((((((TurnAt.refl (w.heap.size + 1) wr).setCell 0 (.int .i64 c)).setCell 1 (.int .i64 r)).setCell 2 (.int .i64 Qk)).setCell 3 (.int .i64 a)).setCell 4 (.int .i64 b)).setCell 5 (.slice ao1 ws.length cap1)
              have V3 := own_tok LL.out RR.out T3
              have S3 := sl_turn SS.out RR.out T3
              have B3 := BB.out.trans (T3.below (by omega))
              clear T3
              generalize ((((((wr.setCell ⟨w.heap.size + 1, 0, none⟩ (.int .i64 c)).setCell ⟨w.heap.size + 1, 1, none⟩ (.int .i64 r)).setCell ⟨w.heap.size + 1, 2, none⟩ (.int .i64 Qk)).setCell ⟨w.heap.size + 1, 3, none⟩ (.int .i64 a)).setCell ⟨w.heap.size + 1, 4, none⟩ (.int .i64 b)).setCell ⟨w.heap.size + 1, 5, none⟩ (.slice ao1 ws.length cap1)) = W3 at *
              obtain ⟨q0, q1, q2, q3, q4, q5⟩ := R3.cells
              refine bodyPost_ret (v := .tuple #[.agg #[.int .i64 c, .int .i64 r, .int .i64 Qk, .int .i64 a, .int .i64 b, .slice ao1 ws.length cap1], uI]) (by simp [results, Try.results21, go_sem, q0, q1, q2, q3, q4, q5]) rfl ?_
              exact ⟨_, _, by rw [EQ.out, EA.out], V3, by rw [EL.out]; exact S3, B3⟩
          · have d3 : decide ((t.size : Int) ≤ 60) = true := by simp; omega
            have HSN : Hid (NSt f lv q tx (k + 1) (L ++ [(Qk + 1, f, lvP lv k, t)])) := by
              have h := nSt_next HST.out hltk ⟨by omega, by have := HQk.out; omega, by rw [← HTX.out]; omega⟩
              rw [← HQk.out, ← HTX.out] at h
              exact h
            have HQ2 : Hid (Qk + 1 = q + ((k + 1 : Nat) : Int)) := by have := HQk.out; show _ = _; omega
            have hw : IntKind.i64.wrap (Qk + 1) = Qk + 1 := by rw [IntKind.wrap_i64]; omega
            have n2 := OO.out.frozen 2
            have HT := (TurnAt.refl N1 wr).setCell 2 (.int .i64 (Qk + 1))
            have OO2 : Hid (TokAt (wr.setCell ⟨N1, 2, none⟩ (.int .i64 (Qk + 1))) N1 c r (Qk + 1) a b (.slice ao1 ws.length cap1)) := OO.out.set2 _
            have SX2 : Hid (SlI (wr.setCell ⟨N1, 2, none⟩ (.int .i64 (Qk + 1))) N1 uI L) := sl_turn SX.out OO.out HT
            have BW2 : Hid (Below N1 w3 (wr.setCell ⟨N1, 2, none⟩ (.int .i64 (Qk + 1)))) := BW.out.trans (HT.below (by omega))
            have hct2 : (wr.setCell ⟨N1, 2, none⟩ (.int .i64 (Qk + 1))).cell? ⟨bt, ot + k, none⟩ = some (.string t) := (by
              obtain ⟨bt', ot', e', _, h'⟩ := (htx.out.stays (BB.out.trans (BW2.out.mono (by omega)))) k hltk
              simp at e'
              obtain ⟨rfl, rfl⟩ := e'
              rw [HTX.out]
              exact h')
            clear HT
            go_wp2_with fail
            generalize wr.setCell ⟨N1, 2, none⟩ (.int .i64 (Qk + 1)) = W8 at *
            obtain ⟨p0, p1, p2, p3, p4, p5⟩ := OO2.out.cells
            have zW : N1 ≤ W8.heap.size := Nat.le_trans (by omega) BW2.out.size
            have gOl : N1 < W8.heap.size := OO2.out.lt
            have hb8 : bt < W8.heap.size := (by
              obtain ⟨bt', ot', e', h', _⟩ := (htx.out.stays (BB.out.trans (BW2.out.mono (by omega)))) k hltk
              simp at e'
              rw [e'.1]
              exact h')
            have hctA : (W8.alloc (.cells #[.int .i64 0, .int .i64 0, .int .i64 0, .string ⟨#[]⟩] 43)).cell? ⟨bt, ot + k, none⟩ = some (.string t) := (((Below.refl W8.heap.size W8).alloc (Nat.le_refl _) _).cell (p := ⟨bt, ot + k, none⟩) hb8).trans hct2
            have p2A : (W8.alloc (.cells #[.int .i64 0, .int .i64 0, .int .i64 0, .string ⟨#[]⟩] 43)).cell? ⟨N1, 2, none⟩ = some (.int .i64 (Qk + 1)) := (((Below.refl W8.heap.size W8).alloc (Nat.le_refl _) _).cell (p := ⟨N1, 2, none⟩) gOl).trans p2
            clear p0 p1 p3 p4 p5 n2 o2 hct OO SX hw
            go_region
            have E9 : Below W8.heap.size W8 (W8.alloc (.cells #[.int .i64 (Qk + 1), .int .i64 f, .int .i64 1, .string t] 43)).drew := ((Below.refl _ _).alloc (Nat.le_refl _) _).trans (Below.refl _ _).drew
            have IT9 : Hid (ItAt (W8.alloc (.cells #[.int .i64 (Qk + 1), .int .i64 f, .int .i64 1, .string t] 43)).drew W8.heap.size (Qk + 1) f 1 t) := heap_alloc_new W8 _
            have SXL : Hid (∀ j, uI.ownBlock = some j → j < W8.heap.size) := fun j hj => (SX2.out.lt j hj).2
            have OO9 : Hid (TokAt (W8.alloc (.cells #[.int .i64 (Qk + 1), .int .i64 f, .int .i64 1, .string t] 43)).drew N1 c r (Qk + 1) a b (.slice ao1 ws.length cap1)) := OO2.out.stays E9 gOl
            have SX9 : Hid (SlI (W8.alloc (.cells #[.int .i64 (Qk + 1), .int .i64 f, .int .i64 1, .string t] 43)).drew N1 uI L) := SX2.out.below E9
            have BW9 : Hid (Below N1 w3 (W8.alloc (.cells #[.int .i64 (Qk + 1), .int .i64 f, .int .i64 1, .string t] 43)).drew) := BW2.out.trans (E9.mono zW)
            clear E9 OO2 SX2 BW2 hct2 hctA p2 p2A hb8
            generalize (W8.alloc (.cells #[.int .i64 (Qk + 1), .int .i64 f, .int .i64 1, .string t] 43)).drew = W9 at *
            generalize W8.heap.size = gM at *
            have HLV : Hid (IntsAt W9 al lv) := hlv.out.stays (BB.out.trans (BW9.out.mono (by omega)))
            obtain ⟨m0, m1, m2, m3⟩ := IT9.out.cells
            have z9 : N1 ≤ W9.heap.size := Nat.le_trans (by omega) BW9.out.size
            by_cases e1 : k < lv.length
            · obtain ⟨bl, ol, hal, _, hcl⟩ := HLV.out k e1
              obtain ⟨x, hx⟩ : ∃ x, x = lv[k] := ⟨_, rfl⟩
              rw [← hx] at hcl
              have HV : Hid (lv[k]? = some x) := by show _ = _; rw [hx]; exact List.getElem?_eq_getElem e1
              have j1 : (k : Int) < (lv.length : Int) := by omega
              clear hx
              subst hal
              by_cases e2 : x = 2
              · subst e2
                rw [show lvP lv k = 2 by unfold lvP; rw [if_pos HV.out]] at HSN
                have n2 : W9.frozen? ⟨gM, 2, none⟩ = false := frozen_of_row W9 gM 2 _ 43 IT9.out
                have HT := (TurnAt.refl gM W9).setCell 2 (.int .i64 2)
                have IT0 : Hid (ItAt (W9.setCell ⟨gM, 2, none⟩ (.int .i64 2)) gM (Qk + 1) f 2 t) := IT9.out.set2 2
                have OO0 : Hid (TokAt (W9.setCell ⟨gM, 2, none⟩ (.int .i64 2)) N1 c r (Qk + 1) a b (.slice ao1 ws.length cap1)) := OO9.out.turn HT (by omega)
                have SX0 : Hid (SlI (W9.setCell ⟨gM, 2, none⟩ (.int .i64 2)) N1 uI L) := SX9.out.keep fun j hj _ => HT.block j (by have := SXL.out j hj; omega)
                have BW0 : Hid (Below N1 w3 (W9.setCell ⟨gM, 2, none⟩ (.int .i64 2))) := BW9.out.trans (HT.below (by omega))
                have z0 : N1 ≤ (W9.setCell ⟨gM, 2, none⟩ (.int .i64 2)).heap.size := Nat.le_trans (by omega) BW0.out.size
                obtain ⟨k0, k1, k2, k3⟩ := IT0.out.cells
                clear HT
                go_wp2_with (at_builtin; refine wpList_pushIt rfl _ _ 38 rfl Try.underlying38 N1 uI L rfl SX0.out (Qk + 1, f, 2, t) (by show Value.slice (some ⟨W9.heap.size, 0, none⟩) 1 1 = _; simp) (by omega) z0 ?_; intro v6 w6 S6 G6 b6 _)
                have SX : Hid (SlI w6 N1 v6 (L ++ [(Qk + 1, f, 2, t)])) := S6
                have OO : Hid (TokAt w6 N1 c r (Qk + 1) a b (.slice ao1 ws.length cap1)) := (G6.block N1 OO0.out.lt (fun e => sl_tokne SX0.out OO0.out (by decide) e.symm)).trans OO0.out
                have BW : Hid (Below N1 w3 w6) := BW0.out.trans b6
                clear S6 G6 b6 OO0 SX0 BW0
                go_roundw
                case rel => exact ⟨k + 1, Qk + 1, L ++ [(Qk + 1, f, 2, t)], by omega, by omega, by go_num, ⟨by omega, by omega⟩, HQ2, HSN, OO, SX, BW⟩
                case measure => simp [intOf]; omega
              · rw [show lvP lv k = 1 by unfold lvP; rw [if_neg (by rw [HV.out]; simpa using e2)]] at HSN
                go_wp2_with (at_builtin; refine wpList_pushIt rfl _ _ 38 rfl Try.underlying38 N1 uI L rfl SX9.out (Qk + 1, f, 1, t) rfl (by omega) z9 ?_; intro v6 w6 S6 G6 b6 _)
                have SX : Hid (SlI w6 N1 v6 (L ++ [(Qk + 1, f, 1, t)])) := S6
                have OO : Hid (TokAt w6 N1 c r (Qk + 1) a b (.slice ao1 ws.length cap1)) := (G6.block N1 OO9.out.lt (fun e => sl_tokne SX9.out OO9.out (by decide) e.symm)).trans OO9.out
                have BW : Hid (Below N1 w3 w6) := BW9.out.trans b6
                clear S6 G6 b6 OO9 SX9 BW9
                go_roundw
                case rel => exact ⟨k + 1, Qk + 1, L ++ [(Qk + 1, f, 1, t)], by omega, by omega, by go_num, ⟨by omega, by omega⟩, HQ2, HSN, OO, SX, BW⟩
                case measure => simp [intOf]; omega
            · rw [show lvP lv k = 1 by unfold lvP; rw [if_neg (by rw [List.getElem?_eq_none (by omega)]; simp)]] at HSN
              have j1 : ¬ (k : Int) < (lv.length : Int) := by omega
              go_wp2_with (at_builtin; refine wpList_pushIt rfl _ _ 38 rfl Try.underlying38 N1 uI L rfl SX9.out (Qk + 1, f, 1, t) rfl (by omega) z9 ?_; intro v6 w6 S6 G6 b6 _)
              have SX : Hid (SlI w6 N1 v6 (L ++ [(Qk + 1, f, 1, t)])) := S6
              have OO : Hid (TokAt w6 N1 c r (Qk + 1) a b (.slice ao1 ws.length cap1)) := (G6.block N1 OO9.out.lt (fun e => sl_tokne SX9.out OO9.out (by decide) e.symm)).trans OO9.out
              have BW : Hid (Below N1 w3 w6) := BW9.out.trans b6
              clear S6 G6 b6 OO9 SX9 BW9
              go_roundw
              case rel => exact ⟨k + 1, Qk + 1, L ++ [(Qk + 1, f, 1, t)], by omega, by omega, by go_num, ⟨by omega, by omega⟩, HQ2, HSN, OO, SX, BW⟩
              case measure => simp [intOf]; omega
    · obtain rfl : k = tx.length := by omega
      have HL : Hid (numGo f lv q 0 tx = L) := nSt_stop HST.out (fun h => by omega)
      have HQ : Hid (Qk = q + (L.length : Int)) := by rw [HST.out.1]; exact HQk.out
      have RR : Hid (TokAt wr (w.heap.size + 1) 0 0 0 0 0 (.slice none 0 0)) := RR.out.stays BW.out (by omega)
      have AA : Hid (TokAt wr w.heap.size c r q a b (.slice ao0 ws.length cap0)) := AA.out.stays BW.out (by omega)
      have LL : Hid (OwnI wr w.heap.size (.slice ao1 ws.length cap1) ws) := LL.out.stays BW.out VL.out
      have BB : Hid (Below w.heap.size w wr) := BB.out.trans (BW.out.mono (by omega))
      have SS : Hid (SlI wr w.heap.size uI L) := SX.out.down (by omega)
      obtain ⟨a0, a1, a2, a3, a4, a5⟩ := AA.out.cells
      clear a0 a1 a5
      have EL : Hid (L2 = L) := by have h1 := hL2.out; have h2 := HL.out; show _ = _; rw [h1, h2]
      have EQ : Hid (Q2 = Qk) := by have h1 := hQ2.out; have h2 := HQ.out; have h3 := EL.out; show _ = _; rw [h1, h3, h2]
      by_cases ha : a = q
      · by_cases hb0 : b = 0
        · have EA : Hid (A2 = Qk) := by have h1 := hA2.out; have h2 := EQ.out; show _ = _; rw [h1, if_pos (show numF a q b = true from decide_eq_true ⟨ha, hb0⟩), h2]
          subst ha
          subst hb0
          have n3 := OO.out.frozen 3
          obtain ⟨g0, g1, g2, g3, g4, g5⟩ := OO.out.cells
          have HT := (TurnAt.refl N1 wr).setCell 3 (.int .i64 Qk)
          have LL : Hid (OwnI (wr.setCell ⟨N1, 3, none⟩ (.int .i64 Qk)) w.heap.size (.slice ao1 ws.length cap1) ws) := own_tok LL.out OO.out HT
          have SS : Hid (SlI (wr.setCell ⟨N1, 3, none⟩ (.int .i64 Qk)) w.heap.size uI L) := sl_turn SS.out OO.out HT
          have RR : Hid (TokAt (wr.setCell ⟨N1, 3, none⟩ (.int .i64 Qk)) (w.heap.size + 1) 0 0 0 0 0 (.slice none 0 0)) := RR.out.turn HT (by omega)
          have BB : Hid (Below w.heap.size w (wr.setCell ⟨N1, 3, none⟩ (.int .i64 Qk))) := BB.out.trans (HT.below (by omega))
          have OO : Hid (TokAt (wr.setCell ⟨N1, 3, none⟩ (.int .i64 Qk)) N1 c r Qk Qk 0 (.slice ao1 ws.length cap1)) := OO.out.set3 Qk
          clear HT
          obtain ⟨x0, x1, x2, x3, x4, x5⟩ := OO.out.cells
          obtain ⟨y0, y1, y2, y3, y4, y5⟩ := RR.out.cells
          have m0 := RR.out.frozen 0
          have m1 := RR.out.frozen 1
          have m2 := RR.out.frozen 2
          have m3 := RR.out.frozen 3
          have m4 := RR.out.frozen 4
          have m5 := RR.out.frozen 5
          go_wp2_with fail
          have R3 : TokAt _ (w.heap.size + 1) c r Qk Qk 0 (.slice ao1 ws.length cap1) := RR.out.agg c r Qk Qk 0 (.slice ao1 ws.length cap1)
          have T3 := ((((((TurnAt.refl (w.heap.size + 1) (wr.setCell ⟨N1, 3, none⟩ (.int .i64 Qk))).setCell 0 (.int .i64 c)).setCell 1 (.int .i64 r)).setCell 2 (.int .i64 Qk)).setCell 3 (.int .i64 Qk)).setCell 4 (.int .i64 0)).setCell 5 (.slice ao1 ws.length cap1)
          have V3 := own_tok LL.out RR.out T3
          have S3 := sl_turn SS.out RR.out T3
          have B3 := BB.out.trans (T3.below (by omega))
          clear T3
          generalize (((((((wr.setCell ⟨N1, 3, none⟩ (.int .i64 Qk)).setCell ⟨w.heap.size + 1, 0, none⟩ (.int .i64 c)).setCell ⟨w.heap.size + 1, 1, none⟩ (.int .i64 r)).setCell ⟨w.heap.size + 1, 2, none⟩ (.int .i64 Qk)).setCell ⟨w.heap.size + 1, 3, none⟩ (.int .i64 Qk)).setCell ⟨w.heap.size + 1, 4, none⟩ (.int .i64 0)).setCell ⟨w.heap.size + 1, 5, none⟩ (.slice ao1 ws.length cap1)) = W3 at *
          obtain ⟨q0, q1, q2, q3, q4, q5⟩ := R3.cells
          refine bodyPost_ret (v := .tuple #[.agg #[.int .i64 c, .int .i64 r, .int .i64 Qk, .int .i64 Qk, .int .i64 0, .slice ao1 ws.length cap1], uI]) (by simp [results, Try.results21, go_sem, q0, q1, q2, q3, q4, q5]) rfl ?_
          exact ⟨_, _, by rw [EQ.out, EA.out], V3, by rw [EL.out]; exact S3, B3⟩
        · have EA : Hid (A2 = a) := by have h1 := hA2.out; show _ = _; rw [h1, if_neg (by unfold numF; simp [hb0])]
          subst ha
          obtain ⟨x0, x1, x2, x3, x4, x5⟩ := OO.out.cells
          obtain ⟨y0, y1, y2, y3, y4, y5⟩ := RR.out.cells
          have m0 := RR.out.frozen 0
          have m1 := RR.out.frozen 1
          have m2 := RR.out.frozen 2
          have m3 := RR.out.frozen 3
          have m4 := RR.out.frozen 4
          have m5 := RR.out.frozen 5
          go_wp2_with fail
          have R3 : TokAt _ (w.heap.size + 1) c r Qk a b (.slice ao1 ws.length cap1) := RR.out.agg c r Qk a b (.slice ao1 ws.length cap1)
          have T3 := ((((((TurnAt.refl (w.heap.size + 1) wr).setCell 0 (.int .i64 c)).setCell 1 (.int .i64 r)).setCell 2 (.int .i64 Qk)).setCell 3 (.int .i64 a)).setCell 4 (.int .i64 b)).setCell 5 (.slice ao1 ws.length cap1)
          have V3 := own_tok LL.out RR.out T3
          have S3 := sl_turn SS.out RR.out T3
          have B3 := BB.out.trans (T3.below (by omega))
          clear T3
          generalize ((((((wr.setCell ⟨w.heap.size + 1, 0, none⟩ (.int .i64 c)).setCell ⟨w.heap.size + 1, 1, none⟩ (.int .i64 r)).setCell ⟨w.heap.size + 1, 2, none⟩ (.int .i64 Qk)).setCell ⟨w.heap.size + 1, 3, none⟩ (.int .i64 a)).setCell ⟨w.heap.size + 1, 4, none⟩ (.int .i64 b)).setCell ⟨w.heap.size + 1, 5, none⟩ (.slice ao1 ws.length cap1)) = W3 at *
          obtain ⟨q0, q1, q2, q3, q4, q5⟩ := R3.cells
          refine bodyPost_ret (v := .tuple #[.agg #[.int .i64 c, .int .i64 r, .int .i64 Qk, .int .i64 a, .int .i64 b, .slice ao1 ws.length cap1], uI]) (by simp [results, Try.results21, go_sem, q0, q1, q2, q3, q4, q5]) rfl ?_
          exact ⟨_, _, by rw [EQ.out, EA.out], V3, by rw [EL.out]; exact S3, B3⟩
      · have EA : Hid (A2 = a) := by have h1 := hA2.out; show _ = _; rw [h1, if_neg (by unfold numF; simp [ha])]
        obtain ⟨x0, x1, x2, x3, x4, x5⟩ := OO.out.cells
        obtain ⟨y0, y1, y2, y3, y4, y5⟩ := RR.out.cells
        have m0 := RR.out.frozen 0
        have m1 := RR.out.frozen 1
        have m2 := RR.out.frozen 2
        have m3 := RR.out.frozen 3
        have m4 := RR.out.frozen 4
        have m5 := RR.out.frozen 5
        go_wp2_with fail
        have R3 : TokAt _ (w.heap.size + 1) c r Qk a b (.slice ao1 ws.length cap1) := RR.out.agg c r Qk a b (.slice ao1 ws.length cap1)
        have T3 := ((((((TurnAt.refl (w.heap.size + 1) wr).setCell 0 (.int .i64 c)).setCell 1 (.int .i64 r)).setCell 2 (.int .i64 Qk)).setCell 3 (.int .i64 a)).setCell 4 (.int .i64 b)).setCell 5 (.slice ao1 ws.length cap1)
        have V3 := own_tok LL.out RR.out T3
        have S3 := sl_turn SS.out RR.out T3
        have B3 := BB.out.trans (T3.below (by omega))
        clear T3
        generalize ((((((wr.setCell ⟨w.heap.size + 1, 0, none⟩ (.int .i64 c)).setCell ⟨w.heap.size + 1, 1, none⟩ (.int .i64 r)).setCell ⟨w.heap.size + 1, 2, none⟩ (.int .i64 Qk)).setCell ⟨w.heap.size + 1, 3, none⟩ (.int .i64 a)).setCell ⟨w.heap.size + 1, 4, none⟩ (.int .i64 b)).setCell ⟨w.heap.size + 1, 5, none⟩ (.slice ao1 ws.length cap1)) = W3 at *
        obtain ⟨q0, q1, q2, q3, q4, q5⟩ := R3.cells
        refine bodyPost_ret (v := .tuple #[.agg #[.int .i64 c, .int .i64 r, .int .i64 Qk, .int .i64 a, .int .i64 b, .slice ao1 ws.length cap1], uI]) (by simp [results, Try.results21, go_sem, q0, q1, q2, q3, q4, q5]) rfl ?_
        exact ⟨_, _, by rw [EQ.out, EA.out], V3, by rw [EL.out]; exact S3, B3⟩
end Go.Proofs.Ytnhnpneedcjcfaa
