/- Joined texts: CNw CNs CNn CHr CMh CDl1. -/
import Derived.Test.YthdjkkiegecgnaaSq12
import Derived.Test.YthdjkkiegecgnaaSq11
import Derived.Test.YthdjkkiegecgnaaSq10
import Derived.Deep.DeepCutAuto
import Derived.Test.YthdjkkiegecgnaaSq13
import Derived.BigQuiet
import Derived.Test.YthdjkkiegecgnaaSq5
/- The walk over the program's Number. -/
namespace Go.Proofs.Ythdjkkiegecgnaa
open Go.RowKit Pl
set_option linter.unusedVariables false

theorem sl_turn {w w' : World} {B g : Nat} {v : Value} {ts : List It} {c r q a b : Int} {u : Value} (h : SlI w B v ts) (hu : TokAt w g c r q a b u) (ht : TurnAt g w w') : SlI w' B v ts :=
  h.keep fun k hk _ => ht.block k (fun e => sl_tokne h hu (by decide) (e ▸ hk))
theorem TokAt.set2 {w : World} {g : Nat} {c r q a b : Int} {v : Value} (h : TokAt w g c r q a b v) (x : Int) : TokAt (w.setCell ⟨g, 2, none⟩ (.int .i64 x)) g c r x a b v := by
  have := heap_setCell_same w g 2 _ 30 (.int .i64 x) h
  unfold TokAt; rw [this]; rfl

set_option maxRecDepth 100000 in
set_option maxHeartbeats 8000000 in
theorem num_0 (c r q a b f : Int) (u0 : Value) (ws : List Int) (B0 : Nat) (al : Option Addr) (cl : Nat) (lv : List Int) (at_ : Option Addr) (ct : Nat) (tx : List ByteArray) (w : World) (h : Hid (OwnI w B0 u0 ws)) (hl : ws.length ≤ 1048576) (hlv : Hid (IntsAt w al lv)) (hll : lv.length ≤ 1048576) (htx : Hid (TextsAt w at_ tx)) (hlt : tx.length ≤ 1048576) (ht : Hid (tkB c r q a b ws = false)) :
    Calls Try.prog 130 #[.agg #[.int .i64 c, .int .i64 r, .int .i64 q, .int .i64 a, .int .i64 b, u0], .int .i64 f, .slice al lv.length cl, .slice at_ tx.length ct] w fun e w' => ∃ v vi, e = .returned (.tuple #[.agg #[.int .i64 c, .int .i64 r, .int .i64 q, .int .i64 a, .int .i64 b, v], vi]) ∧ OwnI w' w.heap.size v ws ∧ SlI w' w.heap.size vi [] ∧ Below w.heap.size w w' := by
  have hn1 : (w.alloc (.cells #[.int .i64 c, .int .i64 r, .int .i64 q, .int .i64 a, .int .i64 b, u0] 30)).heap.size = w.heap.size + 1 := by simp
  have HA : Hid (TokAt ((w.alloc (.cells #[.int .i64 c, .int .i64 r, .int .i64 q, .int .i64 a, .int .i64 b, u0] 30)).alloc (.cells #[.int .i64 0, .int .i64 0, .int .i64 0, .int .i64 0, .int .i64 0, .slice none 0 0] 30)) w.heap.size c r q a b u0) := by
    have h := heap_alloc_new w (.cells #[.int .i64 c, .int .i64 r, .int .i64 q, .int .i64 a, .int .i64 b, u0] 30)
    exact TokAt.stays (B := w.heap.size + 1) h ((Below.refl _ _).alloc (by rw [hn1]; exact Nat.le_refl _) _) (by omega)
  have HR : Hid (TokAt ((w.alloc (.cells #[.int .i64 c, .int .i64 r, .int .i64 q, .int .i64 a, .int .i64 b, u0] 30)).alloc (.cells #[.int .i64 0, .int .i64 0, .int .i64 0, .int .i64 0, .int .i64 0, .slice none 0 0] 30)) (w.heap.size + 1) 0 0 0 0 0 (.slice none 0 0)) := by
    have h := heap_alloc_new (w.alloc (.cells #[.int .i64 c, .int .i64 r, .int .i64 q, .int .i64 a, .int .i64 b, u0] 30)) (.cells #[.int .i64 0, .int .i64 0, .int .i64 0, .int .i64 0, .int .i64 0, .slice none 0 0] 30)
    rw [hn1] at h
    exact h
  have HB : Hid (Below w.heap.size w ((w.alloc (.cells #[.int .i64 c, .int .i64 r, .int .i64 q, .int .i64 a, .int .i64 b, u0] 30)).alloc (.cells #[.int .i64 0, .int .i64 0, .int .i64 0, .int .i64 0, .int .i64 0, .slice none 0 0] 30))) := ((Below.refl _ _).alloc (Nat.le_refl _) _).alloc (by simp) _
  have HU : Hid (OwnI ((w.alloc (.cells #[.int .i64 c, .int .i64 r, .int .i64 q, .int .i64 a, .int .i64 b, u0] 30)).alloc (.cells #[.int .i64 0, .int .i64 0, .int .i64 0, .int .i64 0, .int .i64 0, .slice none 0 0] 30)) B0 u0 ws) := (h.out.alloc _).alloc _
  clear h hn1
  go_enter Try.func130, Try.ntmps130
  go_wp2_with fail
  generalize ((w.alloc (.cells #[.int .i64 c, .int .i64 r, .int .i64 q, .int .i64 a, .int .i64 b, u0] 30)).alloc (.cells #[.int .i64 0, .int .i64 0, .int .i64 0, .int .i64 0, .int .i64 0, .slice none 0 0] 30)) = W at *
  have hWs : w.heap.size ≤ W.heap.size := HB.out.size
  have hWr : w.heap.size + 1 < W.heap.size := HR.out.lt
  refine (copyTok c r q a b u0 ws B0 W HU hl).mono ?_
  rintro e w1 ⟨v1, rfl, hv1, hb1⟩
  obtain ⟨ao1, cap1, hf1⟩ := hv1.form
  subst hf1
  have hWm := hb1.size
  have hm1 : (w1.alloc (.cells #[] 38)).heap.size = w1.heap.size + 1 := by simp
  have hm2 : (w1.alloc (.cells #[.int .i64 c, .int .i64 r, .int .i64 q, .int .i64 a, .int .i64 b, .slice ao1 ws.length cap1] 30)).heap.size = w1.heap.size + 1 := by simp
  have hm3 : ((w1.alloc (.cells #[] 38)).alloc (.cells #[.int .i64 c, .int .i64 r, .int .i64 q, .int .i64 a, .int .i64 b, .slice ao1 ws.length cap1] 30)).heap.size = w1.heap.size + 2 := by simp
  have E1 : Below W.heap.size W ((w1.alloc (.cells #[] 38)).alloc (.cells #[.int .i64 c, .int .i64 r, .int .i64 q, .int .i64 a, .int .i64 b, .slice ao1 ws.length cap1] 30)) := (hb1.alloc hb1.size _).alloc (by simp; omega) _
  have O1 : Hid (TokAt ((w1.alloc (.cells #[] 38)).alloc (.cells #[.int .i64 c, .int .i64 r, .int .i64 q, .int .i64 a, .int .i64 b, .slice ao1 ws.length cap1] 30)) (w1.heap.size + 1) c r q a b (.slice ao1 ws.length cap1)) := by
    have h := heap_alloc_new (w1.alloc (.cells #[] 38)) (.cells #[.int .i64 c, .int .i64 r, .int .i64 q, .int .i64 a, .int .i64 b, .slice ao1 ws.length cap1] 30); rw [hm1] at h; exact h
  have I1 : Hid (SlI ((w1.alloc (.cells #[] 38)).alloc (.cells #[.int .i64 c, .int .i64 r, .int .i64 q, .int .i64 a, .int .i64 b, .slice ao1 ws.length cap1] 30)) w1.heap.size (.slice (some ⟨w1.heap.size, 0, none⟩) 0 0) []) := by
    exact (SlI.made w1 w1.heap.size (Nat.le_refl _)).below ((Below.refl _ _).alloc (Nat.le_refl _) _)
  have A1 : Hid (TokAt ((w1.alloc (.cells #[] 38)).alloc (.cells #[.int .i64 c, .int .i64 r, .int .i64 q, .int .i64 a, .int .i64 b, .slice ao1 ws.length cap1] 30)) w.heap.size c r q a b u0) := HA.out.stays E1 HA.out.lt
  have R1 : Hid (TokAt ((w1.alloc (.cells #[] 38)).alloc (.cells #[.int .i64 c, .int .i64 r, .int .i64 q, .int .i64 a, .int .i64 b, .slice ao1 ws.length cap1] 30)) (w.heap.size + 1) 0 0 0 0 0 (.slice none 0 0)) := HR.out.stays E1 HR.out.lt
  have VL : Hid (∀ k, (Value.slice ao1 ws.length cap1).ownBlock = some k → k < w1.heap.size) := fun k hk => (hv1.lt k hk).2
  have V1 : Hid (OwnI ((w1.alloc (.cells #[] 38)).alloc (.cells #[.int .i64 c, .int .i64 r, .int .i64 q, .int .i64 a, .int .i64 b, .slice ao1 ws.length cap1] 30)) w.heap.size (.slice ao1 ws.length cap1) ws) := ((hv1.alloc _).alloc _).down hWs
  have B1 : Hid (Below w.heap.size w ((w1.alloc (.cells #[] 38)).alloc (.cells #[.int .i64 c, .int .i64 r, .int .i64 q, .int .i64 a, .int .i64 b, .slice ao1 ws.length cap1] 30))) := HB.out.trans (E1.mono hWs)
  have U1 : Hid (OwnI ((w1.alloc (.cells #[] 38)).alloc (.cells #[.int .i64 c, .int .i64 r, .int .i64 q, .int .i64 a, .int .i64 b, .slice ao1 ws.length cap1] 30)) B0 u0 ws) := HU.out.stays E1 (fun k hk => (HU.out.lt k hk).2)
  have hgO : w.heap.size + 1 < w1.heap.size := Nat.lt_of_lt_of_le hWr hWm
  obtain ⟨s0, s1, s2, s3, s4, s5⟩ := A1.out.cells
  clear hv1 hb1 E1 HA HR HU HB hWs hWr hWm hm1 hm2
  go_wp2_with fail
  generalize ((w1.alloc (.cells #[] 38)).alloc (.cells #[.int .i64 c, .int .i64 r, .int .i64 q, .int .i64 a, .int .i64 b, .slice ao1 ws.length cap1] 30)) = W1 at *
  generalize w1.heap.size = N1 at *
  obtain ⟨ao0, cap0, hu0, hx0⟩ := U1.out.ints
  have X1 : Hid (IntsAt W1 ao0 ws) := hx0
  subst hu0
  refine (tokenOk_any c r q a b ao0 cap0 ws _ X1 hl).mono ?_
  rintro e w2 ⟨rfl, hb2⟩
  have OO : Hid (TokAt w2 (N1 + 1) c r q a b (.slice ao1 ws.length cap1)) := O1.out.stays hb2 O1.out.lt
  have AA : Hid (TokAt w2 w.heap.size c r q a b (.slice ao0 ws.length cap0)) := A1.out.stays hb2 A1.out.lt
  have RR : Hid (TokAt w2 (w.heap.size + 1) 0 0 0 0 0 (.slice none 0 0)) := R1.out.stays hb2 R1.out.lt
  have LL : Hid (OwnI w2 w.heap.size (.slice ao1 ws.length cap1) ws) := own_later' V1.out hb2
  have SI : Hid (SlI w2 N1 (.slice (some ⟨N1, 0, none⟩) 0 0) []) := I1.out.below hb2
  have BB : Hid (Below w.heap.size w w2) := B1.out.trans (hb2.mono B1.out.size)
  have z2 : N1 + 2 ≤ w2.heap.size := by rw [← hm3]; exact hb2.size
  clear hb2 O1 R1 V1 B1 A1 U1 X1 hx0 s0 s1 s2 s3 s4 s5 I1 hm3
  rw [ht.out]
  clear ht
  have SS : Hid (SlI w2 w.heap.size (.slice (some ⟨N1, 0, none⟩) 0 0) []) := SI.out.down (by omega)
  obtain ⟨x0, x1, x2, x3, x4, x5⟩ := OO.out.cells
  obtain ⟨y0, y1, y2, y3, y4, y5⟩ := RR.out.cells
  have m0 := RR.out.frozen 0
  have m1 := RR.out.frozen 1
  have m2 := RR.out.frozen 2
  have m3 := RR.out.frozen 3
  have m4 := RR.out.frozen 4
  have m5 := RR.out.frozen 5
  go_wp2_with fail
  have R3 : TokAt _ (w.heap.size + 1) c r q a b (.slice ao1 ws.length cap1) := RR.out.agg c r q a b (.slice ao1 ws.length cap1)
  have T3 := ((((((TurnAt.refl (w.heap.size + 1) w2).setCell 0 (.int .i64 c)).setCell 1 (.int .i64 r)).setCell 2 (.int .i64 q)).setCell 3 (.int .i64 a)).setCell 4 (.int .i64 b)).setCell 5 (.slice ao1 ws.length cap1)
  have V3 := own_tok LL.out RR.out T3
  have S3 := sl_turn SS.out RR.out T3
  have B3 := BB.out.trans (T3.below (by omega))
  clear T3
  generalize ((((((w2.setCell ⟨w.heap.size + 1, 0, none⟩ (.int .i64 c)).setCell ⟨w.heap.size + 1, 1, none⟩ (.int .i64 r)).setCell ⟨w.heap.size + 1, 2, none⟩ (.int .i64 q)).setCell ⟨w.heap.size + 1, 3, none⟩ (.int .i64 a)).setCell ⟨w.heap.size + 1, 4, none⟩ (.int .i64 b)).setCell ⟨w.heap.size + 1, 5, none⟩ (.slice ao1 ws.length cap1)) = W3 at *
  obtain ⟨q0, q1, q2, q3, q4, q5⟩ := R3.cells
  refine bodyPost_ret (v := .tuple #[.agg #[.int .i64 c, .int .i64 r, .int .i64 q, .int .i64 a, .int .i64 b, .slice ao1 ws.length cap1], .slice (some ⟨N1, 0, none⟩) 0 0]) (by simp [results, Try.results130, go_sem, q0, q1, q2, q3, q4, q5]) rfl ?_
  exact ⟨_, _, rfl, V3, S3, B3⟩

set_option maxRecDepth 100000 in
set_option maxHeartbeats 8000000 in
theorem num_1 (c r q a b f : Int) (u0 : Value) (ws : List Int) (B0 : Nat) (al : Option Addr) (cl : Nat) (lv : List Int) (at_ : Option Addr) (ct : Nat) (tx : List ByteArray) (w : World) (h : Hid (OwnI w B0 u0 ws)) (hl : ws.length ≤ 1048576) (hlv : Hid (IntsAt w al lv)) (hll : lv.length ≤ 1048576) (htx : Hid (TextsAt w at_ tx)) (hlt : tx.length ≤ 1048576) (ht : Hid (tkB c r q a b ws = true)) (hd : decide (1 ≤ f ∧ f ≤ 5) = false) :
    Calls Try.prog 130 #[.agg #[.int .i64 c, .int .i64 r, .int .i64 q, .int .i64 a, .int .i64 b, u0], .int .i64 f, .slice al lv.length cl, .slice at_ tx.length ct] w fun e w' => ∃ v vi, e = .returned (.tuple #[.agg #[.int .i64 c, .int .i64 r, .int .i64 q, .int .i64 a, .int .i64 b, v], vi]) ∧ OwnI w' w.heap.size v ws ∧ SlI w' w.heap.size vi [] ∧ Below w.heap.size w w' := by
  have hn1 : (w.alloc (.cells #[.int .i64 c, .int .i64 r, .int .i64 q, .int .i64 a, .int .i64 b, u0] 30)).heap.size = w.heap.size + 1 := by simp
  have HA : Hid (TokAt ((w.alloc (.cells #[.int .i64 c, .int .i64 r, .int .i64 q, .int .i64 a, .int .i64 b, u0] 30)).alloc (.cells #[.int .i64 0, .int .i64 0, .int .i64 0, .int .i64 0, .int .i64 0, .slice none 0 0] 30)) w.heap.size c r q a b u0) := by
    have h := heap_alloc_new w (.cells #[.int .i64 c, .int .i64 r, .int .i64 q, .int .i64 a, .int .i64 b, u0] 30)
    exact TokAt.stays (B := w.heap.size + 1) h ((Below.refl _ _).alloc (by rw [hn1]; exact Nat.le_refl _) _) (by omega)
  have HR : Hid (TokAt ((w.alloc (.cells #[.int .i64 c, .int .i64 r, .int .i64 q, .int .i64 a, .int .i64 b, u0] 30)).alloc (.cells #[.int .i64 0, .int .i64 0, .int .i64 0, .int .i64 0, .int .i64 0, .slice none 0 0] 30)) (w.heap.size + 1) 0 0 0 0 0 (.slice none 0 0)) := by
    have h := heap_alloc_new (w.alloc (.cells #[.int .i64 c, .int .i64 r, .int .i64 q, .int .i64 a, .int .i64 b, u0] 30)) (.cells #[.int .i64 0, .int .i64 0, .int .i64 0, .int .i64 0, .int .i64 0, .slice none 0 0] 30)
    rw [hn1] at h
    exact h
  have HB : Hid (Below w.heap.size w ((w.alloc (.cells #[.int .i64 c, .int .i64 r, .int .i64 q, .int .i64 a, .int .i64 b, u0] 30)).alloc (.cells #[.int .i64 0, .int .i64 0, .int .i64 0, .int .i64 0, .int .i64 0, .slice none 0 0] 30))) := ((Below.refl _ _).alloc (Nat.le_refl _) _).alloc (by simp) _
  have HU : Hid (OwnI ((w.alloc (.cells #[.int .i64 c, .int .i64 r, .int .i64 q, .int .i64 a, .int .i64 b, u0] 30)).alloc (.cells #[.int .i64 0, .int .i64 0, .int .i64 0, .int .i64 0, .int .i64 0, .slice none 0 0] 30)) B0 u0 ws) := (h.out.alloc _).alloc _
  clear h hn1
  go_enter Try.func130, Try.ntmps130
  go_wp2_with fail
  generalize ((w.alloc (.cells #[.int .i64 c, .int .i64 r, .int .i64 q, .int .i64 a, .int .i64 b, u0] 30)).alloc (.cells #[.int .i64 0, .int .i64 0, .int .i64 0, .int .i64 0, .int .i64 0, .slice none 0 0] 30)) = W at *
  have hWs : w.heap.size ≤ W.heap.size := HB.out.size
  have hWr : w.heap.size + 1 < W.heap.size := HR.out.lt
  refine (copyTok c r q a b u0 ws B0 W HU hl).mono ?_
  rintro e w1 ⟨v1, rfl, hv1, hb1⟩
  obtain ⟨ao1, cap1, hf1⟩ := hv1.form
  subst hf1
  have hWm := hb1.size
  have hm1 : (w1.alloc (.cells #[] 38)).heap.size = w1.heap.size + 1 := by simp
  have hm2 : (w1.alloc (.cells #[.int .i64 c, .int .i64 r, .int .i64 q, .int .i64 a, .int .i64 b, .slice ao1 ws.length cap1] 30)).heap.size = w1.heap.size + 1 := by simp
  have hm3 : ((w1.alloc (.cells #[] 38)).alloc (.cells #[.int .i64 c, .int .i64 r, .int .i64 q, .int .i64 a, .int .i64 b, .slice ao1 ws.length cap1] 30)).heap.size = w1.heap.size + 2 := by simp
  have E1 : Below W.heap.size W ((w1.alloc (.cells #[] 38)).alloc (.cells #[.int .i64 c, .int .i64 r, .int .i64 q, .int .i64 a, .int .i64 b, .slice ao1 ws.length cap1] 30)) := (hb1.alloc hb1.size _).alloc (by simp; omega) _
  have O1 : Hid (TokAt ((w1.alloc (.cells #[] 38)).alloc (.cells #[.int .i64 c, .int .i64 r, .int .i64 q, .int .i64 a, .int .i64 b, .slice ao1 ws.length cap1] 30)) (w1.heap.size + 1) c r q a b (.slice ao1 ws.length cap1)) := by
    have h := heap_alloc_new (w1.alloc (.cells #[] 38)) (.cells #[.int .i64 c, .int .i64 r, .int .i64 q, .int .i64 a, .int .i64 b, .slice ao1 ws.length cap1] 30); rw [hm1] at h; exact h
  have I1 : Hid (SlI ((w1.alloc (.cells #[] 38)).alloc (.cells #[.int .i64 c, .int .i64 r, .int .i64 q, .int .i64 a, .int .i64 b, .slice ao1 ws.length cap1] 30)) w1.heap.size (.slice (some ⟨w1.heap.size, 0, none⟩) 0 0) []) := by
    exact (SlI.made w1 w1.heap.size (Nat.le_refl _)).below ((Below.refl _ _).alloc (Nat.le_refl _) _)
  have A1 : Hid (TokAt ((w1.alloc (.cells #[] 38)).alloc (.cells #[.int .i64 c, .int .i64 r, .int .i64 q, .int .i64 a, .int .i64 b, .slice ao1 ws.length cap1] 30)) w.heap.size c r q a b u0) := HA.out.stays E1 HA.out.lt
  have R1 : Hid (TokAt ((w1.alloc (.cells #[] 38)).alloc (.cells #[.int .i64 c, .int .i64 r, .int .i64 q, .int .i64 a, .int .i64 b, .slice ao1 ws.length cap1] 30)) (w.heap.size + 1) 0 0 0 0 0 (.slice none 0 0)) := HR.out.stays E1 HR.out.lt
  have VL : Hid (∀ k, (Value.slice ao1 ws.length cap1).ownBlock = some k → k < w1.heap.size) := fun k hk => (hv1.lt k hk).2
  have V1 : Hid (OwnI ((w1.alloc (.cells #[] 38)).alloc (.cells #[.int .i64 c, .int .i64 r, .int .i64 q, .int .i64 a, .int .i64 b, .slice ao1 ws.length cap1] 30)) w.heap.size (.slice ao1 ws.length cap1) ws) := ((hv1.alloc _).alloc _).down hWs
  have B1 : Hid (Below w.heap.size w ((w1.alloc (.cells #[] 38)).alloc (.cells #[.int .i64 c, .int .i64 r, .int .i64 q, .int .i64 a, .int .i64 b, .slice ao1 ws.length cap1] 30))) := HB.out.trans (E1.mono hWs)
  have U1 : Hid (OwnI ((w1.alloc (.cells #[] 38)).alloc (.cells #[.int .i64 c, .int .i64 r, .int .i64 q, .int .i64 a, .int .i64 b, .slice ao1 ws.length cap1] 30)) B0 u0 ws) := HU.out.stays E1 (fun k hk => (HU.out.lt k hk).2)
  have hgO : w.heap.size + 1 < w1.heap.size := Nat.lt_of_lt_of_le hWr hWm
  obtain ⟨s0, s1, s2, s3, s4, s5⟩ := A1.out.cells
  clear hv1 hb1 E1 HA HR HU HB hWs hWr hWm hm1 hm2
  go_wp2_with fail
  generalize ((w1.alloc (.cells #[] 38)).alloc (.cells #[.int .i64 c, .int .i64 r, .int .i64 q, .int .i64 a, .int .i64 b, .slice ao1 ws.length cap1] 30)) = W1 at *
  generalize w1.heap.size = N1 at *
  obtain ⟨ao0, cap0, hu0, hx0⟩ := U1.out.ints
  have X1 : Hid (IntsAt W1 ao0 ws) := hx0
  subst hu0
  refine (tokenOk_any c r q a b ao0 cap0 ws _ X1 hl).mono ?_
  rintro e w2 ⟨rfl, hb2⟩
  have OO : Hid (TokAt w2 (N1 + 1) c r q a b (.slice ao1 ws.length cap1)) := O1.out.stays hb2 O1.out.lt
  have AA : Hid (TokAt w2 w.heap.size c r q a b (.slice ao0 ws.length cap0)) := A1.out.stays hb2 A1.out.lt
  have RR : Hid (TokAt w2 (w.heap.size + 1) 0 0 0 0 0 (.slice none 0 0)) := R1.out.stays hb2 R1.out.lt
  have LL : Hid (OwnI w2 w.heap.size (.slice ao1 ws.length cap1) ws) := own_later' V1.out hb2
  have SI : Hid (SlI w2 N1 (.slice (some ⟨N1, 0, none⟩) 0 0) []) := I1.out.below hb2
  have BB : Hid (Below w.heap.size w w2) := B1.out.trans (hb2.mono B1.out.size)
  have z2 : N1 + 2 ≤ w2.heap.size := by rw [← hm3]; exact hb2.size
  clear hb2 O1 R1 V1 B1 A1 U1 X1 hx0 s0 s1 s2 s3 s4 s5 I1 hm3
  rw [ht.out]
  clear ht
  go_wp2_with fail
  refine (within_is _ hd).mono ?_
  rintro e w3 ⟨rfl, rfl⟩
  have SS : Hid (SlI w3 w.heap.size (.slice (some ⟨N1, 0, none⟩) 0 0) []) := SI.out.down (by omega)
  obtain ⟨x0, x1, x2, x3, x4, x5⟩ := OO.out.cells
  obtain ⟨y0, y1, y2, y3, y4, y5⟩ := RR.out.cells
  have m0 := RR.out.frozen 0
  have m1 := RR.out.frozen 1
  have m2 := RR.out.frozen 2
  have m3 := RR.out.frozen 3
  have m4 := RR.out.frozen 4
  have m5 := RR.out.frozen 5
  go_wp2_with fail
  have R3 : TokAt _ (w.heap.size + 1) c r q a b (.slice ao1 ws.length cap1) := RR.out.agg c r q a b (.slice ao1 ws.length cap1)
  have T3 := ((((((TurnAt.refl (w.heap.size + 1) w3).setCell 0 (.int .i64 c)).setCell 1 (.int .i64 r)).setCell 2 (.int .i64 q)).setCell 3 (.int .i64 a)).setCell 4 (.int .i64 b)).setCell 5 (.slice ao1 ws.length cap1)
  have V3 := own_tok LL.out RR.out T3
  have S3 := sl_turn SS.out RR.out T3
  have B3 := BB.out.trans (T3.below (by omega))
  clear T3
  generalize ((((((w3.setCell ⟨w.heap.size + 1, 0, none⟩ (.int .i64 c)).setCell ⟨w.heap.size + 1, 1, none⟩ (.int .i64 r)).setCell ⟨w.heap.size + 1, 2, none⟩ (.int .i64 q)).setCell ⟨w.heap.size + 1, 3, none⟩ (.int .i64 a)).setCell ⟨w.heap.size + 1, 4, none⟩ (.int .i64 b)).setCell ⟨w.heap.size + 1, 5, none⟩ (.slice ao1 ws.length cap1)) = W3 at *
  obtain ⟨q0, q1, q2, q3, q4, q5⟩ := R3.cells
  refine bodyPost_ret (v := .tuple #[.agg #[.int .i64 c, .int .i64 r, .int .i64 q, .int .i64 a, .int .i64 b, .slice ao1 ws.length cap1], .slice (some ⟨N1, 0, none⟩) 0 0]) (by simp [results, Try.results130, go_sem, q0, q1, q2, q3, q4, q5]) rfl ?_
  exact ⟨_, _, rfl, V3, S3, B3⟩

def numF (a q b : Int) : Bool := decide (a = q ∧ b = 0)
/-- what stands behind the statement that puts an item behind. -/
def PutPost (W : World) (N : Nat) (u : Value) (L : List It) (v : Value) (wx : World) : Prop := SlI wx N v L ∧ W.grownBy wx u.ownBlock

set_option maxRecDepth 100000 in
set_option maxHeartbeats 8000000 in
theorem num_2 (c r q a b f : Int) (u0 : Value) (ws : List Int) (B0 : Nat) (al : Option Addr) (cl : Nat) (lv : List Int) (at_ : Option Addr) (ct : Nat) (tx : List ByteArray) (w : World) (h : Hid (OwnI w B0 u0 ws)) (hl : ws.length ≤ 1048576) (hlv : Hid (IntsAt w al lv)) (hll : lv.length ≤ 1048576) (htx : Hid (TextsAt w at_ tx)) (hlt : tx.length ≤ 1048576) (ht : Hid (tkB c r q a b ws = true)) (hd : decide (1 ≤ f ∧ f ≤ 5) = true) (hq0 : 0 ≤ q) (hq1 : q ≤ 60) (L2 : List It) (Q2 A2 : Int) (hL2 : Hid (L2 = numGo f lv q 0 tx)) (hQ2 : Hid (Q2 = q + (L2.length : Int))) (hA2 : Hid (A2 = if numF a q b then Q2 else a)) :
    Calls Try.prog 130 #[.agg #[.int .i64 c, .int .i64 r, .int .i64 q, .int .i64 a, .int .i64 b, u0], .int .i64 f, .slice al lv.length cl, .slice at_ tx.length ct] w fun e w' => ∃ v vi, e = .returned (.tuple #[.agg #[.int .i64 c, .int .i64 r, .int .i64 Q2, .int .i64 A2, .int .i64 b, v], vi]) ∧ OwnI w' w.heap.size v ws ∧ SlI w' w.heap.size vi L2 ∧ Below w.heap.size w w' := by
  have hn1 : (w.alloc (.cells #[.int .i64 c, .int .i64 r, .int .i64 q, .int .i64 a, .int .i64 b, u0] 30)).heap.size = w.heap.size + 1 := by simp
  have HA : Hid (TokAt ((w.alloc (.cells #[.int .i64 c, .int .i64 r, .int .i64 q, .int .i64 a, .int .i64 b, u0] 30)).alloc (.cells #[.int .i64 0, .int .i64 0, .int .i64 0, .int .i64 0, .int .i64 0, .slice none 0 0] 30)) w.heap.size c r q a b u0) := by
    have h := heap_alloc_new w (.cells #[.int .i64 c, .int .i64 r, .int .i64 q, .int .i64 a, .int .i64 b, u0] 30)
    exact TokAt.stays (B := w.heap.size + 1) h ((Below.refl _ _).alloc (by rw [hn1]; exact Nat.le_refl _) _) (by omega)
  have HR : Hid (TokAt ((w.alloc (.cells #[.int .i64 c, .int .i64 r, .int .i64 q, .int .i64 a, .int .i64 b, u0] 30)).alloc (.cells #[.int .i64 0, .int .i64 0, .int .i64 0, .int .i64 0, .int .i64 0, .slice none 0 0] 30)) (w.heap.size + 1) 0 0 0 0 0 (.slice none 0 0)) := by
    have h := heap_alloc_new (w.alloc (.cells #[.int .i64 c, .int .i64 r, .int .i64 q, .int .i64 a, .int .i64 b, u0] 30)) (.cells #[.int .i64 0, .int .i64 0, .int .i64 0, .int .i64 0, .int .i64 0, .slice none 0 0] 30)
    rw [hn1] at h
    exact h
  have HB : Hid (Below w.heap.size w ((w.alloc (.cells #[.int .i64 c, .int .i64 r, .int .i64 q, .int .i64 a, .int .i64 b, u0] 30)).alloc (.cells #[.int .i64 0, .int .i64 0, .int .i64 0, .int .i64 0, .int .i64 0, .slice none 0 0] 30))) := ((Below.refl _ _).alloc (Nat.le_refl _) _).alloc (by simp) _
  have HU : Hid (OwnI ((w.alloc (.cells #[.int .i64 c, .int .i64 r, .int .i64 q, .int .i64 a, .int .i64 b, u0] 30)).alloc (.cells #[.int .i64 0, .int .i64 0, .int .i64 0, .int .i64 0, .int .i64 0, .slice none 0 0] 30)) B0 u0 ws) := (h.out.alloc _).alloc _
  clear h hn1
  go_enter Try.func130, Try.ntmps130
  go_wp2_with fail
  generalize ((w.alloc (.cells #[.int .i64 c, .int .i64 r, .int .i64 q, .int .i64 a, .int .i64 b, u0] 30)).alloc (.cells #[.int .i64 0, .int .i64 0, .int .i64 0, .int .i64 0, .int .i64 0, .slice none 0 0] 30)) = W at *
  have hWs : w.heap.size ≤ W.heap.size := HB.out.size
  have hWr : w.heap.size + 1 < W.heap.size := HR.out.lt
  refine (copyTok c r q a b u0 ws B0 W HU hl).mono ?_
  rintro e w1 ⟨v1, rfl, hv1, hb1⟩
  obtain ⟨ao1, cap1, hf1⟩ := hv1.form
  subst hf1
  have hWm := hb1.size
  have hm1 : (w1.alloc (.cells #[] 38)).heap.size = w1.heap.size + 1 := by simp
  have hm2 : (w1.alloc (.cells #[.int .i64 c, .int .i64 r, .int .i64 q, .int .i64 a, .int .i64 b, .slice ao1 ws.length cap1] 30)).heap.size = w1.heap.size + 1 := by simp
  have hm3 : ((w1.alloc (.cells #[] 38)).alloc (.cells #[.int .i64 c, .int .i64 r, .int .i64 q, .int .i64 a, .int .i64 b, .slice ao1 ws.length cap1] 30)).heap.size = w1.heap.size + 2 := by simp
  have E1 : Below W.heap.size W ((w1.alloc (.cells #[] 38)).alloc (.cells #[.int .i64 c, .int .i64 r, .int .i64 q, .int .i64 a, .int .i64 b, .slice ao1 ws.length cap1] 30)) := (hb1.alloc hb1.size _).alloc (by simp; omega) _
  have O1 : Hid (TokAt ((w1.alloc (.cells #[] 38)).alloc (.cells #[.int .i64 c, .int .i64 r, .int .i64 q, .int .i64 a, .int .i64 b, .slice ao1 ws.length cap1] 30)) (w1.heap.size + 1) c r q a b (.slice ao1 ws.length cap1)) := by
    have h := heap_alloc_new (w1.alloc (.cells #[] 38)) (.cells #[.int .i64 c, .int .i64 r, .int .i64 q, .int .i64 a, .int .i64 b, .slice ao1 ws.length cap1] 30); rw [hm1] at h; exact h
  have I1 : Hid (SlI ((w1.alloc (.cells #[] 38)).alloc (.cells #[.int .i64 c, .int .i64 r, .int .i64 q, .int .i64 a, .int .i64 b, .slice ao1 ws.length cap1] 30)) w1.heap.size (.slice (some ⟨w1.heap.size, 0, none⟩) 0 0) []) := by
    exact (SlI.made w1 w1.heap.size (Nat.le_refl _)).below ((Below.refl _ _).alloc (Nat.le_refl _) _)
  have A1 : Hid (TokAt ((w1.alloc (.cells #[] 38)).alloc (.cells #[.int .i64 c, .int .i64 r, .int .i64 q, .int .i64 a, .int .i64 b, .slice ao1 ws.length cap1] 30)) w.heap.size c r q a b u0) := HA.out.stays E1 HA.out.lt
  have R1 : Hid (TokAt ((w1.alloc (.cells #[] 38)).alloc (.cells #[.int .i64 c, .int .i64 r, .int .i64 q, .int .i64 a, .int .i64 b, .slice ao1 ws.length cap1] 30)) (w.heap.size + 1) 0 0 0 0 0 (.slice none 0 0)) := HR.out.stays E1 HR.out.lt
  have VL : Hid (∀ k, (Value.slice ao1 ws.length cap1).ownBlock = some k → k < w1.heap.size) := fun k hk => (hv1.lt k hk).2
  have V1 : Hid (OwnI ((w1.alloc (.cells #[] 38)).alloc (.cells #[.int .i64 c, .int .i64 r, .int .i64 q, .int .i64 a, .int .i64 b, .slice ao1 ws.length cap1] 30)) w.heap.size (.slice ao1 ws.length cap1) ws) := ((hv1.alloc _).alloc _).down hWs
  have B1 : Hid (Below w.heap.size w ((w1.alloc (.cells #[] 38)).alloc (.cells #[.int .i64 c, .int .i64 r, .int .i64 q, .int .i64 a, .int .i64 b, .slice ao1 ws.length cap1] 30))) := HB.out.trans (E1.mono hWs)
  have U1 : Hid (OwnI ((w1.alloc (.cells #[] 38)).alloc (.cells #[.int .i64 c, .int .i64 r, .int .i64 q, .int .i64 a, .int .i64 b, .slice ao1 ws.length cap1] 30)) B0 u0 ws) := HU.out.stays E1 (fun k hk => (HU.out.lt k hk).2)
  have hgO : w.heap.size + 1 < w1.heap.size := Nat.lt_of_lt_of_le hWr hWm
  obtain ⟨s0, s1, s2, s3, s4, s5⟩ := A1.out.cells
  clear hv1 hb1 E1 HA HR HU HB hWs hWr hWm hm1 hm2
  go_wp2_with fail
  generalize ((w1.alloc (.cells #[] 38)).alloc (.cells #[.int .i64 c, .int .i64 r, .int .i64 q, .int .i64 a, .int .i64 b, .slice ao1 ws.length cap1] 30)) = W1 at *
  generalize w1.heap.size = N1 at *
  obtain ⟨ao0, cap0, hu0, hx0⟩ := U1.out.ints
  have X1 : Hid (IntsAt W1 ao0 ws) := hx0
  subst hu0
  refine (tokenOk_any c r q a b ao0 cap0 ws _ X1 hl).mono ?_
  rintro e w2 ⟨rfl, hb2⟩
  have OO : Hid (TokAt w2 (N1 + 1) c r q a b (.slice ao1 ws.length cap1)) := O1.out.stays hb2 O1.out.lt
  have AA : Hid (TokAt w2 w.heap.size c r q a b (.slice ao0 ws.length cap0)) := A1.out.stays hb2 A1.out.lt
  have RR : Hid (TokAt w2 (w.heap.size + 1) 0 0 0 0 0 (.slice none 0 0)) := R1.out.stays hb2 R1.out.lt
  have LL : Hid (OwnI w2 w.heap.size (.slice ao1 ws.length cap1) ws) := own_later' V1.out hb2
  have SI : Hid (SlI w2 N1 (.slice (some ⟨N1, 0, none⟩) 0 0) []) := I1.out.below hb2
  have BB : Hid (Below w.heap.size w w2) := B1.out.trans (hb2.mono B1.out.size)
  have z2 : N1 + 2 ≤ w2.heap.size := by rw [← hm3]; exact hb2.size
  clear hb2 O1 R1 V1 B1 A1 U1 X1 hx0 s0 s1 s2 s3 s4 s5 I1 hm3
  rw [ht.out]
  clear ht
  go_wp2_with fail
  refine (within_is _ hd).mono ?_
  rintro e w3 ⟨rfl, rfl⟩
  clear hd
  have HST : Hid (NSt f lv q tx 0 []) := nSt_start hq0 hq1
  have HB0 : Hid (Below N1 w3 w3) := Below.refl _ _
  go_wp2_with fail
  go_loopw [11, 29] (fun v i wr => ∃ (k : Nat) (Qk : Int) (L : List It), k ≤ 3 ∧ k ≤ tx.length ∧ i = .int .i64 k ∧ (0 ≤ Qk ∧ Qk ≤ 60) ∧ Hid (Qk = q + (k : Int)) ∧ Hid (NSt f lv q tx k L) ∧ Hid (TokAt wr (N1 + 1) c r Qk a b (.slice ao1 ws.length cap1)) ∧ Hid (SlI wr N1 v L) ∧ Hid (Below N1 w3 wr)) (fun _ i _ => tx.length - (intOf i).toNat)
  case atStart => exact ⟨0, q, [], by omega, by omega, rfl, ⟨hq0, hq1⟩, (show q = q + ((0 : Nat) : Int) by omega), HST, OO, SI, HB0⟩
  case round =>
    clear HST HB0 OO SI
    obtain ⟨k, Qk, L, hk3, hk, rfl, hQ, HQk, HST, OO, SX, BW⟩ := hrel
    have hL : L.length ≤ 3 := by rw [HST.out.1]; exact hk3
    obtain ⟨uI, hui⟩ : ∃ uI, uI = u11 := ⟨_, rfl⟩
    subst hui
    by_cases hltk : k < tx.length
    · obtain ⟨bt, ot, hat, hbt, hct⟩ := (htx.out.stays (BB.out.trans (BW.out.mono (by omega)))) k hltk
      obtain ⟨t, ht⟩ : ∃ t, t = tx[k] := ⟨_, rfl⟩
      rw [← ht] at hct
      have HTX : Hid (t = tx[k]) := ht
      have HAT : Hid (at_ = some ⟨bt, ot, none⟩) := hat
      obtain ⟨o0, o1, o2, o3, o4, o5⟩ := OO.out.cells
      clear o0 o1 o3 o4 o5 ht
      subst hat
      by_cases c1 : k = 3
      · have HL : Hid (numGo f lv q 0 tx = L) := nSt_stop HST.out (fun _ h => by omega)
        have HQ : Hid (Qk = q + (L.length : Int)) := by rw [HST.out.1]; exact HQk.out
        subst c1
        have RR : Hid (TokAt wr (w.heap.size + 1) 0 0 0 0 0 (.slice none 0 0)) := RR.out.stays BW.out (by omega)
        have AA : Hid (TokAt wr w.heap.size c r q a b (.slice ao0 ws.length cap0)) := AA.out.stays BW.out (by omega)
        have LL : Hid (OwnI wr w.heap.size (.slice ao1 ws.length cap1) ws) := LL.out.stays BW.out VL.out
        have BB : Hid (Below w.heap.size w wr) := BB.out.trans (BW.out.mono (by omega))
        have SS : Hid (SlI wr w.heap.size uI L) := SX.out.down (by omega)
        obtain ⟨a0, a1, a2, a3, a4, a5⟩ := AA.out.cells
        clear a0 a1 a5
        have EL : Hid (L2 = L) := by have h1 := hL2.out; have h2 := HL.out; show _ = _; rw [h1, h2]
        have EQ : Hid (Q2 = Qk) := by have h1 := hQ2.out; have h2 := HQ.out; have h3 := EL.out; show _ = _; rw [h1, h3, h2]
        by_cases ha : a = q
        · by_cases hb0 : b = 0
          · have EA : Hid (A2 = Qk) := by have h1 := hA2.out; have h2 := EQ.out; show _ = _; rw [h1, if_pos (show numF a q b = true from decide_eq_true ⟨ha, hb0⟩), h2]
            subst ha
            subst hb0
            have n3 := OO.out.frozen 3
            obtain ⟨g0, g1, g2, g3, g4, g5⟩ := OO.out.cells
            have HT := (TurnAt.refl (N1 + 1) wr).setCell 3 (.int .i64 Qk)
            have LL : Hid (OwnI (wr.setCell ⟨(N1 + 1), 3, none⟩ (.int .i64 Qk)) w.heap.size (.slice ao1 ws.length cap1) ws) := own_tok LL.out OO.out HT
            have SS : Hid (SlI (wr.setCell ⟨(N1 + 1), 3, none⟩ (.int .i64 Qk)) w.heap.size uI L) := sl_turn SS.out OO.out HT
            have RR : Hid (TokAt (wr.setCell ⟨(N1 + 1), 3, none⟩ (.int .i64 Qk)) (w.heap.size + 1) 0 0 0 0 0 (.slice none 0 0)) := RR.out.turn HT (by omega)
            have BB : Hid (Below w.heap.size w (wr.setCell ⟨(N1 + 1), 3, none⟩ (.int .i64 Qk))) := BB.out.trans (HT.below (by omega))
            have OO : Hid (TokAt (wr.setCell ⟨(N1 + 1), 3, none⟩ (.int .i64 Qk)) (N1 + 1) c r Qk Qk 0 (.slice ao1 ws.length cap1)) := OO.out.set3 Qk
            clear HT
            obtain ⟨x0, x1, x2, x3, x4, x5⟩ := OO.out.cells
            obtain ⟨y0, y1, y2, y3, y4, y5⟩ := RR.out.cells
            have m0 := RR.out.frozen 0
            have m1 := RR.out.frozen 1
            have m2 := RR.out.frozen 2
            have m3 := RR.out.frozen 3
            have m4 := RR.out.frozen 4
            have m5 := RR.out.frozen 5
            go_wp2_with fail
            have R3 : TokAt _ (w.heap.size + 1) c r Qk Qk 0 (.slice ao1 ws.length cap1) := RR.out.agg c r Qk Qk 0 (.slice ao1 ws.length cap1)
            have T3 := ((((((TurnAt.refl (w.heap.size + 1) (wr.setCell ⟨(N1 + 1), 3, none⟩ (.int .i64 Qk))).setCell 0 (.int .i64 c)).setCell 1 (.int .i64 r)).setCell 2 (.int .i64 Qk)).setCell 3 (.int .i64 Qk)).setCell 4 (.int .i64 0)).setCell 5 (.slice ao1 ws.length cap1)
            have V3 := own_tok LL.out RR.out T3
            have S3 := sl_turn SS.out RR.out T3
            have B3 := BB.out.trans (T3.below (by omega))
            clear T3
            generalize (((((((wr.setCell ⟨(N1 + 1), 3, none⟩ (.int .i64 Qk)).setCell ⟨w.heap.size + 1, 0, none⟩ (.int .i64 c)).setCell ⟨w.heap.size + 1, 1, none⟩ (.int .i64 r)).setCell ⟨w.heap.size + 1, 2, none⟩ (.int .i64 Qk)).setCell ⟨w.heap.size + 1, 3, none⟩ (.int .i64 Qk)).setCell ⟨w.heap.size + 1, 4, none⟩ (.int .i64 0)).setCell ⟨w.heap.size + 1, 5, none⟩ (.slice ao1 ws.length cap1)) = W3 at *
            obtain ⟨q0, q1, q2, q3, q4, q5⟩ := R3.cells
            refine bodyPost_ret (v := .tuple #[.agg #[.int .i64 c, .int .i64 r, .int .i64 Qk, .int .i64 Qk, .int .i64 0, .slice ao1 ws.length cap1], uI]) (by simp [results, Try.results130, go_sem, q0, q1, q2, q3, q4, q5]) rfl ?_
            exact ⟨_, _, by rw [EQ.out, EA.out], V3, by rw [EL.out]; exact S3, B3⟩
          · have EA : Hid (A2 = a) := by have h1 := hA2.out; show _ = _; rw [h1, if_neg (by unfold numF; simp [hb0])]
            subst ha
            obtain ⟨x0, x1, x2, x3, x4, x5⟩ := OO.out.cells
            obtain ⟨y0, y1, y2, y3, y4, y5⟩ := RR.out.cells
            have m0 := RR.out.frozen 0
            have m1 := RR.out.frozen 1
            have m2 := RR.out.frozen 2
            have m3 := RR.out.frozen 3
            have m4 := RR.out.frozen 4
            have m5 := RR.out.frozen 5
            go_wp2_with fail
            have R3 : TokAt _ (w.heap.size + 1) c r Qk a b (.slice ao1 ws.length cap1) := RR.out.agg c r Qk a b (.slice ao1 ws.length cap1)
            have T3 := ((((((TurnAt.refl (w.heap.size + 1) wr).setCell 0 (.int .i64 c)).setCell 1 (.int .i64 r)).setCell 2 (.int .i64 Qk)).setCell 3 (.int .i64 a)).setCell 4 (.int .i64 b)).setCell 5 (.slice ao1 ws.length cap1)
            have V3 := own_tok LL.out RR.out T3
            have S3 := sl_turn SS.out RR.out T3
            have B3 := BB.out.trans (T3.below (by omega))
            clear T3
            generalize ((((((wr.setCell ⟨w.heap.size + 1, 0, none⟩ (.int .i64 c)).setCell ⟨w.heap.size + 1, 1, none⟩ (.int .i64 r)).setCell ⟨w.heap.size + 1, 2, none⟩ (.int .i64 Qk)).setCell ⟨w.heap.size + 1, 3, none⟩ (.int .i64 a)).setCell ⟨w.heap.size + 1, 4, none⟩ (.int .i64 b)).setCell ⟨w.heap.size + 1, 5, none⟩ (.slice ao1 ws.length cap1)) = W3 at *
            obtain ⟨q0, q1, q2, q3, q4, q5⟩ := R3.cells
            refine bodyPost_ret (v := .tuple #[.agg #[.int .i64 c, .int .i64 r, .int .i64 Qk, .int .i64 a, .int .i64 b, .slice ao1 ws.length cap1], uI]) (by simp [results, Try.results130, go_sem, q0, q1, q2, q3, q4, q5]) rfl ?_
            exact ⟨_, _, by rw [EQ.out, EA.out], V3, by rw [EL.out]; exact S3, B3⟩
        · have EA : Hid (A2 = a) := by have h1 := hA2.out; show _ = _; rw [h1, if_neg (by unfold numF; simp [ha])]
          obtain ⟨x0, x1, x2, x3, x4, x5⟩ := OO.out.cells
          obtain ⟨y0, y1, y2, y3, y4, y5⟩ := RR.out.cells
          have m0 := RR.out.frozen 0
          have m1 := RR.out.frozen 1
          have m2 := RR.out.frozen 2
          have m3 := RR.out.frozen 3
          have m4 := RR.out.frozen 4
          have m5 := RR.out.frozen 5
          go_wp2_with fail
          have R3 : TokAt _ (w.heap.size + 1) c r Qk a b (.slice ao1 ws.length cap1) := RR.out.agg c r Qk a b (.slice ao1 ws.length cap1)
          have T3 := ((((((TurnAt.refl (w.heap.size + 1) wr).setCell 0 (.int .i64 c)).setCell 1 (.int .i64 r)).setCell 2 (.int .i64 Qk)).setCell 3 (.int .i64 a)).setCell 4 (.int .i64 b)).setCell 5 (.slice ao1 ws.length cap1)
          have V3 := own_tok LL.out RR.out T3
          have S3 := sl_turn SS.out RR.out T3
          have B3 := BB.out.trans (T3.below (by omega))
          clear T3
          generalize ((((((wr.setCell ⟨w.heap.size + 1, 0, none⟩ (.int .i64 c)).setCell ⟨w.heap.size + 1, 1, none⟩ (.int .i64 r)).setCell ⟨w.heap.size + 1, 2, none⟩ (.int .i64 Qk)).setCell ⟨w.heap.size + 1, 3, none⟩ (.int .i64 a)).setCell ⟨w.heap.size + 1, 4, none⟩ (.int .i64 b)).setCell ⟨w.heap.size + 1, 5, none⟩ (.slice ao1 ws.length cap1)) = W3 at *
          obtain ⟨q0, q1, q2, q3, q4, q5⟩ := R3.cells
          refine bodyPost_ret (v := .tuple #[.agg #[.int .i64 c, .int .i64 r, .int .i64 Qk, .int .i64 a, .int .i64 b, .slice ao1 ws.length cap1], uI]) (by simp [results, Try.results130, go_sem, q0, q1, q2, q3, q4, q5]) rfl ?_
          exact ⟨_, _, by rw [EQ.out, EA.out], V3, by rw [EL.out]; exact S3, B3⟩
      · have d1 : ((k : Int) == 3) = false := by simp; omega
        by_cases c2 : Qk = 60
        · have HL : Hid (numGo f lv q 0 tx = L) := nSt_stop HST.out (fun _ h => by have := HQk.out; omega)
          have HQ : Hid (Qk = q + (L.length : Int)) := by rw [HST.out.1]; exact HQk.out
          subst c2
          have RR : Hid (TokAt wr (w.heap.size + 1) 0 0 0 0 0 (.slice none 0 0)) := RR.out.stays BW.out (by omega)
          have AA : Hid (TokAt wr w.heap.size c r q a b (.slice ao0 ws.length cap0)) := AA.out.stays BW.out (by omega)
          have LL : Hid (OwnI wr w.heap.size (.slice ao1 ws.length cap1) ws) := LL.out.stays BW.out VL.out
          have BB : Hid (Below w.heap.size w wr) := BB.out.trans (BW.out.mono (by omega))
          have SS : Hid (SlI wr w.heap.size uI L) := SX.out.down (by omega)
          obtain ⟨a0, a1, a2, a3, a4, a5⟩ := AA.out.cells
          clear a0 a1 a5
          have EL : Hid (L2 = L) := by have h1 := hL2.out; have h2 := HL.out; show _ = _; rw [h1, h2]
          have EQ : Hid (Q2 = 60) := by have h1 := hQ2.out; have h2 := HQ.out; have h3 := EL.out; show _ = _; rw [h1, h3, h2]
          by_cases ha : a = q
          · by_cases hb0 : b = 0
            · have EA : Hid (A2 = 60) := by have h1 := hA2.out; have h2 := EQ.out; show _ = _; rw [h1, if_pos (show numF a q b = true from decide_eq_true ⟨ha, hb0⟩), h2]
              subst ha
              subst hb0
              have n3 := OO.out.frozen 3
              obtain ⟨g0, g1, g2, g3, g4, g5⟩ := OO.out.cells
              have HT := (TurnAt.refl (N1 + 1) wr).setCell 3 (.int .i64 60)
              have LL : Hid (OwnI (wr.setCell ⟨(N1 + 1), 3, none⟩ (.int .i64 60)) w.heap.size (.slice ao1 ws.length cap1) ws) := own_tok LL.out OO.out HT
              have SS : Hid (SlI (wr.setCell ⟨(N1 + 1), 3, none⟩ (.int .i64 60)) w.heap.size uI L) := sl_turn SS.out OO.out HT
              have RR : Hid (TokAt (wr.setCell ⟨(N1 + 1), 3, none⟩ (.int .i64 60)) (w.heap.size + 1) 0 0 0 0 0 (.slice none 0 0)) := RR.out.turn HT (by omega)
              have BB : Hid (Below w.heap.size w (wr.setCell ⟨(N1 + 1), 3, none⟩ (.int .i64 60))) := BB.out.trans (HT.below (by omega))
              have OO : Hid (TokAt (wr.setCell ⟨(N1 + 1), 3, none⟩ (.int .i64 60)) (N1 + 1) c r 60 60 0 (.slice ao1 ws.length cap1)) := OO.out.set3 60
              clear HT
              obtain ⟨x0, x1, x2, x3, x4, x5⟩ := OO.out.cells
              obtain ⟨y0, y1, y2, y3, y4, y5⟩ := RR.out.cells
              have m0 := RR.out.frozen 0
              have m1 := RR.out.frozen 1
              have m2 := RR.out.frozen 2
              have m3 := RR.out.frozen 3
              have m4 := RR.out.frozen 4
              have m5 := RR.out.frozen 5
              go_wp2_with fail
              have R3 : TokAt _ (w.heap.size + 1) c r 60 60 0 (.slice ao1 ws.length cap1) := RR.out.agg c r 60 60 0 (.slice ao1 ws.length cap1)
              have T3 := ((((((TurnAt.refl (w.heap.size + 1) (wr.setCell ⟨(N1 + 1), 3, none⟩ (.int .i64 60))).setCell 0 (.int .i64 c)).setCell 1 (.int .i64 r)).setCell 2 (.int .i64 60)).setCell 3 (.int .i64 60)).setCell 4 (.int .i64 0)).setCell 5 (.slice ao1 ws.length cap1)
              have V3 := own_tok LL.out RR.out T3
              have S3 := sl_turn SS.out RR.out T3
              have B3 := BB.out.trans (T3.below (by omega))
              clear T3
              generalize (((((((wr.setCell ⟨(N1 + 1), 3, none⟩ (.int .i64 60)).setCell ⟨w.heap.size + 1, 0, none⟩ (.int .i64 c)).setCell ⟨w.heap.size + 1, 1, none⟩ (.int .i64 r)).setCell ⟨w.heap.size + 1, 2, none⟩ (.int .i64 60)).setCell ⟨w.heap.size + 1, 3, none⟩ (.int .i64 60)).setCell ⟨w.heap.size + 1, 4, none⟩ (.int .i64 0)).setCell ⟨w.heap.size + 1, 5, none⟩ (.slice ao1 ws.length cap1)) = W3 at *
              obtain ⟨q0, q1, q2, q3, q4, q5⟩ := R3.cells
              refine bodyPost_ret (v := .tuple #[.agg #[.int .i64 c, .int .i64 r, .int .i64 60, .int .i64 60, .int .i64 0, .slice ao1 ws.length cap1], uI]) (by simp [results, Try.results130, go_sem, q0, q1, q2, q3, q4, q5]) rfl ?_
              exact ⟨_, _, by rw [EQ.out, EA.out], V3, by rw [EL.out]; exact S3, B3⟩
            · have EA : Hid (A2 = a) := by have h1 := hA2.out; show _ = _; rw [h1, if_neg (by unfold numF; simp [hb0])]
              subst ha
              obtain ⟨x0, x1, x2, x3, x4, x5⟩ := OO.out.cells
              obtain ⟨y0, y1, y2, y3, y4, y5⟩ := RR.out.cells
              have m0 := RR.out.frozen 0
              have m1 := RR.out.frozen 1
              have m2 := RR.out.frozen 2
              have m3 := RR.out.frozen 3
              have m4 := RR.out.frozen 4
              have m5 := RR.out.frozen 5
              go_wp2_with fail
              have R3 : TokAt _ (w.heap.size + 1) c r 60 a b (.slice ao1 ws.length cap1) := RR.out.agg c r 60 a b (.slice ao1 ws.length cap1)
              have T3 := ((((((TurnAt.refl (w.heap.size + 1) wr).setCell 0 (.int .i64 c)).setCell 1 (.int .i64 r)).setCell 2 (.int .i64 60)).setCell 3 (.int .i64 a)).setCell 4 (.int .i64 b)).setCell 5 (.slice ao1 ws.length cap1)
              have V3 := own_tok LL.out RR.out T3
              have S3 := sl_turn SS.out RR.out T3
              have B3 := BB.out.trans (T3.below (by omega))
              clear T3
              generalize ((((((wr.setCell ⟨w.heap.size + 1, 0, none⟩ (.int .i64 c)).setCell ⟨w.heap.size + 1, 1, none⟩ (.int .i64 r)).setCell ⟨w.heap.size + 1, 2, none⟩ (.int .i64 60)).setCell ⟨w.heap.size + 1, 3, none⟩ (.int .i64 a)).setCell ⟨w.heap.size + 1, 4, none⟩ (.int .i64 b)).setCell ⟨w.heap.size + 1, 5, none⟩ (.slice ao1 ws.length cap1)) = W3 at *
              obtain ⟨q0, q1, q2, q3, q4, q5⟩ := R3.cells
              refine bodyPost_ret (v := .tuple #[.agg #[.int .i64 c, .int .i64 r, .int .i64 60, .int .i64 a, .int .i64 b, .slice ao1 ws.length cap1], uI]) (by simp [results, Try.results130, go_sem, q0, q1, q2, q3, q4, q5]) rfl ?_
              exact ⟨_, _, by rw [EQ.out, EA.out], V3, by rw [EL.out]; exact S3, B3⟩
          · have EA : Hid (A2 = a) := by have h1 := hA2.out; show _ = _; rw [h1, if_neg (by unfold numF; simp [ha])]
            obtain ⟨x0, x1, x2, x3, x4, x5⟩ := OO.out.cells
            obtain ⟨y0, y1, y2, y3, y4, y5⟩ := RR.out.cells
            have m0 := RR.out.frozen 0
            have m1 := RR.out.frozen 1
            have m2 := RR.out.frozen 2
            have m3 := RR.out.frozen 3
            have m4 := RR.out.frozen 4
            have m5 := RR.out.frozen 5
            go_wp2_with fail
            have R3 : TokAt _ (w.heap.size + 1) c r 60 a b (.slice ao1 ws.length cap1) := RR.out.agg c r 60 a b (.slice ao1 ws.length cap1)
            have T3 := ((((((TurnAt.refl (w.heap.size + 1) wr).setCell 0 (.int .i64 c)).setCell 1 (.int .i64 r)).setCell 2 (.int .i64 60)).setCell 3 (.int .i64 a)).setCell 4 (.int .i64 b)).setCell 5 (.slice ao1 ws.length cap1)
            have V3 := own_tok LL.out RR.out T3
            have S3 := sl_turn SS.out RR.out T3
            have B3 := BB.out.trans (T3.below (by omega))
            clear T3
            generalize ((((((wr.setCell ⟨w.heap.size + 1, 0, none⟩ (.int .i64 c)).setCell ⟨w.heap.size + 1, 1, none⟩ (.int .i64 r)).setCell ⟨w.heap.size + 1, 2, none⟩ (.int .i64 60)).setCell ⟨w.heap.size + 1, 3, none⟩ (.int .i64 a)).setCell ⟨w.heap.size + 1, 4, none⟩ (.int .i64 b)).setCell ⟨w.heap.size + 1, 5, none⟩ (.slice ao1 ws.length cap1)) = W3 at *
            obtain ⟨q0, q1, q2, q3, q4, q5⟩ := R3.cells
            refine bodyPost_ret (v := .tuple #[.agg #[.int .i64 c, .int .i64 r, .int .i64 60, .int .i64 a, .int .i64 b, .slice ao1 ws.length cap1], uI]) (by simp [results, Try.results130, go_sem, q0, q1, q2, q3, q4, q5]) rfl ?_
            exact ⟨_, _, by rw [EQ.out, EA.out], V3, by rw [EL.out]; exact S3, B3⟩
        · have d2 : (Qk == 60) = false := by simpa using c2
          by_cases c3 : 60 < t.size
          · have d3 : decide (60 < (t.size : Int)) = true := by simp; omega
            have HL : Hid (numGo f lv q 0 tx = L) := nSt_stop HST.out (fun _ h => by have := HTX.out; rw [← this] at h; omega)
            have HQ : Hid (Qk = q + (L.length : Int)) := by rw [HST.out.1]; exact HQk.out
            have RR : Hid (TokAt wr (w.heap.size + 1) 0 0 0 0 0 (.slice none 0 0)) := RR.out.stays BW.out (by omega)
            have AA : Hid (TokAt wr w.heap.size c r q a b (.slice ao0 ws.length cap0)) := AA.out.stays BW.out (by omega)
            have LL : Hid (OwnI wr w.heap.size (.slice ao1 ws.length cap1) ws) := LL.out.stays BW.out VL.out
            have BB : Hid (Below w.heap.size w wr) := BB.out.trans (BW.out.mono (by omega))
            have SS : Hid (SlI wr w.heap.size uI L) := SX.out.down (by omega)
            obtain ⟨a0, a1, a2, a3, a4, a5⟩ := AA.out.cells
            clear a0 a1 a5
            have EL : Hid (L2 = L) := by have h1 := hL2.out; have h2 := HL.out; show _ = _; rw [h1, h2]
            have EQ : Hid (Q2 = Qk) := by have h1 := hQ2.out; have h2 := HQ.out; have h3 := EL.out; show _ = _; rw [h1, h3, h2]
            by_cases ha : a = q
            · by_cases hb0 : b = 0
              · have EA : Hid (A2 = Qk) := by have h1 := hA2.out; have h2 := EQ.out; show _ = _; rw [h1, if_pos (show numF a q b = true from decide_eq_true ⟨ha, hb0⟩), h2]
                subst ha
                subst hb0
                have n3 := OO.out.frozen 3
                obtain ⟨g0, g1, g2, g3, g4, g5⟩ := OO.out.cells
                have HT := (TurnAt.refl (N1 + 1) wr).setCell 3 (.int .i64 Qk)
                have LL : Hid (OwnI (wr.setCell ⟨(N1 + 1), 3, none⟩ (.int .i64 Qk)) w.heap.size (.slice ao1 ws.length cap1) ws) := own_tok LL.out OO.out HT
                have SS : Hid (SlI (wr.setCell ⟨(N1 + 1), 3, none⟩ (.int .i64 Qk)) w.heap.size uI L) := sl_turn SS.out OO.out HT
                have RR : Hid (TokAt (wr.setCell ⟨(N1 + 1), 3, none⟩ (.int .i64 Qk)) (w.heap.size + 1) 0 0 0 0 0 (.slice none 0 0)) := RR.out.turn HT (by omega)
                have BB : Hid (Below w.heap.size w (wr.setCell ⟨(N1 + 1), 3, none⟩ (.int .i64 Qk))) := BB.out.trans (HT.below (by omega))
                have OO : Hid (TokAt (wr.setCell ⟨(N1 + 1), 3, none⟩ (.int .i64 Qk)) (N1 + 1) c r Qk Qk 0 (.slice ao1 ws.length cap1)) := OO.out.set3 Qk
                clear HT
                obtain ⟨x0, x1, x2, x3, x4, x5⟩ := OO.out.cells
                obtain ⟨y0, y1, y2, y3, y4, y5⟩ := RR.out.cells
                have m0 := RR.out.frozen 0
                have m1 := RR.out.frozen 1
                have m2 := RR.out.frozen 2
                have m3 := RR.out.frozen 3
                have m4 := RR.out.frozen 4
                have m5 := RR.out.frozen 5
                go_wp2_with fail
                have R3 : TokAt _ (w.heap.size + 1) c r Qk Qk 0 (.slice ao1 ws.length cap1) := RR.out.agg c r Qk Qk 0 (.slice ao1 ws.length cap1)
                have T3 := ((((((TurnAt.refl (w.heap.size + 1) (wr.setCell ⟨(N1 + 1), 3, none⟩ (.int .i64 Qk))).setCell 0 (.int .i64 c)).setCell 1 (.int .i64 r)).setCell 2 (.int .i64 Qk)).setCell 3 (.int .i64 Qk)).setCell 4 (.int .i64 0)).setCell 5 (.slice ao1 ws.length cap1)
                have V3 := own_tok LL.out RR.out T3
                have S3 := sl_turn SS.out RR.out T3
                have B3 := BB.out.trans (T3.below (by omega))
                clear T3
                generalize (((((((wr.setCell ⟨(N1 + 1), 3, none⟩ (.int .i64 Qk)).setCell ⟨w.heap.size + 1, 0, none⟩ (.int .i64 c)).setCell ⟨w.heap.size + 1, 1, none⟩ (.int .i64 r)).setCell ⟨w.heap.size + 1, 2, none⟩ (.int .i64 Qk)).setCell ⟨w.heap.size + 1, 3, none⟩ (.int .i64 Qk)).setCell ⟨w.heap.size + 1, 4, none⟩ (.int .i64 0)).setCell ⟨w.heap.size + 1, 5, none⟩ (.slice ao1 ws.length cap1)) = W3 at *
                obtain ⟨q0, q1, q2, q3, q4, q5⟩ := R3.cells
                refine bodyPost_ret (v := .tuple #[.agg #[.int .i64 c, .int .i64 r, .int .i64 Qk, .int .i64 Qk, .int .i64 0, .slice ao1 ws.length cap1], uI]) (by simp [results, Try.results130, go_sem, q0, q1, q2, q3, q4, q5]) rfl ?_
                exact ⟨_, _, by rw [EQ.out, EA.out], V3, by rw [EL.out]; exact S3, B3⟩
              · have EA : Hid (A2 = a) := by have h1 := hA2.out; show _ = _; rw [h1, if_neg (by unfold numF; simp [hb0])]
                subst ha
                obtain ⟨x0, x1, x2, x3, x4, x5⟩ := OO.out.cells
                obtain ⟨y0, y1, y2, y3, y4, y5⟩ := RR.out.cells
                have m0 := RR.out.frozen 0
                have m1 := RR.out.frozen 1
                have m2 := RR.out.frozen 2
                have m3 := RR.out.frozen 3
                have m4 := RR.out.frozen 4
                have m5 := RR.out.frozen 5
                go_wp2_with fail
                have R3 : TokAt _ (w.heap.size + 1) c r Qk a b (.slice ao1 ws.length cap1) := RR.out.agg c r Qk a b (.slice ao1 ws.length cap1)
                have T3 := ((((((TurnAt.refl (w.heap.size + 1) wr).setCell 0 (.int .i64 c)).setCell 1 (.int .i64 r)).setCell 2 (.int .i64 Qk)).setCell 3 (.int .i64 a)).setCell 4 (.int .i64 b)).setCell 5 (.slice ao1 ws.length cap1)
                have V3 := own_tok LL.out RR.out T3
                have S3 := sl_turn SS.out RR.out T3
                have B3 := BB.out.trans (T3.below (by omega))
                clear T3
                generalize ((((((wr.setCell ⟨w.heap.size + 1, 0, none⟩ (.int .i64 c)).setCell ⟨w.heap.size + 1, 1, none⟩ (.int .i64 r)).setCell ⟨w.heap.size + 1, 2, none⟩ (.int .i64 Qk)).setCell ⟨w.heap.size + 1, 3, none⟩ (.int .i64 a)).setCell ⟨w.heap.size + 1, 4, none⟩ (.int .i64 b)).setCell ⟨w.heap.size + 1, 5, none⟩ (.slice ao1 ws.length cap1)) = W3 at *
                obtain ⟨q0, q1, q2, q3, q4, q5⟩ := R3.cells
                refine bodyPost_ret (v := .tuple #[.agg #[.int .i64 c, .int .i64 r, .int .i64 Qk, .int .i64 a, .int .i64 b, .slice ao1 ws.length cap1], uI]) (by simp [results, Try.results130, go_sem, q0, q1, q2, q3, q4, q5]) rfl ?_
                exact ⟨_, _, by rw [EQ.out, EA.out], V3, by rw [EL.out]; exact S3, B3⟩
            · have EA : Hid (A2 = a) := by have h1 := hA2.out; show _ = _; rw [h1, if_neg (by unfold numF; simp [ha])]
              obtain ⟨x0, x1, x2, x3, x4, x5⟩ := OO.out.cells
              obtain ⟨y0, y1, y2, y3, y4, y5⟩ := RR.out.cells
              have m0 := RR.out.frozen 0
              have m1 := RR.out.frozen 1
              have m2 := RR.out.frozen 2
              have m3 := RR.out.frozen 3
              have m4 := RR.out.frozen 4
              have m5 := RR.out.frozen 5
              go_wp2_with fail
              have R3 : TokAt _ (w.heap.size + 1) c r Qk a b (.slice ao1 ws.length cap1) := RR.out.agg c r Qk a b (.slice ao1 ws.length cap1)
              have T3 := ((((((TurnAt.refl (w.heap.size + 1) wr).setCell 0 (.int .i64 c)).setCell 1 (.int .i64 r)).setCell 2 (.int .i64 Qk)).setCell 3 (.int .i64 a)).setCell 4 (.int .i64 b)).setCell 5 (.slice ao1 ws.length cap1)
              have V3 := own_tok LL.out RR.out T3
              have S3 := sl_turn SS.out RR.out T3
              have B3 := BB.out.trans (T3.below (by omega))
              clear T3
              generalize ((((((wr.setCell ⟨w.heap.size + 1, 0, none⟩ (.int .i64 c)).setCell ⟨w.heap.size + 1, 1, none⟩ (.int .i64 r)).setCell ⟨w.heap.size + 1, 2, none⟩ (.int .i64 Qk)).setCell ⟨w.heap.size + 1, 3, none⟩ (.int .i64 a)).setCell ⟨w.heap.size + 1, 4, none⟩ (.int .i64 b)).setCell ⟨w.heap.size + 1, 5, none⟩ (.slice ao1 ws.length cap1)) = W3 at *
              obtain ⟨q0, q1, q2, q3, q4, q5⟩ := R3.cells
              refine bodyPost_ret (v := .tuple #[.agg #[.int .i64 c, .int .i64 r, .int .i64 Qk, .int .i64 a, .int .i64 b, .slice ao1 ws.length cap1], uI]) (by simp [results, Try.results130, go_sem, q0, q1, q2, q3, q4, q5]) rfl ?_
              exact ⟨_, _, by rw [EQ.out, EA.out], V3, by rw [EL.out]; exact S3, B3⟩
          · have d3 : decide (60 < (t.size : Int)) = false := by simp; omega
            have hsz : t.size ≤ 1048576 := by omega
            have HSN : Hid (NSt f lv q tx (k + 1) (L ++ [(Qk + 1, f, lvP lv k, t)])) := by
              have h := nSt_next HST.out hltk ⟨by omega, by have := HQk.out; omega, by rw [← HTX.out]; omega⟩
              rw [← HQk.out, ← HTX.out] at h
              exact h
            have HQ2 : Hid (Qk + 1 = q + ((k + 1 : Nat) : Int)) := by have := HQk.out; show _ = _; omega
            have hw : IntKind.i64.wrap (Qk + 1) = Qk + 1 := by rw [IntKind.wrap_i64]; omega
            have n2 := OO.out.frozen 2
            have HT := (TurnAt.refl (N1 + 1) wr).setCell 2 (.int .i64 (Qk + 1))
            have OO2 : Hid (TokAt (wr.setCell ⟨(N1 + 1), 2, none⟩ (.int .i64 (Qk + 1))) (N1 + 1) c r (Qk + 1) a b (.slice ao1 ws.length cap1)) := OO.out.set2 _
            have SX2 : Hid (SlI (wr.setCell ⟨(N1 + 1), 2, none⟩ (.int .i64 (Qk + 1))) N1 uI L) := sl_turn SX.out OO.out HT
            have BW2 : Hid (Below N1 w3 (wr.setCell ⟨(N1 + 1), 2, none⟩ (.int .i64 (Qk + 1)))) := BW.out.trans (HT.below (by omega))
            clear HT
            go_wp2_with fail
            generalize wr.setCell ⟨(N1 + 1), 2, none⟩ (.int .i64 (Qk + 1)) = W8 at *
            obtain ⟨p0, p1, p2, p3, p4, p5⟩ := OO2.out.cells
            have HLD : Hid (IntsAt W8.drew al lv) := hlv.out.stays ((BB.out.trans (BW2.out.mono (by omega))).trans (Below.refl _ _).drew)
            obtain ⟨l, hl0⟩ : ∃ l, l = lvP lv k := ⟨_, rfl⟩
            have LEV : Hid (∀ W : World, Hid (IntsAt W al lv) → Calls Try.prog 160 #[.slice al lv.length cl, .int .i64 k] W fun e w' => e = .returned (.int .i64 l) ∧ w' = W) := fun W h => by rw [hl0]; exact level_any al cl lv k W h hll (by omega)
            rw [← hl0] at HSN
            have zW : N1 ≤ W8.heap.size := Nat.le_trans (by omega) BW2.out.size
            have gOl : (N1 + 1) < W8.heap.size := OO2.out.lt
            have S8 : Hid (SlI W8.drew N1 uI L) := SX2.out.drew
            clear p0 p1 p3 p4 p5 hl0 n2 o2 hct OO SX hw
            go_region_law (first
              | (refine step_pushIt (by rfl) _ _ 27 (by rfl) Try.underlying27 L (by rfl) S5 (Qk + 1, f, l, t) rfl (by rfl) (by omega) z5 ?_; intro v6 w6 S6 G6)
              | (go_simp; refine (LEV.out _ HLD).mono ?_; rintro e w4 ⟨rfl, rfl⟩; go_simp)
              | (go_simp; refine (clone_any t _ hsz).mono ?_; rintro e w5 ⟨rfl, hb5⟩; have p5 : w5.cell? ⟨(N1 + 1), 2, none⟩ = some (.int .i64 (Qk + 1)) := (hb5.cell (p := ⟨(N1 + 1), 2, none⟩) gOl).trans p2; have S5 := S8.out.below hb5; have z5 : N1 ≤ w5.heap.size := Nat.le_trans zW hb5.size; have G5 : W8.grownBy w5 uI.ownBlock := grown_bl ((Below.refl _ W8).drew.trans hb5); go_simp))
            all_goals
              have G9 : W8.grownBy w6 uI.ownBlock := grown_transC G5 G6
              have SX : Hid (SlI w6 N1 v6 (L ++ [(Qk + 1, f, l, t)])) := S6
              have OO : Hid (TokAt w6 (N1 + 1) c r (Qk + 1) a b (.slice ao1 ws.length cap1)) := (G9.block (N1 + 1) gOl (fun e => sl_tokne SX2.out OO2.out (by decide) e.symm)).trans OO2.out
              have BW : Hid (Below N1 w3 w6) := BW2.out.grown G9 zW (fun k hk => (SX2.out.lt k hk).1)
              clear G9 OO2 SX2 BW2 S8 p2 S5 S6 G5 G6 hb5 p5
              go_wp2_with fail
              go_roundw
              case rel => exact ⟨k + 1, Qk + 1, L ++ [(Qk + 1, f, l, t)], by omega, by omega, by go_num, ⟨by omega, by omega⟩, HQ2, HSN, OO, SX, BW⟩
              case measure => simp [intOf]; omega
    · obtain rfl : k = tx.length := by omega
      have HL : Hid (numGo f lv q 0 tx = L) := nSt_stop HST.out (fun h => by omega)
      have HQ : Hid (Qk = q + (L.length : Int)) := by rw [HST.out.1]; exact HQk.out
      have RR : Hid (TokAt wr (w.heap.size + 1) 0 0 0 0 0 (.slice none 0 0)) := RR.out.stays BW.out (by omega)
      have AA : Hid (TokAt wr w.heap.size c r q a b (.slice ao0 ws.length cap0)) := AA.out.stays BW.out (by omega)
      have LL : Hid (OwnI wr w.heap.size (.slice ao1 ws.length cap1) ws) := LL.out.stays BW.out VL.out
      have BB : Hid (Below w.heap.size w wr) := BB.out.trans (BW.out.mono (by omega))
      have SS : Hid (SlI wr w.heap.size uI L) := SX.out.down (by omega)
      obtain ⟨a0, a1, a2, a3, a4, a5⟩ := AA.out.cells
      clear a0 a1 a5
      have EL : Hid (L2 = L) := by have h1 := hL2.out; have h2 := HL.out; show _ = _; rw [h1, h2]
      have EQ : Hid (Q2 = Qk) := by have h1 := hQ2.out; have h2 := HQ.out; have h3 := EL.out; show _ = _; rw [h1, h3, h2]
      by_cases ha : a = q
      · by_cases hb0 : b = 0
        · have EA : Hid (A2 = Qk) := by have h1 := hA2.out; have h2 := EQ.out; show _ = _; rw [h1, if_pos (show numF a q b = true from decide_eq_true ⟨ha, hb0⟩), h2]
          subst ha
          subst hb0
          have n3 := OO.out.frozen 3
          obtain ⟨g0, g1, g2, g3, g4, g5⟩ := OO.out.cells
          have HT := (TurnAt.refl (N1 + 1) wr).setCell 3 (.int .i64 Qk)
          have LL : Hid (OwnI (wr.setCell ⟨(N1 + 1), 3, none⟩ (.int .i64 Qk)) w.heap.size (.slice ao1 ws.length cap1) ws) := own_tok LL.out OO.out HT
          have SS : Hid (SlI (wr.setCell ⟨(N1 + 1), 3, none⟩ (.int .i64 Qk)) w.heap.size uI L) := sl_turn SS.out OO.out HT
          have RR : Hid (TokAt (wr.setCell ⟨(N1 + 1), 3, none⟩ (.int .i64 Qk)) (w.heap.size + 1) 0 0 0 0 0 (.slice none 0 0)) := RR.out.turn HT (by omega)
          have BB : Hid (Below w.heap.size w (wr.setCell ⟨(N1 + 1), 3, none⟩ (.int .i64 Qk))) := BB.out.trans (HT.below (by omega))
          have OO : Hid (TokAt (wr.setCell ⟨(N1 + 1), 3, none⟩ (.int .i64 Qk)) (N1 + 1) c r Qk Qk 0 (.slice ao1 ws.length cap1)) := OO.out.set3 Qk
          clear HT
          obtain ⟨x0, x1, x2, x3, x4, x5⟩ := OO.out.cells
          obtain ⟨y0, y1, y2, y3, y4, y5⟩ := RR.out.cells
          have m0 := RR.out.frozen 0
          have m1 := RR.out.frozen 1
          have m2 := RR.out.frozen 2
          have m3 := RR.out.frozen 3
          have m4 := RR.out.frozen 4
          have m5 := RR.out.frozen 5
          go_wp2_with fail
          have R3 : TokAt _ (w.heap.size + 1) c r Qk Qk 0 (.slice ao1 ws.length cap1) := RR.out.agg c r Qk Qk 0 (.slice ao1 ws.length cap1)
          have T3 := ((((((TurnAt.refl (w.heap.size + 1) (wr.setCell ⟨(N1 + 1), 3, none⟩ (.int .i64 Qk))).setCell 0 (.int .i64 c)).setCell 1 (.int .i64 r)).setCell 2 (.int .i64 Qk)).setCell 3 (.int .i64 Qk)).setCell 4 (.int .i64 0)).setCell 5 (.slice ao1 ws.length cap1)
          have V3 := own_tok LL.out RR.out T3
          have S3 := sl_turn SS.out RR.out T3
          have B3 := BB.out.trans (T3.below (by omega))
          clear T3
          generalize (((((((wr.setCell ⟨(N1 + 1), 3, none⟩ (.int .i64 Qk)).setCell ⟨w.heap.size + 1, 0, none⟩ (.int .i64 c)).setCell ⟨w.heap.size + 1, 1, none⟩ (.int .i64 r)).setCell ⟨w.heap.size + 1, 2, none⟩ (.int .i64 Qk)).setCell ⟨w.heap.size + 1, 3, none⟩ (.int .i64 Qk)).setCell ⟨w.heap.size + 1, 4, none⟩ (.int .i64 0)).setCell ⟨w.heap.size + 1, 5, none⟩ (.slice ao1 ws.length cap1)) = W3 at *
          obtain ⟨q0, q1, q2, q3, q4, q5⟩ := R3.cells
          refine bodyPost_ret (v := .tuple #[.agg #[.int .i64 c, .int .i64 r, .int .i64 Qk, .int .i64 Qk, .int .i64 0, .slice ao1 ws.length cap1], uI]) (by simp [results, Try.results130, go_sem, q0, q1, q2, q3, q4, q5]) rfl ?_
          exact ⟨_, _, by rw [EQ.out, EA.out], V3, by rw [EL.out]; exact S3, B3⟩
        · have EA : Hid (A2 = a) := by have h1 := hA2.out; show _ = _; rw [h1, if_neg (by unfold numF; simp [hb0])]
          subst ha
          obtain ⟨x0, x1, x2, x3, x4, x5⟩ := OO.out.cells
          obtain ⟨y0, y1, y2, y3, y4, y5⟩ := RR.out.cells
          have m0 := RR.out.frozen 0
          have m1 := RR.out.frozen 1
          have m2 := RR.out.frozen 2
          have m3 := RR.out.frozen 3
          have m4 := RR.out.frozen 4
          have m5 := RR.out.frozen 5
          go_wp2_with fail
          have R3 : TokAt _ (w.heap.size + 1) c r Qk a b (.slice ao1 ws.length cap1) := RR.out.agg c r Qk a b (.slice ao1 ws.length cap1)
          have T3 := ((((((TurnAt.refl (w.heap.size + 1) wr).setCell 0 (.int .i64 c)).setCell 1 (.int .i64 r)).setCell 2 (.int .i64 Qk)).setCell 3 (.int .i64 a)).setCell 4 (.int .i64 b)).setCell 5 (.slice ao1 ws.length cap1)
          have V3 := own_tok LL.out RR.out T3
          have S3 := sl_turn SS.out RR.out T3
          have B3 := BB.out.trans (T3.below (by omega))
          clear T3
          generalize ((((((wr.setCell ⟨w.heap.size + 1, 0, none⟩ (.int .i64 c)).setCell ⟨w.heap.size + 1, 1, none⟩ (.int .i64 r)).setCell ⟨w.heap.size + 1, 2, none⟩ (.int .i64 Qk)).setCell ⟨w.heap.size + 1, 3, none⟩ (.int .i64 a)).setCell ⟨w.heap.size + 1, 4, none⟩ (.int .i64 b)).setCell ⟨w.heap.size + 1, 5, none⟩ (.slice ao1 ws.length cap1)) = W3 at *
          obtain ⟨q0, q1, q2, q3, q4, q5⟩ := R3.cells
          refine bodyPost_ret (v := .tuple #[.agg #[.int .i64 c, .int .i64 r, .int .i64 Qk, .int .i64 a, .int .i64 b, .slice ao1 ws.length cap1], uI]) (by simp [results, Try.results130, go_sem, q0, q1, q2, q3, q4, q5]) rfl ?_
          exact ⟨_, _, by rw [EQ.out, EA.out], V3, by rw [EL.out]; exact S3, B3⟩
      · have EA : Hid (A2 = a) := by have h1 := hA2.out; show _ = _; rw [h1, if_neg (by unfold numF; simp [ha])]
        obtain ⟨x0, x1, x2, x3, x4, x5⟩ := OO.out.cells
        obtain ⟨y0, y1, y2, y3, y4, y5⟩ := RR.out.cells
        have m0 := RR.out.frozen 0
        have m1 := RR.out.frozen 1
        have m2 := RR.out.frozen 2
        have m3 := RR.out.frozen 3
        have m4 := RR.out.frozen 4
        have m5 := RR.out.frozen 5
        go_wp2_with fail
        have R3 : TokAt _ (w.heap.size + 1) c r Qk a b (.slice ao1 ws.length cap1) := RR.out.agg c r Qk a b (.slice ao1 ws.length cap1)
        have T3 := ((((((TurnAt.refl (w.heap.size + 1) wr).setCell 0 (.int .i64 c)).setCell 1 (.int .i64 r)).setCell 2 (.int .i64 Qk)).setCell 3 (.int .i64 a)).setCell 4 (.int .i64 b)).setCell 5 (.slice ao1 ws.length cap1)
        have V3 := own_tok LL.out RR.out T3
        have S3 := sl_turn SS.out RR.out T3
        have B3 := BB.out.trans (T3.below (by omega))
        clear T3
        generalize ((((((wr.setCell ⟨w.heap.size + 1, 0, none⟩ (.int .i64 c)).setCell ⟨w.heap.size + 1, 1, none⟩ (.int .i64 r)).setCell ⟨w.heap.size + 1, 2, none⟩ (.int .i64 Qk)).setCell ⟨w.heap.size + 1, 3, none⟩ (.int .i64 a)).setCell ⟨w.heap.size + 1, 4, none⟩ (.int .i64 b)).setCell ⟨w.heap.size + 1, 5, none⟩ (.slice ao1 ws.length cap1)) = W3 at *
        obtain ⟨q0, q1, q2, q3, q4, q5⟩ := R3.cells
        refine bodyPost_ret (v := .tuple #[.agg #[.int .i64 c, .int .i64 r, .int .i64 Qk, .int .i64 a, .int .i64 b, .slice ao1 ws.length cap1], uI]) (by simp [results, Try.results130, go_sem, q0, q1, q2, q3, q4, q5]) rfl ?_
        exact ⟨_, _, by rw [EQ.out, EA.out], V3, by rw [EL.out]; exact S3, B3⟩
end Go.Proofs.Ythdjkkiegecgnaa


/- The walk over the specification's Number. -/
namespace Go.Proofs.Ythdjkkiegecgnaa
open Go.RowKit Pl
set_option linter.unusedVariables false

end Go.Proofs.Ythdjkkiegecgnaa


/- Both Number, at every argument. -/
namespace Go.Proofs.Ythdjkkiegecgnaa
open Go.RowKit Pl
set_option linter.unusedVariables false

def numOk (c r q a b : Int) (ws : List Int) (f : Int) : Bool := tkB c r q a b ws && decide (1 ≤ f ∧ f ≤ 5)
def numL (c r q a b : Int) (ws : List Int) (f : Int) (lv : List Int) (tx : List ByteArray) : List It := if numOk c r q a b ws f then numGo f lv q 0 tx else []
def numQ (c r q a b : Int) (ws : List Int) (f : Int) (lv : List Int) (tx : List ByteArray) : Int := q + ((numL c r q a b ws f lv tx).length : Int)
def numA (c r q a b : Int) (ws : List Int) (f : Int) (lv : List Int) (tx : List ByteArray) : Int := if numOk c r q a b ws f then (if numF a q b then numQ c r q a b ws f lv tx else a) else a
theorem tkB_q {c r q a b : Int} {ws : List Int} (h : tkB c r q a b ws = true) : 0 ≤ q ∧ q ≤ 60 := by
  unfold tkB at h
  simp only [Bool.and_eq_true, decide_eq_true_eq] at h
  exact h.2.2.1
theorem numGo_len {f : Int} {lv : List Int} : ∀ (ts : List ByteArray) (q : Int) (k : Nat), k ≤ 3 → (numGo f lv q k ts).length + k ≤ 3
  | [], _, k, hk => by simp [numGo]; omega
  | t :: ts, q, k, hk => by
    rw [numGo]
    by_cases h : k < 3 ∧ q < 60 ∧ t.size ≤ 60
    · rw [if_pos h]
      have := numGo_len (f := f) (lv := lv) ts (q + 1) (k + 1) (by omega)
      simp only [List.length_cons]
      omega
    · rw [if_neg h]; simp; omega
theorem numL_len (c r q a b : Int) (ws : List Int) (f : Int) (lv : List Int) (tx : List ByteArray) : (numL c r q a b ws f lv tx).length ≤ 3 := by
  unfold numL
  split
  · have := numGo_len (f := f) (lv := lv) tx q 0 (by omega); omega
  · simp

theorem numberT_any (c r q a b f : Int) (u0 : Value) (ws : List Int) (B0 : Nat) (al : Option Addr) (cl : Nat) (lv : List Int) (at_ : Option Addr) (ct : Nat) (tx : List ByteArray) (w : World) (h : Hid (OwnI w B0 u0 ws)) (hl : ws.length ≤ 1048576) (hlv : Hid (IntsAt w al lv)) (hll : lv.length ≤ 1048576) (htx : Hid (TextsAt w at_ tx)) (hlt : tx.length ≤ 1048576) :
    Calls Try.prog 130 #[.agg #[.int .i64 c, .int .i64 r, .int .i64 q, .int .i64 a, .int .i64 b, u0], .int .i64 f, .slice al lv.length cl, .slice at_ tx.length ct] w fun e w' => ∃ v vi, e = .returned (.tuple #[.agg #[.int .i64 c, .int .i64 r, .int .i64 (numQ c r q a b ws f lv tx), .int .i64 (numA c r q a b ws f lv tx), .int .i64 b, v], vi]) ∧ OwnI w' w.heap.size v ws ∧ SlI w' w.heap.size vi (numL c r q a b ws f lv tx) ∧ Below w.heap.size w w' := by
  cases ht : tkB c r q a b ws with
  | false =>
    have e1 : numOk c r q a b ws f = false := by unfold numOk; rw [ht]; rfl
    rw [show numQ c r q a b ws f lv tx = q by simp [numQ, numL, e1], show numA c r q a b ws f lv tx = a by simp [numA, e1], show numL c r q a b ws f lv tx = [] by simp [numL, e1]]
    exact num_0 c r q a b f u0 ws B0 al cl lv at_ ct tx w h hl hlv hll htx hlt ht
  | true =>
    cases hd : decide (1 ≤ f ∧ f ≤ 5) with
    | false =>
      have e1 : numOk c r q a b ws f = false := by unfold numOk; rw [ht, hd]; rfl
      rw [show numQ c r q a b ws f lv tx = q by simp [numQ, numL, e1], show numA c r q a b ws f lv tx = a by simp [numA, e1], show numL c r q a b ws f lv tx = [] by simp [numL, e1]]
      exact num_1 c r q a b f u0 ws B0 al cl lv at_ ct tx w h hl hlv hll htx hlt ht hd
    | true =>
      have e1 : numOk c r q a b ws f = true := by unfold numOk; rw [ht, hd]; rfl
      have hq := tkB_q ht
      exact num_2 c r q a b f u0 ws B0 al cl lv at_ ct tx w h hl hlv hll htx hlt ht hd hq.1 hq.2 _ _ _ (show numL c r q a b ws f lv tx = _ by unfold numL; rw [if_pos e1]) rfl (show numA c r q a b ws f lv tx = _ by unfold numA; rw [if_pos e1])

end Go.Proofs.Ythdjkkiegecgnaa


/- A member hears: mustWait, hear. -/
namespace Go.Proofs.Ythdjkkiegecgnaa
open Go.RowKit Pl
set_option linter.unusedVariables false
set_option linter.unusedSimpArgs false

theorem below_dN {B : Nat} {w a : World} (h : Below B w a) (n : Nat) : Below B w (a.drewN n) := h.trans ⟨rfl, rfl, rfl, Nat.le_refl _, fun _ _ => rfl⟩
/-- whether an item must wait. -/
def waitB (li q l : Int) : Bool := decide (l = 2) && decide (li < q)
set_option maxRecDepth 100000 in
set_option maxHeartbeats 2000000 in
theorem mustWait_any (m : Mt) (u : Mv) (it : Sv) (g : Nat) (q f l : Int) (t : ByteArray) (w : World) (h : Hid (MbB w g m u it)) :
    Calls Try.prog 114 #[.pointer (some ⟨g, 0, none⟩), .agg #[.int .i64 q, .int .i64 f, .int .i64 l, .string t]] w fun e w' => e = .returned (.bool (waitB m.li q l)) ∧ Below w.heap.size w w' := by
  have HI : Bx (w.alloc (.cells #[.int .i64 q, .int .i64 f, .int .i64 l, .string t] 38)) w.heap.size 38 [.int .i64 q, .int .i64 f, .int .i64 l, .string t] := Bx.new w 38 _
  have HG : Bx (w.alloc (.cells #[.int .i64 q, .int .i64 f, .int .i64 l, .string t] 38)) g 115 [.slice u.its.a u.its.n u.its.c, .int .i64 m.id, .int .i64 m.rid, .slice u.ms.a u.ms.n u.ms.c, .slice it.a it.n it.c, .slice u.lv.a u.lv.n u.lv.c, .slice u.tx.a u.tx.n u.tx.c, .int .i64 m.rd, .int .i64 m.se, .int .i64 m.li, .int .i64 m.he, .int .i64 m.la.c, .int .i64 m.la.r, .int .i64 m.la.q, .int .i64 m.la.a, .int .i64 m.la.b, .slice u.ws.a u.ws.n u.ws.c] := Bx.later h.out ((Below.refl _ _).alloc (Nat.le_refl _) _)
  have B0 : Hid (Below w.heap.size w (w.alloc (.cells #[.int .i64 q, .int .i64 f, .int .i64 l, .string t] 38))) := (Below.refl _ _).alloc (Nat.le_refl _) _
  have r0 : (w.alloc (.cells #[.int .i64 q, .int .i64 f, .int .i64 l, .string t] 38)).cell? ⟨w.heap.size, 0, none⟩ = some (.int .i64 q) := HI.cell 0
  have r2 : (w.alloc (.cells #[.int .i64 q, .int .i64 f, .int .i64 l, .string t] 38)).cell? ⟨w.heap.size, 2, none⟩ = some (.int .i64 l) := HI.cell 2
  have r9 : (w.alloc (.cells #[.int .i64 q, .int .i64 f, .int .i64 l, .string t] 38)).cell? ⟨g, 9, none⟩ = some (.int .i64 m.li) := HG.cell 9
  clear h HI HG
  unfold waitB
  by_cases h2 : l = 2
  · subst h2
    go_enter Try.func114, Try.ntmps114
    go_wp2_with fail
    go_quiet (fail)
    go_wp2_with fail
    go_ret
    exact ⟨by simp, below_dN B0.out _⟩
  · have hb : (l == 2) = false := by simpa using h2
    have hd : decide (l = 2) = false := by simpa using h2
    rw [hd]
    go_enter Try.func114, Try.ntmps114
    go_wp2_with fail
    go_quiet (fail)
    go_wp2_with fail
    go_ret
    exact ⟨rfl, below_dN B0.out _⟩
theorem keep_grow {g : Nat} {w a b : World} {row : Option Nat} (h : KeepBut g w a) (k : a.grownBy b row) (hr : ∀ n, row = some n → w.heap.size ≤ n) : KeepBut g w b :=
  ⟨k.os.trans h.os, k.tape.trans h.tape, k.output.trans h.output, Nat.le_trans h.size k.size, fun i hi hne => (k.block i (Nat.lt_of_lt_of_le hi h.size) (fun e => by have := hr i e.symm; omega)).trans (h.block i hi hne)⟩
/-- what is heard in n rounds, from h on. -/
def hears (ts : List It) (li : Int) : Nat → Int → List It
  | 0, _ => []
  | n + 1, h => match atP ts (h + 1) with
    | none => []
    | some x => if waitB li x.1 x.2.2.1 = true then [] else x :: hears ts li n (h + 1)
theorem hears_none {ts : List It} {li h : Int} {n : Nat} (hx : atP ts (h + 1) = none) : hears ts li (n + 1) h = [] := by unfold hears; rw [hx]
theorem hears_wait {ts : List It} {li h : Int} {n : Nat} {x : It} (hx : atP ts (h + 1) = some x) (hw : waitB li x.1 x.2.2.1 = true) : hears ts li (n + 1) h = [] := by unfold hears; rw [hx]; simp [hw]
theorem hears_go {ts : List It} {li h : Int} {n : Nat} {x : It} (hx : atP ts (h + 1) = some x) (hw : waitB li x.1 x.2.2.1 = false) : hears ts li (n + 1) h = x :: hears ts li n (h + 1) := by conv => lhs; unfold hears; rw [hx]; simp [hw]
theorem hears_len (ts : List It) (li : Int) : ∀ (n : Nat) (h : Int), (hears ts li n h).length ≤ n
  | 0, _ => by simp [hears]
  | n + 1, h => by
    cases hx : atP ts (h + 1) with
    | none => rw [hears_none hx]; simp
    | some x =>
      cases hw : waitB li x.1 x.2.2.1 with
      | true => rw [hears_wait hx hw]; simp
      | false => rw [hears_go hx hw]; have := hears_len ts li n (h + 1); simp; omega
def Mt.hear (m : Mt) : List It := hears m.its m.li ((aruP m.its : Int) - m.he).toNat m.he
def Mt.setH (m : Mt) (h : Int) : Mt := ⟨m.id, m.rid, m.ms, m.its, m.lv, m.tx, m.rd, m.se, m.li, h, m.la⟩
def lenV : Value → Nat
  | .slice _ n _ => n
  | _ => 0
theorem lenV_of {w : World} {B : Nat} {v : Value} {ts : List It} (h : SlI w B v ts) : lenV v = ts.length := by
  obtain ⟨a, c, h1⟩ := Sl.form h
  rw [h1]; rfl
theorem at_r (ts : List It) (s : Sv) (n : Int) (w : World) (h : Hid (RIt w s.v ts)) (hl : ts.length ≤ 1048576) : Calls Try.prog 113 #[.slice s.a s.n s.c, .int .i64 n] w fun e w' => e = .returned (.tuple #[agg ((atP ts n).getD zIt), .bool (hasP ts n)]) ∧ Below w.heap.size w w' := by
  obtain ⟨ao, cap, h1, h2⟩ := h.out; unfold Sv.v at h1; rw [h1]; exact at_any ao cap ts n w h2 hl

theorem atP_mem' {ts : List It} {n : Int} {x : It} (h : atP ts n = some x) : x ∈ ts := List.mem_of_find?_eq_some h
theorem Try.sizeN3 : (Try.prog.info? 3).map (·.size) = some 1 := by kernel_rfl
theorem at_s (ts : List It) (s : Sv) (n : Int) (q f l : Int) (t : ByteArray) (w : World) (h : Hid (RIt w s.v ts)) (hl : ts.length ≤ 1048576) (hy : Hid ((atP ts n).getD zIt = (q, f, l, t))) : Calls Try.prog 113 #[.slice s.a s.n s.c, .int .i64 n] w fun e w' => e = .returned (.tuple #[.agg #[.int .i64 q, .int .i64 f, .int .i64 l, .string t], .bool (hasP ts n)]) ∧ Below w.heap.size w w' := by
  have h1 := at_r ts s n w h hl
  rw [hy.out] at h1
  exact h1

set_option maxRecDepth 100000 in
set_option maxHeartbeats 4000000 in
theorem hear_any (m : Mt) (u : Mv) (it : Sv) (g B : Nat) (w : World) (h : Hid (MbB w g m u it)) (ho : Hid (SlI w B u.its.v m.its)) (hl : m.its.length ≤ 1048576) (hs : Hid (∀ x ∈ m.its, x.2.2.2.size ≤ 1048576)) (h0 : 0 ≤ m.he) (hh : m.he ≤ 1048576) (ha : aruP m.its ≤ 1048576) :
    Calls Try.prog 50 #[.pointer (some ⟨g, 0, none⟩)] w fun e w' => ∃ s : Sv, e = .returned (.slice s.a s.n s.c) ∧ SlI w' w.heap.size s.v m.hear ∧ MbB w' g (m.setH (m.he + m.hear.length)) u it ∧ KeepBut g w w' := by
  obtain ⟨L, hL⟩ : ∃ L : List It, L = m.hear := ⟨_, rfl⟩
  obtain ⟨N, hN⟩ : ∃ N : Nat, N = ((aruP m.its : Int) - m.he).toNat := ⟨_, rfl⟩
  have HL : Hid (hears m.its m.li N m.he = L) := (by rw [hL, hN]; rfl : _ = _)
  have HLN : L.length ≤ N := by have := hears_len m.its m.li N m.he; rw [HL.out] at this; exact this
  have zN : N ≤ 1048576 := by omega
  have HN : Hid (N = ((aruP m.its : Int) - m.he).toNat) := hN
  rw [← hL]
  clear hL hN
  have S0 : Hid (SlI (w.alloc (.cells #[] 38)) w.heap.size (.slice (some ⟨w.heap.size, 0, none⟩) 0 0) []) := SlI.made w w.heap.size (Nat.le_refl _)
  have b : Below w.heap.size w (w.alloc (.cells #[] 38)) := (Below.refl _ _).alloc (Nat.le_refl _) _
  have HG : Hid (Bx (w.alloc (.cells #[] 38)) g 115 [.slice u.its.a u.its.n u.its.c, .int .i64 m.id, .int .i64 m.rid, .slice u.ms.a u.ms.n u.ms.c, .slice it.a it.n it.c, .slice u.lv.a u.lv.n u.lv.c, .slice u.tx.a u.tx.n u.tx.c, .int .i64 m.rd, .int .i64 m.se, .int .i64 m.li, .int .i64 m.he, .int .i64 m.la.c, .int .i64 m.la.r, .int .i64 m.la.q, .int .i64 m.la.a, .int .i64 m.la.b, .slice u.ws.a u.ws.n u.ws.c]) := Bx.later h.out b
  have HI : Hid (SlI (w.alloc (.cells #[] 38)) B u.its.v m.its) := ho.out.below b
  have HK : Hid (KeepBut g w (w.alloc (.cells #[] 38))) := keep_of_below b
  have zg : g < w.heap.size := Bx.lt h.out
  have zI : Hid (∀ k, u.its.v.ownBlock = some k → k < w.heap.size) := fun k hk => (ho.out.lt k hk).2
  have zgI : Hid (u.its.v.ownBlock ≠ some g) := bx_it_ne ho.out (show Bx w g 115 _ from h.out) (by decide)
  clear b ho h
  go_enter Try.func50, Try.ntmps50
  go_wp2_with (first | (refine wpList_ld1 rfl 113 _ rfl g 0 rfl 115 _ HG.out (.slice u.its.a u.its.n u.its.c) rfl _ Try.underlying113 rfl ?_))
  generalize w.alloc (.cells #[] 38) = W at *
  refine (aru_r m.its (show Hid (RIt W u.its.v m.its) from HI.out.rit) hl).mono ?_
  rintro e w1 ⟨rfl, b⟩
  have S0 : Hid (SlI w1 w.heap.size (.slice (some ⟨w.heap.size, 0, none⟩) 0 0) []) := S0.out.below b
  have HG : Hid (Bx w1 g 115 [.slice u.its.a u.its.n u.its.c, .int .i64 m.id, .int .i64 m.rid, .slice u.ms.a u.ms.n u.ms.c, .slice it.a it.n it.c, .slice u.lv.a u.lv.n u.lv.c, .slice u.tx.a u.tx.n u.tx.c, .int .i64 m.rd, .int .i64 m.se, .int .i64 m.li, .int .i64 m.he, .int .i64 m.la.c, .int .i64 m.la.r, .int .i64 m.la.q, .int .i64 m.la.a, .int .i64 m.la.b, .slice u.ws.a u.ws.n u.ws.c]) := HG.out.later b
  have HI : Hid (SlI w1 B u.its.v m.its) := HI.out.below b
  have HK : Hid (KeepBut g w w1) := HK.out.trans (keep_of_below b)
  clear b
  go_wp2_with fail
  go_loopw [3] (fun v wr => ∃ (k : Nat), k ≤ L.length ∧ Hid (SlI wr w.heap.size v (L.take k)) ∧ Hid (hears m.its m.li (N - k) (m.he + k) = L.drop k) ∧ Hid (Bx wr g 115 [.slice u.its.a u.its.n u.its.c, .int .i64 m.id, .int .i64 m.rid, .slice u.ms.a u.ms.n u.ms.c, .slice it.a it.n it.c, .slice u.lv.a u.lv.n u.lv.c, .slice u.tx.a u.tx.n u.tx.c, .int .i64 m.rd, .int .i64 m.se, .int .i64 m.li, .int .i64 (m.he + (k : Int)), .int .i64 m.la.c, .int .i64 m.la.r, .int .i64 m.la.q, .int .i64 m.la.a, .int .i64 m.la.b, .slice u.ws.a u.ws.n u.ws.c]) ∧ Hid (SlI wr B u.its.v m.its) ∧ Hid (KeepBut g w wr)) (fun v _ => N + 1 - lenV v)
  case atStart => exact ⟨0, Nat.zero_le _, S0, by simpa using HL, by simpa using HG, HI, HK⟩
  case round =>
    clear S0 HG HI HK
    obtain ⟨k, hk, hS, hE, hG, hI, hK⟩ := hrel
    have hV : Hid (lenV u3 = k) := (by rw [lenV_of hS.out, List.length_take]; omega : lenV u3 = k)
    by_cases hlt : k < N
    · have hd : decide (m.he + (k : Int) < (aruP m.its : Int)) = true := by have := HN.out; simp; omega
      have hwr : IntKind.i64.wrap (m.he + (k : Int) + 1) = m.he + (k : Int) + 1 := by rw [IntKind.wrap_i64]; omega
      go_wp2_with (first | (refine wpList_ld1 rfl 3 _ rfl g 10 rfl 115 _ hG.out (.int .i64 (m.he + (k : Int))) rfl _ Try.underlying3 rfl ?_))
      clear hd
      obtain ⟨⟨q, f, l, t⟩, hy⟩ : ∃ y : It, (atP m.its (m.he + (k : Int) + 1)).getD zIt = y := ⟨_, rfl⟩
      have HY : Hid ((atP m.its (m.he + (k : Int) + 1)).getD zIt = (q, f, l, t)) := hy
      clear hy
      go_cut [5, 6] from 13 to 54 (fun a5 a6 wx => ∃ (gx : Nat), a5 = .pointer (some ⟨gx, 0, none⟩) ∧ a6 = .bool (hasP m.its (m.he + (k : Int) + 1)) ∧ Bx wx gx 38 [.int .i64 q, .int .i64 f, .int .i64 l, .string t] ∧ wr.heap.size ≤ gx ∧ Below wr.heap.size wr wx)
      case first =>
        have c : Below wr.heap.size wr wr.drew := (Below.refl _ _).drew
        refine wp_region_held_drew (S := fun w' => Below wr.heap.size wr w') (by kernel_rfl) c (fun hHeld => ?_)
        refine wpAnyH_take (i := 0) (v := ?v0) rfl (by kernel_rfl) (by kernel_rfl) (by kernel_rfl) (fun _ _ _ h => h) (Or.inl ⟨by rfl, ?hy0⟩) (by assumption) ?_
        case hy0 => (intro w hSw; (try dsimp only at hSw); simp only [List.getElem_toArray, List.getElem_cons_zero, List.getElem_cons_succ]; go_simp; try with_reducible rfl)
        try simp only [Act.put, List.getElem_toArray, List.getElem_cons_zero, List.getElem_cons_succ, List.setIfInBounds_toArray, List.set_cons_zero, List.set_cons_succ]
        refine wpAnyH_take (i := 1) (v := ?v1) rfl (by kernel_rfl) (by kernel_rfl) (by kernel_rfl) (fun _ _ _ h => h) (Or.inl ⟨by rfl, ?hy1⟩) (by assumption) ?_
        case hy1 => (intro w hSw; (try dsimp only at hSw); simp only [List.getElem_toArray, List.getElem_cons_zero, List.getElem_cons_succ]; go_simp; try with_reducible rfl)
        try simp only [Act.put, List.getElem_toArray, List.getElem_cons_zero, List.getElem_cons_succ, List.setIfInBounds_toArray, List.set_cons_zero, List.set_cons_succ]
        refine wpAnyH_take (i := 2) (v := ?v2) rfl (by kernel_rfl) (by kernel_rfl) (by kernel_rfl) (fun _ _ _ h => h) (Or.inl ⟨by rfl, ?hy2⟩) (by assumption) ?_
        case hy2 => (intro w hSw; (try dsimp only at hSw); simp only [List.getElem_toArray, List.getElem_cons_zero, List.getElem_cons_succ]; go_simp; try with_reducible rfl)
        try simp only [Act.put, List.getElem_toArray, List.getElem_cons_zero, List.getElem_cons_succ, List.setIfInBounds_toArray, List.set_cons_zero, List.set_cons_succ]
        refine wpAnyH_take (i := 3) (v := _) rfl (by kernel_rfl) (by kernel_rfl) (by kernel_rfl) (fun _ _ _ h => h) (ld1_yield (by rfl) 113 _ rfl g 0 rfl 115 _ (fun w hS => hG.out.later hS) (.slice u.its.a u.its.n u.its.c) rfl _ Try.underlying113 rfl) (by assumption) ?_
        try simp only [Act.put, List.getElem_toArray, List.getElem_cons_zero, List.getElem_cons_succ, List.setIfInBounds_toArray, List.set_cons_zero, List.set_cons_succ]
        refine wpAnyH_take (i := 4) (v := ?v4) rfl (by kernel_rfl) (by kernel_rfl) (by kernel_rfl) (fun _ _ _ h => h) (Or.inl ⟨by rfl, ?hy4⟩) (by assumption) ?_
        case hy4 => (intro w hSw; (try dsimp only at hSw); simp only [List.getElem_toArray, List.getElem_cons_zero, List.getElem_cons_succ]; go_simp; try with_reducible rfl)
        try simp only [Act.put, List.getElem_toArray, List.getElem_cons_zero, List.getElem_cons_succ, List.setIfInBounds_toArray, List.set_cons_zero, List.set_cons_succ]
        refine wpAnyH_take (i := 5) (v := ?v5) rfl (by kernel_rfl) (by kernel_rfl) (by kernel_rfl) (fun _ _ _ h => h) (Or.inl ⟨by rfl, ?hy5⟩) (by assumption) ?_
        case hy5 => (intro w hSw; (try dsimp only at hSw); simp only [List.getElem_toArray, List.getElem_cons_zero, List.getElem_cons_succ]; go_simp; try with_reducible rfl)
        try simp only [Act.put, List.getElem_toArray, List.getElem_cons_zero, List.getElem_cons_succ, List.setIfInBounds_toArray, List.set_cons_zero, List.set_cons_succ]
        refine wpAnyH_take (i := 6) (v := ?v6) rfl (by kernel_rfl) (by kernel_rfl) (by kernel_rfl) (fun _ _ _ h => h) (Or.inl ⟨by rfl, ?hy6⟩) (by assumption) ?_
        case hy6 => (intro w hSw; (try dsimp only at hSw); simp only [List.getElem_toArray, List.getElem_cons_zero, List.getElem_cons_succ]; go_simp; try with_reducible rfl)
        try simp only [Act.put, List.getElem_toArray, List.getElem_cons_zero, List.getElem_cons_succ, List.setIfInBounds_toArray, List.set_cons_zero, List.set_cons_succ]
        refine wpAnyH_take (i := 7) (v := ?v7) rfl (by kernel_rfl) (by kernel_rfl) (by kernel_rfl) (fun _ _ _ h => h) (Or.inl ⟨by rfl, ?hy7⟩) (by assumption) ?_
        case hy7 => (intro w hSw; (try dsimp only at hSw); simp only [List.getElem_toArray, List.getElem_cons_zero, List.getElem_cons_succ]; go_simp; try with_reducible rfl)
        try simp only [Act.put, List.getElem_toArray, List.getElem_cons_zero, List.getElem_cons_succ, List.setIfInBounds_toArray, List.set_cons_zero, List.set_cons_succ]
        refine wpAnyH_take (i := 8) (v := _) rfl (by kernel_rfl) (by kernel_rfl) (by kernel_rfl) (fun _ _ _ h => h) (ld1_yield (by rfl) 3 _ rfl g 10 rfl 115 _ (fun w hS => hG.out.later hS) (.int .i64 (m.he + (k : Int))) rfl _ Try.underlying3 rfl) (by assumption) ?_
        try simp only [Act.put, List.getElem_toArray, List.getElem_cons_zero, List.getElem_cons_succ, List.setIfInBounds_toArray, List.set_cons_zero, List.set_cons_succ]
        refine wpAnyH_take (i := 9) (v := ?v9) rfl (by kernel_rfl) (by kernel_rfl) (by kernel_rfl) (fun _ _ _ h => h) (Or.inl ⟨by rfl, ?hy9⟩) (by assumption) ?_
        case hy9 => (intro w hSw; (try dsimp only at hSw); simp only [List.getElem_toArray, List.getElem_cons_zero, List.getElem_cons_succ]; go_simp; try with_reducible rfl)
        try simp only [Act.put, List.getElem_toArray, List.getElem_cons_zero, List.getElem_cons_succ, List.setIfInBounds_toArray, List.set_cons_zero, List.set_cons_succ]
        refine wpAnyH_ready (rs := [10, 14]) (by kernel_rfl) (by simp) ?_
        refine (AllReadyH.cons (i := 10) rfl (fun K hK => ?_) (AllReadyH.cons (i := 14) rfl (fun K hK => ?_) AllReadyH.nil))
        · have := c.size
          rw [if_pos (by rfl)]
          simp only [List.getElem_toArray, List.getElem_cons_zero, List.getElem_cons_succ]
          go_simp
          have hIc : Hid (RIt wr.drew u.its.v m.its) := (hI.out.below c).rit
          refine (at_s m.its u.its (m.he + (k : Int) + 1) q f l t _ hIc hl HY).mono ?_
          rintro e y1 ⟨rfl, b⟩
          have c : Below wr.heap.size wr y1 := bl_next c b
          refine hK.out _ _ (c) (fun hHeld => ?_)
          clear hK K
          try simp only [Act.put, List.getElem_toArray, List.getElem_cons_zero, List.getElem_cons_succ, List.setIfInBounds_toArray, List.set_cons_zero, List.set_cons_succ]
          clear b
          refine wpAnyH_take (i := 11) (v := ?v11) rfl (by kernel_rfl) (by kernel_rfl) (by kernel_rfl) (fun _ _ _ h => h) (Or.inl ⟨by rfl, ?hy11⟩) (by assumption) ?_
          case hy11 => (intro w hSw; (try dsimp only at hSw); simp only [List.getElem_toArray, List.getElem_cons_zero, List.getElem_cons_succ]; go_simp; try with_reducible rfl)
          try simp only [Act.put, List.getElem_toArray, List.getElem_cons_zero, List.getElem_cons_succ, List.setIfInBounds_toArray, List.set_cons_zero, List.set_cons_succ]
          refine wpAnyH_take (i := 12) (v := ?v12) rfl (by kernel_rfl) (by kernel_rfl) (by kernel_rfl) (fun _ _ _ h => h) (Or.inl ⟨by rfl, ?hy12⟩) (by assumption) ?_
          case hy12 => (intro w hSw; (try dsimp only at hSw); simp only [List.getElem_toArray, List.getElem_cons_zero, List.getElem_cons_succ]; go_simp; try with_reducible rfl)
          try simp only [Act.put, List.getElem_toArray, List.getElem_cons_zero, List.getElem_cons_succ, List.setIfInBounds_toArray, List.set_cons_zero, List.set_cons_succ]
          refine wpAnyH_take (i := 13) (v := ?v13) rfl (by kernel_rfl) (by kernel_rfl) (by kernel_rfl) (fun _ _ _ h => h) (Or.inl ⟨by rfl, ?hy13⟩) (by assumption) ?_
          case hy13 => (intro w hSw; (try dsimp only at hSw); simp only [List.getElem_toArray, List.getElem_cons_zero, List.getElem_cons_succ]; go_simp; try with_reducible rfl)
          try simp only [Act.put, List.getElem_toArray, List.getElem_cons_zero, List.getElem_cons_succ, List.setIfInBounds_toArray, List.set_cons_zero, List.set_cons_succ]
          refine wpAnyH_ready (rs := [14]) (by kernel_rfl) (by simp) ?_
          refine AllReadyH.cons (i := 14) rfl (fun K hK => ?_) AllReadyH.nil
          rw [if_pos (by rfl)]
          simp only [List.getElem_toArray, List.getElem_cons_zero, List.getElem_cons_succ]
          go_simp
          have b : Below y1.heap.size y1 (y1.alloc (.cells #[.int .i64 0, .int .i64 0, .int .i64 0, .string ⟨#[]⟩] 38)) := (Below.refl _ _).alloc (Nat.le_refl _) _
          have ba : Bx (y1.alloc (.cells #[.int .i64 0, .int .i64 0, .int .i64 0, .string ⟨#[]⟩] 38)) y1.heap.size 38 [.int .i64 0, .int .i64 0, .int .i64 0, .string ⟨#[]⟩] := Bx.new y1 38 _
          have za : wr.heap.size ≤ y1.heap.size := c.size
          have c : Below wr.heap.size wr (y1.alloc (.cells #[.int .i64 0, .int .i64 0, .int .i64 0, .string ⟨#[]⟩] 38)) := bl_next c b
          refine hK.out _ _ (c) (fun hHeld => ?_)
          clear hK K
          try simp only [Act.put, List.getElem_toArray, List.getElem_cons_zero, List.getElem_cons_succ, List.setIfInBounds_toArray, List.set_cons_zero, List.set_cons_succ]
          clear b
          refine wpAnyH_ready (rs := [15]) (by kernel_rfl) (by simp) ?_
          refine AllReadyH.cons (i := 15) rfl (fun K hK => ?_) AllReadyH.nil
          rw [if_pos (by rfl)]
          simp only [List.getElem_toArray, List.getElem_cons_zero, List.getElem_cons_succ]
          refine wp_stB 38 _ _ rfl y1.heap.size 0 rfl 38 _ ba [.int .i64 q, .int .i64 f, .int .i64 l, .string t] rfl (by simp) Try.sizeI rfl [.int .i64 q, .int .i64 f, .int .i64 l, .string t] rfl ?_
          intro we OB TB
          have c : Below wr.heap.size wr we := c.trans (TB.below (by omega))
          refine hK.out _ _ (c) (fun hHeld => ?_)
          clear hK K
          try simp only [Act.put, List.getElem_toArray, List.getElem_cons_zero, List.getElem_cons_succ, List.setIfInBounds_toArray, List.set_cons_zero, List.set_cons_succ]
          refine wpAnyH_take (i := 16) (v := ?v16) rfl (by kernel_rfl) (by kernel_rfl) (by kernel_rfl) (fun _ _ _ h => h) (Or.inl ⟨by rfl, ?hy16⟩) (by assumption) ?_
          case hy16 => (intro w hSw; (try dsimp only at hSw); simp only [List.getElem_toArray, List.getElem_cons_zero, List.getElem_cons_succ]; go_simp; try with_reducible rfl)
          try simp only [Act.put, List.getElem_toArray, List.getElem_cons_zero, List.getElem_cons_succ, List.setIfInBounds_toArray, List.set_cons_zero, List.set_cons_succ]
          refine wpAnyH_done (by kernel_rfl) ?_ _
          try go_wp2_with fail
          go_meet
          exact ⟨_, rfl, rfl, OB, by omega, c⟩
        · have := c.size
          rw [if_pos (by rfl)]
          simp only [List.getElem_toArray, List.getElem_cons_zero, List.getElem_cons_succ]
          go_simp
          have b : Below wr.drew.heap.size wr.drew (wr.drew.alloc (.cells #[.int .i64 0, .int .i64 0, .int .i64 0, .string ⟨#[]⟩] 38)) := (Below.refl _ _).alloc (Nat.le_refl _) _
          have ba : Bx (wr.drew.alloc (.cells #[.int .i64 0, .int .i64 0, .int .i64 0, .string ⟨#[]⟩] 38)) wr.drew.heap.size 38 [.int .i64 0, .int .i64 0, .int .i64 0, .string ⟨#[]⟩] := Bx.new wr.drew 38 _
          have za : wr.heap.size ≤ wr.drew.heap.size := c.size
          have c : Below wr.heap.size wr (wr.drew.alloc (.cells #[.int .i64 0, .int .i64 0, .int .i64 0, .string ⟨#[]⟩] 38)) := bl_next c b
          refine hK.out _ _ (c) (fun hHeld => ?_)
          clear hK K
          try simp only [Act.put, List.getElem_toArray, List.getElem_cons_zero, List.getElem_cons_succ, List.setIfInBounds_toArray, List.set_cons_zero, List.set_cons_succ]
          clear b
          refine wpAnyH_ready (rs := [10]) (by kernel_rfl) (by simp) ?_
          refine AllReadyH.cons (i := 10) rfl (fun K hK => ?_) AllReadyH.nil
          rw [if_pos (by rfl)]
          simp only [List.getElem_toArray, List.getElem_cons_zero, List.getElem_cons_succ]
          go_simp
          have hIc : Hid (RIt (wr.drew.alloc (.cells #[.int .i64 0, .int .i64 0, .int .i64 0, .string ⟨#[]⟩] 38)) u.its.v m.its) := (hI.out.below c).rit
          refine (at_s m.its u.its (m.he + (k : Int) + 1) q f l t _ hIc hl HY).mono ?_
          rintro e y2 ⟨rfl, b⟩
          have ba := ba.later b
          have c : Below wr.heap.size wr y2 := bl_next c b
          refine hK.out _ _ (c) (fun hHeld => ?_)
          clear hK K
          try simp only [Act.put, List.getElem_toArray, List.getElem_cons_zero, List.getElem_cons_succ, List.setIfInBounds_toArray, List.set_cons_zero, List.set_cons_succ]
          clear b
          refine wpAnyH_take (i := 11) (v := ?v11) rfl (by kernel_rfl) (by kernel_rfl) (by kernel_rfl) (fun _ _ _ h => h) (Or.inl ⟨by rfl, ?hy11⟩) (by assumption) ?_
          case hy11 => (intro w hSw; (try dsimp only at hSw); simp only [List.getElem_toArray, List.getElem_cons_zero, List.getElem_cons_succ]; go_simp; try with_reducible rfl)
          try simp only [Act.put, List.getElem_toArray, List.getElem_cons_zero, List.getElem_cons_succ, List.setIfInBounds_toArray, List.set_cons_zero, List.set_cons_succ]
          refine wpAnyH_take (i := 12) (v := ?v12) rfl (by kernel_rfl) (by kernel_rfl) (by kernel_rfl) (fun _ _ _ h => h) (Or.inl ⟨by rfl, ?hy12⟩) (by assumption) ?_
          case hy12 => (intro w hSw; (try dsimp only at hSw); simp only [List.getElem_toArray, List.getElem_cons_zero, List.getElem_cons_succ]; go_simp; try with_reducible rfl)
          try simp only [Act.put, List.getElem_toArray, List.getElem_cons_zero, List.getElem_cons_succ, List.setIfInBounds_toArray, List.set_cons_zero, List.set_cons_succ]
          refine wpAnyH_take (i := 13) (v := ?v13) rfl (by kernel_rfl) (by kernel_rfl) (by kernel_rfl) (fun _ _ _ h => h) (Or.inl ⟨by rfl, ?hy13⟩) (by assumption) ?_
          case hy13 => (intro w hSw; (try dsimp only at hSw); simp only [List.getElem_toArray, List.getElem_cons_zero, List.getElem_cons_succ]; go_simp; try with_reducible rfl)
          try simp only [Act.put, List.getElem_toArray, List.getElem_cons_zero, List.getElem_cons_succ, List.setIfInBounds_toArray, List.set_cons_zero, List.set_cons_succ]
          refine wpAnyH_ready (rs := [15]) (by kernel_rfl) (by simp) ?_
          refine AllReadyH.cons (i := 15) rfl (fun K hK => ?_) AllReadyH.nil
          rw [if_pos (by rfl)]
          simp only [List.getElem_toArray, List.getElem_cons_zero, List.getElem_cons_succ]
          refine wp_stB 38 _ _ rfl wr.drew.heap.size 0 rfl 38 _ ba [.int .i64 q, .int .i64 f, .int .i64 l, .string t] rfl (by simp) Try.sizeI rfl [.int .i64 q, .int .i64 f, .int .i64 l, .string t] rfl ?_
          intro we OB TB
          have c : Below wr.heap.size wr we := c.trans (TB.below (by omega))
          refine hK.out _ _ (c) (fun hHeld => ?_)
          clear hK K
          try simp only [Act.put, List.getElem_toArray, List.getElem_cons_zero, List.getElem_cons_succ, List.setIfInBounds_toArray, List.set_cons_zero, List.set_cons_succ]
          refine wpAnyH_take (i := 16) (v := ?v16) rfl (by kernel_rfl) (by kernel_rfl) (by kernel_rfl) (fun _ _ _ h => h) (Or.inl ⟨by rfl, ?hy16⟩) (by assumption) ?_
          case hy16 => (intro w hSw; (try dsimp only at hSw); simp only [List.getElem_toArray, List.getElem_cons_zero, List.getElem_cons_succ]; go_simp; try with_reducible rfl)
          try simp only [Act.put, List.getElem_toArray, List.getElem_cons_zero, List.getElem_cons_succ, List.setIfInBounds_toArray, List.set_cons_zero, List.set_cons_succ]
          refine wpAnyH_done (by kernel_rfl) ?_ _
          try go_wp2_with fail
          go_meet
          exact ⟨_, rfl, rfl, OB, by omega, c⟩
      case rest =>
        obtain ⟨gx, rfl, rfl, hbx, zx, b⟩ := hcut
        have HX : Hid (Bx wc gx 38 [.int .i64 q, .int .i64 f, .int .i64 l, .string t]) := hbx
        have z1 : w.heap.size ≤ wr.heap.size := hK.out.size
        have z2 : wr.heap.size ≤ wc.heap.size := b.size
        clear hbx
        have hS : Hid (SlI wc w.heap.size u3 (L.take k)) := hS.out.below b
        have hG : Hid (Bx wc g 115 [.slice u.its.a u.its.n u.its.c, .int .i64 m.id, .int .i64 m.rid, .slice u.ms.a u.ms.n u.ms.c, .slice it.a it.n it.c, .slice u.lv.a u.lv.n u.lv.c, .slice u.tx.a u.tx.n u.tx.c, .int .i64 m.rd, .int .i64 m.se, .int .i64 m.li, .int .i64 (m.he + (k : Int)), .int .i64 m.la.c, .int .i64 m.la.r, .int .i64 m.la.q, .int .i64 m.la.a, .int .i64 m.la.b, .slice u.ws.a u.ws.n u.ws.c]) := hG.out.later b
        have hI : Hid (SlI wc B u.its.v m.its) := hI.out.below b
        have hK : Hid (KeepBut g w wc) := hK.out.trans (keep_of_below b)
        clear b
        generalize wc = w2 at *
        cases hb : hasP m.its (m.he + (k : Int) + 1) with
        | false =>
          have hn : atP m.its (m.he + (k : Int) + 1) = none := by unfold hasP at hb; cases hx : atP m.its (m.he + (k : Int) + 1) with
            | none => rfl
            | some y => rw [hx] at hb; cases hb
          have hE0 : [] = L.drop k := by
            have e := hE.out
            rw [show N - k = (N - k - 1) + 1 by omega, hears_none hn] at e
            exact e
          clear hn hb
          have hkL : Hid (k = L.length) := (by have := congrArg List.length hE0; simp at this; omega : k = L.length)
          clear hE0
          go_wp2_with fail
          go_ret
          obtain ⟨sv, hv⟩ := hS.out.sv
          subst hv
          have e := hkL.out
          subst e
          exact ⟨sv, rfl, by have := hS.out; rwa [List.take_length] at this, hG.out, hK.out⟩
        | true =>
          have hn : Hid (atP m.its (m.he + (k : Int) + 1) = some (q, f, l, t)) := by
            show _ = _
            have h1 := HY.out
            unfold hasP at hb
            cases hx : atP m.its (m.he + (k : Int) + 1) with
            | none => rw [hx] at hb; cases hb
            | some y => rw [hx] at h1; simp at h1; rw [h1]
          have hts : t.size ≤ 1048576 := hs.out _ (atP_mem' hn.out)
          clear hb
          go_wp2_with (first | (refine wpList_ldG rfl 38 _ rfl gx 0 rfl 38 _ HX.out [.int .i64 q, .int .i64 f, .int .i64 l, .string t] rfl _ Try.underlying38 rfl Try.sizeI ?_))
          refine (mustWait_any (m.setH (m.he + (k : Int))) u it g q f l t _ hG).mono ?_
          rintro e w3 ⟨rfl, b⟩
          have z3 : w2.heap.size ≤ w3.heap.size := b.size
          have hS : Hid (SlI w3 w.heap.size u3 (L.take k)) := hS.out.below b
          have hG : Hid (Bx w3 g 115 [.slice u.its.a u.its.n u.its.c, .int .i64 m.id, .int .i64 m.rid, .slice u.ms.a u.ms.n u.ms.c, .slice it.a it.n it.c, .slice u.lv.a u.lv.n u.lv.c, .slice u.tx.a u.tx.n u.tx.c, .int .i64 m.rd, .int .i64 m.se, .int .i64 m.li, .int .i64 (m.he + (k : Int)), .int .i64 m.la.c, .int .i64 m.la.r, .int .i64 m.la.q, .int .i64 m.la.a, .int .i64 m.la.b, .slice u.ws.a u.ws.n u.ws.c]) := hG.out.later b
          have hI : Hid (SlI w3 B u.its.v m.its) := hI.out.below b
          have hK : Hid (KeepBut g w w3) := hK.out.trans (keep_of_below b)
          have HX : Hid (Bx w3 gx 38 [.int .i64 q, .int .i64 f, .int .i64 l, .string t]) := HX.out.later b
          clear b
          obtain ⟨wb, hwb⟩ : ∃ wb, waitB m.li q l = wb := ⟨_, rfl⟩
          rw [show waitB (m.setH (m.he + (k : Int))).li q l = wb from hwb]
          have HW : Hid (waitB m.li q l = wb) := hwb
          clear hwb
          cases wb with
          | true =>
            have hE0 : [] = L.drop k := by
              have e := hE.out
              rw [show N - k = (N - k - 1) + 1 by omega, hears_wait hn.out HW.out] at e
              exact e
            have hkL : Hid (k = L.length) := (by have := congrArg List.length hE0; simp at this; omega : k = L.length)
            clear hE0
            go_wp2_with fail
            go_ret
            obtain ⟨sv, hv⟩ := hS.out.sv
            subst hv
            have e := hkL.out
            subst e
            exact ⟨sv, rfl, by have := hS.out; rwa [List.take_length] at this, hG.out, hK.out⟩
          | false =>
            have hE1 : Hid ((q, f, l, t) :: hears m.its m.li (N - (k + 1)) (m.he + (k : Int) + 1) = L.drop k) := by
              show _ = _
              have e := hE.out
              rw [show N - k = (N - (k + 1)) + 1 by omega, hears_go hn.out HW.out] at e
              exact e
            have hkL : k < L.length := by
              have := congrArg List.length hE1.out
              simp at this
              omega
            have hT : Hid (L.take (k + 1) = L.take k ++ [(q, f, l, t)] ∧ L.drop (k + 1) = hears m.its m.li (N - (k + 1)) (m.he + (k : Int) + 1)) := by
              have e := hE1.out
              rw [List.drop_eq_getElem_cons hkL] at e
              injection e with e1 e2
              exact ⟨by rw [List.take_succ_eq_append_getElem hkL, ← e1], e2.symm⟩
            clear hE1 hE HW hn
            go_wp2_with (first | (refine wpList_ldG rfl 38 _ rfl gx 0 rfl 38 _ HX.out [.int .i64 q, .int .i64 f, .int .i64 l, .string t] rfl _ Try.underlying38 rfl Try.sizeI ?_))
            refine (copyItem_any q f l t _ hts).mono ?_
            rintro e w4 ⟨rfl, b⟩
            have z4' : w3.heap.size ≤ w4.heap.size := b.size
            have hS : Hid (SlI w4 w.heap.size u3 (L.take k)) := hS.out.below b
            have hG : Hid (Bx w4 g 115 [.slice u.its.a u.its.n u.its.c, .int .i64 m.id, .int .i64 m.rid, .slice u.ms.a u.ms.n u.ms.c, .slice it.a it.n it.c, .slice u.lv.a u.lv.n u.lv.c, .slice u.tx.a u.tx.n u.tx.c, .int .i64 m.rd, .int .i64 m.se, .int .i64 m.li, .int .i64 (m.he + (k : Int)), .int .i64 m.la.c, .int .i64 m.la.r, .int .i64 m.la.q, .int .i64 m.la.a, .int .i64 m.la.b, .slice u.ws.a u.ws.n u.ws.c]) := hG.out.later b
            have hI : Hid (SlI w4 B u.its.v m.its) := hI.out.below b
            have hK : Hid (KeepBut g w w4) := hK.out.trans (keep_of_below b)
            have HX : Hid (Bx w4 gx 38 [.int .i64 q, .int .i64 f, .int .i64 l, .string t]) := HX.out.later b
            clear b
            have z4 : w.heap.size ≤ w4.heap.size := by omega
            have hkl : (L.take k).length ≤ 1048576 := by rw [List.length_take]; omega
            go_wp2_with (first | (at_builtin; refine wpList_pushIt rfl _ _ 27 rfl Try.underlying27 w.heap.size u3 (L.take k) rfl hS.out (q, f, l, t) rfl hkl z4 ?_; intro v5 w5 s5 g5 _ _; refine Stp.here ?_))
            refine Stp.go ?_
            have zu : ∀ n, u3.ownBlock = some n → w.heap.size ≤ n := fun n hn => (hS.out.lt n hn).1
            have hG : Hid (Bx w5 g 115 [.slice u.its.a u.its.n u.its.c, .int .i64 m.id, .int .i64 m.rid, .slice u.ms.a u.ms.n u.ms.c, .slice it.a it.n it.c, .slice u.lv.a u.lv.n u.lv.c, .slice u.tx.a u.tx.n u.tx.c, .int .i64 m.rd, .int .i64 m.se, .int .i64 m.li, .int .i64 (m.he + (k : Int)), .int .i64 m.la.c, .int .i64 m.la.r, .int .i64 m.la.q, .int .i64 m.la.a, .int .i64 m.la.b, .slice u.ws.a u.ws.n u.ws.c]) := hG.out.grown g5 (fun e => by have := zu g e.symm; omega)
            have hI : Hid (SlI w5 B u.its.v m.its) := hI.out.kept g5 (fun n a e => by have := zu n e.symm; have := zI.out n a; omega)
            have hK : Hid (KeepBut g w w5) := keep_grow hK.out g5 zu
            have S5 : Hid (SlI w5 w.heap.size v5 (L.take (k + 1))) := by show SlI _ _ _ _; rw [hT.out.1]; exact s5
            clear s5 g5 zu hS HX
            go_wp2_with (first | (refine wpList_ld1 rfl 3 _ rfl g 10 rfl 115 _ hG.out (.int .i64 (m.he + (k : Int))) rfl _ Try.underlying3 rfl ?_) | (refine wpList_st1 rfl 3 _ _ rfl g 10 rfl 115 _ hG.out (.int .i64 (m.he + (k : Int) + 1)) rfl (by simp) rfl Try.sizeN3 [.slice u.its.a u.its.n u.its.c, .int .i64 m.id, .int .i64 m.rid, .slice u.ms.a u.ms.n u.ms.c, .slice it.a it.n it.c, .slice u.lv.a u.lv.n u.lv.c, .slice u.tx.a u.tx.n u.tx.c, .int .i64 m.rd, .int .i64 m.se, .int .i64 m.li, .int .i64 (m.he + (k : Int) + 1), .int .i64 m.la.c, .int .i64 m.la.r, .int .i64 m.la.q, .int .i64 m.la.a, .int .i64 m.la.b, .slice u.ws.a u.ws.n u.ws.c] rfl ?_; intro wh OB TB))
            go_simp
            go_roundw
            case rel =>
              have S6 : Hid (SlI wh w.heap.size v5 (L.take (k + 1))) := S5.out.past hG.out TB (by decide)
              have I6 : Hid (SlI wh B u.its.v m.its) := hI.out.past hG.out TB (by decide)
              have K6 : Hid (KeepBut g w wh) := hK.out.trans ⟨TB.os, TB.tape, TB.output, Nat.le_of_eq TB.size.symm, fun i _ hn => TB.block i hn⟩
              refine ⟨k + 1, by omega, S6, ?_, ?_, I6, K6⟩
              · have e : m.he + ((k + 1 : Nat) : Int) = m.he + (k : Int) + 1 := by omega
                rw [e]
                exact hT.out.2.symm
              · have e : m.he + ((k + 1 : Nat) : Int) = m.he + (k : Int) + 1 := by omega
                rw [e]
                exact OB
            case measure =>
              have e1 := hV.out
              have e2 := lenV_of S5.out
              rw [List.length_take] at e2
              omega
    · have hd : decide (m.he + (k : Int) < (aruP m.its : Int)) = false := by have := HN.out; simp; omega
      have hkL : Hid (k = L.length) := (by omega : k = L.length)
      go_wp2_with (first | (refine wpList_ld1 rfl 3 _ rfl g 10 rfl 115 _ hG.out (.int .i64 (m.he + (k : Int))) rfl _ Try.underlying3 rfl ?_))
      go_ret
      obtain ⟨sv, hv⟩ := hS.out.sv
      subst hv
      have e := hkL.out
      subst e
      exact ⟨sv, rfl, by have := hS.out; rwa [List.take_length] at this, hG.out, hK.out⟩
end Go.Proofs.Ythdjkkiegecgnaa


/- Whether a member may hold a token. Written by gen_mh.py. -/
namespace Go.Proofs.Ythdjkkiegecgnaa
open Go.RowKit Pl
set_option linter.unusedVariables false
set_option linter.unusedSimpArgs false

def mayB (m : Mt) (t : Tok) : Bool := tkB t.c t.r t.q t.a t.b t.ws && (decide (t.c = m.rid) && decide (m.rd + 1 ≤ t.r ∧ t.r ≤ 999999999))

set_option maxRecDepth 100000 in
set_option maxHeartbeats 4000000 in
theorem mayHold_0 (m : Mt) (u : Mv) (it : Sv) (g : Nat) (t : Tok) (s : Sv) (w : World) (h : Hid (MbB w g m u it)) (ht : Hid (RI w s.v t.ws)) (hl : t.ws.length ≤ 1048576) (h1 : tkB t.c t.r t.q t.a t.b t.ws = false) :
    Calls Try.prog 69 #[.pointer (some ⟨g, 0, none⟩), .agg #[.int .i64 t.c, .int .i64 t.r, .int .i64 t.q, .int .i64 t.a, .int .i64 t.b, .slice s.a s.n s.c]] w fun e w' => e = .returned (.bool (mayB m t)) ∧ Below w.heap.size w w' := by
  have HT : Hid (Bx (w.alloc (.cells #[.int .i64 t.c, .int .i64 t.r, .int .i64 t.q, .int .i64 t.a, .int .i64 t.b, .slice s.a s.n s.c] 30)) w.heap.size 30 [.int .i64 t.c, .int .i64 t.r, .int .i64 t.q, .int .i64 t.a, .int .i64 t.b, .slice s.a s.n s.c]) := Bx.new w 30 _
  have HG : Hid (Bx (w.alloc (.cells #[.int .i64 t.c, .int .i64 t.r, .int .i64 t.q, .int .i64 t.a, .int .i64 t.b, .slice s.a s.n s.c] 30)) g 115 [.slice u.its.a u.its.n u.its.c, .int .i64 m.id, .int .i64 m.rid, .slice u.ms.a u.ms.n u.ms.c, .slice it.a it.n it.c, .slice u.lv.a u.lv.n u.lv.c, .slice u.tx.a u.tx.n u.tx.c, .int .i64 m.rd, .int .i64 m.se, .int .i64 m.li, .int .i64 m.he, .int .i64 m.la.c, .int .i64 m.la.r, .int .i64 m.la.q, .int .i64 m.la.a, .int .i64 m.la.b, .slice u.ws.a u.ws.n u.ws.c]) := Bx.later h.out ((Below.refl _ _).alloc (Nat.le_refl _) _)
  have HB : Hid (Below w.heap.size w (w.alloc (.cells #[.int .i64 t.c, .int .i64 t.r, .int .i64 t.q, .int .i64 t.a, .int .i64 t.b, .slice s.a s.n s.c] 30))) := (Below.refl _ _).alloc (Nat.le_refl _) _
  have HR : Hid (RI (w.alloc (.cells #[.int .i64 t.c, .int .i64 t.r, .int .i64 t.q, .int .i64 t.a, .int .i64 t.b, .slice s.a s.n s.c] 30)) s.v t.ws) := ht.out.stays HB.out
  clear h ht
  go_enter Try.func69, Try.ntmps69
  go_wp2_with fail
  generalize (w.alloc (.cells #[.int .i64 t.c, .int .i64 t.r, .int .i64 t.q, .int .i64 t.a, .int .i64 t.b, .slice s.a s.n s.c] 30)) = W at *
  refine quietC (C := fun w' => Below W.heap.size W w') (by kernel_rfl) (by kernel_rfl) (Below.refl _ _).drew ?_
  go_big_quiet_want
  refine q_val (.agg #[.int .i64 t.c, .int .i64 t.r, .int .i64 t.q, .int .i64 t.a, .int .i64 t.b, .slice s.a s.n s.c]) (fun w' hw' => by have r0 : w'.cell? ⟨w.heap.size, 0, none⟩ = some (.int .i64 t.c) := (HT.out.later hw').cell 0; have r1 : w'.cell? ⟨w.heap.size, 1, none⟩ = some (.int .i64 t.r) := (HT.out.later hw').cell 1; have r2 : w'.cell? ⟨w.heap.size, 2, none⟩ = some (.int .i64 t.q) := (HT.out.later hw').cell 2; have r3 : w'.cell? ⟨w.heap.size, 3, none⟩ = some (.int .i64 t.a) := (HT.out.later hw').cell 3; have r4 : w'.cell? ⟨w.heap.size, 4, none⟩ = some (.int .i64 t.b) := (HT.out.later hw').cell 4; have r5 : w'.cell? ⟨w.heap.size, 5, none⟩ = some (.slice s.a s.n s.c) := (HT.out.later hw').cell 5; go_simp) ?_
  go_big_quiet_on
  simp only [Act.put, List.setIfInBounds_toArray, List.set_cons_zero, List.set_cons_succ]
  go_big_quiet_want
  refine q_call (.bool false) 62 #[.agg #[.int .i64 t.c, .int .i64 t.r, .int .i64 t.q, .int .i64 t.a, .int .i64 t.b, .slice s.a s.n s.c]] (fun w' hw' => by go_simp) (fun w' hw' => (tokenOk_r t.c t.r t.q t.a t.b t.ws (show Hid (RI w' s.v t.ws) from HR.out.stays hw') hl).mono fun e w'' ⟨he, hb⟩ => ⟨by rw [he, h1], hw'.trans (hb.mono hw'.size)⟩) ?_
  go_big_quiet_on
  simp only [Act.put, List.setIfInBounds_toArray, List.set_cons_zero, List.set_cons_succ]
  go_big_quiet_want
  refine q_val (.bool false) (fun w' hw' => by go_simp) ?_
  go_big_quiet_on
  simp only [Act.put, List.setIfInBounds_toArray, List.set_cons_zero, List.set_cons_succ]
  go_big_quiet_skip
  go_big_quiet_skip
  go_big_quiet_skip
  go_big_quiet_skip
  go_big_quiet_skip
  go_big_quiet_skip
  go_big_quiet_skip
  go_big_quiet_skip
  go_big_quiet_skip
  go_big_quiet_want
  refine q_val (.bool false) (fun w' hw' => by go_simp) ?_
  go_big_quiet_on
  simp only [Act.put, List.setIfInBounds_toArray, List.set_cons_zero, List.set_cons_succ]
  go_big_quiet_want
  refine q_val (.bool false) (fun w' hw' => by go_simp) ?_
  go_big_quiet_on
  simp only [Act.put, List.setIfInBounds_toArray, List.set_cons_zero, List.set_cons_succ]
  go_big_quiet_skip
  go_big_quiet_skip
  go_big_quiet_skip
  go_big_quiet_skip
  go_big_quiet_skip
  go_big_quiet_skip
  go_big_quiet_skip
  go_big_quiet_skip
  go_big_quiet_skip
  go_big_quiet_want
  refine q_val (.bool false) (fun w' hw' => by go_simp) ?_
  go_big_quiet_on
  simp only [Act.put, List.setIfInBounds_toArray, List.set_cons_zero, List.set_cons_succ]
  go_big_quiet_want
  refine q_val (.bool false) (fun w' hw' => by go_simp) ?_
  go_big_quiet_on
  simp only [Act.put, List.setIfInBounds_toArray, List.set_cons_zero, List.set_cons_succ]
  refine wpQuiet_nil ?_
  intro w1 hcw
  go_wp2_with fail
  go_ret
  refine ⟨?_, bl_next HB.out hcw⟩
  unfold mayB
  rw [h1]; rfl
set_option maxRecDepth 100000 in
set_option maxHeartbeats 4000000 in
theorem mayHold_1 (m : Mt) (u : Mv) (it : Sv) (g : Nat) (t : Tok) (s : Sv) (w : World) (h : Hid (MbB w g m u it)) (ht : Hid (RI w s.v t.ws)) (hl : t.ws.length ≤ 1048576) (h1 : tkB t.c t.r t.q t.a t.b t.ws = true) (h2 : (t.c == m.rid) = false) :
    Calls Try.prog 69 #[.pointer (some ⟨g, 0, none⟩), .agg #[.int .i64 t.c, .int .i64 t.r, .int .i64 t.q, .int .i64 t.a, .int .i64 t.b, .slice s.a s.n s.c]] w fun e w' => e = .returned (.bool (mayB m t)) ∧ Below w.heap.size w w' := by
  have HT : Hid (Bx (w.alloc (.cells #[.int .i64 t.c, .int .i64 t.r, .int .i64 t.q, .int .i64 t.a, .int .i64 t.b, .slice s.a s.n s.c] 30)) w.heap.size 30 [.int .i64 t.c, .int .i64 t.r, .int .i64 t.q, .int .i64 t.a, .int .i64 t.b, .slice s.a s.n s.c]) := Bx.new w 30 _
  have HG : Hid (Bx (w.alloc (.cells #[.int .i64 t.c, .int .i64 t.r, .int .i64 t.q, .int .i64 t.a, .int .i64 t.b, .slice s.a s.n s.c] 30)) g 115 [.slice u.its.a u.its.n u.its.c, .int .i64 m.id, .int .i64 m.rid, .slice u.ms.a u.ms.n u.ms.c, .slice it.a it.n it.c, .slice u.lv.a u.lv.n u.lv.c, .slice u.tx.a u.tx.n u.tx.c, .int .i64 m.rd, .int .i64 m.se, .int .i64 m.li, .int .i64 m.he, .int .i64 m.la.c, .int .i64 m.la.r, .int .i64 m.la.q, .int .i64 m.la.a, .int .i64 m.la.b, .slice u.ws.a u.ws.n u.ws.c]) := Bx.later h.out ((Below.refl _ _).alloc (Nat.le_refl _) _)
  have HB : Hid (Below w.heap.size w (w.alloc (.cells #[.int .i64 t.c, .int .i64 t.r, .int .i64 t.q, .int .i64 t.a, .int .i64 t.b, .slice s.a s.n s.c] 30))) := (Below.refl _ _).alloc (Nat.le_refl _) _
  have HR : Hid (RI (w.alloc (.cells #[.int .i64 t.c, .int .i64 t.r, .int .i64 t.q, .int .i64 t.a, .int .i64 t.b, .slice s.a s.n s.c] 30)) s.v t.ws) := ht.out.stays HB.out
  clear h ht
  go_enter Try.func69, Try.ntmps69
  go_wp2_with fail
  generalize (w.alloc (.cells #[.int .i64 t.c, .int .i64 t.r, .int .i64 t.q, .int .i64 t.a, .int .i64 t.b, .slice s.a s.n s.c] 30)) = W at *
  refine quietC (C := fun w' => Below W.heap.size W w') (by kernel_rfl) (by kernel_rfl) (Below.refl _ _).drew ?_
  go_big_quiet_want
  refine q_val (.agg #[.int .i64 t.c, .int .i64 t.r, .int .i64 t.q, .int .i64 t.a, .int .i64 t.b, .slice s.a s.n s.c]) (fun w' hw' => by have r0 : w'.cell? ⟨w.heap.size, 0, none⟩ = some (.int .i64 t.c) := (HT.out.later hw').cell 0; have r1 : w'.cell? ⟨w.heap.size, 1, none⟩ = some (.int .i64 t.r) := (HT.out.later hw').cell 1; have r2 : w'.cell? ⟨w.heap.size, 2, none⟩ = some (.int .i64 t.q) := (HT.out.later hw').cell 2; have r3 : w'.cell? ⟨w.heap.size, 3, none⟩ = some (.int .i64 t.a) := (HT.out.later hw').cell 3; have r4 : w'.cell? ⟨w.heap.size, 4, none⟩ = some (.int .i64 t.b) := (HT.out.later hw').cell 4; have r5 : w'.cell? ⟨w.heap.size, 5, none⟩ = some (.slice s.a s.n s.c) := (HT.out.later hw').cell 5; go_simp) ?_
  go_big_quiet_on
  simp only [Act.put, List.setIfInBounds_toArray, List.set_cons_zero, List.set_cons_succ]
  go_big_quiet_want
  refine q_call (.bool true) 62 #[.agg #[.int .i64 t.c, .int .i64 t.r, .int .i64 t.q, .int .i64 t.a, .int .i64 t.b, .slice s.a s.n s.c]] (fun w' hw' => by go_simp) (fun w' hw' => (tokenOk_r t.c t.r t.q t.a t.b t.ws (show Hid (RI w' s.v t.ws) from HR.out.stays hw') hl).mono fun e w'' ⟨he, hb⟩ => ⟨by rw [he, h1], hw'.trans (hb.mono hw'.size)⟩) ?_
  go_big_quiet_on
  simp only [Act.put, List.setIfInBounds_toArray, List.set_cons_zero, List.set_cons_succ]
  go_big_quiet_want
  refine q_val (.bool true) (fun w' hw' => by go_simp) ?_
  go_big_quiet_on
  simp only [Act.put, List.setIfInBounds_toArray, List.set_cons_zero, List.set_cons_succ]
  go_big_quiet_want
  refine q_val (.pointer (some ⟨w.heap.size, 0, none⟩)) (fun w' hw' => by go_simp) ?_
  go_big_quiet_on
  simp only [Act.put, List.setIfInBounds_toArray, List.set_cons_zero, List.set_cons_succ]
  go_big_quiet_want
  refine q_val (.int .i64 t.c) (fun w' hw' => by have r0 : w'.cell? ⟨w.heap.size, 0, none⟩ = some (.int .i64 t.c) := (HT.out.later hw').cell 0; go_simp) ?_
  go_big_quiet_on
  simp only [Act.put, List.setIfInBounds_toArray, List.set_cons_zero, List.set_cons_succ]
  go_big_quiet_want
  refine q_val (.pointer (some ⟨g, 0, none⟩)) (fun w' hw' => by go_simp) ?_
  go_big_quiet_on
  simp only [Act.put, List.setIfInBounds_toArray, List.set_cons_zero, List.set_cons_succ]
  go_big_quiet_want
  refine q_val (.pointer (some ⟨g, 0, none⟩)) (fun w' hw' => by go_simp) ?_
  go_big_quiet_on
  simp only [Act.put, List.setIfInBounds_toArray, List.set_cons_zero, List.set_cons_succ]
  go_big_quiet_want
  refine q_val (.pointer (some ⟨g, 1, none⟩)) (fun w' hw' => by go_simp) ?_
  go_big_quiet_on
  simp only [Act.put, List.setIfInBounds_toArray, List.set_cons_zero, List.set_cons_succ]
  go_big_quiet_want
  refine q_val (.pointer (some ⟨g, 2, none⟩)) (fun w' hw' => by go_simp) ?_
  go_big_quiet_on
  simp only [Act.put, List.setIfInBounds_toArray, List.set_cons_zero, List.set_cons_succ]
  go_big_quiet_want
  refine q_val (.pointer (some ⟨g, 2, none⟩)) (fun w' hw' => by go_simp) ?_
  go_big_quiet_on
  simp only [Act.put, List.setIfInBounds_toArray, List.set_cons_zero, List.set_cons_succ]
  go_big_quiet_want
  refine q_val (.int .i64 m.rid) (fun w' hw' => by have r2 : w'.cell? ⟨g, 2, none⟩ = some (.int .i64 m.rid) := (HG.out.later hw').cell 2; go_simp) ?_
  go_big_quiet_on
  simp only [Act.put, List.setIfInBounds_toArray, List.set_cons_zero, List.set_cons_succ]
  go_big_quiet_want
  refine q_val (.bool false) (fun w' hw' => by go_simp) ?_
  go_big_quiet_on
  simp only [Act.put, List.setIfInBounds_toArray, List.set_cons_zero, List.set_cons_succ]
  go_big_quiet_want
  refine q_val (.bool false) (fun w' hw' => by go_simp) ?_
  go_big_quiet_on
  simp only [Act.put, List.setIfInBounds_toArray, List.set_cons_zero, List.set_cons_succ]
  go_big_quiet_want
  refine q_val (.bool false) (fun w' hw' => by go_simp) ?_
  go_big_quiet_on
  simp only [Act.put, List.setIfInBounds_toArray, List.set_cons_zero, List.set_cons_succ]
  go_big_quiet_skip
  go_big_quiet_skip
  go_big_quiet_skip
  go_big_quiet_skip
  go_big_quiet_skip
  go_big_quiet_skip
  go_big_quiet_skip
  go_big_quiet_skip
  go_big_quiet_skip
  go_big_quiet_want
  refine q_val (.bool false) (fun w' hw' => by go_simp) ?_
  go_big_quiet_on
  simp only [Act.put, List.setIfInBounds_toArray, List.set_cons_zero, List.set_cons_succ]
  go_big_quiet_want
  refine q_val (.bool false) (fun w' hw' => by go_simp) ?_
  go_big_quiet_on
  simp only [Act.put, List.setIfInBounds_toArray, List.set_cons_zero, List.set_cons_succ]
  refine wpQuiet_nil ?_
  intro w1 hcw
  go_wp2_with fail
  go_ret
  refine ⟨?_, bl_next HB.out hcw⟩
  unfold mayB
  rw [h1, show decide (t.c = m.rid) = false by simpa using h2]; rfl
set_option maxRecDepth 100000 in
set_option maxHeartbeats 4000000 in
theorem mayHold_2 (m : Mt) (u : Mv) (it : Sv) (g : Nat) (t : Tok) (s : Sv) (w : World) (h : Hid (MbB w g m u it)) (ht : Hid (RI w s.v t.ws)) (hl : t.ws.length ≤ 1048576) (h1 : tkB t.c t.r t.q t.a t.b t.ws = true) (h2 : (t.c == m.rid) = true) (hw : IntKind.i64.wrap (m.rd + 1) = m.rd + 1) :
    Calls Try.prog 69 #[.pointer (some ⟨g, 0, none⟩), .agg #[.int .i64 t.c, .int .i64 t.r, .int .i64 t.q, .int .i64 t.a, .int .i64 t.b, .slice s.a s.n s.c]] w fun e w' => e = .returned (.bool (mayB m t)) ∧ Below w.heap.size w w' := by
  have HT : Hid (Bx (w.alloc (.cells #[.int .i64 t.c, .int .i64 t.r, .int .i64 t.q, .int .i64 t.a, .int .i64 t.b, .slice s.a s.n s.c] 30)) w.heap.size 30 [.int .i64 t.c, .int .i64 t.r, .int .i64 t.q, .int .i64 t.a, .int .i64 t.b, .slice s.a s.n s.c]) := Bx.new w 30 _
  have HG : Hid (Bx (w.alloc (.cells #[.int .i64 t.c, .int .i64 t.r, .int .i64 t.q, .int .i64 t.a, .int .i64 t.b, .slice s.a s.n s.c] 30)) g 115 [.slice u.its.a u.its.n u.its.c, .int .i64 m.id, .int .i64 m.rid, .slice u.ms.a u.ms.n u.ms.c, .slice it.a it.n it.c, .slice u.lv.a u.lv.n u.lv.c, .slice u.tx.a u.tx.n u.tx.c, .int .i64 m.rd, .int .i64 m.se, .int .i64 m.li, .int .i64 m.he, .int .i64 m.la.c, .int .i64 m.la.r, .int .i64 m.la.q, .int .i64 m.la.a, .int .i64 m.la.b, .slice u.ws.a u.ws.n u.ws.c]) := Bx.later h.out ((Below.refl _ _).alloc (Nat.le_refl _) _)
  have HB : Hid (Below w.heap.size w (w.alloc (.cells #[.int .i64 t.c, .int .i64 t.r, .int .i64 t.q, .int .i64 t.a, .int .i64 t.b, .slice s.a s.n s.c] 30))) := (Below.refl _ _).alloc (Nat.le_refl _) _
  have HR : Hid (RI (w.alloc (.cells #[.int .i64 t.c, .int .i64 t.r, .int .i64 t.q, .int .i64 t.a, .int .i64 t.b, .slice s.a s.n s.c] 30)) s.v t.ws) := ht.out.stays HB.out
  clear h ht
  go_enter Try.func69, Try.ntmps69
  go_wp2_with fail
  generalize (w.alloc (.cells #[.int .i64 t.c, .int .i64 t.r, .int .i64 t.q, .int .i64 t.a, .int .i64 t.b, .slice s.a s.n s.c] 30)) = W at *
  refine quietC (C := fun w' => Below W.heap.size W w') (by kernel_rfl) (by kernel_rfl) (Below.refl _ _).drew ?_
  go_big_quiet_want
  refine q_val (.agg #[.int .i64 t.c, .int .i64 t.r, .int .i64 t.q, .int .i64 t.a, .int .i64 t.b, .slice s.a s.n s.c]) (fun w' hw' => by have r0 : w'.cell? ⟨w.heap.size, 0, none⟩ = some (.int .i64 t.c) := (HT.out.later hw').cell 0; have r1 : w'.cell? ⟨w.heap.size, 1, none⟩ = some (.int .i64 t.r) := (HT.out.later hw').cell 1; have r2 : w'.cell? ⟨w.heap.size, 2, none⟩ = some (.int .i64 t.q) := (HT.out.later hw').cell 2; have r3 : w'.cell? ⟨w.heap.size, 3, none⟩ = some (.int .i64 t.a) := (HT.out.later hw').cell 3; have r4 : w'.cell? ⟨w.heap.size, 4, none⟩ = some (.int .i64 t.b) := (HT.out.later hw').cell 4; have r5 : w'.cell? ⟨w.heap.size, 5, none⟩ = some (.slice s.a s.n s.c) := (HT.out.later hw').cell 5; go_simp) ?_
  go_big_quiet_on
  simp only [Act.put, List.setIfInBounds_toArray, List.set_cons_zero, List.set_cons_succ]
  go_big_quiet_want
  refine q_call (.bool true) 62 #[.agg #[.int .i64 t.c, .int .i64 t.r, .int .i64 t.q, .int .i64 t.a, .int .i64 t.b, .slice s.a s.n s.c]] (fun w' hw' => by go_simp) (fun w' hw' => (tokenOk_r t.c t.r t.q t.a t.b t.ws (show Hid (RI w' s.v t.ws) from HR.out.stays hw') hl).mono fun e w'' ⟨he, hb⟩ => ⟨by rw [he, h1], hw'.trans (hb.mono hw'.size)⟩) ?_
  go_big_quiet_on
  simp only [Act.put, List.setIfInBounds_toArray, List.set_cons_zero, List.set_cons_succ]
  go_big_quiet_want
  refine q_val (.bool true) (fun w' hw' => by go_simp) ?_
  go_big_quiet_on
  simp only [Act.put, List.setIfInBounds_toArray, List.set_cons_zero, List.set_cons_succ]
  go_big_quiet_want
  refine q_val (.pointer (some ⟨w.heap.size, 0, none⟩)) (fun w' hw' => by go_simp) ?_
  go_big_quiet_on
  simp only [Act.put, List.setIfInBounds_toArray, List.set_cons_zero, List.set_cons_succ]
  go_big_quiet_want
  refine q_val (.int .i64 t.c) (fun w' hw' => by have r0 : w'.cell? ⟨w.heap.size, 0, none⟩ = some (.int .i64 t.c) := (HT.out.later hw').cell 0; go_simp) ?_
  go_big_quiet_on
  simp only [Act.put, List.setIfInBounds_toArray, List.set_cons_zero, List.set_cons_succ]
  go_big_quiet_want
  refine q_val (.pointer (some ⟨g, 0, none⟩)) (fun w' hw' => by go_simp) ?_
  go_big_quiet_on
  simp only [Act.put, List.setIfInBounds_toArray, List.set_cons_zero, List.set_cons_succ]
  go_big_quiet_want
  refine q_val (.pointer (some ⟨g, 0, none⟩)) (fun w' hw' => by go_simp) ?_
  go_big_quiet_on
  simp only [Act.put, List.setIfInBounds_toArray, List.set_cons_zero, List.set_cons_succ]
  go_big_quiet_want
  refine q_val (.pointer (some ⟨g, 1, none⟩)) (fun w' hw' => by go_simp) ?_
  go_big_quiet_on
  simp only [Act.put, List.setIfInBounds_toArray, List.set_cons_zero, List.set_cons_succ]
  go_big_quiet_want
  refine q_val (.pointer (some ⟨g, 2, none⟩)) (fun w' hw' => by go_simp) ?_
  go_big_quiet_on
  simp only [Act.put, List.setIfInBounds_toArray, List.set_cons_zero, List.set_cons_succ]
  go_big_quiet_want
  refine q_val (.pointer (some ⟨g, 2, none⟩)) (fun w' hw' => by go_simp) ?_
  go_big_quiet_on
  simp only [Act.put, List.setIfInBounds_toArray, List.set_cons_zero, List.set_cons_succ]
  go_big_quiet_want
  refine q_val (.int .i64 m.rid) (fun w' hw' => by have r2 : w'.cell? ⟨g, 2, none⟩ = some (.int .i64 m.rid) := (HG.out.later hw').cell 2; go_simp) ?_
  go_big_quiet_on
  simp only [Act.put, List.setIfInBounds_toArray, List.set_cons_zero, List.set_cons_succ]
  go_big_quiet_want
  refine q_val (.bool true) (fun w' hw' => by go_simp) ?_
  go_big_quiet_on
  simp only [Act.put, List.setIfInBounds_toArray, List.set_cons_zero, List.set_cons_succ]
  go_big_quiet_want
  refine q_val (.bool true) (fun w' hw' => by go_simp) ?_
  go_big_quiet_on
  simp only [Act.put, List.setIfInBounds_toArray, List.set_cons_zero, List.set_cons_succ]
  go_big_quiet_want
  refine q_val (.bool true) (fun w' hw' => by go_simp) ?_
  go_big_quiet_on
  simp only [Act.put, List.setIfInBounds_toArray, List.set_cons_zero, List.set_cons_succ]
  go_big_quiet_want
  refine q_val (.pointer (some ⟨w.heap.size, 1, none⟩)) (fun w' hw' => by go_simp) ?_
  go_big_quiet_on
  simp only [Act.put, List.setIfInBounds_toArray, List.set_cons_zero, List.set_cons_succ]
  go_big_quiet_want
  refine q_val (.int .i64 t.r) (fun w' hw' => by have r1 : w'.cell? ⟨w.heap.size, 1, none⟩ = some (.int .i64 t.r) := (HT.out.later hw').cell 1; go_simp) ?_
  go_big_quiet_on
  simp only [Act.put, List.setIfInBounds_toArray, List.set_cons_zero, List.set_cons_succ]
  go_big_quiet_want
  refine q_val (.pointer (some ⟨g, 0, none⟩)) (fun w' hw' => by go_simp) ?_
  go_big_quiet_on
  simp only [Act.put, List.setIfInBounds_toArray, List.set_cons_zero, List.set_cons_succ]
  go_big_quiet_want
  refine q_val (.pointer (some ⟨g, 0, none⟩)) (fun w' hw' => by go_simp) ?_
  go_big_quiet_on
  simp only [Act.put, List.setIfInBounds_toArray, List.set_cons_zero, List.set_cons_succ]
  go_big_quiet_want
  refine q_val (.pointer (some ⟨g, 1, none⟩)) (fun w' hw' => by go_simp) ?_
  go_big_quiet_on
  simp only [Act.put, List.setIfInBounds_toArray, List.set_cons_zero, List.set_cons_succ]
  go_big_quiet_want
  refine q_val (.pointer (some ⟨g, 7, none⟩)) (fun w' hw' => by go_simp) ?_
  go_big_quiet_on
  simp only [Act.put, List.setIfInBounds_toArray, List.set_cons_zero, List.set_cons_succ]
  go_big_quiet_want
  refine q_val (.int .i64 m.rd) (fun w' hw' => by have r7 : w'.cell? ⟨g, 7, none⟩ = some (.int .i64 m.rd) := (HG.out.later hw').cell 7; go_simp) ?_
  go_big_quiet_on
  simp only [Act.put, List.setIfInBounds_toArray, List.set_cons_zero, List.set_cons_succ]
  go_big_quiet_want
  refine q_val (.int .i64 (m.rd + 1)) (fun w' hw' => by go_simp) ?_
  go_big_quiet_on
  simp only [Act.put, List.setIfInBounds_toArray, List.set_cons_zero, List.set_cons_succ]
  go_big_quiet_want
  refine q_call (.bool (decide (m.rd + 1 ≤ t.r ∧ t.r ≤ 999999999))) 60 #[.int .i64 t.r, .int .i64 (m.rd + 1), .int .i64 999999999] (fun w' hw' => by go_simp) (fun w' hw' => (within_any _ _ _ _).mono fun e w'' ⟨he, hb⟩ => ⟨he, by rw [hb]; exact hw'⟩) ?_
  go_big_quiet_on
  simp only [Act.put, List.setIfInBounds_toArray, List.set_cons_zero, List.set_cons_succ]
  go_big_quiet_want
  refine q_val (.bool (decide (m.rd + 1 ≤ t.r ∧ t.r ≤ 999999999))) (fun w' hw' => by go_simp) ?_
  go_big_quiet_on
  simp only [Act.put, List.setIfInBounds_toArray, List.set_cons_zero, List.set_cons_succ]
  go_big_quiet_want
  refine q_val (.bool (decide (m.rd + 1 ≤ t.r ∧ t.r ≤ 999999999))) (fun w' hw' => by go_simp) ?_
  go_big_quiet_on
  simp only [Act.put, List.setIfInBounds_toArray, List.set_cons_zero, List.set_cons_succ]
  refine wpQuiet_nil ?_
  intro w1 hcw
  go_wp2_with fail
  go_ret
  refine ⟨?_, bl_next HB.out hcw⟩
  unfold mayB
  rw [h1, show decide (t.c = m.rid) = true by simpa using h2]; simp
theorem mayHold_any (m : Mt) (u : Mv) (it : Sv) (g : Nat) (t : Tok) (s : Sv) (w : World) (h : Hid (MbB w g m u it)) (ht : Hid (RI w s.v t.ws)) (hl : t.ws.length ≤ 1048576) (hr : 0 ≤ m.rd ∧ m.rd ≤ 1000000000) :
    Calls Try.prog 69 #[.pointer (some ⟨g, 0, none⟩), .agg #[.int .i64 t.c, .int .i64 t.r, .int .i64 t.q, .int .i64 t.a, .int .i64 t.b, .slice s.a s.n s.c]] w fun e w' => e = .returned (.bool (mayB m t)) ∧ Below w.heap.size w w' := by
  cases h1 : tkB t.c t.r t.q t.a t.b t.ws with
  | false => exact mayHold_0 m u it g t s w h ht hl h1
  | true =>
    cases h2 : t.c == m.rid with
    | false => exact mayHold_1 m u it g t s w h ht hl h1 h2
    | true => exact mayHold_2 m u it g t s w h ht hl h1 h2 (by rw [IntKind.wrap_i64]; omega)
end Go.Proofs.Ythdjkkiegecgnaa


/- A member draws its line. -/
namespace Go.Proofs.Ythdjkkiegecgnaa
open Go.RowKit Pl
set_option linter.unusedVariables false
set_option linter.unusedSimpArgs false

/-- the line that it draws. -/
def leastP (se aru a : Int) : Int := if aru < if a < se then a else se then aru else if a < se then a else se
def lineP (li se aru a : Int) : Int := if li < leastP se aru a then leastP se aru a else li
def Mt.setL (m : Mt) (li se : Int) : Mt := ⟨m.id, m.rid, m.ms, m.its, m.lv, m.tx, m.rd, se, li, m.he, m.la⟩

set_option maxRecDepth 100000 in
set_option maxHeartbeats 4000000 in
theorem drawLine_any (m : Mt) (u : Mv) (it : Sv) (g B : Nat) (a : Int) (w : World) (h : Hid (MbB w g m u it)) (ho : Hid (SlI w B u.its.v m.its)) (hl : m.its.length ≤ 1048576) :
    Calls Try.prog 72 #[.pointer (some ⟨g, 0, none⟩), .int .i64 a] w fun e w' => e = .returned (.tuple #[]) ∧ MbB w' g (m.setL (lineP m.li m.se (aruP m.its) a) a) u it ∧ KeepBut g w w' := by
  have cl : Hid (Bx w.drew g 115 [.slice u.its.a u.its.n u.its.c, .int .i64 m.id, .int .i64 m.rid, .slice u.ms.a u.ms.n u.ms.c, .slice it.a it.n it.c, .slice u.lv.a u.lv.n u.lv.c, .slice u.tx.a u.tx.n u.tx.c, .int .i64 m.rd, .int .i64 m.se, .int .i64 m.li, .int .i64 m.he, .int .i64 m.la.c, .int .i64 m.la.r, .int .i64 m.la.q, .int .i64 m.la.a, .int .i64 m.la.b, .slice u.ws.a u.ws.n u.ws.c]) := Bx.later h.out (Below.refl _ _).drew
  have zg : g < w.heap.size := Bx.lt h.out
  go_enter Try.func72, Try.ntmps72
  go_wp2_with fail
  refine wp_region_heldLast (S := fun w' => Bx w' g 115 [.slice u.its.a u.its.n u.its.c, .int .i64 m.id, .int .i64 m.rid, .slice u.ms.a u.ms.n u.ms.c, .slice it.a it.n it.c, .slice u.lv.a u.lv.n u.lv.c, .slice u.tx.a u.tx.n u.tx.c, .int .i64 m.rd, .int .i64 m.se, .int .i64 m.li, .int .i64 m.he, .int .i64 m.la.c, .int .i64 m.la.r, .int .i64 m.la.q, .int .i64 m.la.a, .int .i64 m.la.b, .slice u.ws.a u.ws.n u.ws.c]) _ (by simp) (by kernel_rfl) (by rfl) (by rfl) (by kernel_rfl) (by kernel_rfl) cl.out (fun hHeld => ?_)
  simp only [List.dropLast_cons_cons, List.dropLast_singleton, List.getLast_cons_cons, List.getLast_singleton, List.cons_append, List.nil_append, List.length_cons, List.length_nil]
  refine wpAnyH_take (i := 0) (v := ?v0) rfl (by kernel_rfl) (by kernel_rfl) (by kernel_rfl) (fun _ _ _ h => h) (Or.inl ⟨by rfl, ?hy0⟩) (by assumption) ?_
  case hy0 => (intro w hSw; (try dsimp only at hSw); simp only [List.getElem_toArray, List.getElem_cons_zero, List.getElem_cons_succ]; go_simp; try with_reducible rfl)
  try simp only [Act.put, List.getElem_toArray, List.getElem_cons_zero, List.getElem_cons_succ, List.setIfInBounds_toArray, List.set_cons_zero, List.set_cons_succ]
  refine wpAnyH_take (i := 1) (v := ?v1) rfl (by kernel_rfl) (by kernel_rfl) (by kernel_rfl) (fun _ _ _ h => h) (Or.inl ⟨by rfl, ?hy1⟩) (by assumption) ?_
  case hy1 => (intro w hSw; (try dsimp only at hSw); simp only [List.getElem_toArray, List.getElem_cons_zero, List.getElem_cons_succ]; go_simp; try with_reducible rfl)
  try simp only [Act.put, List.getElem_toArray, List.getElem_cons_zero, List.getElem_cons_succ, List.setIfInBounds_toArray, List.set_cons_zero, List.set_cons_succ]
  refine wpAnyH_take (i := 2) (v := ?v2) rfl (by kernel_rfl) (by kernel_rfl) (by kernel_rfl) (fun _ _ _ h => h) (Or.inl ⟨by rfl, ?hy2⟩) (by assumption) ?_
  case hy2 => (intro w hSw; (try dsimp only at hSw); simp only [List.getElem_toArray, List.getElem_cons_zero, List.getElem_cons_succ]; go_simp; try with_reducible rfl)
  try simp only [Act.put, List.getElem_toArray, List.getElem_cons_zero, List.getElem_cons_succ, List.setIfInBounds_toArray, List.set_cons_zero, List.set_cons_succ]
  refine wpAnyH_take (i := 3) (v := ?v3) rfl (by kernel_rfl) (by kernel_rfl) (by kernel_rfl) (fun _ _ _ h => h) (Or.inl ⟨by rfl, ?hy3⟩) (by assumption) ?_
  case hy3 => (intro w hSw; (try dsimp only at hSw); simp only [List.getElem_toArray, List.getElem_cons_zero, List.getElem_cons_succ]; go_simp; try with_reducible rfl)
  try simp only [Act.put, List.getElem_toArray, List.getElem_cons_zero, List.getElem_cons_succ, List.setIfInBounds_toArray, List.set_cons_zero, List.set_cons_succ]
  refine wpAnyH_take (i := 4) (v := ?v4) rfl (by kernel_rfl) (by kernel_rfl) (by kernel_rfl) (fun _ _ _ h => h) (Or.inl ⟨by rfl, ?hy4⟩) (by assumption) ?_
  case hy4 => (intro w hSw; (try dsimp only at hSw); simp only [List.getElem_toArray, List.getElem_cons_zero, List.getElem_cons_succ]; go_simp; try with_reducible rfl)
  try simp only [Act.put, List.getElem_toArray, List.getElem_cons_zero, List.getElem_cons_succ, List.setIfInBounds_toArray, List.set_cons_zero, List.set_cons_succ]
  refine wpAnyH_take (i := 5) (v := _) rfl (by kernel_rfl) (by kernel_rfl) (by kernel_rfl) (fun _ _ _ h => h) (ld1_yield (by rfl) 3 _ rfl g 9 rfl 115 _ (fun w hS => hS) (.int .i64 m.li) rfl _ Try.underlying3 rfl) (by assumption) ?_
  try simp only [Act.put, List.getElem_toArray, List.getElem_cons_zero, List.getElem_cons_succ, List.setIfInBounds_toArray, List.set_cons_zero, List.set_cons_succ]
  refine wpAnyH_take (i := 6) (v := ?v6) rfl (by kernel_rfl) (by kernel_rfl) (by kernel_rfl) (fun _ _ _ h => h) (Or.inl ⟨by rfl, ?hy6⟩) (by assumption) ?_
  case hy6 => (intro w hSw; (try dsimp only at hSw); simp only [List.getElem_toArray, List.getElem_cons_zero, List.getElem_cons_succ]; go_simp; try with_reducible rfl)
  try simp only [Act.put, List.getElem_toArray, List.getElem_cons_zero, List.getElem_cons_succ, List.setIfInBounds_toArray, List.set_cons_zero, List.set_cons_succ]
  refine wpAnyH_take (i := 7) (v := ?v7) rfl (by kernel_rfl) (by kernel_rfl) (by kernel_rfl) (fun _ _ _ h => h) (Or.inl ⟨by rfl, ?hy7⟩) (by assumption) ?_
  case hy7 => (intro w hSw; (try dsimp only at hSw); simp only [List.getElem_toArray, List.getElem_cons_zero, List.getElem_cons_succ]; go_simp; try with_reducible rfl)
  try simp only [Act.put, List.getElem_toArray, List.getElem_cons_zero, List.getElem_cons_succ, List.setIfInBounds_toArray, List.set_cons_zero, List.set_cons_succ]
  refine wpAnyH_take (i := 8) (v := ?v8) rfl (by kernel_rfl) (by kernel_rfl) (by kernel_rfl) (fun _ _ _ h => h) (Or.inl ⟨by rfl, ?hy8⟩) (by assumption) ?_
  case hy8 => (intro w hSw; (try dsimp only at hSw); simp only [List.getElem_toArray, List.getElem_cons_zero, List.getElem_cons_succ]; go_simp; try with_reducible rfl)
  try simp only [Act.put, List.getElem_toArray, List.getElem_cons_zero, List.getElem_cons_succ, List.setIfInBounds_toArray, List.set_cons_zero, List.set_cons_succ]
  refine wpAnyH_take (i := 9) (v := ?v9) rfl (by kernel_rfl) (by kernel_rfl) (by kernel_rfl) (fun _ _ _ h => h) (Or.inl ⟨by rfl, ?hy9⟩) (by assumption) ?_
  case hy9 => (intro w hSw; (try dsimp only at hSw); simp only [List.getElem_toArray, List.getElem_cons_zero, List.getElem_cons_succ]; go_simp; try with_reducible rfl)
  try simp only [Act.put, List.getElem_toArray, List.getElem_cons_zero, List.getElem_cons_succ, List.setIfInBounds_toArray, List.set_cons_zero, List.set_cons_succ]
  refine wpAnyH_take (i := 10) (v := _) rfl (by kernel_rfl) (by kernel_rfl) (by kernel_rfl) (fun _ _ _ h => h) (ld1_yield (by rfl) 3 _ rfl g 8 rfl 115 _ (fun w hS => hS) (.int .i64 m.se) rfl _ Try.underlying3 rfl) (by assumption) ?_
  try simp only [Act.put, List.getElem_toArray, List.getElem_cons_zero, List.getElem_cons_succ, List.setIfInBounds_toArray, List.set_cons_zero, List.set_cons_succ]
  refine wpAnyH_take (i := 11) (v := ?v11) rfl (by kernel_rfl) (by kernel_rfl) (by kernel_rfl) (fun _ _ _ h => h) (Or.inl ⟨by rfl, ?hy11⟩) (by assumption) ?_
  case hy11 => (intro w hSw; (try dsimp only at hSw); simp only [List.getElem_toArray, List.getElem_cons_zero, List.getElem_cons_succ]; go_simp; try with_reducible rfl)
  try simp only [Act.put, List.getElem_toArray, List.getElem_cons_zero, List.getElem_cons_succ, List.setIfInBounds_toArray, List.set_cons_zero, List.set_cons_succ]
  refine wpAnyH_take (i := 12) (v := ?v12) rfl (by kernel_rfl) (by kernel_rfl) (by kernel_rfl) (fun _ _ _ h => h) (Or.inl ⟨by rfl, ?hy12⟩) (by assumption) ?_
  case hy12 => (intro w hSw; (try dsimp only at hSw); simp only [List.getElem_toArray, List.getElem_cons_zero, List.getElem_cons_succ]; go_simp; try with_reducible rfl)
  try simp only [Act.put, List.getElem_toArray, List.getElem_cons_zero, List.getElem_cons_succ, List.setIfInBounds_toArray, List.set_cons_zero, List.set_cons_succ]
  refine wpAnyH_take (i := 13) (v := ?v13) rfl (by kernel_rfl) (by kernel_rfl) (by kernel_rfl) (fun _ _ _ h => h) (Or.inl ⟨by rfl, ?hy13⟩) (by assumption) ?_
  case hy13 => (intro w hSw; (try dsimp only at hSw); simp only [List.getElem_toArray, List.getElem_cons_zero, List.getElem_cons_succ]; go_simp; try with_reducible rfl)
  try simp only [Act.put, List.getElem_toArray, List.getElem_cons_zero, List.getElem_cons_succ, List.setIfInBounds_toArray, List.set_cons_zero, List.set_cons_succ]
  refine wpAnyH_take (i := 14) (v := ?v14) rfl (by kernel_rfl) (by kernel_rfl) (by kernel_rfl) (fun _ _ _ h => h) (Or.inl ⟨by rfl, ?hy14⟩) (by assumption) ?_
  case hy14 => (intro w hSw; (try dsimp only at hSw); simp only [List.getElem_toArray, List.getElem_cons_zero, List.getElem_cons_succ]; go_simp; try with_reducible rfl)
  try simp only [Act.put, List.getElem_toArray, List.getElem_cons_zero, List.getElem_cons_succ, List.setIfInBounds_toArray, List.set_cons_zero, List.set_cons_succ]
  refine wpAnyH_take (i := 15) (v := _) rfl (by kernel_rfl) (by kernel_rfl) (by kernel_rfl) (fun _ _ _ h => h) (ld1_yield (by rfl) 113 _ rfl g 0 rfl 115 _ (fun w hS => hS) (.slice u.its.a u.its.n u.its.c) rfl _ Try.underlying113 rfl) (by assumption) ?_
  try simp only [Act.put, List.getElem_toArray, List.getElem_cons_zero, List.getElem_cons_succ, List.setIfInBounds_toArray, List.set_cons_zero, List.set_cons_succ]
  refine wpAnyH_ready (rs := [16]) (by kernel_rfl) (by simp) ?_
  refine AllReadyH.cons (i := 16) rfl (fun K hK => ?_) AllReadyH.nil
  rw [if_pos (by rfl)]
  simp only [List.getElem_toArray, List.getElem_cons_zero, List.getElem_cons_succ]
  go_simp
  have hI : Hid (RIt w.drew u.its.v m.its) := (ho.out.below (Below.refl _ _).drew).rit
  refine (aru_r m.its hI hl).mono ?_
  rintro e w1 ⟨rfl, b1⟩
  have c1 : Below w.heap.size w w1 := (Below.refl w.heap.size w).drew.trans b1
  have HG : Hid (Bx w1 g 115 [.slice u.its.a u.its.n u.its.c, .int .i64 m.id, .int .i64 m.rid, .slice u.ms.a u.ms.n u.ms.c, .slice it.a it.n it.c, .slice u.lv.a u.lv.n u.lv.c, .slice u.tx.a u.tx.n u.tx.c, .int .i64 m.rd, .int .i64 m.se, .int .i64 m.li, .int .i64 m.he, .int .i64 m.la.c, .int .i64 m.la.r, .int .i64 m.la.q, .int .i64 m.la.a, .int .i64 m.la.b, .slice u.ws.a u.ws.n u.ws.c]) := Bx.later h.out c1
  refine hK.out _ _ (HG.out) (fun hHeld => ?_)
  clear hK K
  try simp only [Act.put, List.getElem_toArray, List.getElem_cons_zero, List.getElem_cons_succ, List.setIfInBounds_toArray, List.set_cons_zero, List.set_cons_succ]
  clear b1 hI
  refine wpAnyH_ready (rs := [17]) (by kernel_rfl) (by simp) ?_
  refine AllReadyH.cons (i := 17) rfl (fun K hK => ?_) AllReadyH.nil
  rw [if_pos (by rfl)]
  simp only [List.getElem_toArray, List.getElem_cons_zero, List.getElem_cons_succ]
  go_simp
  rw [show (if (aruP m.its : Int) < if a < m.se then a else m.se then (aruP m.its : Int) else if a < m.se then a else m.se) = leastP m.se (aruP m.its) a from rfl]
  refine hK.out _ _ (HG.out) (fun hHeld => ?_)
  clear hK K
  try simp only [Act.put, List.getElem_toArray, List.getElem_cons_zero, List.getElem_cons_succ, List.setIfInBounds_toArray, List.set_cons_zero, List.set_cons_succ]
  refine wpAnyH_ready (rs := [18]) (by kernel_rfl) (by simp) ?_
  refine AllReadyH.cons (i := 18) rfl (fun K hK => ?_) AllReadyH.nil
  rw [if_pos (by rfl)]
  simp only [List.getElem_toArray, List.getElem_cons_zero, List.getElem_cons_succ]
  go_simp
  rw [show (if m.li < leastP m.se (aruP m.its) a then leastP m.se (aruP m.its) a else m.li) = lineP m.li m.se (aruP m.its) a from rfl]
  obtain ⟨L, hL⟩ : ∃ L, lineP m.li m.se (aruP m.its) a = L := ⟨_, rfl⟩
  rw [hL]
  have HL : Hid (lineP m.li m.se (aruP m.its) a = L) := hL
  clear hL
  refine hK.out _ _ (HG.out) (fun hHeld => ?_)
  clear hK K
  try simp only [Act.put, List.getElem_toArray, List.getElem_cons_zero, List.getElem_cons_succ, List.setIfInBounds_toArray, List.set_cons_zero, List.set_cons_succ]
  refine wpAnyH_take (i := 19) (v := ?v19) rfl (by kernel_rfl) (by kernel_rfl) (by kernel_rfl) (fun _ _ _ h => h) (Or.inl ⟨by rfl, ?hy19⟩) (by assumption) ?_
  case hy19 => (intro w hSw; (try dsimp only at hSw); simp only [List.getElem_toArray, List.getElem_cons_zero, List.getElem_cons_succ]; go_simp; try with_reducible rfl)
  try simp only [Act.put, List.getElem_toArray, List.getElem_cons_zero, List.getElem_cons_succ, List.setIfInBounds_toArray, List.set_cons_zero, List.set_cons_succ]
  refine wpAnyH_take (i := 20) (v := ?v20) rfl (by kernel_rfl) (by kernel_rfl) (by kernel_rfl) (fun _ _ _ h => h) (Or.inl ⟨by rfl, ?hy20⟩) (by assumption) ?_
  case hy20 => (intro w hSw; (try dsimp only at hSw); simp only [List.getElem_toArray, List.getElem_cons_zero, List.getElem_cons_succ]; go_simp; try with_reducible rfl)
  try simp only [Act.put, List.getElem_toArray, List.getElem_cons_zero, List.getElem_cons_succ, List.setIfInBounds_toArray, List.set_cons_zero, List.set_cons_succ]
  refine wpAnyH_take (i := 21) (v := ?v21) rfl (by kernel_rfl) (by kernel_rfl) (by kernel_rfl) (fun _ _ _ h => h) (Or.inl ⟨by rfl, ?hy21⟩) (by assumption) ?_
  case hy21 => (intro w hSw; (try dsimp only at hSw); simp only [List.getElem_toArray, List.getElem_cons_zero, List.getElem_cons_succ]; go_simp; try with_reducible rfl)
  try simp only [Act.put, List.getElem_toArray, List.getElem_cons_zero, List.getElem_cons_succ, List.setIfInBounds_toArray, List.set_cons_zero, List.set_cons_succ]
  refine wpAnyH_take (i := 22) (v := ?v22) rfl (by kernel_rfl) (by kernel_rfl) (by kernel_rfl) (fun _ _ _ h => h) (Or.inl ⟨by rfl, ?hy22⟩) (by assumption) ?_
  case hy22 => (intro w hSw; (try dsimp only at hSw); simp only [List.getElem_toArray, List.getElem_cons_zero, List.getElem_cons_succ]; go_simp; try with_reducible rfl)
  try simp only [Act.put, List.getElem_toArray, List.getElem_cons_zero, List.getElem_cons_succ, List.setIfInBounds_toArray, List.set_cons_zero, List.set_cons_succ]
  refine wpAnyH_done (by kernel_rfl) ?_ _
  refine lastQ_of rfl rfl ?_
  refine wp_st1 3 _ _ rfl g 9 rfl 115 _ HG.out (.int .i64 L) rfl (by simp) rfl Try.sizeN3 [.slice u.its.a u.its.n u.its.c, .int .i64 m.id, .int .i64 m.rid, .slice u.ms.a u.ms.n u.ms.c, .slice it.a it.n it.c, .slice u.lv.a u.lv.n u.lv.c, .slice u.tx.a u.tx.n u.tx.c, .int .i64 m.rd, .int .i64 m.se, .int .i64 L, .int .i64 m.he, .int .i64 m.la.c, .int .i64 m.la.r, .int .i64 m.la.q, .int .i64 m.la.a, .int .i64 m.la.b, .slice u.ws.a u.ws.n u.ws.c] rfl ?_
  intro w2 OB TB
  have HG2 : Hid (Bx w2 g 115 [.slice u.its.a u.its.n u.its.c, .int .i64 m.id, .int .i64 m.rid, .slice u.ms.a u.ms.n u.ms.c, .slice it.a it.n it.c, .slice u.lv.a u.lv.n u.lv.c, .slice u.tx.a u.tx.n u.tx.c, .int .i64 m.rd, .int .i64 m.se, .int .i64 L, .int .i64 m.he, .int .i64 m.la.c, .int .i64 m.la.r, .int .i64 m.la.q, .int .i64 m.la.a, .int .i64 m.la.b, .slice u.ws.a u.ws.n u.ws.c]) := OB
  have HK : Hid (KeepBut g w w2) := (keep_of_below c1).trans ⟨TB.os, TB.tape, TB.output, Nat.le_of_eq TB.size.symm, fun i _ hn => TB.block i hn⟩
  clear OB TB hHeld c1 HG cl
  go_wp2_with (first | (refine wpList_st1 rfl 3 _ _ rfl g 8 rfl 115 _ HG2.out (.int .i64 a) rfl (by simp) rfl Try.sizeN3 [.slice u.its.a u.its.n u.its.c, .int .i64 m.id, .int .i64 m.rid, .slice u.ms.a u.ms.n u.ms.c, .slice it.a it.n it.c, .slice u.lv.a u.lv.n u.lv.c, .slice u.tx.a u.tx.n u.tx.c, .int .i64 m.rd, .int .i64 a, .int .i64 L, .int .i64 m.he, .int .i64 m.la.c, .int .i64 m.la.r, .int .i64 m.la.q, .int .i64 m.la.a, .int .i64 m.la.b, .slice u.ws.a u.ws.n u.ws.c] rfl ?_; intro w3 OB TB))
  refine bodyPost_end (results_none rfl _ _ _) rfl ?_
  rw [HL.out]
  exact ⟨rfl, OB, HK.out.trans ⟨TB.os, TB.tape, TB.output, Nat.le_of_eq TB.size.symm, fun i _ hn => TB.block i hn⟩⟩
end Go.Proofs.Ythdjkkiegecgnaa


