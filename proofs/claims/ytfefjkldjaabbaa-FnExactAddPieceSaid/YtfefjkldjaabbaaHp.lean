/- Piles that a law sizes, copies, compares, writes over and looks at again. -/
import Derived.Test.YtfefjkldjaabbaaAd
import Derived.Test.YtfefjkldjaabbaaMn
namespace Go.Proofs.Ytfefjkldjaabbaa
open Go.RowKit Pl
set_option linter.unusedVariables false

theorem bx_new1' (w : World) (o : Obj) (T : TypeId) (cs : List Value) : Bx ((w.alloc o).alloc (.cells cs.toArray T)) (w.heap.size + 1) T cs := by
  have h := Bx.new (w.alloc o) T cs
  rw [show (w.alloc o).heap.size = w.heap.size + 1 by simp] at h
  exact h
theorem grown_box {w w' : World} {row : Option Nat} (o : Obj) (h : (w.alloc o).grownBy w' row) : w.grownBy w' row := grown_tr (grown_blM ((Below.refl _ _).alloc (Nat.le_refl _) o)) h

set_option maxRecDepth 100000 in
set_option maxHeartbeats 1000000 in
theorem szPile_any (num cnt : Int) (s : Sv) (ts : List ByteArray) (L : Nat) (w : World) (hx : Hid (TextsAt w s.a ts)) (hn : Hid (s.n = ts.length)) (hlen : ts.length ≤ maxLen) (hsz : Hid (∀ t ∈ ts, t.size ≤ maxLen)) (hL : L ≤ 1048576) :
    Calls Try.prog 23 #[.agg #[.int .i64 num, .int .i64 cnt, .slice s.a s.n s.c], .int .i64 L] w fun e w' => (e = .returned (.int .i64 (-1)) ∨ ∃ r : Nat, e = .returned (.int .i64 r) ∧ Hid (r + ts.length ≤ L ∧ ∀ t ∈ ts, t.size ≤ 1048576)) ∧ Below w.heap.size w w' := by
  have P1 : Hid (Bx (w.alloc (.cells #[.int .i64 num, .int .i64 cnt, .slice s.a s.n s.c] 41)) w.heap.size 41 [.int .i64 num, .int .i64 cnt, .slice s.a s.n s.c]) := Bx.new w 41 [.int .i64 num, .int .i64 cnt, .slice s.a s.n s.c]
  have B1 : Hid (Below w.heap.size w (w.alloc (.cells #[.int .i64 num, .int .i64 cnt, .slice s.a s.n s.c] 41))) := (Below.refl _ _).alloc (Nat.le_refl _) _
  have X1 : Hid (TextsAt (w.alloc (.cells #[.int .i64 num, .int .i64 cnt, .slice s.a s.n s.c] 41)) s.a ts) := hx.out.stays B1.out
  go_enter Try.func23, Try.ntmps23
  go_wp2_with fail
  generalize w.alloc (.cells #[.int .i64 num, .int .i64 cnt, .slice s.a s.n s.c] 41) = W at *
  have hc := szS_any W s.a s.c L ts X1 hlen hsz hL
  rw [← hn.out] at hc
  refine hc.mono ?_
  clear hc
  rintro e w1 ⟨rfl | ⟨r, rfl, hr⟩, rfl⟩
  · go_wp2
    go_ret
    exact ⟨.inl rfl, B1.out⟩
  · go_wp2
    go_ret
    exact ⟨.inr ⟨r, rfl, by rw [← hn.out]; exact hr⟩, B1.out⟩

set_option maxRecDepth 100000 in
set_option maxHeartbeats 2000000 in
theorem toPile_any (num cnt : Int) (s : Sv) (ts : List ByteArray) (w : World) (hx : Hid (TextsAt w s.a ts)) (hn : Hid (s.n = ts.length)) (hl : ts.length ≤ 1048576) :
    Calls Try.prog 25 #[.agg #[.int .i64 num, .int .i64 cnt, .slice s.a s.n s.c]] w fun e w' => ∃ s' : Sv, e = .returned (.agg #[.int .i64 num, .int .i64 cnt, .slice s'.a s'.n s'.c]) ∧ OwnS w' w.heap.size s'.v ts ∧ Below w.heap.size w w' := by
  have B0 : Hid (Below w.heap.size w (((w.alloc (.cells #[.int .i64 num, .int .i64 cnt, .slice s.a s.n s.c] 41)).alloc (.cells #[.int .i64 0, .int .i64 0, .slice none 0 0] 35)).alloc (.cells #[.int .i64 0, .int .i64 0, .slice none 0 0] 35))) := (((Below.refl _ _).alloc (Nat.le_refl _) _).alloc (by simp) _).alloc (by simp; omega) _
  have A0 : Hid (Bx (((w.alloc (.cells #[.int .i64 num, .int .i64 cnt, .slice s.a s.n s.c] 41)).alloc (.cells #[.int .i64 0, .int .i64 0, .slice none 0 0] 35)).alloc (.cells #[.int .i64 0, .int .i64 0, .slice none 0 0] 35)) w.heap.size 41 [.int .i64 num, .int .i64 cnt, .slice s.a s.n s.c]) := (Bx.new w 41 [.int .i64 num, .int .i64 cnt, .slice s.a s.n s.c]).stays (((Below.refl (w.heap.size + 1) _).alloc (by simp) _).alloc (by simp) _) (by omega)
  have R0 : Hid (Bx (((w.alloc (.cells #[.int .i64 num, .int .i64 cnt, .slice s.a s.n s.c] 41)).alloc (.cells #[.int .i64 0, .int .i64 0, .slice none 0 0] 35)).alloc (.cells #[.int .i64 0, .int .i64 0, .slice none 0 0] 35)) (w.heap.size + 1) 35 [.int .i64 0, .int .i64 0, .slice none 0 0]) := (bx_new1' w _ 35 [.int .i64 0, .int .i64 0, .slice none 0 0]).stays ((Below.refl (w.heap.size + 2) _).alloc (by simp) _) (by omega)
  have V0 : Hid (Bx (((w.alloc (.cells #[.int .i64 num, .int .i64 cnt, .slice s.a s.n s.c] 41)).alloc (.cells #[.int .i64 0, .int .i64 0, .slice none 0 0] 35)).alloc (.cells #[.int .i64 0, .int .i64 0, .slice none 0 0] 35)) (w.heap.size + 1 + 1) 35 [.int .i64 0, .int .i64 0, .slice none 0 0]) := by
    have h := bx_new1' (w.alloc (.cells #[.int .i64 num, .int .i64 cnt, .slice s.a s.n s.c] 41)) (.cells #[.int .i64 0, .int .i64 0, .slice none 0 0] 35) 35 [.int .i64 0, .int .i64 0, .slice none 0 0]
    rw [show (w.alloc (.cells #[.int .i64 num, .int .i64 cnt, .slice s.a s.n s.c] 41)).heap.size = w.heap.size + 1 by simp] at h
    exact h
  have X0 : Hid (TextsAt (((w.alloc (.cells #[.int .i64 num, .int .i64 cnt, .slice s.a s.n s.c] 41)).alloc (.cells #[.int .i64 0, .int .i64 0, .slice none 0 0] 35)).alloc (.cells #[.int .i64 0, .int .i64 0, .slice none 0 0] 35)) s.a ts) := hx.out.stays B0.out
  go_enter Try.func25, Try.ntmps25
  go_wp2_with (first | (with_reducible refine wpList_haltS 3 _ _ rfl ?_))
  refine Stp.go ?_
  generalize (((w.alloc (.cells #[.int .i64 num, .int .i64 cnt, .slice s.a s.n s.c] 41)).alloc (.cells #[.int .i64 0, .int .i64 0, .slice none 0 0] 35)).alloc (.cells #[.int .i64 0, .int .i64 0, .slice none 0 0] 35)) = W at *
  generalize hg1 : w.heap.size + 1 = g1 at *
  have HG1 : Hid (w.heap.size + 1 = g1) := hg1
  clear hg1
  generalize hg2 : g1 + 1 = g2 at *
  have HG2 : Hid (g1 + 1 = g2) := hg2
  clear hg2
  have z2 : w.heap.size < g1 ∧ g1 < g2 := by have := HG1.out; have := HG2.out; omega
  refine wpList_st1 rfl 3 _ _ rfl g2 0 rfl 35 _ V0.out (.int .i64 num) rfl (by simp) rfl Try.size3 [.int .i64 num, .int .i64 0, .slice none 0 0] rfl ?_
  intro W1 V1 T1
  have V1 : Hid (Bx W1 g2 35 [.int .i64 num, .int .i64 0, .slice none 0 0]) := V1
  have A1 : Hid (Bx W1 w.heap.size 41 [.int .i64 num, .int .i64 cnt, .slice s.a s.n s.c]) := A0.out.turn T1 (by omega)
  have R1 : Hid (Bx W1 g1 35 [.int .i64 0, .int .i64 0, .slice none 0 0]) := R0.out.turn T1 (by omega)
  have B1 : Hid (Below w.heap.size w W1) := B0.out.trans (T1.below (by omega))
  clear A0 R0 V0 X0 B0 T1
  have a1 := A1.out.cell 1
  simp only [List.getElem?_cons_succ, List.getElem?_cons_zero] at a1
  go_wp2_with (first | (with_reducible refine wpList_haltS 3 _ _ rfl ?_))
  refine Stp.go ?_
  refine wpList_st1 rfl 3 _ _ rfl g2 1 rfl 35 _ V1.out (.int .i64 cnt) rfl (by simp) rfl Try.size3 [.int .i64 num, .int .i64 cnt, .slice none 0 0] rfl ?_
  intro W2 V2 T2
  have V2 : Hid (Bx W2 g2 35 [.int .i64 num, .int .i64 cnt, .slice none 0 0]) := V2
  have A2 : Hid (Bx W2 w.heap.size 41 [.int .i64 num, .int .i64 cnt, .slice s.a s.n s.c]) := A1.out.turn T2 (by omega)
  have R2 : Hid (Bx W2 g1 35 [.int .i64 0, .int .i64 0, .slice none 0 0]) := R1.out.turn T2 (by omega)
  have B2 : Hid (Below w.heap.size w W2) := B1.out.trans (T2.below (by omega))
  have X2 : Hid (TextsAt W2 s.a ts) := hx.out.stays B2.out
  clear A1 R1 V1 B1 T2 a1
  have a2 := A2.out.cell 2
  simp only [List.getElem?_cons_succ, List.getElem?_cons_zero] at a2
  go_wp2_with (first | (with_reducible refine wpList_haltS 26 _ _ rfl ?_))
  have hc := toS_any W2 s.a s.c ts X2 hl
  rw [← hn.out] at hc
  refine hc.mono ?_
  clear hc
  rintro e W3 ⟨v3, rfl, hv3, hb3⟩
  obtain ⟨s3, rfl, -⟩ := sv_form hv3
  unfold Sv.v
  have V3 : Hid (Bx W3 g2 35 [.int .i64 num, .int .i64 cnt, .slice none 0 0]) := V2.out.later hb3
  have R3 : Hid (Bx W3 g1 35 [.int .i64 0, .int .i64 0, .slice none 0 0]) := R2.out.later hb3
  have B3 : Hid (Below w.heap.size w W3) := B2.out.trans (hb3.mono B2.out.size)
  have O3 : Hid (OwnS W3 w.heap.size s3.v ts) := hv3.down B2.out.size
  clear A2 R2 V2 B2 X2 a2 hv3 hb3
  go_wp2_with (first | (with_reducible refine wpList_haltS 26 _ _ rfl ?_))
  refine Stp.go ?_
  refine wpList_st1 rfl 26 _ _ rfl g2 2 rfl 35 _ V3.out (.slice s3.a s3.n s3.c) rfl (by simp) rfl Try.sizeTs [.int .i64 num, .int .i64 cnt, .slice s3.a s3.n s3.c] rfl ?_
  intro W4 V4 T4
  have R4 : Hid (Bx W4 g1 35 [.int .i64 0, .int .i64 0, .slice none 0 0]) := R3.out.turn T4 (by omega)
  have B4 : Hid (Below w.heap.size w W4) := B3.out.trans (T4.below (by omega))
  have O4 : Hid (OwnS W4 w.heap.size s3.v ts) := O3.out.past V3.out T4 (by decide)
  obtain ⟨c0, c1, c2⟩ := PiB.cells (s := s3) V4
  clear V3 R3 B3 O3 T4 V4
  go_wp2_with (first | (with_reducible refine wpList_haltS 35 _ _ rfl ?_))
  refine Stp.go ?_
  refine wpList_stB rfl 35 _ _ rfl g1 0 rfl 35 _ R4.out [.int .i64 num, .int .i64 cnt, .slice s3.a s3.n s3.c] rfl (by simp) Try.sizeP rfl [.int .i64 num, .int .i64 cnt, .slice s3.a s3.n s3.c] rfl ?_
  intro W5 R5 T5
  have O5 := O4.out.past R4.out T5 (by decide)
  have B5 := B4.out.trans (T5.below (by omega))
  obtain ⟨z0, z1, z2⟩ := PiB.cells (s := s3) R5
  go_wp2_with fail
  refine bodyPost_ret (v := .agg #[.int .i64 num, .int .i64 cnt, .slice s3.a s3.n s3.c]) (by simp [results, Try.results25, go_sem, z0, z1, z2]) rfl ?_
  exact ⟨s3, rfl, O5, B5⟩

set_option maxRecDepth 100000 in
set_option maxHeartbeats 2000000 in
theorem eqPile_same (num cnt : Int) (s s' : Sv) (ts : List ByteArray) (B1 B2 : Nat) (w : World) (h1 : Hid (OwnS w B1 s.v ts)) (h2 : Hid (OwnS w B2 s'.v ts)) (hl : ts.length ≤ 1048577) :
    Calls Try.prog 26 #[.agg #[.int .i64 num, .int .i64 cnt, .slice s.a s.n s.c], .agg #[.int .i64 num, .int .i64 cnt, .slice s'.a s'.n s'.c]] w fun e w' => e = .returned (.bool true) ∧ Below w.heap.size w w' := by
  have d0 : (num != num) = false := by simp
  have d1 : (cnt != cnt) = false := by simp
  have BB : Hid (Below w.heap.size w ((w.alloc (.cells #[.int .i64 num, .int .i64 cnt, .slice s.a s.n s.c] 35)).alloc (.cells #[.int .i64 num, .int .i64 cnt, .slice s'.a s'.n s'.c] 35))) := ((Below.refl _ _).alloc (Nat.le_refl _) _).alloc (by simp) _
  have P1 : Hid (PiB ((w.alloc (.cells #[.int .i64 num, .int .i64 cnt, .slice s.a s.n s.c] 35)).alloc (.cells #[.int .i64 num, .int .i64 cnt, .slice s'.a s'.n s'.c] 35)) w.heap.size num cnt s) := (Bx.new w 35 [.int .i64 num, .int .i64 cnt, .slice s.a s.n s.c]).stays ((Below.refl (w.heap.size + 1) _).alloc (by simp) _) (by omega)
  have P2 : Hid (PiB ((w.alloc (.cells #[.int .i64 num, .int .i64 cnt, .slice s.a s.n s.c] 35)).alloc (.cells #[.int .i64 num, .int .i64 cnt, .slice s'.a s'.n s'.c] 35)) (w.heap.size + 1) num cnt s') := by
    have h := Bx.new (w.alloc (.cells #[.int .i64 num, .int .i64 cnt, .slice s.a s.n s.c] 35)) 35 [.int .i64 num, .int .i64 cnt, .slice s'.a s'.n s'.c]
    rw [show (w.alloc (.cells #[.int .i64 num, .int .i64 cnt, .slice s.a s.n s.c] 35)).heap.size = w.heap.size + 1 by simp] at h
    exact h
  have O1 : Hid (OwnS ((w.alloc (.cells #[.int .i64 num, .int .i64 cnt, .slice s.a s.n s.c] 35)).alloc (.cells #[.int .i64 num, .int .i64 cnt, .slice s'.a s'.n s'.c] 35)) B1 s.v ts) := ownS_later h1.out BB.out
  have O2 : Hid (OwnS ((w.alloc (.cells #[.int .i64 num, .int .i64 cnt, .slice s.a s.n s.c] 35)).alloc (.cells #[.int .i64 num, .int .i64 cnt, .slice s'.a s'.n s'.c] 35)) B2 s'.v ts) := ownS_later h2.out BB.out
  obtain ⟨a0, a1, a2⟩ := P1.out.cells
  obtain ⟨b0, b1, b2⟩ := P2.out.cells
  go_enter Try.func26, Try.ntmps26
  go_wp2_with fail
  generalize (w.alloc (.cells #[.int .i64 num, .int .i64 cnt, .slice s.a s.n s.c] 35)).alloc (.cells #[.int .i64 num, .int .i64 cnt, .slice s'.a s'.n s'.c] 35) = W at *
  have hc := eqS_same s.v s'.v ts B1 B2 W O1.out O2.out hl
  unfold Sv.v at hc
  refine hc.mono ?_
  clear hc
  rintro e w1 ⟨rfl, hb1⟩
  go_wp2
  go_ret
  exact ⟨rfl, BB.out.trans (hb1.mono BB.out.size)⟩

set_option maxRecDepth 100000 in
set_option maxHeartbeats 2000000 in
theorem markPile_any (num cnt : Int) (s : Sv) (ts : List ByteArray) (B K : Nat) (w : World) (h1 : Hid (OwnS w B s.v ts)) (hl : K + ts.length ≤ 4999990) (hK : 0 < K) :
    Calls Try.prog 27 #[.agg #[.int .i64 num, .int .i64 cnt, .slice s.a s.n s.c], .int .i64 K] w fun e w' => e = .returned (.int .i64 ((K + ts.length : Nat) : Int)) ∧ OwnS w' B s.v (mkT K ts.length) ∧ w.grownBy w' s.v.ownBlock := by
  have O1 : Hid (OwnS (w.alloc (.cells #[.int .i64 num, .int .i64 cnt, .slice s.a s.n s.c] 35)) B s.v ts) := h1.out.alloc _
  go_enter Try.func27, Try.ntmps27
  go_wp2_with fail
  have hc := markSo_any s.v ts B K _ O1.out hl hK
  have he : s.v = .slice s.a s.n s.c := rfl
  rw [he] at hc
  refine hc.mono ?_
  clear hc
  rintro e w1 ⟨rfl, ho, hg⟩
  have HG : Hid (w.grownBy w1 s.v.ownBlock) := grown_box _ hg
  have HO : Hid (OwnS w1 B s.v (mkT K ts.length)) := ho
  clear ho hg O1 h1 he
  go_wp2
  go_ret
  exact ⟨rfl, HO.out, HG.out⟩

set_option maxRecDepth 100000 in
set_option maxHeartbeats 2000000 in
theorem heldPile_any (num cnt : Int) (s : Sv) (n B K : Nat) (w : World) (h1 : Hid (OwnS w B s.v (mkT K n))) (hl : K + n ≤ 4999990) (hK : 0 < K) :
    Calls Try.prog 28 #[.agg #[.int .i64 num, .int .i64 cnt, .slice s.a s.n s.c], .int .i64 K] w fun e w' => e = .returned (.int .i64 ((K + n : Nat) : Int)) ∧ Below w.heap.size w w' := by
  have O1 : Hid (OwnS (w.alloc (.cells #[.int .i64 num, .int .i64 cnt, .slice s.a s.n s.c] 35)) B s.v (mkT K n)) := h1.out.alloc _
  have B1 : Hid (Below w.heap.size w (w.alloc (.cells #[.int .i64 num, .int .i64 cnt, .slice s.a s.n s.c] 35))) := (Below.refl _ _).alloc (Nat.le_refl _) _
  go_enter Try.func28, Try.ntmps28
  go_wp2_with fail
  generalize w.alloc (.cells #[.int .i64 num, .int .i64 cnt, .slice s.a s.n s.c] 35) = W at *
  have hc := heldSo_any s.v n B K W O1.out hl hK
  unfold Sv.v at hc
  refine hc.mono ?_
  clear hc
  rintro e w1 ⟨rfl, hb1⟩
  have HB : Hid (Below w.heap.size w w1) := B1.out.trans (hb1.mono B1.out.size)
  have hd : decide (((K + n : Nat) : Int) < 0) = false := by simp; omega
  clear hb1 O1 h1
  go_wp2
  go_ret
  exact ⟨rfl, HB.out⟩
end Go.Proofs.Ytfefjkldjaabbaa
