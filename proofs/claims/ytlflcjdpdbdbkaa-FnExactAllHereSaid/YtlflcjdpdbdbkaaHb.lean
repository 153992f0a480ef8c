/- Bundles that a law sizes, copies, compares, writes over and looks at again. Written by gen_hb.py. -/
import Derived.Test.YtlflcjdpdbdbkaaHs
import Derived.Test.YtlflcjdpdbdbkaaEs
import Derived.Test.YtlflcjdpdbdbkaaBb
namespace Go.Proofs.Ytlflcjdpdbdbkaa
open Go.RowKit Pl
set_option linter.unusedVariables false

set_option maxRecDepth 100000 in
set_option maxHeartbeats 1000000 in
theorem szBundle_any (f n o : Int) (s : Sv) (ts : List It) (L : Nat) (w : World) (hx : Hid (RIt w s ts)) (hlen : ts.length ≤ 9223372036854775807) (hsz : Hid (∀ x ∈ ts, x.2.2.2.size ≤ 9223372036854775807)) (hL : L ≤ 1048576) :
    Calls Try.prog 6 #[.agg #[.int .i64 f, .int .i64 n, .int .i64 o, .slice s.a s.n s.c], .int .i64 L] w fun e w' => (e = .returned (.int .i64 (-1)) ∨ ∃ r : Nat, e = .returned (.int .i64 r) ∧ r ≤ 1048576 ∧ Hid (r + ts.length ≤ L ∧ ∀ x ∈ ts, x.2.2.2.size ≤ 1048576)) ∧ Below w.heap.size w w' := by
  have B1 : Hid (Below w.heap.size w (w.alloc (.cells #[.int .i64 f, .int .i64 n, .int .i64 o, .slice s.a s.n s.c] 24))) := (Below.refl _ _).alloc (Nat.le_refl _) _
  have X1 : Hid (ItemsAt (w.alloc (.cells #[.int .i64 f, .int .i64 n, .int .i64 o, .slice s.a s.n s.c] 24)) s.a ts) := hx.out.2.stays B1.out
  have hn : Hid (s.n = ts.length) := hx.out.1
  go_enter Try.func6, Try.ntmps6
  go_wp2_with fail
  generalize (w.alloc (.cells #[.int .i64 f, .int .i64 n, .int .i64 o, .slice s.a s.n s.c] 24)) = W at *
  have hc := szItems_left L hL s.a s.c ts W X1 hlen hsz
  rw [← hn.out] at hc
  refine hc.mono ?_
  clear hc
  rintro e w1 ⟨rfl | ⟨r, rfl, hr, hr2⟩, hb1⟩
  · have B2 : Hid (Below w.heap.size w w1) := bl_nxt B1.out hb1
    go_wp2
    go_ret
    exact ⟨.inl rfl, B2.out⟩
  · have B2 : Hid (Below w.heap.size w w1) := bl_nxt B1.out hb1
    have HR : Hid (r + ts.length ≤ L ∧ ∀ x ∈ ts, x.2.2.2.size ≤ 1048576) := ⟨by rw [← hn.out]; exact hr, hr2⟩
    have hr3 : r ≤ 1048576 := by have := HR.out.1; omega
    have hd : decide ((r : Int) < 0) = false := by simp
    clear hr hr2 hb1
    go_wp2
    go_ret
    exact ⟨.inr ⟨r, rfl, hr3, HR⟩, B2.out⟩

set_option maxRecDepth 100000 in
set_option maxHeartbeats 4000000 in
theorem toBundle_any (f n o : Int) (s : Sv) (ts : List It) (w : World) (hx : Hid (RIt w s ts)) (hl : ts.length ≤ 1048576) :
    Calls Try.prog 8 #[.agg #[.int .i64 f, .int .i64 n, .int .i64 o, .slice s.a s.n s.c]] w fun e w' => ∃ s' : Sv, e = .returned (.agg #[.int .i64 f, .int .i64 n, .int .i64 o, .slice s'.a s'.n s'.c]) ∧ SlI w' w.heap.size s'.v ts ∧ Below w.heap.size w w' := by
  have B0 : Hid (Below w.heap.size w (((w.alloc (.cells #[.int .i64 f, .int .i64 n, .int .i64 o, .slice s.a s.n s.c] 24)).alloc (.cells #[.int .i64 0, .int .i64 0, .int .i64 0, .slice none 0 0] 29)).alloc (.cells #[.int .i64 0, .int .i64 0, .int .i64 0, .slice none 0 0] 29))) := (((Below.refl _ _).alloc (Nat.le_refl _) _).alloc (by simp) _).alloc (by simp; omega) _
  have A0 : Hid (Bx (((w.alloc (.cells #[.int .i64 f, .int .i64 n, .int .i64 o, .slice s.a s.n s.c] 24)).alloc (.cells #[.int .i64 0, .int .i64 0, .int .i64 0, .slice none 0 0] 29)).alloc (.cells #[.int .i64 0, .int .i64 0, .int .i64 0, .slice none 0 0] 29)) w.heap.size 24 [.int .i64 f, .int .i64 n, .int .i64 o, .slice s.a s.n s.c]) := (Bx.new w 24 [.int .i64 f, .int .i64 n, .int .i64 o, .slice s.a s.n s.c]).stays (((Below.refl (w.heap.size + 1) _).alloc (by simp) _).alloc (by simp) _) (by omega)
  have R0 : Hid (Bx (((w.alloc (.cells #[.int .i64 f, .int .i64 n, .int .i64 o, .slice s.a s.n s.c] 24)).alloc (.cells #[.int .i64 0, .int .i64 0, .int .i64 0, .slice none 0 0] 29)).alloc (.cells #[.int .i64 0, .int .i64 0, .int .i64 0, .slice none 0 0] 29)) (w.heap.size + 1) 29 [.int .i64 0, .int .i64 0, .int .i64 0, .slice none 0 0]) := (bx_next w _ 29 [.int .i64 0, .int .i64 0, .int .i64 0, .slice none 0 0]).stays ((Below.refl (w.heap.size + 2) _).alloc (by simp) _) (by omega)
  have V0 : Hid (Bx (((w.alloc (.cells #[.int .i64 f, .int .i64 n, .int .i64 o, .slice s.a s.n s.c] 24)).alloc (.cells #[.int .i64 0, .int .i64 0, .int .i64 0, .slice none 0 0] 29)).alloc (.cells #[.int .i64 0, .int .i64 0, .int .i64 0, .slice none 0 0] 29)) (w.heap.size + 1 + 1) 29 [.int .i64 0, .int .i64 0, .int .i64 0, .slice none 0 0]) := by
    have h := bx_next (w.alloc (.cells #[.int .i64 f, .int .i64 n, .int .i64 o, .slice s.a s.n s.c] 24)) (.cells #[.int .i64 0, .int .i64 0, .int .i64 0, .slice none 0 0] 29) 29 [.int .i64 0, .int .i64 0, .int .i64 0, .slice none 0 0]
    rw [show (w.alloc (.cells #[.int .i64 f, .int .i64 n, .int .i64 o, .slice s.a s.n s.c] 24)).heap.size = w.heap.size + 1 by simp] at h
    exact h
  have hn : Hid (s.n = ts.length) := hx.out.1
  go_enter Try.func8, Try.ntmps8
  go_wp2_with (first | (with_reducible refine wpList_haltS 3 _ _ rfl ?_))
  refine Stp.go ?_
  generalize (((w.alloc (.cells #[.int .i64 f, .int .i64 n, .int .i64 o, .slice s.a s.n s.c] 24)).alloc (.cells #[.int .i64 0, .int .i64 0, .int .i64 0, .slice none 0 0] 29)).alloc (.cells #[.int .i64 0, .int .i64 0, .int .i64 0, .slice none 0 0] 29)) = W at *
  generalize hg1 : w.heap.size + 1 = g1 at *
  have HG1 : Hid (w.heap.size + 1 = g1) := hg1
  clear hg1
  generalize hg2 : g1 + 1 = g2 at *
  have HG2 : Hid (g1 + 1 = g2) := hg2
  clear hg2
  have z2 : w.heap.size < g1 ∧ g1 < g2 := by have := HG1.out; have := HG2.out; omega
  refine wpList_st1 rfl 3 _ _ rfl g2 0 rfl 29 _ V0.out (.int .i64 f) rfl (by simp) rfl Try.size3 [.int .i64 f, .int .i64 0, .int .i64 0, .slice none 0 0] rfl ?_
  intro W1 V1 T1
  have V1 : Hid (Bx W1 g2 29 [.int .i64 f, .int .i64 0, .int .i64 0, .slice none 0 0]) := V1
  have A1 : Hid (Bx W1 w.heap.size 24 [.int .i64 f, .int .i64 n, .int .i64 o, .slice s.a s.n s.c]) := A0.out.turn T1 (by omega)
  have R1 : Hid (Bx W1 g1 29 [.int .i64 0, .int .i64 0, .int .i64 0, .slice none 0 0]) := R0.out.turn T1 (by omega)
  have B1 : Hid (Below w.heap.size w W1) := B0.out.trans (T1.below (by omega))
  clear A0 R0 V0 B0 T1
  have a1 := A1.out.cell 1
  simp only [List.getElem?_cons_succ, List.getElem?_cons_zero] at a1
  go_wp2_with (first | (with_reducible refine wpList_haltS 3 _ _ rfl ?_))
  refine Stp.go ?_
  refine wpList_st1 rfl 3 _ _ rfl g2 1 rfl 29 _ V1.out (.int .i64 n) rfl (by simp) rfl Try.size3 [.int .i64 f, .int .i64 n, .int .i64 0, .slice none 0 0] rfl ?_
  intro W2 V2 T2
  have V2 : Hid (Bx W2 g2 29 [.int .i64 f, .int .i64 n, .int .i64 0, .slice none 0 0]) := V2
  have A2 : Hid (Bx W2 w.heap.size 24 [.int .i64 f, .int .i64 n, .int .i64 o, .slice s.a s.n s.c]) := A1.out.turn T2 (by omega)
  have R2 : Hid (Bx W2 g1 29 [.int .i64 0, .int .i64 0, .int .i64 0, .slice none 0 0]) := R1.out.turn T2 (by omega)
  have B2 : Hid (Below w.heap.size w W2) := B1.out.trans (T2.below (by omega))
  clear A1 R1 V1 B1 T2 a1
  have a2 := A2.out.cell 2
  simp only [List.getElem?_cons_succ, List.getElem?_cons_zero] at a2
  go_wp2_with (first | (with_reducible refine wpList_haltS 3 _ _ rfl ?_))
  refine Stp.go ?_
  refine wpList_st1 rfl 3 _ _ rfl g2 2 rfl 29 _ V2.out (.int .i64 o) rfl (by simp) rfl Try.size3 [.int .i64 f, .int .i64 n, .int .i64 o, .slice none 0 0] rfl ?_
  intro W3 V3 T3
  have V3 : Hid (Bx W3 g2 29 [.int .i64 f, .int .i64 n, .int .i64 o, .slice none 0 0]) := V3
  have A3 : Hid (Bx W3 w.heap.size 24 [.int .i64 f, .int .i64 n, .int .i64 o, .slice s.a s.n s.c]) := A2.out.turn T3 (by omega)
  have R3 : Hid (Bx W3 g1 29 [.int .i64 0, .int .i64 0, .int .i64 0, .slice none 0 0]) := R2.out.turn T3 (by omega)
  have B3 : Hid (Below w.heap.size w W3) := B2.out.trans (T3.below (by omega))
  clear A2 R2 V2 B2 T3 a2
  have a3 := A3.out.cell 3
  simp only [List.getElem?_cons_succ, List.getElem?_cons_zero] at a3
  have X3 : Hid (ItemsAt W3 s.a ts) := hx.out.2.stays B3.out
  go_wp2_with (first | (with_reducible refine wpList_haltS 27 _ _ rfl ?_))
  have hc := toItems_sl W3 s.a s.c ts X3 hl
  rw [← hn.out] at hc
  refine hc.mono ?_
  clear hc
  rintro e W4 ⟨rfl, hv4, -, hb4⟩
  obtain ⟨s4, hs4⟩ : ∃ s4 : Sv, s4 = ⟨some ⟨W3.heap.size, 0, none⟩, s.n, s.n⟩ := ⟨_, rfl⟩
  have hq : Value.slice (some ⟨W3.heap.size, 0, none⟩) s.n s.n = s4.v := by rw [hs4]; rfl
  rw [hq] at hv4 ⊢
  clear hq hs4
  unfold Sv.v
  have V4 : Hid (Bx W4 g2 29 [.int .i64 f, .int .i64 n, .int .i64 o, .slice none 0 0]) := V3.out.later hb4
  have R4 : Hid (Bx W4 g1 29 [.int .i64 0, .int .i64 0, .int .i64 0, .slice none 0 0]) := R3.out.later hb4
  have B4 : Hid (Below w.heap.size w W4) := B3.out.trans (hb4.mono B3.out.size)
  have O4 : Hid (SlI W4 w.heap.size s4.v ts) := hv4.down B3.out.size
  clear A3 R3 V3 B3 X3 a3 hv4 hb4
  go_wp2_with (first | (with_reducible refine wpList_haltS 27 _ _ rfl ?_))
  refine Stp.go ?_
  refine wpList_st1 rfl 27 _ _ rfl g2 3 rfl 29 _ V4.out (.slice s4.a s4.n s4.c) rfl (by simp) rfl Try.sizeIs [.int .i64 f, .int .i64 n, .int .i64 o, .slice s4.a s4.n s4.c] rfl ?_
  intro W5 V5 T5
  have R5 : Hid (Bx W5 g1 29 [.int .i64 0, .int .i64 0, .int .i64 0, .slice none 0 0]) := R4.out.turn T5 (by omega)
  have B5 : Hid (Below w.heap.size w W5) := B4.out.trans (T5.below (by omega))
  have O5 : Hid (SlI W5 w.heap.size s4.v ts) := O4.out.past V4.out T5 (by decide)
  have V5 : Hid (Bx W5 g2 29 [.int .i64 f, .int .i64 n, .int .i64 o, .slice s4.a s4.n s4.c]) := V5
  clear V4 R4 B4 O4 T5
  have c0 := V5.out.cell 0
  have c1 := V5.out.cell 1
  have c2 := V5.out.cell 2
  have c3 := V5.out.cell 3
  simp only [List.getElem?_cons_succ, List.getElem?_cons_zero] at c0 c1 c2 c3
  go_wp2_with (first | (with_reducible refine wpList_haltS 29 _ _ rfl ?_))
  refine Stp.go ?_
  refine wpList_stB rfl 29 _ _ rfl g1 0 rfl 29 _ R5.out [.int .i64 f, .int .i64 n, .int .i64 o, .slice s4.a s4.n s4.c] rfl (by simp) Try.sizeBu rfl [.int .i64 f, .int .i64 n, .int .i64 o, .slice s4.a s4.n s4.c] rfl ?_
  intro W6 R6 T6
  have O6 := O5.out.past R5.out T6 (by decide)
  have B6 := B5.out.trans (T6.below (by omega))
  go_wp2_with fail
  refine bodyPost_ret (results_b Try.results8 g1 29 [.int .i64 f, .int .i64 n, .int .i64 o, .slice s4.a s4.n s4.c] _ rfl R6 Try.underlying29 rfl Try.sizeBu) rfl ?_
  exact ⟨s4, rfl, O6, B6⟩

set_option maxRecDepth 100000 in
set_option maxHeartbeats 2000000 in
theorem eqBundle_same (f n o : Int) (s s' : Sv) (ts : List It) (B1 B2 : Nat) (w : World) (h1 : Hid (SlI w B1 s.v ts)) (h2 : Hid (SlI w B2 s'.v ts)) (hl : ts.length ≤ 1048576) :
    Calls Try.prog 10 #[.agg #[.int .i64 f, .int .i64 n, .int .i64 o, .slice s.a s.n s.c], .agg #[.int .i64 f, .int .i64 n, .int .i64 o, .slice s'.a s'.n s'.c]] w fun e w' => e = .returned (.bool true) ∧ Below w.heap.size w w' := by
  have d0 : (f != f) = false := by simp
  have d1 : (n != n) = false := by simp
  have d2 : (o != o) = false := by simp
  have BB : Hid (Below w.heap.size w ((w.alloc (.cells #[.int .i64 f, .int .i64 n, .int .i64 o, .slice s.a s.n s.c] 29)).alloc (.cells #[.int .i64 f, .int .i64 n, .int .i64 o, .slice s'.a s'.n s'.c] 29))) := ((Below.refl _ _).alloc (Nat.le_refl _) _).alloc (by simp) _
  have P1 : Hid (Bx ((w.alloc (.cells #[.int .i64 f, .int .i64 n, .int .i64 o, .slice s.a s.n s.c] 29)).alloc (.cells #[.int .i64 f, .int .i64 n, .int .i64 o, .slice s'.a s'.n s'.c] 29)) w.heap.size 29 [.int .i64 f, .int .i64 n, .int .i64 o, .slice s.a s.n s.c]) := (Bx.new w 29 [.int .i64 f, .int .i64 n, .int .i64 o, .slice s.a s.n s.c]).stays ((Below.refl (w.heap.size + 1) _).alloc (by simp) _) (by omega)
  have P2 : Hid (Bx ((w.alloc (.cells #[.int .i64 f, .int .i64 n, .int .i64 o, .slice s.a s.n s.c] 29)).alloc (.cells #[.int .i64 f, .int .i64 n, .int .i64 o, .slice s'.a s'.n s'.c] 29)) (w.heap.size + 1) 29 [.int .i64 f, .int .i64 n, .int .i64 o, .slice s'.a s'.n s'.c]) := bx_next w (.cells #[.int .i64 f, .int .i64 n, .int .i64 o, .slice s.a s.n s.c] 29) 29 [.int .i64 f, .int .i64 n, .int .i64 o, .slice s'.a s'.n s'.c]
  have O1 : Hid (SlI ((w.alloc (.cells #[.int .i64 f, .int .i64 n, .int .i64 o, .slice s.a s.n s.c] 29)).alloc (.cells #[.int .i64 f, .int .i64 n, .int .i64 o, .slice s'.a s'.n s'.c] 29)) B1 s.v ts) := h1.out.below BB.out
  have O2 : Hid (SlI ((w.alloc (.cells #[.int .i64 f, .int .i64 n, .int .i64 o, .slice s.a s.n s.c] 29)).alloc (.cells #[.int .i64 f, .int .i64 n, .int .i64 o, .slice s'.a s'.n s'.c] 29)) B2 s'.v ts) := h2.out.below BB.out
  have a0 := P1.out.cell 0
  have a1 := P1.out.cell 1
  have a2 := P1.out.cell 2
  have a3 := P1.out.cell 3
  have b0 := P2.out.cell 0
  have b1 := P2.out.cell 1
  have b2 := P2.out.cell 2
  have b3 := P2.out.cell 3
  simp only [List.getElem?_cons_succ, List.getElem?_cons_zero] at a0 a1 a2 a3 b0 b1 b2 b3
  go_enter Try.func10, Try.ntmps10
  go_wp2_with fail
  generalize ((w.alloc (.cells #[.int .i64 f, .int .i64 n, .int .i64 o, .slice s.a s.n s.c] 29)).alloc (.cells #[.int .i64 f, .int .i64 n, .int .i64 o, .slice s'.a s'.n s'.c] 29)) = W at *
  have hc := eqItems_sl s.v s'.v ts B1 B2 W O1.out O2.out hl
  unfold Sv.v at hc
  refine hc.mono ?_
  clear hc
  rintro e w1 ⟨rfl, hb1⟩
  go_wp2
  go_ret
  exact ⟨rfl, BB.out.trans (hb1.mono BB.out.size)⟩

end Go.Proofs.Ytlflcjdpdbdbkaa
