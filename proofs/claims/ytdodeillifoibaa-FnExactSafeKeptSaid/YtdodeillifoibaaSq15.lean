/- Joined texts: CTk2 CTk3 CWc CHs CCtc CBb CHb CRh13. -/
import Derived.Test.YtdodeillifoibaaSq13
import Derived.Test.YtdodeillifoibaaSq14
import Derived.Test.YtdodeillifoibaaSq11
import Derived.Test.YtdodeillifoibaaSq8
import Derived.Test.YtdodeillifoibaaSq5
/- A member takes items in. -/
namespace Go.Proofs.Ytdodeillifoibaa
open Go.RowKit Pl
set_option linter.unusedVariables false
set_option linter.unusedSimpArgs false

/-- the member with these items put in. -/
def Mt.putX (m : Mt) (xs : List It) : Mt := ⟨m.id, m.rid, m.ms, putAll m.its xs, m.lv, m.tx, m.rd, m.se, m.li, m.he, m.la⟩
def Mv.setI (u : Mv) (s : Sv) : Mv := ⟨u.ms, s, u.lv, u.tx, u.ws⟩
/-- all but the box g and the row that the items lie in stays. -/
structure TakeK (w : World) (g : Nat) (v u : Value) (w' : World) : Prop where
  os : w'.os = w.os
  tape : w'.tape = w.tape
  output : w'.output = w.output
  size : w.heap.size ≤ w'.heap.size
  block : ∀ k, k < w.heap.size → k ≠ g → v.ownBlock ≠ some k → w'.heap[k]? = w.heap[k]?
  o : u.ownBlock = v.ownBlock ∨ ∃ nb, u.ownBlock = some nb ∧ w.heap.size ≤ nb

end Go.Proofs.Ytdodeillifoibaa


/- A member takes items in: what it leaves, whatever its other lists are. -/
namespace Go.Proofs.Ytdodeillifoibaa
open Go.RowKit Pl
set_option linter.unusedVariables false
set_option linter.unusedSimpArgs false
end Go.Proofs.Ytdodeillifoibaa


/- Slices of ints and texts, wherever in their block they begin; cut in front in a walk. -/
namespace Go.Proofs.Ytdodeillifoibaa
open Go.RowKit Pl
set_option linter.unusedVariables false

def SlJ (w : World) (B : Nat) (v : Value) (xs : List Int) : Prop := Sl w 3 1 B v xs.length (xs.map (Value.int .i64))
def SlX (w : World) (B : Nat) (v : Value) (xs : List ByteArray) : Prop := Sl w 9 1 B v xs.length (xs.map Value.string)
section
variable {w w' : World} {B : Nat} {v : Value}
theorem Pl.OwnS.x {xs : List ByteArray} (h : OwnS w B v xs) : SlX w B v xs := by
  have := Sl.ofOwn (w := w) (e := 9) (size := 1) (B := B) (v := v) (n := xs.length) (xs := xs.map Value.string) h
  exact this
theorem SlJ.ri {xs : List Int} (h : SlJ w B v xs) : RI w v xs := by
  obtain ⟨ao, cap, e⟩ := Sl.form h
  refine ⟨ao, cap, e, fun i hi => ?_⟩
  obtain ⟨g, off, cap', hv, hb, hlt, hc, _⟩ := Sl.read h (by omega)
  rw [e] at hv
  simp at hv
  exact ⟨g, off, hv.1, hlt, hc i _ (by simp [hi])⟩
theorem SlX.rt {xs : List ByteArray} (h : SlX w B v xs) : RT w v xs := by
  obtain ⟨ao, cap, e⟩ := Sl.form h
  refine ⟨ao, cap, e, fun i hi => ?_⟩
  obtain ⟨g, off, cap', hv, hb, hlt, hc, _⟩ := Sl.read h (by omega)
  rw [e] at hv
  simp at hv
  exact ⟨g, off, hv.1, hlt, hc i _ (by simp [hi])⟩
theorem SlJ.sv {xs : List Int} (h : SlJ w B v xs) : ∃ s : Sv, v = .slice s.a s.n s.c ∧ s.n = xs.length := by obtain ⟨a, c, h1⟩ := Sl.form h; exact ⟨⟨a, xs.length, c⟩, h1, rfl⟩
theorem SlX.sv {xs : List ByteArray} (h : SlX w B v xs) : ∃ s : Sv, v = .slice s.a s.n s.c ∧ s.n = xs.length := by obtain ⟨a, c, h1⟩ := Sl.form h; exact ⟨⟨a, xs.length, c⟩, h1, rfl⟩
theorem SlJ.below {xs : List Int} (h : SlJ w B v xs) (hb : Below w.heap.size w w') : SlJ w' B v xs := Sl.below h hb
theorem SlX.below {xs : List ByteArray} (h : SlX w B v xs) (hb : Below w.heap.size w w') : SlX w' B v xs := Sl.below h hb
end
section
variable {P : Program} {w : World} {ops : Array Oper} {rest : List Oper} {o : Oper} {a : Act} {Q : Exit → Act → World → Prop}
/-- a walk stops at a store. -/
theorem wpList_haltS (t : TypeId) (x y : Operand) (ho : o.op = .store t x y) (h : Stp (wpList P ops Q (o :: rest) a w)) : wpList P ops Q (o :: rest) a w := h.out
end
end Go.Proofs.Ytdodeillifoibaa


/- Slices of items read as they are told of in bundles; what stage 13's texts lean on, over the texts of members. -/
namespace Go.Proofs.Ytdodeillifoibaa
open Go.RowKit Pl
set_option linter.unusedVariables false

theorem wpList_haltA {P : Program} {w : World} {ops : Array Oper} {rest : List Oper} {o : Oper} {a : Act} {Q : Exit → Act → World → Prop} (x y : Operand) (ts : Array TypeId) (ho : o.op = .call { callee := .builtin .append, args := #[x, y], argTypes := ts }) (h : Stp (wpList P ops Q (o :: rest) a w)) : wpList P ops Q (o :: rest) a w := h.out
theorem bl_nxt {w0 w w' : World} (h : Below w0.heap.size w0 w) (hb : Below w.heap.size w w') : Below w0.heap.size w0 w' := h.trans (hb.mono h.size)
theorem SlI.zero (w : World) (B : Nat) : SlI w B (.slice none 0 0) [] := Sl.zero w 57 4 B
/-- a slice of items that is read. -/
def RSt (w : World) (s : Sv) (ts : List It) : Prop := s.n = ts.length ∧ ItemsAt w s.a ts
theorem RSt.stays {w w' : World} {s : Sv} {ts : List It} (h : RSt w s ts) (hb : Below w.heap.size w w') : RSt w' s ts := ⟨h.1, h.2.stays hb⟩
theorem SlI.rst {w : World} {B : Nat} {s : Sv} {ts : List It} (h : SlI w B s.v ts) : RSt w s ts := by
  obtain ⟨ao, cap, h1, h2⟩ := h.items
  unfold Sv.v at h1
  simp only [Value.slice.injEq] at h1
  exact ⟨h1.2.1, h1.1 ▸ h2⟩
theorem RSt.r {w : World} {s : Sv} {ts : List It} (h : RSt w s ts) : RIt w s.v ts := ⟨s.a, s.c, by unfold Sv.v; rw [h.1], h.2⟩
theorem RIt.rst {w : World} {s : Sv} {ts : List It} (h : RIt w s.v ts) : RSt w s ts := by
  obtain ⟨a, c, h1, h2⟩ := h
  simp only [Sv.v, Value.slice.injEq] at h1
  exact ⟨h1.2.1, h1.1 ▸ h2⟩
theorem bx_next (w : World) (o : Obj) (T : TypeId) (cs : List Value) : Bx ((w.alloc o).alloc (.cells cs.toArray T)) (w.heap.size + 1) T cs := by
  have h := Bx.new (w.alloc o) T cs
  rw [show (w.alloc o).heap.size = w.heap.size + 1 by simp] at h
  exact h
theorem Try.sizeBu : (Try.prog.info? 115).map (·.size) = some 4 := by kernel_rfl
theorem Try.sizeLBu : (Try.prog.info? 110).map (·.size) = some 4 := by kernel_rfl
theorem Try.sizeBus : (Try.prog.info? 75).map (·.size) = some 1 := by kernel_rfl
theorem Try.sizeEv : (Try.prog.info? 59).map (·.size) = some 8 := by kernel_rfl
theorem Try.sizeLEv : (Try.prog.info? 55).map (·.size) = some 8 := by kernel_rfl
theorem Try.sizeEvs : (Try.prog.info? 26).map (·.size) = some 1 := by kernel_rfl
theorem Try.sizeDa : (Try.prog.info? 77).map (·.size) = some 24 := by kernel_rfl
theorem Try.sizeLDa : (Try.prog.info? 107).map (·.size) = some 24 := by kernel_rfl
theorem Try.sizeLR : (Try.prog.info? 51).map (·.size) = some 2 := by kernel_rfl
theorem Try.sizeLI : (Try.prog.info? 53).map (·.size) = some 4 := by kernel_rfl
end Go.Proofs.Ytdodeillifoibaa


/- A member catches an item: the walks over both Catch. Written by gen_ct.py. -/
namespace Go.Proofs.Ytdodeillifoibaa
open Go.RowKit Pl
set_option linter.unusedVariables false
set_option linter.unusedSimpArgs false

theorem MtO.past {w w' : World} {B g T : Nat} {m : Mt} {v : Mv} {cs : List Value} (h : MtO w B m v) (hB : Bx w g T cs) (ht : TurnAt g w w') (h3 : T ≠ 3) (h9 : T ≠ 9) (hI : T ≠ 57) : MtO w' B m v :=
  ⟨h.ms.past hB ht h3, h.its.past hB ht hI, h.lv.past hB ht h3, h.tx.past hB ht h9, h.ws.past hB ht h3, h.a1, h.a2, h.a3⟩
/-- the member behind it. -/
def Mt.setIt (m : Mt) (ts : List It) : Mt := ⟨m.id, m.rid, m.ms, ts, m.lv, m.tx, m.rd, m.se, m.li, m.he, m.la⟩
def Mt.cat (m : Mt) (y : It) : Mt := m.setIt (if m.ok = true then putP m.its y else m.its)
end Go.Proofs.Ytdodeillifoibaa


/- Bundles: when one is right; both BundleOk. Written by gen_bb.py. -/
namespace Go.Proofs.Ytdodeillifoibaa
open Go.RowKit Pl
set_option linter.unusedVariables false

/-- whether a bundle is right. -/
def bunB (f n o : Int) (ts : List It) : Bool := decide (1 ≤ f ∧ f ≤ 5) && (decide (1 ≤ n ∧ n ≤ 9) && (decide (0 ≤ o ∧ o ≤ n - 1) && (iGo 0 ts && (decide (0 < o) || decide (ts.length = 0)))))
end Go.Proofs.Ytdodeillifoibaa


/- Bundles that a law sizes, copies, compares, writes over and looks at again. Written by gen_hb.py. -/
namespace Go.Proofs.Ytdodeillifoibaa
open Go.RowKit Pl
set_option linter.unusedVariables false

set_option maxRecDepth 100000 in
set_option maxHeartbeats 1000000 in
theorem szBundle_any (f n o : Int) (s : Sv) (ts : List It) (L : Nat) (w : World) (hx : Hid (RSt w s ts)) (hlen : ts.length ≤ 9223372036854775807) (hsz : Hid (∀ x ∈ ts, x.2.2.2.size ≤ 9223372036854775807)) (hL : L ≤ 1048576) :
    Calls Try.prog 84 #[.agg #[.int .i64 f, .int .i64 n, .int .i64 o, .slice s.a s.n s.c], .int .i64 L] w fun e w' => (e = .returned (.int .i64 (-1)) ∨ ∃ r : Nat, e = .returned (.int .i64 r) ∧ r ≤ 1048576 ∧ Hid (r + ts.length ≤ L ∧ ∀ x ∈ ts, x.2.2.2.size ≤ 1048576)) ∧ Below w.heap.size w w' := by
  have B1 : Hid (Below w.heap.size w (w.alloc (.cells #[.int .i64 f, .int .i64 n, .int .i64 o, .slice s.a s.n s.c] 110))) := (Below.refl _ _).alloc (Nat.le_refl _) _
  have X1 : Hid (ItemsAt (w.alloc (.cells #[.int .i64 f, .int .i64 n, .int .i64 o, .slice s.a s.n s.c] 110)) s.a ts) := hx.out.2.stays B1.out
  have hn : Hid (s.n = ts.length) := hx.out.1
  go_enter Try.func84, Try.ntmps84
  go_wp2_with fail
  generalize (w.alloc (.cells #[.int .i64 f, .int .i64 n, .int .i64 o, .slice s.a s.n s.c] 110)) = W at *
  have hc := szItems_left L hL s.a s.c ts W X1 hlen hsz
  rw [← hn.out] at hc
  refine hc.mono ?_
  clear hc
  rintro e w1 ⟨rfl | ⟨r, rfl, hr, hr2⟩, hb1⟩
  · have B2 : Hid (Below w.heap.size w w1) := bl_nxt B1.out hb1
    go_wp2
    go_ret
    exact ⟨.inl rfl, B2.out⟩
  · have B2 : Hid (Below w.heap.size w w1) := bl_nxt B1.out hb1
    have HR : Hid (r + ts.length ≤ L ∧ ∀ x ∈ ts, x.2.2.2.size ≤ 1048576) := ⟨by rw [← hn.out]; exact hr, hr2⟩
    have hr3 : r ≤ 1048576 := by have := HR.out.1; omega
    have hd : decide ((r : Int) < 0) = false := by simp
    clear hr hr2 hb1
    go_wp2
    go_ret
    exact ⟨.inr ⟨r, rfl, hr3, HR⟩, B2.out⟩

set_option maxRecDepth 100000 in
set_option maxHeartbeats 4000000 in
theorem toBundle_any (f n o : Int) (s : Sv) (ts : List It) (w : World) (hx : Hid (RSt w s ts)) (hl : ts.length ≤ 1048576) :
    Calls Try.prog 88 #[.agg #[.int .i64 f, .int .i64 n, .int .i64 o, .slice s.a s.n s.c]] w fun e w' => ∃ s' : Sv, e = .returned (.agg #[.int .i64 f, .int .i64 n, .int .i64 o, .slice s'.a s'.n s'.c]) ∧ SlI w' w.heap.size s'.v ts ∧ Below w.heap.size w w' := by
  have B0 : Hid (Below w.heap.size w (((w.alloc (.cells #[.int .i64 f, .int .i64 n, .int .i64 o, .slice s.a s.n s.c] 110)).alloc (.cells #[.int .i64 0, .int .i64 0, .int .i64 0, .slice none 0 0] 115)).alloc (.cells #[.int .i64 0, .int .i64 0, .int .i64 0, .slice none 0 0] 115))) := (((Below.refl _ _).alloc (Nat.le_refl _) _).alloc (by simp) _).alloc (by simp; omega) _
  have A0 : Hid (Bx (((w.alloc (.cells #[.int .i64 f, .int .i64 n, .int .i64 o, .slice s.a s.n s.c] 110)).alloc (.cells #[.int .i64 0, .int .i64 0, .int .i64 0, .slice none 0 0] 115)).alloc (.cells #[.int .i64 0, .int .i64 0, .int .i64 0, .slice none 0 0] 115)) w.heap.size 110 [.int .i64 f, .int .i64 n, .int .i64 o, .slice s.a s.n s.c]) := (Bx.new w 110 [.int .i64 f, .int .i64 n, .int .i64 o, .slice s.a s.n s.c]).stays (((Below.refl (w.heap.size + 1) _).alloc (by simp) _).alloc (by simp) _) (by omega)
  have R0 : Hid (Bx (((w.alloc (.cells #[.int .i64 f, .int .i64 n, .int .i64 o, .slice s.a s.n s.c] 110)).alloc (.cells #[.int .i64 0, .int .i64 0, .int .i64 0, .slice none 0 0] 115)).alloc (.cells #[.int .i64 0, .int .i64 0, .int .i64 0, .slice none 0 0] 115)) (w.heap.size + 1) 115 [.int .i64 0, .int .i64 0, .int .i64 0, .slice none 0 0]) := (bx_next w _ 115 [.int .i64 0, .int .i64 0, .int .i64 0, .slice none 0 0]).stays ((Below.refl (w.heap.size + 2) _).alloc (by simp) _) (by omega)
  have V0 : Hid (Bx (((w.alloc (.cells #[.int .i64 f, .int .i64 n, .int .i64 o, .slice s.a s.n s.c] 110)).alloc (.cells #[.int .i64 0, .int .i64 0, .int .i64 0, .slice none 0 0] 115)).alloc (.cells #[.int .i64 0, .int .i64 0, .int .i64 0, .slice none 0 0] 115)) (w.heap.size + 1 + 1) 115 [.int .i64 0, .int .i64 0, .int .i64 0, .slice none 0 0]) := by
    have h := bx_next (w.alloc (.cells #[.int .i64 f, .int .i64 n, .int .i64 o, .slice s.a s.n s.c] 110)) (.cells #[.int .i64 0, .int .i64 0, .int .i64 0, .slice none 0 0] 115) 115 [.int .i64 0, .int .i64 0, .int .i64 0, .slice none 0 0]
    rw [show (w.alloc (.cells #[.int .i64 f, .int .i64 n, .int .i64 o, .slice s.a s.n s.c] 110)).heap.size = w.heap.size + 1 by simp] at h
    exact h
  have hn : Hid (s.n = ts.length) := hx.out.1
  go_enter Try.func88, Try.ntmps88
  go_wp2_with (first | (with_reducible refine wpList_haltS 3 _ _ rfl ?_))
  refine Stp.go ?_
  generalize (((w.alloc (.cells #[.int .i64 f, .int .i64 n, .int .i64 o, .slice s.a s.n s.c] 110)).alloc (.cells #[.int .i64 0, .int .i64 0, .int .i64 0, .slice none 0 0] 115)).alloc (.cells #[.int .i64 0, .int .i64 0, .int .i64 0, .slice none 0 0] 115)) = W at *
  generalize hg1 : w.heap.size + 1 = g1 at *
  have HG1 : Hid (w.heap.size + 1 = g1) := hg1
  clear hg1
  generalize hg2 : g1 + 1 = g2 at *
  have HG2 : Hid (g1 + 1 = g2) := hg2
  clear hg2
  have z2 : w.heap.size < g1 ∧ g1 < g2 := by have := HG1.out; have := HG2.out; omega
  refine wpList_st1 rfl 3 _ _ rfl g2 0 rfl 115 _ V0.out (.int .i64 f) rfl (by simp) rfl Try.size3 [.int .i64 f, .int .i64 0, .int .i64 0, .slice none 0 0] rfl ?_
  intro W1 V1 T1
  have V1 : Hid (Bx W1 g2 115 [.int .i64 f, .int .i64 0, .int .i64 0, .slice none 0 0]) := V1
  have A1 : Hid (Bx W1 w.heap.size 110 [.int .i64 f, .int .i64 n, .int .i64 o, .slice s.a s.n s.c]) := A0.out.turn T1 (by omega)
  have R1 : Hid (Bx W1 g1 115 [.int .i64 0, .int .i64 0, .int .i64 0, .slice none 0 0]) := R0.out.turn T1 (by omega)
  have B1 : Hid (Below w.heap.size w W1) := B0.out.trans (T1.below (by omega))
  clear A0 R0 V0 B0 T1
  have a1 := A1.out.cell 1
  simp only [List.getElem?_cons_succ, List.getElem?_cons_zero] at a1
  go_wp2_with (first | (with_reducible refine wpList_haltS 3 _ _ rfl ?_))
  refine Stp.go ?_
  refine wpList_st1 rfl 3 _ _ rfl g2 1 rfl 115 _ V1.out (.int .i64 n) rfl (by simp) rfl Try.size3 [.int .i64 f, .int .i64 n, .int .i64 0, .slice none 0 0] rfl ?_
  intro W2 V2 T2
  have V2 : Hid (Bx W2 g2 115 [.int .i64 f, .int .i64 n, .int .i64 0, .slice none 0 0]) := V2
  have A2 : Hid (Bx W2 w.heap.size 110 [.int .i64 f, .int .i64 n, .int .i64 o, .slice s.a s.n s.c]) := A1.out.turn T2 (by omega)
  have R2 : Hid (Bx W2 g1 115 [.int .i64 0, .int .i64 0, .int .i64 0, .slice none 0 0]) := R1.out.turn T2 (by omega)
  have B2 : Hid (Below w.heap.size w W2) := B1.out.trans (T2.below (by omega))
  clear A1 R1 V1 B1 T2 a1
  have a2 := A2.out.cell 2
  simp only [List.getElem?_cons_succ, List.getElem?_cons_zero] at a2
  go_wp2_with (first | (with_reducible refine wpList_haltS 3 _ _ rfl ?_))
  refine Stp.go ?_
  refine wpList_st1 rfl 3 _ _ rfl g2 2 rfl 115 _ V2.out (.int .i64 o) rfl (by simp) rfl Try.size3 [.int .i64 f, .int .i64 n, .int .i64 o, .slice none 0 0] rfl ?_
  intro W3 V3 T3
  have V3 : Hid (Bx W3 g2 115 [.int .i64 f, .int .i64 n, .int .i64 o, .slice none 0 0]) := V3
  have A3 : Hid (Bx W3 w.heap.size 110 [.int .i64 f, .int .i64 n, .int .i64 o, .slice s.a s.n s.c]) := A2.out.turn T3 (by omega)
  have R3 : Hid (Bx W3 g1 115 [.int .i64 0, .int .i64 0, .int .i64 0, .slice none 0 0]) := R2.out.turn T3 (by omega)
  have B3 : Hid (Below w.heap.size w W3) := B2.out.trans (T3.below (by omega))
  clear A2 R2 V2 B2 T3 a2
  have a3 := A3.out.cell 3
  simp only [List.getElem?_cons_succ, List.getElem?_cons_zero] at a3
  have X3 : Hid (ItemsAt W3 s.a ts) := hx.out.2.stays B3.out
  go_wp2_with (first | (with_reducible refine wpList_haltS 24 _ _ rfl ?_))
  have hc := toItems_sl W3 s.a s.c ts X3 hl
  rw [← hn.out] at hc
  refine hc.mono ?_
  clear hc
  rintro e W4 ⟨rfl, hv4, -, hb4⟩
  obtain ⟨s4, hs4⟩ : ∃ s4 : Sv, s4 = ⟨some ⟨W3.heap.size, 0, none⟩, s.n, s.n⟩ := ⟨_, rfl⟩
  have hq : Value.slice (some ⟨W3.heap.size, 0, none⟩) s.n s.n = s4.v := by rw [hs4]; rfl
  rw [hq] at hv4 ⊢
  clear hq hs4
  unfold Sv.v
  have V4 : Hid (Bx W4 g2 115 [.int .i64 f, .int .i64 n, .int .i64 o, .slice none 0 0]) := V3.out.later hb4
  have R4 : Hid (Bx W4 g1 115 [.int .i64 0, .int .i64 0, .int .i64 0, .slice none 0 0]) := R3.out.later hb4
  have B4 : Hid (Below w.heap.size w W4) := B3.out.trans (hb4.mono B3.out.size)
  have O4 : Hid (SlI W4 w.heap.size s4.v ts) := hv4.down B3.out.size
  clear A3 R3 V3 B3 X3 a3 hv4 hb4
  go_wp2_with (first | (with_reducible refine wpList_haltS 24 _ _ rfl ?_))
  refine Stp.go ?_
  refine wpList_st1 rfl 24 _ _ rfl g2 3 rfl 115 _ V4.out (.slice s4.a s4.n s4.c) rfl (by simp) rfl Try.sizeIs [.int .i64 f, .int .i64 n, .int .i64 o, .slice s4.a s4.n s4.c] rfl ?_
  intro W5 V5 T5
  have R5 : Hid (Bx W5 g1 115 [.int .i64 0, .int .i64 0, .int .i64 0, .slice none 0 0]) := R4.out.turn T5 (by omega)
  have B5 : Hid (Below w.heap.size w W5) := B4.out.trans (T5.below (by omega))
  have O5 : Hid (SlI W5 w.heap.size s4.v ts) := O4.out.past V4.out T5 (by decide)
  have V5 : Hid (Bx W5 g2 115 [.int .i64 f, .int .i64 n, .int .i64 o, .slice s4.a s4.n s4.c]) := V5
  clear V4 R4 B4 O4 T5
  have c0 := V5.out.cell 0
  have c1 := V5.out.cell 1
  have c2 := V5.out.cell 2
  have c3 := V5.out.cell 3
  simp only [List.getElem?_cons_succ, List.getElem?_cons_zero] at c0 c1 c2 c3
  go_wp2_with (first | (with_reducible refine wpList_haltS 115 _ _ rfl ?_))
  refine Stp.go ?_
  refine wpList_stB rfl 115 _ _ rfl g1 0 rfl 115 _ R5.out [.int .i64 f, .int .i64 n, .int .i64 o, .slice s4.a s4.n s4.c] rfl (by simp) Try.sizeBu rfl [.int .i64 f, .int .i64 n, .int .i64 o, .slice s4.a s4.n s4.c] rfl ?_
  intro W6 R6 T6
  have O6 := O5.out.past R5.out T6 (by decide)
  have B6 := B5.out.trans (T6.below (by omega))
  go_wp2_with fail
  refine bodyPost_ret (results_b Try.results88 g1 115 [.int .i64 f, .int .i64 n, .int .i64 o, .slice s4.a s4.n s4.c] _ rfl R6 Try.underlying115 rfl Try.sizeBu) rfl ?_
  exact ⟨s4, rfl, O6, B6⟩

set_option maxRecDepth 100000 in
set_option maxHeartbeats 2000000 in
theorem eqBundle_same (f n o : Int) (s s' : Sv) (ts : List It) (B1 B2 : Nat) (w : World) (h1 : Hid (SlI w B1 s.v ts)) (h2 : Hid (SlI w B2 s'.v ts)) (hl : ts.length ≤ 1048576) :
    Calls Try.prog 92 #[.agg #[.int .i64 f, .int .i64 n, .int .i64 o, .slice s.a s.n s.c], .agg #[.int .i64 f, .int .i64 n, .int .i64 o, .slice s'.a s'.n s'.c]] w fun e w' => e = .returned (.bool true) ∧ Below w.heap.size w w' := by
  have d0 : (f != f) = false := by simp
  have d1 : (n != n) = false := by simp
  have d2 : (o != o) = false := by simp
  have BB : Hid (Below w.heap.size w ((w.alloc (.cells #[.int .i64 f, .int .i64 n, .int .i64 o, .slice s.a s.n s.c] 115)).alloc (.cells #[.int .i64 f, .int .i64 n, .int .i64 o, .slice s'.a s'.n s'.c] 115))) := ((Below.refl _ _).alloc (Nat.le_refl _) _).alloc (by simp) _
  have P1 : Hid (Bx ((w.alloc (.cells #[.int .i64 f, .int .i64 n, .int .i64 o, .slice s.a s.n s.c] 115)).alloc (.cells #[.int .i64 f, .int .i64 n, .int .i64 o, .slice s'.a s'.n s'.c] 115)) w.heap.size 115 [.int .i64 f, .int .i64 n, .int .i64 o, .slice s.a s.n s.c]) := (Bx.new w 115 [.int .i64 f, .int .i64 n, .int .i64 o, .slice s.a s.n s.c]).stays ((Below.refl (w.heap.size + 1) _).alloc (by simp) _) (by omega)
  have P2 : Hid (Bx ((w.alloc (.cells #[.int .i64 f, .int .i64 n, .int .i64 o, .slice s.a s.n s.c] 115)).alloc (.cells #[.int .i64 f, .int .i64 n, .int .i64 o, .slice s'.a s'.n s'.c] 115)) (w.heap.size + 1) 115 [.int .i64 f, .int .i64 n, .int .i64 o, .slice s'.a s'.n s'.c]) := bx_next w (.cells #[.int .i64 f, .int .i64 n, .int .i64 o, .slice s.a s.n s.c] 115) 115 [.int .i64 f, .int .i64 n, .int .i64 o, .slice s'.a s'.n s'.c]
  have O1 : Hid (SlI ((w.alloc (.cells #[.int .i64 f, .int .i64 n, .int .i64 o, .slice s.a s.n s.c] 115)).alloc (.cells #[.int .i64 f, .int .i64 n, .int .i64 o, .slice s'.a s'.n s'.c] 115)) B1 s.v ts) := h1.out.below BB.out
  have O2 : Hid (SlI ((w.alloc (.cells #[.int .i64 f, .int .i64 n, .int .i64 o, .slice s.a s.n s.c] 115)).alloc (.cells #[.int .i64 f, .int .i64 n, .int .i64 o, .slice s'.a s'.n s'.c] 115)) B2 s'.v ts) := h2.out.below BB.out
  have a0 := P1.out.cell 0
  have a1 := P1.out.cell 1
  have a2 := P1.out.cell 2
  have a3 := P1.out.cell 3
  have b0 := P2.out.cell 0
  have b1 := P2.out.cell 1
  have b2 := P2.out.cell 2
  have b3 := P2.out.cell 3
  simp only [List.getElem?_cons_succ, List.getElem?_cons_zero] at a0 a1 a2 a3 b0 b1 b2 b3
  go_enter Try.func92, Try.ntmps92
  go_wp2_with fail
  generalize ((w.alloc (.cells #[.int .i64 f, .int .i64 n, .int .i64 o, .slice s.a s.n s.c] 115)).alloc (.cells #[.int .i64 f, .int .i64 n, .int .i64 o, .slice s'.a s'.n s'.c] 115)) = W at *
  have hc := eqItems_sl s.v s'.v ts B1 B2 W O1.out O2.out hl
  unfold Sv.v at hc
  refine hc.mono ?_
  clear hc
  rintro e w1 ⟨rfl, hb1⟩
  go_wp2
  go_ret
  exact ⟨rfl, BB.out.trans (hb1.mono BB.out.size)⟩

end Go.Proofs.Ytdodeillifoibaa


/- Both BundleOk, told of a bundle whose list is read. -/
namespace Go.Proofs.Ytdodeillifoibaa
open Go.RowKit Pl
set_option linter.unusedVariables false
end Go.Proofs.Ytdodeillifoibaa


