/- Joined texts: CTk2 CTk3 CWc CHs CCtc CGst CBb CHb CRh13 CNls CGdn. -/
import Derived.Test.YtoahljkifikbaaaQw13
import Derived.Test.YtoahljkifikbaaaQw14
import Derived.Test.YtoahljkifikbaaaQw11
import Derived.Test.YtoahljkifikbaaaQw8
import Derived.Test.YtoahljkifikbaaaQw5
/- A member takes items in. -/
namespace Go.Proofs.Ytoahljkifikbaaa
open Go.RowKit Pl
set_option linter.unusedVariables false
set_option linter.unusedSimpArgs false

/-- the member with these items put in. -/
def Mt.putX (m : Mt) (xs : List It) : Mt := ⟨m.id, m.rid, m.ms, putAll m.its xs, m.lv, m.tx, m.rd, m.se, m.li, m.he, m.la⟩
def Mv.setI (u : Mv) (s : Sv) : Mv := ⟨u.ms, s, u.lv, u.tx, u.ws⟩
/-- all but the box g and the row that the items lie in stays. -/
structure TakeK (w : World) (g : Nat) (v u : Value) (w' : World) : Prop where
  os : w'.os = w.os
  tape : w'.tape = w.tape
  output : w'.output = w.output
  size : w.heap.size ≤ w'.heap.size
  block : ∀ k, k < w.heap.size → k ≠ g → v.ownBlock ≠ some k → w'.heap[k]? = w.heap[k]?
  o : u.ownBlock = v.ownBlock ∨ ∃ nb, u.ownBlock = some nb ∧ w.heap.size ≤ nb

end Go.Proofs.Ytoahljkifikbaaa


/- A member takes items in: what it leaves, whatever its other lists are. -/
namespace Go.Proofs.Ytoahljkifikbaaa
open Go.RowKit Pl
set_option linter.unusedVariables false
set_option linter.unusedSimpArgs false
end Go.Proofs.Ytoahljkifikbaaa


/- Slices of ints and texts, wherever in their block they begin; cut in front in a walk. -/
namespace Go.Proofs.Ytoahljkifikbaaa
open Go.RowKit Pl
set_option linter.unusedVariables false

def SlJ (w : World) (B : Nat) (v : Value) (xs : List Int) : Prop := Sl w 3 1 B v xs.length (xs.map (Value.int .i64))
def SlX (w : World) (B : Nat) (v : Value) (xs : List ByteArray) : Prop := Sl w 9 1 B v xs.length (xs.map Value.string)
section
variable {w w' : World} {B : Nat} {v : Value}
theorem Pl.OwnS.x {xs : List ByteArray} (h : OwnS w B v xs) : SlX w B v xs := by
  have := Sl.ofOwn (w := w) (e := 9) (size := 1) (B := B) (v := v) (n := xs.length) (xs := xs.map Value.string) h
  exact this
theorem SlJ.ri {xs : List Int} (h : SlJ w B v xs) : RI w v xs := by
  obtain ⟨ao, cap, e⟩ := Sl.form h
  refine ⟨ao, cap, e, fun i hi => ?_⟩
  obtain ⟨g, off, cap', hv, hb, hlt, hc, _⟩ := Sl.read h (by omega)
  rw [e] at hv
  simp at hv
  exact ⟨g, off, hv.1, hlt, hc i _ (by simp [hi])⟩
theorem SlX.rt {xs : List ByteArray} (h : SlX w B v xs) : RT w v xs := by
  obtain ⟨ao, cap, e⟩ := Sl.form h
  refine ⟨ao, cap, e, fun i hi => ?_⟩
  obtain ⟨g, off, cap', hv, hb, hlt, hc, _⟩ := Sl.read h (by omega)
  rw [e] at hv
  simp at hv
  exact ⟨g, off, hv.1, hlt, hc i _ (by simp [hi])⟩
theorem Sl.blk {e size n : Nat} {xs : List Value} (h : Sl w e size B v n xs) {k : Nat} (hk : v.ownBlock = some k) : ∃ cs, w.heap[k]? = some (.cells cs e (0, 0)) := by
  rcases h.2 with ⟨rfl, _⟩ | ⟨g, off, cap, cur, rfl, _, hg, _⟩
  · cases hk
  · cases hk; exact ⟨_, hg⟩
theorem SlJ.sv {xs : List Int} (h : SlJ w B v xs) : ∃ s : Sv, v = .slice s.a s.n s.c ∧ s.n = xs.length := by obtain ⟨a, c, h1⟩ := Sl.form h; exact ⟨⟨a, xs.length, c⟩, h1, rfl⟩
theorem SlX.sv {xs : List ByteArray} (h : SlX w B v xs) : ∃ s : Sv, v = .slice s.a s.n s.c ∧ s.n = xs.length := by obtain ⟨a, c, h1⟩ := Sl.form h; exact ⟨⟨a, xs.length, c⟩, h1, rfl⟩
theorem SlJ.below {xs : List Int} (h : SlJ w B v xs) (hb : Below w.heap.size w w') : SlJ w' B v xs := Sl.below h hb
theorem SlX.below {xs : List ByteArray} (h : SlX w B v xs) (hb : Below w.heap.size w w') : SlX w' B v xs := Sl.below h hb
end
section
variable {P : Program} {w : World} {ops : Array Oper} {rest : List Oper} {o : Oper} {a : Act} {Q : Exit → Act → World → Prop}
/-- a walk stops at a store. -/
theorem wpList_haltS (t : TypeId) (x y : Operand) (ho : o.op = .store t x y) (h : Stp (wpList P ops Q (o :: rest) a w)) : wpList P ops Q (o :: rest) a w := h.out
end
end Go.Proofs.Ytoahljkifikbaaa


/- Slices of items read as they are told of in bundles; what stage 13's texts lean on, over the texts of members. -/
namespace Go.Proofs.Ytoahljkifikbaaa
open Go.RowKit Pl
set_option linter.unusedVariables false

theorem wpList_haltA {P : Program} {w : World} {ops : Array Oper} {rest : List Oper} {o : Oper} {a : Act} {Q : Exit → Act → World → Prop} (x y : Operand) (ts : Array TypeId) (ho : o.op = .call { callee := .builtin .append, args := #[x, y], argTypes := ts }) (h : Stp (wpList P ops Q (o :: rest) a w)) : wpList P ops Q (o :: rest) a w := h.out
theorem bl_nxt {w0 w w' : World} (h : Below w0.heap.size w0 w) (hb : Below w.heap.size w w') : Below w0.heap.size w0 w' := h.trans (hb.mono h.size)
theorem SlI.zero (w : World) (B : Nat) : SlI w B (.slice none 0 0) [] := Sl.zero w 83 4 B
/-- a slice of items that is read. -/
def RSt (w : World) (s : Sv) (ts : List It) : Prop := s.n = ts.length ∧ ItemsAt w s.a ts
theorem RSt.stays {w w' : World} {s : Sv} {ts : List It} (h : RSt w s ts) (hb : Below w.heap.size w w') : RSt w' s ts := ⟨h.1, h.2.stays hb⟩
theorem SlI.rst {w : World} {B : Nat} {s : Sv} {ts : List It} (h : SlI w B s.v ts) : RSt w s ts := by
  obtain ⟨ao, cap, h1, h2⟩ := h.items
  unfold Sv.v at h1
  simp only [Value.slice.injEq] at h1
  exact ⟨h1.2.1, h1.1 ▸ h2⟩
theorem RSt.r {w : World} {s : Sv} {ts : List It} (h : RSt w s ts) : RIt w s.v ts := ⟨s.a, s.c, by unfold Sv.v; rw [h.1], h.2⟩
theorem RIt.rst {w : World} {s : Sv} {ts : List It} (h : RIt w s.v ts) : RSt w s ts := by
  obtain ⟨a, c, h1, h2⟩ := h
  simp only [Sv.v, Value.slice.injEq] at h1
  exact ⟨h1.2.1, h1.1 ▸ h2⟩
theorem bx_next (w : World) (o : Obj) (T : TypeId) (cs : List Value) : Bx ((w.alloc o).alloc (.cells cs.toArray T)) (w.heap.size + 1) T cs := by
  have h := Bx.new (w.alloc o) T cs
  rw [show (w.alloc o).heap.size = w.heap.size + 1 by simp] at h
  exact h
theorem Try.sizeBu : (Try.prog.info? 85).map (·.size) = some 4 := by kernel_rfl
theorem Try.sizeEv : (Try.prog.info? 90).map (·.size) = some 8 := by kernel_rfl
theorem Try.sizeDa : (Try.prog.info? 65).map (·.size) = some 24 := by kernel_rfl
end Go.Proofs.Ytoahljkifikbaaa


/- A member catches an item: the walks over both Catch. Written by gen_ct.py. -/
namespace Go.Proofs.Ytoahljkifikbaaa
open Go.RowKit Pl
set_option linter.unusedVariables false
set_option linter.unusedSimpArgs false

/-- the member behind it. -/
def Mt.setIt (m : Mt) (ts : List It) : Mt := ⟨m.id, m.rid, m.ms, ts, m.lv, m.tx, m.rd, m.se, m.li, m.he, m.la⟩
def Mt.cat (m : Mt) (y : It) : Mt := m.setIt (if m.ok = true then putP m.its y else m.its)
end Go.Proofs.Ytoahljkifikbaaa


/- Marks, one step at a time: a store, a call. Written by gen_gs.py. -/
namespace Go.Proofs.Ytoahljkifikbaaa
open Go.RowKit Pl
set_option linter.unusedVariables false
set_option linter.unusedSimpArgs false

theorem Try.sizeK3 : (Try.prog.info? 3).map (·.size) = some 1 := by kernel_rfl
theorem Try.sizeK4 : (Try.prog.info? 4).map (·.size) = some 1 := by kernel_rfl
theorem vkB {z : Int} {k : Nat} (h : z = (k : Int)) : Value.bool (z % 3 == 0) = .bool (decide (k % 3 = 0)) := by
  subst h
  congr 1
  rw [Bool.eq_iff_iff]
  simp
  omega
theorem vk_one (d k : Nat) : (vk d k).oneCell' = true := by
  unfold vk
  split
  · rfl
  · split <;> rfl
section
variable {P : Program} {ops : Array Oper} {rest : List Oper} {o : Oper} {a : Act} {w w0 ws : World} {Q : Exit → Act → World → Prop} {TL : List Spot} {K n g off d : Nat}
/-- the next place is marked by a store. -/
theorem wpList_stK (hgd : o.guard = none) (ty : TypeId) (x y : Operand) (ho : o.op = .store ty x y) (hx : a.eval x = .pointer (some ⟨g, off, none⟩)) (v : Value) (hy : a.eval y = v) (hi : (P.info? ty).map (·.size) = some 1)
    (hT : TLok w0 TL) (hI : MkI w0 ws TL K n w) (hs : TL[n]? = some (g, off, d)) (hv : v = vk d (K + n)) (h : ∀ w', MkI w0 ws TL K (n + 1) w' → wpList P ops Q rest (a.put o.dst undef) w') : wpList P ops Q (o :: rest) a w := by
  obtain ⟨⟨u, hc⟩, hf⟩ := hI.next hT hs
  have h1 : v.oneCell' = true := by rw [hv]; exact vk_one _ _
  have hr : (Instr.storeAt ty (.pointer (some ⟨g, off, none⟩)) v).run P w = .ok () (w.setCell ⟨g, off, none⟩ v) := by
    have hcs : v.cells = #[v] := by cases v <;> first | rfl | (simp [Value.oneCell'] at h1)
    cases hq : P.info? ty with
    | none => simp [hq] at hi
    | some i =>
      have hs : i.size = 1 := by simpa [hq] using hi
      have ha : (⟨g, off, none⟩ : Addr).add 0 = ⟨g, off, none⟩ := by unfold Addr.add; split <;> simp_all
      have hst := run_store P w ⟨g, off, none⟩ v .plain h1
      rw [hc, hf] at hst
      simp [Instr.storeAt, Instr.sureAddr, storeVar, sizeOf, typeInfo, hq, hs, hcs, storeCells, ha]
      simpa using hst
  exact wpList_plain hgd fun K hK => by
    unfold Oper.wp execOp
    simp only [ho, hx, hy, Sem.run_bind, hr, Result.andThen_ok, Sem.run_pure]
    exact hK _ _ (h _ (hI.stepV hT hs hv))
end
theorem MkI.cell {w0 ws w : World} {TL : List Spot} {K n g o : Nat} {v : Value} (h : MkI w0 ws TL K n w) (hg : g < w0.heap.size) (hn : ∀ s ∈ TL, ¬ (s.1 = g ∧ s.2.1 = o)) (hc : w0.cell? ⟨g, o, none⟩ = some v) : w.cell? ⟨g, o, none⟩ = some v := (h.cells g o hg hn).trans hc
theorem Held.int {w : World} {TL : List Spot} {K i g o : Nat} {z : Int} (h : Held w TL K) (hs : TL[i]? = some (g, o, 0)) (hz : z = ((K + i : Nat) : Int)) : w.cell? ⟨g, o, none⟩ = some (.int .i64 z) := (h i _ hs).2.trans (congrArg some (vkI hz).symm)
theorem Held.bool {w : World} {TL : List Spot} {K i g o k : Nat} (h : Held w TL K) (hs : TL[i]? = some (g, o, 1)) (hz : k = K + i) : w.cell? ⟨g, o, none⟩ = some (.bool (decide (k % 3 = 0))) := by subst hz; exact (h i _ hs).2
theorem markI_z (w0 : World) (TL : List Spot) (K n : Nat) (ao : Option Addr) (len cap : Nat) (z : Int) (w : World) (hT : Hid (TLok w0 TL)) (hI : Hid (MkI w0 w TL K n w)) (hs : Seg TL n ao len [0]) (hz : z = ((K + n : Nat) : Int)) (hl : K + n + len ≤ 39999990) :
    Calls Try.prog 36 #[.slice ao len cap, .int .i64 z] w fun e w' => ∃ M : Nat, e = .returned (.int .i64 (M : Int)) ∧ M = K + (n + len) ∧ MkI w0 w TL K (n + len) w' := by
  subst hz
  refine (markI_sp w0 TL K n ao len cap w hT hI hs hl).mono ?_
  rintro e w' ⟨rfl, h⟩
  exact ⟨K + n + len, rfl, by omega, h⟩
theorem heldI_z (TL : List Spot) (K n : Nat) (ao : Option Addr) (len cap : Nat) (z : Int) (w : World) (hH : Hid (Held w TL K)) (hs : Seg TL n ao len [0]) (hz : z = ((K + n : Nat) : Int)) (hl : K + n + len ≤ 39999990) :
    Calls Try.prog 57 #[.slice ao len cap, .int .i64 z] w fun e w' => ∃ M : Nat, e = .returned (.int .i64 (M : Int)) ∧ M = K + (n + len) ∧ Below w.heap.size w w' := by
  subst hz
  refine (heldI_sp TL K n ao len cap w hH hs hl).mono ?_
  rintro e w' ⟨rfl, h⟩
  exact ⟨K + n + len, rfl, by omega, by subst h; exact Below.refl _ _⟩
end Go.Proofs.Ytoahljkifikbaaa


/- Bundles: when one is right; both BundleOk. Written by gen_bb.py. -/
namespace Go.Proofs.Ytoahljkifikbaaa
open Go.RowKit Pl
set_option linter.unusedVariables false

/-- whether a bundle is right. -/
def bunB (f n o : Int) (ts : List It) : Bool := decide (1 ≤ f ∧ f ≤ 5) && (decide (1 ≤ n ∧ n ≤ 9) && (decide (0 ≤ o ∧ o ≤ n - 1) && (iGo 0 ts && (decide (0 < o) || decide (ts.length = 0)))))
end Go.Proofs.Ytoahljkifikbaaa


/- Bundles that a law sizes, copies, compares, writes over and looks at again. Written by gen_hb.py. -/
namespace Go.Proofs.Ytoahljkifikbaaa
open Go.RowKit Pl
set_option linter.unusedVariables false
set_option maxRecDepth 100000 in
set_option maxHeartbeats 2000000 in
theorem eqBundle_same (f n o : Int) (s s' : Sv) (ts : List It) (B1 B2 : Nat) (w : World) (h1 : Hid (SlI w B1 s.v ts)) (h2 : Hid (SlI w B2 s'.v ts)) (hl : ts.length ≤ 1048576) :
    Calls Try.prog 65 #[.agg #[.int .i64 f, .int .i64 n, .int .i64 o, .slice s.a s.n s.c], .agg #[.int .i64 f, .int .i64 n, .int .i64 o, .slice s'.a s'.n s'.c]] w fun e w' => e = .returned (.bool true) ∧ Below w.heap.size w w' := by
  have d0 : (f != f) = false := by simp
  have d1 : (n != n) = false := by simp
  have d2 : (o != o) = false := by simp
  have BB : Hid (Below w.heap.size w ((w.alloc (.cells #[.int .i64 f, .int .i64 n, .int .i64 o, .slice s.a s.n s.c] 85)).alloc (.cells #[.int .i64 f, .int .i64 n, .int .i64 o, .slice s'.a s'.n s'.c] 85))) := ((Below.refl _ _).alloc (Nat.le_refl _) _).alloc (by simp) _
  have P1 : Hid (Bx ((w.alloc (.cells #[.int .i64 f, .int .i64 n, .int .i64 o, .slice s.a s.n s.c] 85)).alloc (.cells #[.int .i64 f, .int .i64 n, .int .i64 o, .slice s'.a s'.n s'.c] 85)) w.heap.size 85 [.int .i64 f, .int .i64 n, .int .i64 o, .slice s.a s.n s.c]) := (Bx.new w 85 [.int .i64 f, .int .i64 n, .int .i64 o, .slice s.a s.n s.c]).stays ((Below.refl (w.heap.size + 1) _).alloc (by simp) _) (by omega)
  have P2 : Hid (Bx ((w.alloc (.cells #[.int .i64 f, .int .i64 n, .int .i64 o, .slice s.a s.n s.c] 85)).alloc (.cells #[.int .i64 f, .int .i64 n, .int .i64 o, .slice s'.a s'.n s'.c] 85)) (w.heap.size + 1) 85 [.int .i64 f, .int .i64 n, .int .i64 o, .slice s'.a s'.n s'.c]) := bx_next w (.cells #[.int .i64 f, .int .i64 n, .int .i64 o, .slice s.a s.n s.c] 85) 85 [.int .i64 f, .int .i64 n, .int .i64 o, .slice s'.a s'.n s'.c]
  have O1 : Hid (SlI ((w.alloc (.cells #[.int .i64 f, .int .i64 n, .int .i64 o, .slice s.a s.n s.c] 85)).alloc (.cells #[.int .i64 f, .int .i64 n, .int .i64 o, .slice s'.a s'.n s'.c] 85)) B1 s.v ts) := h1.out.below BB.out
  have O2 : Hid (SlI ((w.alloc (.cells #[.int .i64 f, .int .i64 n, .int .i64 o, .slice s.a s.n s.c] 85)).alloc (.cells #[.int .i64 f, .int .i64 n, .int .i64 o, .slice s'.a s'.n s'.c] 85)) B2 s'.v ts) := h2.out.below BB.out
  have a0 := P1.out.cell 0
  have a1 := P1.out.cell 1
  have a2 := P1.out.cell 2
  have a3 := P1.out.cell 3
  have b0 := P2.out.cell 0
  have b1 := P2.out.cell 1
  have b2 := P2.out.cell 2
  have b3 := P2.out.cell 3
  simp only [List.getElem?_cons_succ, List.getElem?_cons_zero] at a0 a1 a2 a3 b0 b1 b2 b3
  go_enter Try.func65, Try.ntmps65
  go_wp2_with fail
  generalize ((w.alloc (.cells #[.int .i64 f, .int .i64 n, .int .i64 o, .slice s.a s.n s.c] 85)).alloc (.cells #[.int .i64 f, .int .i64 n, .int .i64 o, .slice s'.a s'.n s'.c] 85)) = W at *
  have hc := eqItems_sl s.v s'.v ts B1 B2 W O1.out O2.out hl
  unfold Sv.v at hc
  refine hc.mono ?_
  clear hc
  rintro e w1 ⟨rfl, hb1⟩
  go_wp2
  go_ret
  exact ⟨rfl, BB.out.trans (hb1.mono BB.out.size)⟩

end Go.Proofs.Ytoahljkifikbaaa


/- Both BundleOk, told of a bundle whose list is read. -/
namespace Go.Proofs.Ytoahljkifikbaaa
open Go.RowKit Pl
set_option linter.unusedVariables false
end Go.Proofs.Ytoahljkifikbaaa


/- Lists that are nil: marked, looked at again, held against each other. Written by gen_dn.py. -/
namespace Go.Proofs.Ytoahljkifikbaaa
open Go.RowKit Pl
set_option linter.unusedVariables false
set_option linter.unusedSimpArgs false

set_option maxRecDepth 100000 in
set_option maxHeartbeats 1000000 in
theorem marki_nil (z : Int) (m : Nat) (w : World) (hz : z = (m : Int)) : Calls Try.prog 36 #[.slice none 0 0, .int .i64 z] w fun e w' => ∃ M : Nat, e = .returned (.int .i64 (M : Int)) ∧ M = m ∧ Below w.heap.size w w' := by
  subst hz
  go_enter Try.func36, Try.ntmps36
  go_wp2_with fail
  go_loopw [1, 5] (fun kk i wr => i = .int .i64 0 ∧ kk = .int .i64 (m : Int) ∧ Hid (Below w.heap.size w wr)) (fun _ i _ => 0)
  case atStart => exact ⟨rfl, rfl, Below.refl _ _⟩
  case round =>
    obtain ⟨rfl, rfl, HB⟩ := hrel
    go_wp2_with fail
    go_ret
    exact ⟨m, rfl, rfl, HB.out⟩
set_option maxRecDepth 100000 in
set_option maxHeartbeats 1000000 in
theorem markitems_nil (z : Int) (m : Nat) (w : World) (hz : z = (m : Int)) : Calls Try.prog 53 #[.slice none 0 0, .int .i64 z] w fun e w' => ∃ M : Nat, e = .returned (.int .i64 (M : Int)) ∧ M = m ∧ Below w.heap.size w w' := by
  subst hz
  go_enter Try.func53, Try.ntmps53
  go_wp2_with fail
  go_loopw [1, 5] (fun kk i wr => i = .int .i64 0 ∧ kk = .int .i64 (m : Int) ∧ Hid (Below w.heap.size w wr)) (fun _ i _ => 0)
  case atStart => exact ⟨rfl, rfl, Below.refl _ _⟩
  case round =>
    obtain ⟨rfl, rfl, HB⟩ := hrel
    go_wp2_with fail
    go_ret
    exact ⟨m, rfl, rfl, HB.out⟩
set_option maxRecDepth 100000 in
set_option maxHeartbeats 1000000 in
theorem marks_nil (z : Int) (m : Nat) (w : World) (hz : z = (m : Int)) : Calls Try.prog 54 #[.slice none 0 0, .int .i64 z] w fun e w' => ∃ M : Nat, e = .returned (.int .i64 (M : Int)) ∧ M = m ∧ Below w.heap.size w w' := by
  subst hz
  go_enter Try.func54, Try.ntmps54
  go_wp2_with fail
  go_loopw [1, 5] (fun kk i wr => i = .int .i64 0 ∧ kk = .int .i64 (m : Int) ∧ Hid (Below w.heap.size w wr)) (fun _ i _ => 0)
  case atStart => exact ⟨rfl, rfl, Below.refl _ _⟩
  case round =>
    obtain ⟨rfl, rfl, HB⟩ := hrel
    go_wp2_with fail
    go_ret
    exact ⟨m, rfl, rfl, HB.out⟩
set_option maxRecDepth 100000 in
set_option maxHeartbeats 1000000 in
theorem markbundles_nil (z : Int) (m : Nat) (w : World) (hz : z = (m : Int)) : Calls Try.prog 55 #[.slice none 0 0, .int .i64 z] w fun e w' => ∃ M : Nat, e = .returned (.int .i64 (M : Int)) ∧ M = m ∧ Below w.heap.size w w' := by
  subst hz
  go_enter Try.func55, Try.ntmps55
  go_wp2_with fail
  go_loopw [1, 5] (fun kk i wr => i = .int .i64 0 ∧ kk = .int .i64 (m : Int) ∧ Hid (Below w.heap.size w wr)) (fun _ i _ => 0)
  case atStart => exact ⟨rfl, rfl, Below.refl _ _⟩
  case round =>
    obtain ⟨rfl, rfl, HB⟩ := hrel
    go_wp2_with fail
    go_ret
    exact ⟨m, rfl, rfl, HB.out⟩
set_option maxRecDepth 100000 in
set_option maxHeartbeats 1000000 in
theorem markevents_nil (z : Int) (m : Nat) (w : World) (hz : z = (m : Int)) : Calls Try.prog 39 #[.slice none 0 0, .int .i64 z] w fun e w' => ∃ M : Nat, e = .returned (.int .i64 (M : Int)) ∧ M = m ∧ Below w.heap.size w w' := by
  subst hz
  go_enter Try.func39, Try.ntmps39
  go_wp2_with fail
  go_loopw [1, 5] (fun kk i wr => i = .int .i64 0 ∧ kk = .int .i64 (m : Int) ∧ Hid (Below w.heap.size w wr)) (fun _ i _ => 0)
  case atStart => exact ⟨rfl, rfl, Below.refl _ _⟩
  case round =>
    obtain ⟨rfl, rfl, HB⟩ := hrel
    go_wp2_with fail
    go_ret
    exact ⟨m, rfl, rfl, HB.out⟩
set_option maxRecDepth 100000 in
set_option maxHeartbeats 1000000 in
theorem markletters_nil (z : Int) (m : Nat) (w : World) (hz : z = (m : Int)) : Calls Try.prog 38 #[.slice none 0 0, .int .i64 z] w fun e w' => ∃ M : Nat, e = .returned (.int .i64 (M : Int)) ∧ M = m ∧ Below w.heap.size w w' := by
  subst hz
  go_enter Try.func38, Try.ntmps38
  go_wp2_with fail
  go_loopw [1, 5] (fun kk i wr => i = .int .i64 0 ∧ kk = .int .i64 (m : Int) ∧ Hid (Below w.heap.size w wr)) (fun _ i _ => 0)
  case atStart => exact ⟨rfl, rfl, Below.refl _ _⟩
  case round =>
    obtain ⟨rfl, rfl, HB⟩ := hrel
    go_wp2_with fail
    go_ret
    exact ⟨m, rfl, rfl, HB.out⟩
set_option maxRecDepth 100000 in
set_option maxHeartbeats 1000000 in
theorem heldi_nil (z : Int) (m : Nat) (w : World) (hz : z = (m : Int)) : Calls Try.prog 57 #[.slice none 0 0, .int .i64 z] w fun e w' => ∃ M : Nat, e = .returned (.int .i64 (M : Int)) ∧ M = m ∧ Below w.heap.size w w' := by
  subst hz
  go_enter Try.func57, Try.ntmps57
  go_wp2_with fail
  go_loopw [1, 5] (fun kk i wr => i = .int .i64 0 ∧ kk = .int .i64 (m : Int) ∧ Hid (Below w.heap.size w wr)) (fun _ i _ => 0)
  case atStart => exact ⟨rfl, rfl, Below.refl _ _⟩
  case round =>
    obtain ⟨rfl, rfl, HB⟩ := hrel
    go_wp2_with fail
    go_ret
    exact ⟨m, rfl, rfl, HB.out⟩
set_option maxRecDepth 100000 in
set_option maxHeartbeats 1000000 in
theorem helditems_nil (z : Int) (m : Nat) (w : World) (hz : z = (m : Int)) : Calls Try.prog 58 #[.slice none 0 0, .int .i64 z] w fun e w' => ∃ M : Nat, e = .returned (.int .i64 (M : Int)) ∧ M = m ∧ Below w.heap.size w w' := by
  subst hz
  go_enter Try.func58, Try.ntmps58
  go_wp2_with fail
  go_loopw [1, 5] (fun kk i wr => i = .int .i64 0 ∧ kk = .int .i64 (m : Int) ∧ Hid (Below w.heap.size w wr)) (fun _ i _ => 0)
  case atStart => exact ⟨rfl, rfl, Below.refl _ _⟩
  case round =>
    obtain ⟨rfl, rfl, HB⟩ := hrel
    go_wp2_with fail
    go_ret
    exact ⟨m, rfl, rfl, HB.out⟩
set_option maxRecDepth 100000 in
set_option maxHeartbeats 1000000 in
theorem helds_nil (z : Int) (m : Nat) (w : World) (hz : z = (m : Int)) : Calls Try.prog 59 #[.slice none 0 0, .int .i64 z] w fun e w' => ∃ M : Nat, e = .returned (.int .i64 (M : Int)) ∧ M = m ∧ Below w.heap.size w w' := by
  subst hz
  go_enter Try.func59, Try.ntmps59
  go_wp2_with fail
  go_loopw [1, 5] (fun kk i wr => i = .int .i64 0 ∧ kk = .int .i64 (m : Int) ∧ Hid (Below w.heap.size w wr)) (fun _ i _ => 0)
  case atStart => exact ⟨rfl, rfl, Below.refl _ _⟩
  case round =>
    obtain ⟨rfl, rfl, HB⟩ := hrel
    go_wp2_with fail
    go_ret
    exact ⟨m, rfl, rfl, HB.out⟩
set_option maxRecDepth 100000 in
set_option maxHeartbeats 1000000 in
theorem heldbundles_nil (z : Int) (m : Nat) (w : World) (hz : z = (m : Int)) : Calls Try.prog 60 #[.slice none 0 0, .int .i64 z] w fun e w' => ∃ M : Nat, e = .returned (.int .i64 (M : Int)) ∧ M = m ∧ Below w.heap.size w w' := by
  subst hz
  go_enter Try.func60, Try.ntmps60
  go_wp2_with fail
  go_loopw [1, 5] (fun kk i wr => i = .int .i64 0 ∧ kk = .int .i64 (m : Int) ∧ Hid (Below w.heap.size w wr)) (fun _ i _ => 0)
  case atStart => exact ⟨rfl, rfl, Below.refl _ _⟩
  case round =>
    obtain ⟨rfl, rfl, HB⟩ := hrel
    go_wp2_with fail
    go_ret
    exact ⟨m, rfl, rfl, HB.out⟩
set_option maxRecDepth 100000 in
set_option maxHeartbeats 1000000 in
theorem heldevents_nil (z : Int) (m : Nat) (w : World) (hz : z = (m : Int)) : Calls Try.prog 43 #[.slice none 0 0, .int .i64 z] w fun e w' => ∃ M : Nat, e = .returned (.int .i64 (M : Int)) ∧ M = m ∧ Below w.heap.size w w' := by
  subst hz
  go_enter Try.func43, Try.ntmps43
  go_wp2_with fail
  go_loopw [1, 5] (fun kk i wr => i = .int .i64 0 ∧ kk = .int .i64 (m : Int) ∧ Hid (Below w.heap.size w wr)) (fun _ i _ => 0)
  case atStart => exact ⟨rfl, rfl, Below.refl _ _⟩
  case round =>
    obtain ⟨rfl, rfl, HB⟩ := hrel
    go_wp2_with fail
    go_ret
    exact ⟨m, rfl, rfl, HB.out⟩
set_option maxRecDepth 100000 in
set_option maxHeartbeats 1000000 in
theorem heldletters_nil (z : Int) (m : Nat) (w : World) (hz : z = (m : Int)) : Calls Try.prog 42 #[.slice none 0 0, .int .i64 z] w fun e w' => ∃ M : Nat, e = .returned (.int .i64 (M : Int)) ∧ M = m ∧ Below w.heap.size w w' := by
  subst hz
  go_enter Try.func42, Try.ntmps42
  go_wp2_with fail
  go_loopw [1, 5] (fun kk i wr => i = .int .i64 0 ∧ kk = .int .i64 (m : Int) ∧ Hid (Below w.heap.size w wr)) (fun _ i _ => 0)
  case atStart => exact ⟨rfl, rfl, Below.refl _ _⟩
  case round =>
    obtain ⟨rfl, rfl, HB⟩ := hrel
    go_wp2_with fail
    go_ret
    exact ⟨m, rfl, rfl, HB.out⟩
set_option maxRecDepth 100000 in
set_option maxHeartbeats 1000000 in
theorem eqletters_nil (w : World) : Calls Try.prog 34 #[.slice none 0 0, .slice none 0 0] w fun e w' => e = .returned (.bool true) ∧ Below w.heap.size w w' := by
  go_enter Try.func34, Try.ntmps34
  go_wp2_with fail
  go_loopw [5] (fun i wr => i = .int .i64 0 ∧ Hid (Below w.heap.size w wr)) (fun i _ => 0)
  case atStart => exact ⟨rfl, Below.refl _ _⟩
  case round =>
    obtain ⟨rfl, HB⟩ := hrel
    go_wp2_with fail
    go_ret
    exact ⟨rfl, HB.out⟩
set_option maxRecDepth 100000 in
set_option maxHeartbeats 1000000 in
theorem eqevents_nil (w : World) : Calls Try.prog 35 #[.slice none 0 0, .slice none 0 0] w fun e w' => e = .returned (.bool true) ∧ Below w.heap.size w w' := by
  go_enter Try.func35, Try.ntmps35
  go_wp2_with fail
  go_loopw [5] (fun i wr => i = .int .i64 0 ∧ Hid (Below w.heap.size w wr)) (fun i _ => 0)
  case atStart => exact ⟨rfl, Below.refl _ _⟩
  case round =>
    obtain ⟨rfl, HB⟩ := hrel
    go_wp2_with fail
    go_ret
    exact ⟨rfl, HB.out⟩
end Go.Proofs.Ytoahljkifikbaaa


/- Lists of daemons that have nothing but an Id: marked, and looked at again. Written by gen_gs.py. -/
namespace Go.Proofs.Ytoahljkifikbaaa
open Go.RowKit Pl
set_option linter.unusedVariables false
set_option linter.unusedSimpArgs false

/-- where the places of one lie. -/
structure DnSeg (w : World) (TL : List Spot) (n g o : Nat) (u : Unit) : Prop where
  gl : g < w.heap.size
  p0 : TL[n]? = some (g, o, 0)
  p1 : TL[n + 1]? = some (g, o + 1, 1)
  p2 : TL[n + 1 + 1]? = some (g, o + 2, 0)
  p3 : TL[n + 1 + 1 + 1]? = some (g, o + 3, 0)
  h4 : w.cell? ⟨g, o + 4, none⟩ = some (.slice none 0 0)
  q4 : ∀ s ∈ TL, ¬ (s.1 = g ∧ s.2.1 = o + 4)
  h5 : w.cell? ⟨g, o + 5, none⟩ = some (.slice none 0 0)
  q5 : ∀ s ∈ TL, ¬ (s.1 = g ∧ s.2.1 = o + 5)
  h6 : w.cell? ⟨g, o + 6, none⟩ = some (.slice none 0 0)
  q6 : ∀ s ∈ TL, ¬ (s.1 = g ∧ s.2.1 = o + 6)
  h7 : w.cell? ⟨g, o + 7, none⟩ = some (.slice none 0 0)
  q7 : ∀ s ∈ TL, ¬ (s.1 = g ∧ s.2.1 = o + 7)
  p8 : TL[n + 1 + 1 + 1 + 1]? = some (g, o + 8, 0)
  p9 : TL[n + 1 + 1 + 1 + 1 + 1]? = some (g, o + 9, 0)
  p10 : TL[n + 1 + 1 + 1 + 1 + 1 + 1]? = some (g, o + 10, 0)
  p11 : TL[n + 1 + 1 + 1 + 1 + 1 + 1 + 1]? = some (g, o + 11, 0)
  p12 : TL[n + 1 + 1 + 1 + 1 + 1 + 1 + 1 + 1]? = some (g, o + 12, 0)
  p13 : TL[n + 1 + 1 + 1 + 1 + 1 + 1 + 1 + 1 + 1]? = some (g, o + 13, 0)
  p14 : TL[n + 1 + 1 + 1 + 1 + 1 + 1 + 1 + 1 + 1 + 1]? = some (g, o + 14, 0)
  p15 : TL[n + 1 + 1 + 1 + 1 + 1 + 1 + 1 + 1 + 1 + 1 + 1]? = some (g, o + 15, 0)
  p16 : TL[n + 1 + 1 + 1 + 1 + 1 + 1 + 1 + 1 + 1 + 1 + 1 + 1]? = some (g, o + 16, 0)
  h17 : w.cell? ⟨g, o + 17, none⟩ = some (.slice none 0 0)
  q17 : ∀ s ∈ TL, ¬ (s.1 = g ∧ s.2.1 = o + 17)
  p18 : TL[n + 1 + 1 + 1 + 1 + 1 + 1 + 1 + 1 + 1 + 1 + 1 + 1 + 1]? = some (g, o + 18, 0)
  p19 : TL[n + 1 + 1 + 1 + 1 + 1 + 1 + 1 + 1 + 1 + 1 + 1 + 1 + 1 + 1]? = some (g, o + 19, 0)
  p20 : TL[n + 1 + 1 + 1 + 1 + 1 + 1 + 1 + 1 + 1 + 1 + 1 + 1 + 1 + 1 + 1]? = some (g, o + 20, 0)
  h21 : w.cell? ⟨g, o + 21, none⟩ = some (.slice none 0 0)
  q21 : ∀ s ∈ TL, ¬ (s.1 = g ∧ s.2.1 = o + 21)
  h22 : w.cell? ⟨g, o + 22, none⟩ = some (.slice none 0 0)
  q22 : ∀ s ∈ TL, ¬ (s.1 = g ∧ s.2.1 = o + 22)
  h23 : w.cell? ⟨g, o + 23, none⟩ = some (.slice none 0 0)
  q23 : ∀ s ∈ TL, ¬ (s.1 = g ∧ s.2.1 = o + 23)
def DnSeg.len (u : Unit) : Nat := 1 + 1 + 1 + 1 + 1 + 1 + 1 + 1 + 1 + 1 + 1 + 1 + 1 + 1 + 1 + 1
theorem DnSeg.marked {w0 ws w : World} {TL : List Spot} {n g o K m : Nat} {u : Unit} (h : DnSeg w0 TL n g o u) (k : MkI w0 ws TL K m w) : DnSeg w TL n g o u :=
  { h with gl := by have := h.gl; have := k.size; omega, h4 := k.cell h.gl h.q4 h.h4, h5 := k.cell h.gl h.q5 h.h5, h6 := k.cell h.gl h.q6 h.h6, h7 := k.cell h.gl h.q7 h.h7, h17 := k.cell h.gl h.q17 h.h17, h21 := k.cell h.gl h.q21 h.h21, h22 := k.cell h.gl h.q22 h.h22, h23 := k.cell h.gl h.q23 h.h23 }
theorem DnSeg.later {w w' : World} {TL : List Spot} {n g o : Nat} {u : Unit} (h : DnSeg w TL n g o u) (b : Below w.heap.size w w') : DnSeg w' TL n g o u :=
  { h with gl := by have := h.gl; have := b.size; omega, h4 := (cell_block (b.block _ h.gl)).trans h.h4, h5 := (cell_block (b.block _ h.gl)).trans h.h5, h6 := (cell_block (b.block _ h.gl)).trans h.h6, h7 := (cell_block (b.block _ h.gl)).trans h.h7, h17 := (cell_block (b.block _ h.gl)).trans h.h17, h21 := (cell_block (b.block _ h.gl)).trans h.h21, h22 := (cell_block (b.block _ h.gl)).trans h.h22, h23 := (cell_block (b.block _ h.gl)).trans h.h23 }
/-- .. and of a list of them. -/
structure DnSegL (w : World) (TL : List Spot) (ao : Option Addr) (len : Nat) (us : Nat → Unit) (N : Nat → Nat) : Prop where
  one : ∀ j, j < len → ∃ g off, ao = some ⟨g, off, none⟩ ∧ DnSeg w TL (N j) g (off + j * 24) (us j)
  nx : ∀ j, j < len → N (j + 1) = N j + DnSeg.len (us j)
theorem DnSegL.marked {w0 ws w : World} {TL : List Spot} {ao : Option Addr} {len K m : Nat} {us : Nat → Unit} {N : Nat → Nat} (h : DnSegL w0 TL ao len us N) (k : MkI w0 ws TL K m w) : DnSegL w TL ao len us N := ⟨fun j hj => by obtain ⟨g, off, e, x⟩ := h.one j hj; exact ⟨g, off, e, x.marked k⟩, h.nx⟩
theorem DnSegL.later {w w' : World} {TL : List Spot} {ao : Option Addr} {len : Nat} {us : Nat → Unit} {N : Nat → Nat} (h : DnSegL w TL ao len us N) (b : Below w.heap.size w w') : DnSegL w' TL ao len us N := ⟨fun j hj => by obtain ⟨g, off, e, x⟩ := h.one j hj; exact ⟨g, off, e, x.later b⟩, h.nx⟩
theorem DnSegL.le {w : World} {TL : List Spot} {ao : Option Addr} {len : Nat} {us : Nat → Unit} {N : Nat → Nat} (h : DnSegL w TL ao len us N) : ∀ (d j : Nat), j + d = len → N j ≤ N len
  | 0, j, e => by rw [show j = len by omega]; exact Nat.le_refl _
  | d + 1, j, e => by
    have h1 := h.nx j (by omega)
    have h2 := h.le d (j + 1) (by omega)
    omega
set_option maxRecDepth 100000 in
set_option maxHeartbeats 16000000 in
theorem markdaemons_sp (w0 : World) (TL : List Spot) (K : Nat) (ao : Option Addr) (len cap : Nat) (us : Nat → Unit) (N : Nat → Nat) (z : Int) (w : World) (hT : Hid (TLok w0 TL)) (hI : Hid (MkI w0 w TL K (N 0) w)) (hs : Hid (DnSegL w0 TL ao len us N)) (hz : Hid (z = ((K + N 0 : Nat) : Int))) (hl : K + N len ≤ 39999990) (hll : len ≤ 39999990) (hK : 0 < K) :
    Calls Try.prog 37 #[.slice ao len cap, .int .i64 z] w fun e w' => ∃ M : Nat, e = .returned (.int .i64 (M : Int)) ∧ M = K + N len ∧ MkI w0 w TL K (N len) w' := by
  obtain ⟨M0, hM0⟩ : ∃ M : Nat, M = K + N 0 := ⟨_, rfl⟩
  have e0 : z = (M0 : Int) := by have := hz.out; omega
  subst e0
  have HM0 : Hid (M0 = K + N 0) := hM0
  clear hM0 hz
  go_enter Try.func37, Try.ntmps37
  go_wp2_with fail
  go_loopw [1, 5] (fun kk i wr => ∃ (j : Nat), j ≤ len ∧ i = .int .i64 (j : Int) ∧ kk = .int .i64 ((K + N j : Nat) : Int) ∧ Hid (MkI w0 w TL K (N j) wr)) (fun _ i _ => len - (intOf i).toNat)
  case atStart => exact ⟨0, by omega, rfl, by have := HM0.out; congr 1; omega, hI⟩
  case round =>
    obtain ⟨j, hj, rfl, rfl, HI⟩ := hrel
    obtain ⟨M, hM⟩ : ∃ M : Nat, M = K + N j := ⟨_, rfl⟩
    rw [← hM]
    have HM : Hid (M = K + N j) := hM
    clear hM
    by_cases hlt : j < len
    · obtain ⟨g, off, rfl, sg⟩ := hs.out.one j hlt
      have HNX : Hid _ := hs.out.nx j hlt
      have hle := hs.out.le (len - (j + 1)) (j + 1) (by omega)
      obtain ⟨u, hu⟩ : ∃ u, us j = u := ⟨_, rfl⟩
      rw [hu] at sg HNX
      have hle2 : N j + (1 + 1 + 1 + 1 + 1 + 1 + 1 + 1 + 1 + 1 + 1 + 1 + 1 + 1 + 1 + 1) ≤ N len := by have := HNX.out; unfold DnSeg.len at this; omega
      obtain ⟨n, hn⟩ : ∃ n, n = N j := ⟨_, rfl⟩
      rw [← hn] at sg HM HNX hle2 HI
      have HN : Hid (n = N j) := hn
      obtain ⟨o, ho⟩ : ∃ o, o = off + j * 24 := ⟨_, rfl⟩
      rw [← ho] at sg
      have HO : Hid (o = off + j * 24) := ho
      have SG : Hid (DnSeg w0 TL n g o u) := sg
      clear sg hu hn ho hle
      have hMl : M ≤ 39999990 := by have := HM.out; omega
      have i0 : (0 : Int) ≤ (j : Int) := by omega
      have i1 : (j : Int) < (len : Int) := by omega
      have sp : TL[n]? = some (g, off + j * 24, 0) := by have h := SG.out.p0; rw [HO.out] at h; exact h
      have SP : Hid _ := sp
      clear sp
      go_wp2_with (first | (refine wpList_haltS 3 _ _ rfl ?_))
      refine Stp.go ?_
      refine wpList_stK rfl 3 _ _ rfl rfl _ rfl Try.sizeK3 hT.out HI.out SP.out (vkI (by have := HM.out; omega)) ?_
      intro w1 hi
      have HI : Hid (MkI w0 w TL K (n + 1) w1) := hi
      clear hi SP
      have sp : TL[n + 1]? = some (g, off + j * 24 + 1, 1) := by have h := SG.out.p1; rw [HO.out] at h; exact h
      have SP : Hid _ := sp
      clear sp
      go_wp2_with (first | (refine wpList_haltS 4 _ _ rfl ?_))
      refine Stp.go ?_
      refine wpList_stK rfl 4 _ _ rfl rfl _ rfl Try.sizeK4 hT.out HI.out SP.out (by show Value.bool _ = _; exact vkB (by have := HM.out; omega)) ?_
      intro w2 hi
      have HI : Hid (MkI w0 w TL K (n + 1 + 1) w2) := hi
      clear hi SP
      have sp : TL[n + 1 + 1]? = some (g, off + j * 24 + 2, 0) := by have h := SG.out.p2; rw [HO.out] at h; exact h
      have SP : Hid _ := sp
      clear sp
      go_wp2_with (first | (refine wpList_haltS 3 _ _ rfl ?_))
      refine Stp.go ?_
      refine wpList_stK rfl 3 _ _ rfl rfl _ rfl Try.sizeK3 hT.out HI.out SP.out (vkI (by have := HM.out; omega)) ?_
      intro w3 hi
      have HI : Hid (MkI w0 w TL K (n + 1 + 1 + 1) w3) := hi
      clear hi SP
      have sp : TL[n + 1 + 1 + 1]? = some (g, off + j * 24 + 3, 0) := by have h := SG.out.p3; rw [HO.out] at h; exact h
      have SP : Hid _ := sp
      clear sp
      go_wp2_with (first | (refine wpList_haltS 3 _ _ rfl ?_))
      refine Stp.go ?_
      refine wpList_stK rfl 3 _ _ rfl rfl _ rfl Try.sizeK3 hT.out HI.out SP.out (vkI (by have := HM.out; omega)) ?_
      intro w4 hi
      have HI : Hid (MkI w0 w TL K (n + 1 + 1 + 1 + 1) w4) := hi
      clear hi SP
      have hc : w4.cell? ⟨g, off + j * 24 + 4, none⟩ = some (.slice none 0 0) := by have h := HI.out.cell SG.out.gl SG.out.q4 SG.out.h4; rw [HO.out] at h; exact h
      go_wp2_with fail
      clear hc
      refine (marki_nil ((M : Int) + 1 + 1 + 1 + 1) (K + (n + 1 + 1 + 1 + 1)) _ (by have := HM.out; omega)).mono ?_
      rintro e w5 ⟨M5, rfl, hm, b⟩
      have HM : Hid (M5 = K + (n + 1 + 1 + 1 + 1)) := hm
      have HI : Hid (MkI w0 w TL K (n + 1 + 1 + 1 + 1) w5) := HI.out.later hT.out b
      have hMl : M5 ≤ 39999990 := by omega
      clear hm b
      have hc : w5.cell? ⟨g, off + j * 24 + 5, none⟩ = some (.slice none 0 0) := by have h := HI.out.cell SG.out.gl SG.out.q5 SG.out.h5; rw [HO.out] at h; exact h
      go_wp2_with fail
      clear hc
      refine (markitems_nil ((M5 : Int)) (K + (n + 1 + 1 + 1 + 1)) _ (by have := HM.out; omega)).mono ?_
      rintro e w6 ⟨M6, rfl, hm, b⟩
      have HM : Hid (M6 = K + (n + 1 + 1 + 1 + 1)) := hm
      have HI : Hid (MkI w0 w TL K (n + 1 + 1 + 1 + 1) w6) := HI.out.later hT.out b
      have hMl : M6 ≤ 39999990 := by omega
      clear hm b
      have hc : w6.cell? ⟨g, off + j * 24 + 6, none⟩ = some (.slice none 0 0) := by have h := HI.out.cell SG.out.gl SG.out.q6 SG.out.h6; rw [HO.out] at h; exact h
      go_wp2_with fail
      clear hc
      refine (marki_nil ((M6 : Int)) (K + (n + 1 + 1 + 1 + 1)) _ (by have := HM.out; omega)).mono ?_
      rintro e w7 ⟨M7, rfl, hm, b⟩
      have HM : Hid (M7 = K + (n + 1 + 1 + 1 + 1)) := hm
      have HI : Hid (MkI w0 w TL K (n + 1 + 1 + 1 + 1) w7) := HI.out.later hT.out b
      have hMl : M7 ≤ 39999990 := by omega
      clear hm b
      have hc : w7.cell? ⟨g, off + j * 24 + 7, none⟩ = some (.slice none 0 0) := by have h := HI.out.cell SG.out.gl SG.out.q7 SG.out.h7; rw [HO.out] at h; exact h
      go_wp2_with fail
      clear hc
      refine (marks_nil ((M7 : Int)) (K + (n + 1 + 1 + 1 + 1)) _ (by have := HM.out; omega)).mono ?_
      rintro e w8 ⟨M8, rfl, hm, b⟩
      have HM : Hid (M8 = K + (n + 1 + 1 + 1 + 1)) := hm
      have HI : Hid (MkI w0 w TL K (n + 1 + 1 + 1 + 1) w8) := HI.out.later hT.out b
      have hMl : M8 ≤ 39999990 := by omega
      clear hm b
      have sp : TL[n + 1 + 1 + 1 + 1]? = some (g, off + j * 24 + 8, 0) := by have h := SG.out.p8; rw [HO.out] at h; exact h
      have SP : Hid _ := sp
      clear sp
      go_wp2_with (first | (refine wpList_haltS 3 _ _ rfl ?_))
      refine Stp.go ?_
      refine wpList_stK rfl 3 _ _ rfl rfl _ rfl Try.sizeK3 hT.out HI.out SP.out (vkI (by have := HM.out; omega)) ?_
      intro w9 hi
      have HI : Hid (MkI w0 w TL K (n + 1 + 1 + 1 + 1 + 1) w9) := hi
      clear hi SP
      have sp : TL[n + 1 + 1 + 1 + 1 + 1]? = some (g, off + j * 24 + 9, 0) := by have h := SG.out.p9; rw [HO.out] at h; exact h
      have SP : Hid _ := sp
      clear sp
      go_wp2_with (first | (refine wpList_haltS 3 _ _ rfl ?_))
      refine Stp.go ?_
      refine wpList_stK rfl 3 _ _ rfl rfl _ rfl Try.sizeK3 hT.out HI.out SP.out (vkI (by have := HM.out; omega)) ?_
      intro w10 hi
      have HI : Hid (MkI w0 w TL K (n + 1 + 1 + 1 + 1 + 1 + 1) w10) := hi
      clear hi SP
      have sp : TL[n + 1 + 1 + 1 + 1 + 1 + 1]? = some (g, off + j * 24 + 10, 0) := by have h := SG.out.p10; rw [HO.out] at h; exact h
      have SP : Hid _ := sp
      clear sp
      go_wp2_with (first | (refine wpList_haltS 3 _ _ rfl ?_))
      refine Stp.go ?_
      refine wpList_stK rfl 3 _ _ rfl rfl _ rfl Try.sizeK3 hT.out HI.out SP.out (vkI (by have := HM.out; omega)) ?_
      intro w11 hi
      have HI : Hid (MkI w0 w TL K (n + 1 + 1 + 1 + 1 + 1 + 1 + 1) w11) := hi
      clear hi SP
      have sp : TL[n + 1 + 1 + 1 + 1 + 1 + 1 + 1]? = some (g, off + j * 24 + 11, 0) := by have h := SG.out.p11; rw [HO.out] at h; exact h
      have SP : Hid _ := sp
      clear sp
      go_wp2_with (first | (refine wpList_haltS 3 _ _ rfl ?_))
      refine Stp.go ?_
      refine wpList_stK rfl 3 _ _ rfl rfl _ rfl Try.sizeK3 hT.out HI.out SP.out (vkI (by have := HM.out; omega)) ?_
      intro w12 hi
      have HI : Hid (MkI w0 w TL K (n + 1 + 1 + 1 + 1 + 1 + 1 + 1 + 1) w12) := hi
      clear hi SP
      have sp : TL[n + 1 + 1 + 1 + 1 + 1 + 1 + 1 + 1]? = some (g, off + j * 24 + 12, 0) := by have h := SG.out.p12; rw [HO.out] at h; exact h
      have SP : Hid _ := sp
      clear sp
      go_wp2_with (first | (refine wpList_haltS 3 _ _ rfl ?_))
      refine Stp.go ?_
      refine wpList_stK rfl 3 _ _ rfl rfl _ rfl Try.sizeK3 hT.out HI.out SP.out (vkI (by have := HM.out; omega)) ?_
      intro w13 hi
      have HI : Hid (MkI w0 w TL K (n + 1 + 1 + 1 + 1 + 1 + 1 + 1 + 1 + 1) w13) := hi
      clear hi SP
      have sp : TL[n + 1 + 1 + 1 + 1 + 1 + 1 + 1 + 1 + 1]? = some (g, off + j * 24 + 13, 0) := by have h := SG.out.p13; rw [HO.out] at h; exact h
      have SP : Hid _ := sp
      clear sp
      go_wp2_with (first | (refine wpList_haltS 3 _ _ rfl ?_))
      refine Stp.go ?_
      refine wpList_stK rfl 3 _ _ rfl rfl _ rfl Try.sizeK3 hT.out HI.out SP.out (vkI (by have := HM.out; omega)) ?_
      intro w14 hi
      have HI : Hid (MkI w0 w TL K (n + 1 + 1 + 1 + 1 + 1 + 1 + 1 + 1 + 1 + 1) w14) := hi
      clear hi SP
      have sp : TL[n + 1 + 1 + 1 + 1 + 1 + 1 + 1 + 1 + 1 + 1]? = some (g, off + j * 24 + 14, 0) := by have h := SG.out.p14; rw [HO.out] at h; exact h
      have SP : Hid _ := sp
      clear sp
      go_wp2_with (first | (refine wpList_haltS 3 _ _ rfl ?_))
      refine Stp.go ?_
      refine wpList_stK rfl 3 _ _ rfl rfl _ rfl Try.sizeK3 hT.out HI.out SP.out (vkI (by have := HM.out; omega)) ?_
      intro w15 hi
      have HI : Hid (MkI w0 w TL K (n + 1 + 1 + 1 + 1 + 1 + 1 + 1 + 1 + 1 + 1 + 1) w15) := hi
      clear hi SP
      have sp : TL[n + 1 + 1 + 1 + 1 + 1 + 1 + 1 + 1 + 1 + 1 + 1]? = some (g, off + j * 24 + 15, 0) := by have h := SG.out.p15; rw [HO.out] at h; exact h
      have SP : Hid _ := sp
      clear sp
      go_wp2_with (first | (refine wpList_haltS 3 _ _ rfl ?_))
      refine Stp.go ?_
      refine wpList_stK rfl 3 _ _ rfl rfl _ rfl Try.sizeK3 hT.out HI.out SP.out (vkI (by have := HM.out; omega)) ?_
      intro w16 hi
      have HI : Hid (MkI w0 w TL K (n + 1 + 1 + 1 + 1 + 1 + 1 + 1 + 1 + 1 + 1 + 1 + 1) w16) := hi
      clear hi SP
      have sp : TL[n + 1 + 1 + 1 + 1 + 1 + 1 + 1 + 1 + 1 + 1 + 1 + 1]? = some (g, off + j * 24 + 16, 0) := by have h := SG.out.p16; rw [HO.out] at h; exact h
      have SP : Hid _ := sp
      clear sp
      go_wp2_with (first | (refine wpList_haltS 3 _ _ rfl ?_))
      refine Stp.go ?_
      refine wpList_stK rfl 3 _ _ rfl rfl _ rfl Try.sizeK3 hT.out HI.out SP.out (vkI (by have := HM.out; omega)) ?_
      intro w17 hi
      have HI : Hid (MkI w0 w TL K (n + 1 + 1 + 1 + 1 + 1 + 1 + 1 + 1 + 1 + 1 + 1 + 1 + 1) w17) := hi
      clear hi SP
      have hc : w17.cell? ⟨g, off + j * 24 + 17, none⟩ = some (.slice none 0 0) := by have h := HI.out.cell SG.out.gl SG.out.q17 SG.out.h17; rw [HO.out] at h; exact h
      go_wp2_with fail
      clear hc
      refine (marki_nil ((M8 : Int) + 1 + 1 + 1 + 1 + 1 + 1 + 1 + 1 + 1) (K + (n + 1 + 1 + 1 + 1 + 1 + 1 + 1 + 1 + 1 + 1 + 1 + 1 + 1)) _ (by have := HM.out; omega)).mono ?_
      rintro e w18 ⟨M18, rfl, hm, b⟩
      have HM : Hid (M18 = K + (n + 1 + 1 + 1 + 1 + 1 + 1 + 1 + 1 + 1 + 1 + 1 + 1 + 1)) := hm
      have HI : Hid (MkI w0 w TL K (n + 1 + 1 + 1 + 1 + 1 + 1 + 1 + 1 + 1 + 1 + 1 + 1 + 1) w18) := HI.out.later hT.out b
      have hMl : M18 ≤ 39999990 := by omega
      clear hm b
      have sp : TL[n + 1 + 1 + 1 + 1 + 1 + 1 + 1 + 1 + 1 + 1 + 1 + 1 + 1]? = some (g, off + j * 24 + 18, 0) := by have h := SG.out.p18; rw [HO.out] at h; exact h
      have SP : Hid _ := sp
      clear sp
      go_wp2_with (first | (refine wpList_haltS 3 _ _ rfl ?_))
      refine Stp.go ?_
      refine wpList_stK rfl 3 _ _ rfl rfl _ rfl Try.sizeK3 hT.out HI.out SP.out (vkI (by have := HM.out; omega)) ?_
      intro w19 hi
      have HI : Hid (MkI w0 w TL K (n + 1 + 1 + 1 + 1 + 1 + 1 + 1 + 1 + 1 + 1 + 1 + 1 + 1 + 1) w19) := hi
      clear hi SP
      have sp : TL[n + 1 + 1 + 1 + 1 + 1 + 1 + 1 + 1 + 1 + 1 + 1 + 1 + 1 + 1]? = some (g, off + j * 24 + 19, 0) := by have h := SG.out.p19; rw [HO.out] at h; exact h
      have SP : Hid _ := sp
      clear sp
      go_wp2_with (first | (refine wpList_haltS 3 _ _ rfl ?_))
      refine Stp.go ?_
      refine wpList_stK rfl 3 _ _ rfl rfl _ rfl Try.sizeK3 hT.out HI.out SP.out (vkI (by have := HM.out; omega)) ?_
      intro w20 hi
      have HI : Hid (MkI w0 w TL K (n + 1 + 1 + 1 + 1 + 1 + 1 + 1 + 1 + 1 + 1 + 1 + 1 + 1 + 1 + 1) w20) := hi
      clear hi SP
      have sp : TL[n + 1 + 1 + 1 + 1 + 1 + 1 + 1 + 1 + 1 + 1 + 1 + 1 + 1 + 1 + 1]? = some (g, off + j * 24 + 20, 0) := by have h := SG.out.p20; rw [HO.out] at h; exact h
      have SP : Hid _ := sp
      clear sp
      go_wp2_with (first | (refine wpList_haltS 3 _ _ rfl ?_))
      refine Stp.go ?_
      refine wpList_stK rfl 3 _ _ rfl rfl _ rfl Try.sizeK3 hT.out HI.out SP.out (vkI (by have := HM.out; omega)) ?_
      intro w21 hi
      have HI : Hid (MkI w0 w TL K (n + 1 + 1 + 1 + 1 + 1 + 1 + 1 + 1 + 1 + 1 + 1 + 1 + 1 + 1 + 1 + 1) w21) := hi
      clear hi SP
      have hc : w21.cell? ⟨g, off + j * 24 + 21, none⟩ = some (.slice none 0 0) := by have h := HI.out.cell SG.out.gl SG.out.q21 SG.out.h21; rw [HO.out] at h; exact h
      go_wp2_with fail
      clear hc
      refine (marki_nil ((M18 : Int) + 1 + 1 + 1) (K + (n + 1 + 1 + 1 + 1 + 1 + 1 + 1 + 1 + 1 + 1 + 1 + 1 + 1 + 1 + 1 + 1)) _ (by have := HM.out; omega)).mono ?_
      rintro e w22 ⟨M22, rfl, hm, b⟩
      have HM : Hid (M22 = K + (n + 1 + 1 + 1 + 1 + 1 + 1 + 1 + 1 + 1 + 1 + 1 + 1 + 1 + 1 + 1 + 1)) := hm
      have HI : Hid (MkI w0 w TL K (n + 1 + 1 + 1 + 1 + 1 + 1 + 1 + 1 + 1 + 1 + 1 + 1 + 1 + 1 + 1 + 1) w22) := HI.out.later hT.out b
      have hMl : M22 ≤ 39999990 := by omega
      clear hm b
      have hc : w22.cell? ⟨g, off + j * 24 + 22, none⟩ = some (.slice none 0 0) := by have h := HI.out.cell SG.out.gl SG.out.q22 SG.out.h22; rw [HO.out] at h; exact h
      go_wp2_with fail
      clear hc
      refine (markbundles_nil ((M22 : Int)) (K + (n + 1 + 1 + 1 + 1 + 1 + 1 + 1 + 1 + 1 + 1 + 1 + 1 + 1 + 1 + 1 + 1)) _ (by have := HM.out; omega)).mono ?_
      rintro e w23 ⟨M23, rfl, hm, b⟩
      have HM : Hid (M23 = K + (n + 1 + 1 + 1 + 1 + 1 + 1 + 1 + 1 + 1 + 1 + 1 + 1 + 1 + 1 + 1 + 1)) := hm
      have HI : Hid (MkI w0 w TL K (n + 1 + 1 + 1 + 1 + 1 + 1 + 1 + 1 + 1 + 1 + 1 + 1 + 1 + 1 + 1 + 1) w23) := HI.out.later hT.out b
      have hMl : M23 ≤ 39999990 := by omega
      clear hm b
      have hc : w23.cell? ⟨g, off + j * 24 + 23, none⟩ = some (.slice none 0 0) := by have h := HI.out.cell SG.out.gl SG.out.q23 SG.out.h23; rw [HO.out] at h; exact h
      go_wp2_with fail
      clear hc
      refine (markevents_nil ((M23 : Int)) (K + (n + 1 + 1 + 1 + 1 + 1 + 1 + 1 + 1 + 1 + 1 + 1 + 1 + 1 + 1 + 1 + 1)) _ (by have := HM.out; omega)).mono ?_
      rintro e w24 ⟨M24, rfl, hm, b⟩
      have HM : Hid (M24 = K + (n + 1 + 1 + 1 + 1 + 1 + 1 + 1 + 1 + 1 + 1 + 1 + 1 + 1 + 1 + 1 + 1)) := hm
      have HI : Hid (MkI w0 w TL K (n + 1 + 1 + 1 + 1 + 1 + 1 + 1 + 1 + 1 + 1 + 1 + 1 + 1 + 1 + 1 + 1) w24) := HI.out.later hT.out b
      have hMl : M24 ≤ 39999990 := by omega
      clear hm b
      go_wp2_with fail
      go_roundw
      case rel =>
        have e : K + N (j + 1) = K + (n + (1 + 1 + 1 + 1 + 1 + 1 + 1 + 1 + 1 + 1 + 1 + 1 + 1 + 1 + 1 + 1)) := by have h1 := HNX.out; unfold DnSeg.len at h1; omega
        refine ⟨j + 1, by omega, by go_num, by have := HM.out; congr 1; omega, ?_⟩
        have h := HI.out
        rw [show N (j + 1) = n + 1 + 1 + 1 + 1 + 1 + 1 + 1 + 1 + 1 + 1 + 1 + 1 + 1 + 1 + 1 + 1 by omega]
        exact h
      case measure => simp [intOf]; omega
    · obtain rfl : j = len := by omega
      go_wp2_with fail
      go_ret
      exact ⟨M, rfl, HM.out, HI.out⟩
set_option maxRecDepth 100000 in
set_option maxHeartbeats 16000000 in
theorem helddaemons_sp (TL : List Spot) (K : Nat) (ao : Option Addr) (len cap : Nat) (us : Nat → Unit) (N : Nat → Nat) (z : Int) (w : World) (hH : Hid (Held w TL K)) (hs : Hid (DnSegL w TL ao len us N)) (hz : Hid (z = ((K + N 0 : Nat) : Int))) (hl : K + N len ≤ 39999990) (hll : len ≤ 39999990) (hK : 0 < K) :
    Calls Try.prog 41 #[.slice ao len cap, .int .i64 z] w fun e w' => ∃ M : Nat, e = .returned (.int .i64 (M : Int)) ∧ M = K + N len ∧ Below w.heap.size w w' := by
  obtain ⟨M0, hM0⟩ : ∃ M : Nat, M = K + N 0 := ⟨_, rfl⟩
  have e0 : z = (M0 : Int) := by have := hz.out; omega
  subst e0
  have HM0 : Hid (M0 = K + N 0) := hM0
  clear hM0 hz
  go_enter Try.func41, Try.ntmps41
  go_wp2_with fail
  go_loopw [1, 5] (fun kk i wr => ∃ (j : Nat), j ≤ len ∧ i = .int .i64 (j : Int) ∧ kk = .int .i64 ((K + N j : Nat) : Int) ∧ Hid (Below w.heap.size w wr)) (fun _ i _ => len - (intOf i).toNat)
  case atStart => exact ⟨0, by omega, rfl, by have := HM0.out; congr 1; omega, Below.refl _ _⟩
  case round =>
    obtain ⟨j, hj, rfl, rfl, HI⟩ := hrel
    obtain ⟨M, hM⟩ : ∃ M : Nat, M = K + N j := ⟨_, rfl⟩
    rw [← hM]
    have HM : Hid (M = K + N j) := hM
    clear hM
    by_cases hlt : j < len
    · obtain ⟨g, off, rfl, sg⟩ := hs.out.one j hlt
      have HNX : Hid _ := hs.out.nx j hlt
      have hle := hs.out.le (len - (j + 1)) (j + 1) (by omega)
      obtain ⟨u, hu⟩ : ∃ u, us j = u := ⟨_, rfl⟩
      rw [hu] at sg HNX
      have hle2 : N j + (1 + 1 + 1 + 1 + 1 + 1 + 1 + 1 + 1 + 1 + 1 + 1 + 1 + 1 + 1 + 1) ≤ N len := by have := HNX.out; unfold DnSeg.len at this; omega
      obtain ⟨n, hn⟩ : ∃ n, n = N j := ⟨_, rfl⟩
      rw [← hn] at sg HM HNX hle2
      have HN : Hid (n = N j) := hn
      obtain ⟨o, ho⟩ : ∃ o, o = off + j * 24 := ⟨_, rfl⟩
      rw [← ho] at sg
      have HO : Hid (o = off + j * 24) := ho
      have SG : Hid (DnSeg w TL n g o u) := sg
      have SG : Hid (DnSeg wr TL n g o u) := SG.out.later HI.out
      have HH : Hid (Held wr TL K) := hH.out.later HI.out
      clear sg hu hn ho hle
      have hMl : M ≤ 39999990 := by have := HM.out; omega
      have i0 : (0 : Int) ≤ (j : Int) := by omega
      have i1 : (j : Int) < (len : Int) := by omega
      have hc0 : wr.cell? ⟨g, off + j * 24, none⟩ = some (.int .i64 ((M : Int))) := by have h := HH.out.int SG.out.p0 (z := (M : Int)) (by have := HM.out; omega); rw [HO.out] at h; exact h
      have hc1 : wr.cell? ⟨g, off + j * 24 + 1, none⟩ = some (.bool (((M : Int) + 1) % 3 == 0)) := by have h := HH.out.bool SG.out.p1 (k := ((M : Int) + 1).toNat) (by have := HM.out; omega); rw [HO.out] at h; rw [h]; exact congrArg some (vkB (by omega)).symm
      have hc2 : wr.cell? ⟨g, off + j * 24 + 2, none⟩ = some (.int .i64 ((M : Int) + 1 + 1)) := by have h := HH.out.int SG.out.p2 (z := (M : Int) + 1 + 1) (by have := HM.out; omega); rw [HO.out] at h; exact h
      have hc3 : wr.cell? ⟨g, off + j * 24 + 3, none⟩ = some (.int .i64 ((M : Int) + 1 + 1 + 1)) := by have h := HH.out.int SG.out.p3 (z := (M : Int) + 1 + 1 + 1) (by have := HM.out; omega); rw [HO.out] at h; exact h
      have hc : wr.cell? ⟨g, off + j * 24 + 4, none⟩ = some (.slice none 0 0) := by have h := SG.out.h4; rw [HO.out] at h; exact h
      go_wp2_with fail
      clear hc hc0 hc1 hc2 hc3
      refine (heldi_nil ((M : Int) + 1 + 1 + 1 + 1) (K + (n + 1 + 1 + 1 + 1)) _ (by have := HM.out; omega)).mono ?_
      rintro e w5 ⟨M5, rfl, hm, b⟩
      have HM : Hid (M5 = K + (n + 1 + 1 + 1 + 1)) := hm
      have HH : Hid (Held w5 TL K) := HH.out.later b
      have SG : Hid (DnSeg w5 TL n g o u) := SG.out.later b
      have HI : Hid (Below w.heap.size w w5) := bl_next HI.out b
      have hMl : M5 ≤ 39999990 := by omega
      have hM0 : decide ((M5 : Int) < 0) = false := by simp
      clear hm b
      have hc : w5.cell? ⟨g, off + j * 24 + 5, none⟩ = some (.slice none 0 0) := by have h := SG.out.h5; rw [HO.out] at h; exact h
      go_wp2_with fail
      clear hc 
      refine (helditems_nil ((M5 : Int)) (K + (n + 1 + 1 + 1 + 1)) _ (by have := HM.out; omega)).mono ?_
      rintro e w6 ⟨M6, rfl, hm, b⟩
      have HM : Hid (M6 = K + (n + 1 + 1 + 1 + 1)) := hm
      have HH : Hid (Held w6 TL K) := HH.out.later b
      have SG : Hid (DnSeg w6 TL n g o u) := SG.out.later b
      have HI : Hid (Below w.heap.size w w6) := bl_next HI.out b
      have hMl : M6 ≤ 39999990 := by omega
      have hM0 : decide ((M6 : Int) < 0) = false := by simp
      clear hm b
      have hc : w6.cell? ⟨g, off + j * 24 + 6, none⟩ = some (.slice none 0 0) := by have h := SG.out.h6; rw [HO.out] at h; exact h
      go_wp2_with fail
      clear hc 
      refine (heldi_nil ((M6 : Int)) (K + (n + 1 + 1 + 1 + 1)) _ (by have := HM.out; omega)).mono ?_
      rintro e w7 ⟨M7, rfl, hm, b⟩
      have HM : Hid (M7 = K + (n + 1 + 1 + 1 + 1)) := hm
      have HH : Hid (Held w7 TL K) := HH.out.later b
      have SG : Hid (DnSeg w7 TL n g o u) := SG.out.later b
      have HI : Hid (Below w.heap.size w w7) := bl_next HI.out b
      have hMl : M7 ≤ 39999990 := by omega
      have hM0 : decide ((M7 : Int) < 0) = false := by simp
      clear hm b
      have hc : w7.cell? ⟨g, off + j * 24 + 7, none⟩ = some (.slice none 0 0) := by have h := SG.out.h7; rw [HO.out] at h; exact h
      go_wp2_with fail
      clear hc 
      refine (helds_nil ((M7 : Int)) (K + (n + 1 + 1 + 1 + 1)) _ (by have := HM.out; omega)).mono ?_
      rintro e w8 ⟨M8, rfl, hm, b⟩
      have HM : Hid (M8 = K + (n + 1 + 1 + 1 + 1)) := hm
      have HH : Hid (Held w8 TL K) := HH.out.later b
      have SG : Hid (DnSeg w8 TL n g o u) := SG.out.later b
      have HI : Hid (Below w.heap.size w w8) := bl_next HI.out b
      have hMl : M8 ≤ 39999990 := by omega
      have hM0 : decide ((M8 : Int) < 0) = false := by simp
      clear hm b
      have hc8 : w8.cell? ⟨g, off + j * 24 + 8, none⟩ = some (.int .i64 ((M8 : Int))) := by have h := HH.out.int SG.out.p8 (z := (M8 : Int)) (by have := HM.out; omega); rw [HO.out] at h; exact h
      have hc9 : w8.cell? ⟨g, off + j * 24 + 9, none⟩ = some (.int .i64 ((M8 : Int) + 1)) := by have h := HH.out.int SG.out.p9 (z := (M8 : Int) + 1) (by have := HM.out; omega); rw [HO.out] at h; exact h
      have hc10 : w8.cell? ⟨g, off + j * 24 + 10, none⟩ = some (.int .i64 ((M8 : Int) + 1 + 1)) := by have h := HH.out.int SG.out.p10 (z := (M8 : Int) + 1 + 1) (by have := HM.out; omega); rw [HO.out] at h; exact h
      have hc11 : w8.cell? ⟨g, off + j * 24 + 11, none⟩ = some (.int .i64 ((M8 : Int) + 1 + 1 + 1)) := by have h := HH.out.int SG.out.p11 (z := (M8 : Int) + 1 + 1 + 1) (by have := HM.out; omega); rw [HO.out] at h; exact h
      have hc12 : w8.cell? ⟨g, off + j * 24 + 12, none⟩ = some (.int .i64 ((M8 : Int) + 1 + 1 + 1 + 1)) := by have h := HH.out.int SG.out.p12 (z := (M8 : Int) + 1 + 1 + 1 + 1) (by have := HM.out; omega); rw [HO.out] at h; exact h
      have hc13 : w8.cell? ⟨g, off + j * 24 + 13, none⟩ = some (.int .i64 ((M8 : Int) + 1 + 1 + 1 + 1 + 1)) := by have h := HH.out.int SG.out.p13 (z := (M8 : Int) + 1 + 1 + 1 + 1 + 1) (by have := HM.out; omega); rw [HO.out] at h; exact h
      have hc14 : w8.cell? ⟨g, off + j * 24 + 14, none⟩ = some (.int .i64 ((M8 : Int) + 1 + 1 + 1 + 1 + 1 + 1)) := by have h := HH.out.int SG.out.p14 (z := (M8 : Int) + 1 + 1 + 1 + 1 + 1 + 1) (by have := HM.out; omega); rw [HO.out] at h; exact h
      have hc15 : w8.cell? ⟨g, off + j * 24 + 15, none⟩ = some (.int .i64 ((M8 : Int) + 1 + 1 + 1 + 1 + 1 + 1 + 1)) := by have h := HH.out.int SG.out.p15 (z := (M8 : Int) + 1 + 1 + 1 + 1 + 1 + 1 + 1) (by have := HM.out; omega); rw [HO.out] at h; exact h
      have hc16 : w8.cell? ⟨g, off + j * 24 + 16, none⟩ = some (.int .i64 ((M8 : Int) + 1 + 1 + 1 + 1 + 1 + 1 + 1 + 1)) := by have h := HH.out.int SG.out.p16 (z := (M8 : Int) + 1 + 1 + 1 + 1 + 1 + 1 + 1 + 1) (by have := HM.out; omega); rw [HO.out] at h; exact h
      have hc : w8.cell? ⟨g, off + j * 24 + 17, none⟩ = some (.slice none 0 0) := by have h := SG.out.h17; rw [HO.out] at h; exact h
      go_wp2_with fail
      clear hc hc8 hc9 hc10 hc11 hc12 hc13 hc14 hc15 hc16
      refine (heldi_nil ((M8 : Int) + 1 + 1 + 1 + 1 + 1 + 1 + 1 + 1 + 1) (K + (n + 1 + 1 + 1 + 1 + 1 + 1 + 1 + 1 + 1 + 1 + 1 + 1 + 1)) _ (by have := HM.out; omega)).mono ?_
      rintro e w18 ⟨M18, rfl, hm, b⟩
      have HM : Hid (M18 = K + (n + 1 + 1 + 1 + 1 + 1 + 1 + 1 + 1 + 1 + 1 + 1 + 1 + 1)) := hm
      have HH : Hid (Held w18 TL K) := HH.out.later b
      have SG : Hid (DnSeg w18 TL n g o u) := SG.out.later b
      have HI : Hid (Below w.heap.size w w18) := bl_next HI.out b
      have hMl : M18 ≤ 39999990 := by omega
      have hM0 : decide ((M18 : Int) < 0) = false := by simp
      clear hm b
      have hc18 : w18.cell? ⟨g, off + j * 24 + 18, none⟩ = some (.int .i64 ((M18 : Int))) := by have h := HH.out.int SG.out.p18 (z := (M18 : Int)) (by have := HM.out; omega); rw [HO.out] at h; exact h
      have hc19 : w18.cell? ⟨g, off + j * 24 + 19, none⟩ = some (.int .i64 ((M18 : Int) + 1)) := by have h := HH.out.int SG.out.p19 (z := (M18 : Int) + 1) (by have := HM.out; omega); rw [HO.out] at h; exact h
      have hc20 : w18.cell? ⟨g, off + j * 24 + 20, none⟩ = some (.int .i64 ((M18 : Int) + 1 + 1)) := by have h := HH.out.int SG.out.p20 (z := (M18 : Int) + 1 + 1) (by have := HM.out; omega); rw [HO.out] at h; exact h
      have hc : w18.cell? ⟨g, off + j * 24 + 21, none⟩ = some (.slice none 0 0) := by have h := SG.out.h21; rw [HO.out] at h; exact h
      go_wp2_with fail
      clear hc hc18 hc19 hc20
      refine (heldi_nil ((M18 : Int) + 1 + 1 + 1) (K + (n + 1 + 1 + 1 + 1 + 1 + 1 + 1 + 1 + 1 + 1 + 1 + 1 + 1 + 1 + 1 + 1)) _ (by have := HM.out; omega)).mono ?_
      rintro e w22 ⟨M22, rfl, hm, b⟩
      have HM : Hid (M22 = K + (n + 1 + 1 + 1 + 1 + 1 + 1 + 1 + 1 + 1 + 1 + 1 + 1 + 1 + 1 + 1 + 1)) := hm
      have HH : Hid (Held w22 TL K) := HH.out.later b
      have SG : Hid (DnSeg w22 TL n g o u) := SG.out.later b
      have HI : Hid (Below w.heap.size w w22) := bl_next HI.out b
      have hMl : M22 ≤ 39999990 := by omega
      have hM0 : decide ((M22 : Int) < 0) = false := by simp
      clear hm b
      have hc : w22.cell? ⟨g, off + j * 24 + 22, none⟩ = some (.slice none 0 0) := by have h := SG.out.h22; rw [HO.out] at h; exact h
      go_wp2_with fail
      clear hc 
      refine (heldbundles_nil ((M22 : Int)) (K + (n + 1 + 1 + 1 + 1 + 1 + 1 + 1 + 1 + 1 + 1 + 1 + 1 + 1 + 1 + 1 + 1)) _ (by have := HM.out; omega)).mono ?_
      rintro e w23 ⟨M23, rfl, hm, b⟩
      have HM : Hid (M23 = K + (n + 1 + 1 + 1 + 1 + 1 + 1 + 1 + 1 + 1 + 1 + 1 + 1 + 1 + 1 + 1 + 1)) := hm
      have HH : Hid (Held w23 TL K) := HH.out.later b
      have SG : Hid (DnSeg w23 TL n g o u) := SG.out.later b
      have HI : Hid (Below w.heap.size w w23) := bl_next HI.out b
      have hMl : M23 ≤ 39999990 := by omega
      have hM0 : decide ((M23 : Int) < 0) = false := by simp
      clear hm b
      have hc : w23.cell? ⟨g, off + j * 24 + 23, none⟩ = some (.slice none 0 0) := by have h := SG.out.h23; rw [HO.out] at h; exact h
      go_wp2_with fail
      clear hc 
      refine (heldevents_nil ((M23 : Int)) (K + (n + 1 + 1 + 1 + 1 + 1 + 1 + 1 + 1 + 1 + 1 + 1 + 1 + 1 + 1 + 1 + 1)) _ (by have := HM.out; omega)).mono ?_
      rintro e w24 ⟨M24, rfl, hm, b⟩
      have HM : Hid (M24 = K + (n + 1 + 1 + 1 + 1 + 1 + 1 + 1 + 1 + 1 + 1 + 1 + 1 + 1 + 1 + 1 + 1)) := hm
      have HH : Hid (Held w24 TL K) := HH.out.later b
      have SG : Hid (DnSeg w24 TL n g o u) := SG.out.later b
      have HI : Hid (Below w.heap.size w w24) := bl_next HI.out b
      have hMl : M24 ≤ 39999990 := by omega
      have hM0 : decide ((M24 : Int) < 0) = false := by simp
      clear hm b
      go_wp2_with fail
      go_roundw
      case rel =>
        have e : K + N (j + 1) = K + (n + (1 + 1 + 1 + 1 + 1 + 1 + 1 + 1 + 1 + 1 + 1 + 1 + 1 + 1 + 1 + 1)) := by have h1 := HNX.out; unfold DnSeg.len at h1; omega
        exact ⟨j + 1, by omega, by go_num, by have := HM.out; congr 1; omega, HI⟩
      case measure => simp [intOf]; omega
    · obtain rfl : j = len := by omega
      go_wp2_with fail
      go_ret
      exact ⟨M, rfl, HM.out, HI.out⟩
end Go.Proofs.Ytoahljkifikbaaa


