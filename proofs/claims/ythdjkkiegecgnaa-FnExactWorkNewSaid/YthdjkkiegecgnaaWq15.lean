/- Joined texts: CTk2 CTk3 CWc CGst CGmt CGfl CGss CGwk CCtc CLdc. -/
import Derived.Test.YthdjkkiegecgnaaWq13
import Derived.Test.YthdjkkiegecgnaaWq14
import Derived.Test.YthdjkkiegecgnaaWq11
import Derived.Test.YthdjkkiegecgnaaWq5
/- A member takes items in. -/
namespace Go.Proofs.Ythdjkkiegecgnaa
open Go.RowKit Pl
set_option linter.unusedVariables false
set_option linter.unusedSimpArgs false

/-- the member with these items put in. -/
def Mt.putX (m : Mt) (xs : List It) : Mt := ⟨m.id, m.rid, m.ms, putAll m.its xs, m.lv, m.tx, m.rd, m.se, m.li, m.he, m.la⟩
def Mv.setI (u : Mv) (s : Sv) : Mv := ⟨u.ms, s, u.lv, u.tx, u.ws⟩
/-- all but the box g and the row that the items lie in stays. -/
structure TakeK (w : World) (g : Nat) (v u : Value) (w' : World) : Prop where
  os : w'.os = w.os
  tape : w'.tape = w.tape
  output : w'.output = w.output
  size : w.heap.size ≤ w'.heap.size
  block : ∀ k, k < w.heap.size → k ≠ g → v.ownBlock ≠ some k → w'.heap[k]? = w.heap[k]?
  o : u.ownBlock = v.ownBlock ∨ ∃ nb, u.ownBlock = some nb ∧ w.heap.size ≤ nb

end Go.Proofs.Ythdjkkiegecgnaa


/- A member takes items in: what it leaves, whatever its other lists are. -/
namespace Go.Proofs.Ythdjkkiegecgnaa
open Go.RowKit Pl
set_option linter.unusedVariables false
set_option linter.unusedSimpArgs false

end Go.Proofs.Ythdjkkiegecgnaa


/- Slices of ints and texts, wherever in their block they begin; cut in front in a walk. -/
namespace Go.Proofs.Ythdjkkiegecgnaa
open Go.RowKit Pl
set_option linter.unusedVariables false

def SlJ (w : World) (B : Nat) (v : Value) (xs : List Int) : Prop := Sl w 3 1 B v xs.length (xs.map (Value.int .i64))
def SlX (w : World) (B : Nat) (v : Value) (xs : List ByteArray) : Prop := Sl w 9 1 B v xs.length (xs.map Value.string)
section
variable {w w' : World} {B : Nat} {v : Value}
theorem Pl.OwnS.x {xs : List ByteArray} (h : OwnS w B v xs) : SlX w B v xs := by
  have := Sl.ofOwn (w := w) (e := 9) (size := 1) (B := B) (v := v) (n := xs.length) (xs := xs.map Value.string) h
  exact this
theorem SlJ.ri {xs : List Int} (h : SlJ w B v xs) : RI w v xs := by
  obtain ⟨ao, cap, e⟩ := Sl.form h
  refine ⟨ao, cap, e, fun i hi => ?_⟩
  obtain ⟨g, off, cap', hv, hb, hlt, hc, _⟩ := Sl.read h (by omega)
  rw [e] at hv
  simp at hv
  exact ⟨g, off, hv.1, hlt, hc i _ (by simp [hi])⟩
theorem SlX.rt {xs : List ByteArray} (h : SlX w B v xs) : RT w v xs := by
  obtain ⟨ao, cap, e⟩ := Sl.form h
  refine ⟨ao, cap, e, fun i hi => ?_⟩
  obtain ⟨g, off, cap', hv, hb, hlt, hc, _⟩ := Sl.read h (by omega)
  rw [e] at hv
  simp at hv
  exact ⟨g, off, hv.1, hlt, hc i _ (by simp [hi])⟩
theorem Sl.blk {e size n : Nat} {xs : List Value} (h : Sl w e size B v n xs) {k : Nat} (hk : v.ownBlock = some k) : ∃ cs, w.heap[k]? = some (.cells cs e (0, 0)) := by
  rcases h.2 with ⟨rfl, _⟩ | ⟨g, off, cap, cur, rfl, _, hg, _⟩
  · cases hk
  · cases hk; exact ⟨_, hg⟩
theorem Sl.kt {S : Nat → Prop} {e size n : Nat} {xs : List Value} (h : Sl w e size B v n xs) (k : KeepTy S w w') (hS : ¬ S e) : Sl w' e size B v n xs :=
  h.keep fun b hb hlt => k.block b hlt fun cs T' z hc => by
    obtain ⟨cs', hc'⟩ := Sl.blk h hb
    rw [hc'] at hc; simp at hc; rw [← hc.2.1]; exact hS
theorem SlJ.kt {S : Nat → Prop} {xs : List Int} (h : SlJ w B v xs) (k : KeepTy S w w') (hS : ¬ S 3) : SlJ w' B v xs := Sl.kt h k hS
theorem SlX.kt {S : Nat → Prop} {xs : List ByteArray} (h : SlX w B v xs) (k : KeepTy S w w') (hS : ¬ S 9) : SlX w' B v xs := Sl.kt h k hS
theorem SlJ.sv {xs : List Int} (h : SlJ w B v xs) : ∃ s : Sv, v = .slice s.a s.n s.c ∧ s.n = xs.length := by obtain ⟨a, c, h1⟩ := Sl.form h; exact ⟨⟨a, xs.length, c⟩, h1, rfl⟩
theorem SlX.sv {xs : List ByteArray} (h : SlX w B v xs) : ∃ s : Sv, v = .slice s.a s.n s.c ∧ s.n = xs.length := by obtain ⟨a, c, h1⟩ := Sl.form h; exact ⟨⟨a, xs.length, c⟩, h1, rfl⟩
theorem SlJ.below {xs : List Int} (h : SlJ w B v xs) (hb : Below w.heap.size w w') : SlJ w' B v xs := Sl.below h hb
theorem SlX.below {xs : List ByteArray} (h : SlX w B v xs) (hb : Below w.heap.size w w') : SlX w' B v xs := Sl.below h hb
/-- what a member takes in leaves lists of other types. -/
theorem TakeK.kt {g : Nat} {u v : Value} {T : Nat} {cs : List Value} {B' : Nat} {its : List It} (h : TakeK w g u v w') (hB : Bx w g T cs) (hu : SlI w B' u its) : KeepTy (fun X => X = T ∨ X = 38) w w' :=
  ⟨h.os, h.tape, h.output, h.size, fun k hk ht => h.block k hk (fun e => by subst e; exact ht _ T _ hB (.inl rfl)) (fun e => by obtain ⟨c, hc⟩ := own_is_it hu e; exact ht _ 38 _ hc (.inr rfl))⟩
end
section
variable {P : Program} {w : World} {ops : Array Oper} {rest : List Oper} {o : Oper} {a : Act} {Q : Exit → Act → World → Prop}
/-- a walk stops at a store. -/
theorem wpList_haltS (t : TypeId) (x y : Operand) (ho : o.op = .store t x y) (h : Stp (wpList P ops Q (o :: rest) a w)) : wpList P ops Q (o :: rest) a w := h.out
end
end Go.Proofs.Ythdjkkiegecgnaa


/- Marks, one step at a time: a store, a call. Written by gen_gs.py. -/
namespace Go.Proofs.Ythdjkkiegecgnaa
open Go.RowKit Pl
set_option linter.unusedVariables false
set_option linter.unusedSimpArgs false

theorem Try.sizeK3 : (Try.prog.info? 3).map (·.size) = some 1 := by kernel_rfl
theorem Try.sizeK4 : (Try.prog.info? 4).map (·.size) = some 1 := by kernel_rfl
theorem Try.sizeK9 : (Try.prog.info? 9).map (·.size) = some 1 := by kernel_rfl
theorem vkB {z : Int} {k : Nat} (h : z = (k : Int)) : Value.bool (z % 3 == 0) = .bool (decide (k % 3 = 0)) := by
  subst h
  congr 1
  rw [Bool.eq_iff_iff]
  simp
  omega
theorem vk_one (d k : Nat) : (vk d k).oneCell' = true := by
  unfold vk
  split
  · rfl
  · split <;> rfl
section
variable {P : Program} {ops : Array Oper} {rest : List Oper} {o : Oper} {a : Act} {w w0 ws : World} {Q : Exit → Act → World → Prop} {TL : List Spot} {K n g off d : Nat}
/-- the next place is marked by a store. -/
theorem wpList_stK (hgd : o.guard = none) (ty : TypeId) (x y : Operand) (ho : o.op = .store ty x y) (hx : a.eval x = .pointer (some ⟨g, off, none⟩)) (v : Value) (hy : a.eval y = v) (hi : (P.info? ty).map (·.size) = some 1)
    (hT : TLok w0 TL) (hI : MkI w0 ws TL K n w) (hs : TL[n]? = some (g, off, d)) (hv : v = vk d (K + n)) (h : ∀ w', MkI w0 ws TL K (n + 1) w' → wpList P ops Q rest (a.put o.dst undef) w') : wpList P ops Q (o :: rest) a w := by
  obtain ⟨⟨u, hc⟩, hf⟩ := hI.next hT hs
  have h1 : v.oneCell' = true := by rw [hv]; exact vk_one _ _
  have hr : (Instr.storeAt ty (.pointer (some ⟨g, off, none⟩)) v).run P w = .ok () (w.setCell ⟨g, off, none⟩ v) := by
    have hcs : v.cells = #[v] := by cases v <;> first | rfl | (simp [Value.oneCell'] at h1)
    cases hq : P.info? ty with
    | none => simp [hq] at hi
    | some i =>
      have hs : i.size = 1 := by simpa [hq] using hi
      have ha : (⟨g, off, none⟩ : Addr).add 0 = ⟨g, off, none⟩ := by unfold Addr.add; split <;> simp_all
      have hst := run_store P w ⟨g, off, none⟩ v .plain h1
      rw [hc, hf] at hst
      simp [Instr.storeAt, Instr.sureAddr, storeVar, sizeOf, typeInfo, hq, hs, hcs, storeCells, ha]
      simpa using hst
  exact wpList_plain hgd fun K hK => by
    unfold Oper.wp execOp
    simp only [ho, hx, hy, Sem.run_bind, hr, Result.andThen_ok, Sem.run_pure]
    exact hK _ _ (h _ (hI.stepV hT hs hv))
end
theorem MkI.cell {w0 ws w : World} {TL : List Spot} {K n g o : Nat} {v : Value} (h : MkI w0 ws TL K n w) (hg : g < w0.heap.size) (hn : ∀ s ∈ TL, ¬ (s.1 = g ∧ s.2.1 = o)) (hc : w0.cell? ⟨g, o, none⟩ = some v) : w.cell? ⟨g, o, none⟩ = some v := (h.cells g o hg hn).trans hc
theorem Held.int {w : World} {TL : List Spot} {K i g o : Nat} {z : Int} (h : Held w TL K) (hs : TL[i]? = some (g, o, 0)) (hz : z = ((K + i : Nat) : Int)) : w.cell? ⟨g, o, none⟩ = some (.int .i64 z) := (h i _ hs).2.trans (congrArg some (vkI hz).symm)
theorem Held.text {w : World} {TL : List Spot} {K i g o k : Nat} (h : Held w TL K) (hs : TL[i]? = some (g, o, 2)) (hz : k = K + i) : w.cell? ⟨g, o, none⟩ = some (.string (markS k)) := by subst hz; exact (h i _ hs).2
theorem Held.bool {w : World} {TL : List Spot} {K i g o k : Nat} (h : Held w TL K) (hs : TL[i]? = some (g, o, 1)) (hz : k = K + i) : w.cell? ⟨g, o, none⟩ = some (.bool (decide (k % 3 = 0))) := by subst hz; exact (h i _ hs).2
theorem markI_z (w0 : World) (TL : List Spot) (K n : Nat) (ao : Option Addr) (len cap : Nat) (z : Int) (w : World) (hT : Hid (TLok w0 TL)) (hI : Hid (MkI w0 w TL K n w)) (hs : Seg TL n ao len [0]) (hz : z = ((K + n : Nat) : Int)) (hl : K + n + len ≤ 4999990) :
    Calls Try.prog 89 #[.slice ao len cap, .int .i64 z] w fun e w' => ∃ M : Nat, e = .returned (.int .i64 (M : Int)) ∧ M = K + (n + len) ∧ MkI w0 w TL K (n + len) w' := by
  subst hz
  refine (markI_sp w0 TL K n ao len cap w hT hI hs hl).mono ?_
  rintro e w' ⟨rfl, h⟩
  exact ⟨K + n + len, rfl, by omega, h⟩
theorem markItems_z (w0 : World) (TL : List Spot) (K n : Nat) (ao : Option Addr) (len cap : Nat) (z : Int) (w : World) (hT : Hid (TLok w0 TL)) (hI : Hid (MkI w0 w TL K n w)) (hs : Seg TL n ao len [0, 0, 0, 2]) (hz : z = ((K + n : Nat) : Int)) (hl : K + n + 4 * len ≤ 4999990) (hK : 0 < K) :
    Calls Try.prog 93 #[.slice ao len cap, .int .i64 z] w fun e w' => ∃ M : Nat, e = .returned (.int .i64 (M : Int)) ∧ M = K + (n + 4 * len) ∧ MkI w0 w TL K (n + 4 * len) w' := by
  subst hz
  refine (markItems_sp w0 TL K n ao len cap w hT hI hs hl hK).mono ?_
  rintro e w' ⟨rfl, h⟩
  exact ⟨K + n + 4 * len, rfl, by omega, h⟩
theorem markSt_z (w0 : World) (TL : List Spot) (K n : Nat) (ao : Option Addr) (len cap : Nat) (z : Int) (w : World) (hT : Hid (TLok w0 TL)) (hI : Hid (MkI w0 w TL K n w)) (hs : Seg TL n ao len [2]) (hz : z = ((K + n : Nat) : Int)) (hl : K + n + len ≤ 4999990) (hK : 0 < K) :
    Calls Try.prog 142 #[.slice ao len cap, .int .i64 z] w fun e w' => ∃ M : Nat, e = .returned (.int .i64 (M : Int)) ∧ M = K + (n + len) ∧ MkI w0 w TL K (n + len) w' := by
  subst hz
  refine (markSt_sp w0 TL K n ao len cap w hT hI hs hl hK).mono ?_
  rintro e w' ⟨rfl, h⟩
  exact ⟨K + n + len, rfl, by omega, h⟩
theorem heldI_z (TL : List Spot) (K n : Nat) (ao : Option Addr) (len cap : Nat) (z : Int) (w : World) (hH : Hid (Held w TL K)) (hs : Seg TL n ao len [0]) (hz : z = ((K + n : Nat) : Int)) (hl : K + n + len ≤ 4999990) :
    Calls Try.prog 144 #[.slice ao len cap, .int .i64 z] w fun e w' => ∃ M : Nat, e = .returned (.int .i64 (M : Int)) ∧ M = K + (n + len) ∧ Below w.heap.size w w' := by
  subst hz
  refine (heldI_sp TL K n ao len cap w hH hs hl).mono ?_
  rintro e w' ⟨rfl, h⟩
  exact ⟨K + n + len, rfl, by omega, by subst h; exact Below.refl _ _⟩
theorem heldItems_z (TL : List Spot) (K n : Nat) (ao : Option Addr) (len cap : Nat) (z : Int) (w : World) (hH : Hid (Held w TL K)) (hs : Seg TL n ao len [0, 0, 0, 2]) (hz : z = ((K + n : Nat) : Int)) (hl : K + n + 4 * len ≤ 4999990) (hK : 0 < K) :
    Calls Try.prog 98 #[.slice ao len cap, .int .i64 z] w fun e w' => ∃ M : Nat, e = .returned (.int .i64 (M : Int)) ∧ M = K + (n + 4 * len) ∧ Below w.heap.size w w' := by
  subst hz
  refine (heldItems_sp TL K n ao len cap w hH hs hl hK).mono ?_
  rintro e w' ⟨rfl, h⟩
  exact ⟨K + n + 4 * len, rfl, by omega, h⟩
theorem heldSt_z (TL : List Spot) (K n : Nat) (ao : Option Addr) (len cap : Nat) (z : Int) (w : World) (hH : Hid (Held w TL K)) (hs : Seg TL n ao len [2]) (hz : z = ((K + n : Nat) : Int)) (hl : K + n + len ≤ 4999990) (hK : 0 < K) :
    Calls Try.prog 145 #[.slice ao len cap, .int .i64 z] w fun e w' => ∃ M : Nat, e = .returned (.int .i64 (M : Int)) ∧ M = K + (n + len) ∧ Below w.heap.size w w' := by
  subst hz
  refine (heldSt_sp TL K n ao len cap w hH hs hl hK).mono ?_
  rintro e w' ⟨rfl, h⟩
  exact ⟨K + n + len, rfl, by omega, h⟩
end Go.Proofs.Ythdjkkiegecgnaa


/- Lists of members: marked, and looked at again. Written by gen_gs.py. -/
namespace Go.Proofs.Ythdjkkiegecgnaa
open Go.RowKit Pl
set_option linter.unusedVariables false
set_option linter.unusedSimpArgs false

/-- where the places of one lie. -/
structure MtSeg (w : World) (TL : List Spot) (n g o : Nat) (u : Mv) : Prop where
  gl : g < w.heap.size
  p0 : TL[n]? = some (g, o, 0)
  p1 : TL[n + 1]? = some (g, o + 1, 0)
  h2 : w.cell? ⟨g, o + 2, none⟩ = some (.slice u.ms.a u.ms.n u.ms.c)
  q2 : ∀ s ∈ TL, ¬ (s.1 = g ∧ s.2.1 = o + 2)
  s2 : Seg TL (n + 1 + 1) u.ms.a u.ms.n [0]
  h3 : w.cell? ⟨g, o + 3, none⟩ = some (.slice u.its.a u.its.n u.its.c)
  q3 : ∀ s ∈ TL, ¬ (s.1 = g ∧ s.2.1 = o + 3)
  s3 : Seg TL (n + 1 + 1 + u.ms.n) u.its.a u.its.n [0, 0, 0, 2]
  h4 : w.cell? ⟨g, o + 4, none⟩ = some (.slice u.lv.a u.lv.n u.lv.c)
  q4 : ∀ s ∈ TL, ¬ (s.1 = g ∧ s.2.1 = o + 4)
  s4 : Seg TL (n + 1 + 1 + u.ms.n + 4 * u.its.n) u.lv.a u.lv.n [0]
  h5 : w.cell? ⟨g, o + 5, none⟩ = some (.slice u.tx.a u.tx.n u.tx.c)
  q5 : ∀ s ∈ TL, ¬ (s.1 = g ∧ s.2.1 = o + 5)
  s5 : Seg TL (n + 1 + 1 + u.ms.n + 4 * u.its.n + u.lv.n) u.tx.a u.tx.n [2]
  p6 : TL[n + 1 + 1 + u.ms.n + 4 * u.its.n + u.lv.n + u.tx.n]? = some (g, o + 6, 0)
  p7 : TL[n + 1 + 1 + u.ms.n + 4 * u.its.n + u.lv.n + u.tx.n + 1]? = some (g, o + 7, 0)
  p8 : TL[n + 1 + 1 + u.ms.n + 4 * u.its.n + u.lv.n + u.tx.n + 1 + 1]? = some (g, o + 8, 0)
  p9 : TL[n + 1 + 1 + u.ms.n + 4 * u.its.n + u.lv.n + u.tx.n + 1 + 1 + 1]? = some (g, o + 9, 0)
  p10 : TL[n + 1 + 1 + u.ms.n + 4 * u.its.n + u.lv.n + u.tx.n + 1 + 1 + 1 + 1]? = some (g, o + 10, 0)
  p11 : TL[n + 1 + 1 + u.ms.n + 4 * u.its.n + u.lv.n + u.tx.n + 1 + 1 + 1 + 1 + 1]? = some (g, o + 11, 0)
  p12 : TL[n + 1 + 1 + u.ms.n + 4 * u.its.n + u.lv.n + u.tx.n + 1 + 1 + 1 + 1 + 1 + 1]? = some (g, o + 12, 0)
  p13 : TL[n + 1 + 1 + u.ms.n + 4 * u.its.n + u.lv.n + u.tx.n + 1 + 1 + 1 + 1 + 1 + 1 + 1]? = some (g, o + 13, 0)
  p14 : TL[n + 1 + 1 + u.ms.n + 4 * u.its.n + u.lv.n + u.tx.n + 1 + 1 + 1 + 1 + 1 + 1 + 1 + 1]? = some (g, o + 14, 0)
  h15 : w.cell? ⟨g, o + 15, none⟩ = some (.slice u.ws.a u.ws.n u.ws.c)
  q15 : ∀ s ∈ TL, ¬ (s.1 = g ∧ s.2.1 = o + 15)
  s15 : Seg TL (n + 1 + 1 + u.ms.n + 4 * u.its.n + u.lv.n + u.tx.n + 1 + 1 + 1 + 1 + 1 + 1 + 1 + 1 + 1) u.ws.a u.ws.n [0]
def MtSeg.len (u : Mv) : Nat := 1 + 1 + u.ms.n + 4 * u.its.n + u.lv.n + u.tx.n + 1 + 1 + 1 + 1 + 1 + 1 + 1 + 1 + 1 + u.ws.n
theorem MtSeg.marked {w0 ws w : World} {TL : List Spot} {n g o K m : Nat} {u : Mv} (h : MtSeg w0 TL n g o u) (k : MkI w0 ws TL K m w) : MtSeg w TL n g o u :=
  { h with gl := by have := h.gl; have := k.size; omega, h2 := k.cell h.gl h.q2 h.h2, h3 := k.cell h.gl h.q3 h.h3, h4 := k.cell h.gl h.q4 h.h4, h5 := k.cell h.gl h.q5 h.h5, h15 := k.cell h.gl h.q15 h.h15 }
theorem MtSeg.later {w w' : World} {TL : List Spot} {n g o : Nat} {u : Mv} (h : MtSeg w TL n g o u) (b : Below w.heap.size w w') : MtSeg w' TL n g o u :=
  { h with gl := by have := h.gl; have := b.size; omega, h2 := (cell_block (b.block _ h.gl)).trans h.h2, h3 := (cell_block (b.block _ h.gl)).trans h.h3, h4 := (cell_block (b.block _ h.gl)).trans h.h4, h5 := (cell_block (b.block _ h.gl)).trans h.h5, h15 := (cell_block (b.block _ h.gl)).trans h.h15 }
/-- .. and of a list of them. -/
structure MtSegL (w : World) (TL : List Spot) (ao : Option Addr) (len : Nat) (us : Nat → Mv) (N : Nat → Nat) : Prop where
  one : ∀ j, j < len → ∃ g off, ao = some ⟨g, off, none⟩ ∧ MtSeg w TL (N j) g (off + j * 16) (us j)
  nx : ∀ j, j < len → N (j + 1) = N j + MtSeg.len (us j)
theorem MtSegL.marked {w0 ws w : World} {TL : List Spot} {ao : Option Addr} {len K m : Nat} {us : Nat → Mv} {N : Nat → Nat} (h : MtSegL w0 TL ao len us N) (k : MkI w0 ws TL K m w) : MtSegL w TL ao len us N := ⟨fun j hj => by obtain ⟨g, off, e, x⟩ := h.one j hj; exact ⟨g, off, e, x.marked k⟩, h.nx⟩
theorem MtSegL.later {w w' : World} {TL : List Spot} {ao : Option Addr} {len : Nat} {us : Nat → Mv} {N : Nat → Nat} (h : MtSegL w TL ao len us N) (b : Below w.heap.size w w') : MtSegL w' TL ao len us N := ⟨fun j hj => by obtain ⟨g, off, e, x⟩ := h.one j hj; exact ⟨g, off, e, x.later b⟩, h.nx⟩
theorem MtSegL.le {w : World} {TL : List Spot} {ao : Option Addr} {len : Nat} {us : Nat → Mv} {N : Nat → Nat} (h : MtSegL w TL ao len us N) : ∀ (d j : Nat), j + d = len → N j ≤ N len
  | 0, j, e => by rw [show j = len by omega]; exact Nat.le_refl _
  | d + 1, j, e => by
    have h1 := h.nx j (by omega)
    have h2 := h.le d (j + 1) (by omega)
    omega
set_option maxRecDepth 100000 in
set_option maxHeartbeats 16000000 in
theorem markmates_sp (w0 : World) (TL : List Spot) (K : Nat) (ao : Option Addr) (len cap : Nat) (us : Nat → Mv) (N : Nat → Nat) (z : Int) (w : World) (hT : Hid (TLok w0 TL)) (hI : Hid (MkI w0 w TL K (N 0) w)) (hs : Hid (MtSegL w0 TL ao len us N)) (hz : Hid (z = ((K + N 0 : Nat) : Int))) (hl : K + N len ≤ 4999990) (hll : len ≤ 4999990) (hK : 0 < K) :
    Calls Try.prog 90 #[.slice ao len cap, .int .i64 z] w fun e w' => ∃ M : Nat, e = .returned (.int .i64 (M : Int)) ∧ M = K + N len ∧ MkI w0 w TL K (N len) w' := by
  obtain ⟨M0, hM0⟩ : ∃ M : Nat, M = K + N 0 := ⟨_, rfl⟩
  have e0 : z = (M0 : Int) := by have := hz.out; omega
  subst e0
  have HM0 : Hid (M0 = K + N 0) := hM0
  clear hM0 hz
  go_enter Try.func90, Try.ntmps90
  go_wp2_with fail
  go_loopw [1, 5] (fun kk i wr => ∃ (j : Nat), j ≤ len ∧ i = .int .i64 (j : Int) ∧ kk = .int .i64 ((K + N j : Nat) : Int) ∧ Hid (MkI w0 w TL K (N j) wr)) (fun _ i _ => len - (intOf i).toNat)
  case atStart => exact ⟨0, by omega, rfl, by have := HM0.out; congr 1; omega, hI⟩
  case round =>
    obtain ⟨j, hj, rfl, rfl, HI⟩ := hrel
    obtain ⟨M, hM⟩ : ∃ M : Nat, M = K + N j := ⟨_, rfl⟩
    rw [← hM]
    have HM : Hid (M = K + N j) := hM
    clear hM
    by_cases hlt : j < len
    · obtain ⟨g, off, rfl, sg⟩ := hs.out.one j hlt
      have HNX : Hid _ := hs.out.nx j hlt
      have hle := hs.out.le (len - (j + 1)) (j + 1) (by omega)
      obtain ⟨u, hu⟩ : ∃ u, us j = u := ⟨_, rfl⟩
      rw [hu] at sg HNX
      have hle2 : N j + (1 + 1 + u.ms.n + 4 * u.its.n + u.lv.n + u.tx.n + 1 + 1 + 1 + 1 + 1 + 1 + 1 + 1 + 1 + u.ws.n) ≤ N len := by have := HNX.out; unfold MtSeg.len at this; omega
      obtain ⟨n, hn⟩ : ∃ n, n = N j := ⟨_, rfl⟩
      rw [← hn] at sg HM HNX hle2 HI
      have HN : Hid (n = N j) := hn
      obtain ⟨o, ho⟩ : ∃ o, o = off + j * 16 := ⟨_, rfl⟩
      rw [← ho] at sg
      have HO : Hid (o = off + j * 16) := ho
      have SG : Hid (MtSeg w0 TL n g o u) := sg
      clear sg hu hn ho hle
      have hMl : M ≤ 4999990 := by have := HM.out; omega
      have i0 : (0 : Int) ≤ (j : Int) := by omega
      have i1 : (j : Int) < (len : Int) := by omega
      have sp : TL[n]? = some (g, off + j * 16, 0) := by have h := SG.out.p0; rw [HO.out] at h; exact h
      have SP : Hid _ := sp
      clear sp
      go_wp2_with (first | (refine wpList_haltS 3 _ _ rfl ?_))
      refine Stp.go ?_
      refine wpList_stK rfl 3 _ _ rfl rfl _ rfl Try.sizeK3 hT.out HI.out SP.out (vkI (by have := HM.out; omega)) ?_
      intro w1 hi
      have HI : Hid (MkI w0 w TL K (n + 1) w1) := hi
      clear hi SP
      have sp : TL[n + 1]? = some (g, off + j * 16 + 1, 0) := by have h := SG.out.p1; rw [HO.out] at h; exact h
      have SP : Hid _ := sp
      clear sp
      go_wp2_with (first | (refine wpList_haltS 3 _ _ rfl ?_))
      refine Stp.go ?_
      refine wpList_stK rfl 3 _ _ rfl rfl _ rfl Try.sizeK3 hT.out HI.out SP.out (vkI (by have := HM.out; omega)) ?_
      intro w2 hi
      have HI : Hid (MkI w0 w TL K (n + 1 + 1) w2) := hi
      clear hi SP
      have hc : w2.cell? ⟨g, off + j * 16 + 2, none⟩ = some (.slice u.ms.a u.ms.n u.ms.c) := by have h := HI.out.cell SG.out.gl SG.out.q2 SG.out.h2; rw [HO.out] at h; exact h
      go_wp2_with fail
      clear hc
      refine (markI_z w0 TL K (n + 1 + 1) u.ms.a u.ms.n u.ms.c ((M : Int) + 1 + 1) _ hT HI.out.anchor SG.out.s2 (by have := HM.out; omega) (by omega)).mono ?_
      rintro e w3 ⟨M3, rfl, hm, hi⟩
      have HM : Hid (M3 = K + (n + 1 + 1 + u.ms.n)) := hm
      have HI : Hid (MkI w0 w TL K (n + 1 + 1 + u.ms.n) w3) := HI.out.back hi
      have hMl : M3 ≤ 4999990 := by omega
      clear hm hi
      have hc : w3.cell? ⟨g, off + j * 16 + 3, none⟩ = some (.slice u.its.a u.its.n u.its.c) := by have h := HI.out.cell SG.out.gl SG.out.q3 SG.out.h3; rw [HO.out] at h; exact h
      go_wp2_with fail
      clear hc
      refine (markItems_z w0 TL K (n + 1 + 1 + u.ms.n) u.its.a u.its.n u.its.c ((M3 : Int)) _ hT HI.out.anchor SG.out.s3 (by have := HM.out; omega) (by omega) hK).mono ?_
      rintro e w4 ⟨M4, rfl, hm, hi⟩
      have HM : Hid (M4 = K + (n + 1 + 1 + u.ms.n + 4 * u.its.n)) := hm
      have HI : Hid (MkI w0 w TL K (n + 1 + 1 + u.ms.n + 4 * u.its.n) w4) := HI.out.back hi
      have hMl : M4 ≤ 4999990 := by omega
      clear hm hi
      have hc : w4.cell? ⟨g, off + j * 16 + 4, none⟩ = some (.slice u.lv.a u.lv.n u.lv.c) := by have h := HI.out.cell SG.out.gl SG.out.q4 SG.out.h4; rw [HO.out] at h; exact h
      go_wp2_with fail
      clear hc
      refine (markI_z w0 TL K (n + 1 + 1 + u.ms.n + 4 * u.its.n) u.lv.a u.lv.n u.lv.c ((M4 : Int)) _ hT HI.out.anchor SG.out.s4 (by have := HM.out; omega) (by omega)).mono ?_
      rintro e w5 ⟨M5, rfl, hm, hi⟩
      have HM : Hid (M5 = K + (n + 1 + 1 + u.ms.n + 4 * u.its.n + u.lv.n)) := hm
      have HI : Hid (MkI w0 w TL K (n + 1 + 1 + u.ms.n + 4 * u.its.n + u.lv.n) w5) := HI.out.back hi
      have hMl : M5 ≤ 4999990 := by omega
      clear hm hi
      have hc : w5.cell? ⟨g, off + j * 16 + 5, none⟩ = some (.slice u.tx.a u.tx.n u.tx.c) := by have h := HI.out.cell SG.out.gl SG.out.q5 SG.out.h5; rw [HO.out] at h; exact h
      go_wp2_with fail
      clear hc
      refine (markSt_z w0 TL K (n + 1 + 1 + u.ms.n + 4 * u.its.n + u.lv.n) u.tx.a u.tx.n u.tx.c ((M5 : Int)) _ hT HI.out.anchor SG.out.s5 (by have := HM.out; omega) (by omega) hK).mono ?_
      rintro e w6 ⟨M6, rfl, hm, hi⟩
      have HM : Hid (M6 = K + (n + 1 + 1 + u.ms.n + 4 * u.its.n + u.lv.n + u.tx.n)) := hm
      have HI : Hid (MkI w0 w TL K (n + 1 + 1 + u.ms.n + 4 * u.its.n + u.lv.n + u.tx.n) w6) := HI.out.back hi
      have hMl : M6 ≤ 4999990 := by omega
      clear hm hi
      have sp : TL[n + 1 + 1 + u.ms.n + 4 * u.its.n + u.lv.n + u.tx.n]? = some (g, off + j * 16 + 6, 0) := by have h := SG.out.p6; rw [HO.out] at h; exact h
      have SP : Hid _ := sp
      clear sp
      go_wp2_with (first | (refine wpList_haltS 3 _ _ rfl ?_))
      refine Stp.go ?_
      refine wpList_stK rfl 3 _ _ rfl rfl _ rfl Try.sizeK3 hT.out HI.out SP.out (vkI (by have := HM.out; omega)) ?_
      intro w7 hi
      have HI : Hid (MkI w0 w TL K (n + 1 + 1 + u.ms.n + 4 * u.its.n + u.lv.n + u.tx.n + 1) w7) := hi
      clear hi SP
      have sp : TL[n + 1 + 1 + u.ms.n + 4 * u.its.n + u.lv.n + u.tx.n + 1]? = some (g, off + j * 16 + 7, 0) := by have h := SG.out.p7; rw [HO.out] at h; exact h
      have SP : Hid _ := sp
      clear sp
      go_wp2_with (first | (refine wpList_haltS 3 _ _ rfl ?_))
      refine Stp.go ?_
      refine wpList_stK rfl 3 _ _ rfl rfl _ rfl Try.sizeK3 hT.out HI.out SP.out (vkI (by have := HM.out; omega)) ?_
      intro w8 hi
      have HI : Hid (MkI w0 w TL K (n + 1 + 1 + u.ms.n + 4 * u.its.n + u.lv.n + u.tx.n + 1 + 1) w8) := hi
      clear hi SP
      have sp : TL[n + 1 + 1 + u.ms.n + 4 * u.its.n + u.lv.n + u.tx.n + 1 + 1]? = some (g, off + j * 16 + 8, 0) := by have h := SG.out.p8; rw [HO.out] at h; exact h
      have SP : Hid _ := sp
      clear sp
      go_wp2_with (first | (refine wpList_haltS 3 _ _ rfl ?_))
      refine Stp.go ?_
      refine wpList_stK rfl 3 _ _ rfl rfl _ rfl Try.sizeK3 hT.out HI.out SP.out (vkI (by have := HM.out; omega)) ?_
      intro w9 hi
      have HI : Hid (MkI w0 w TL K (n + 1 + 1 + u.ms.n + 4 * u.its.n + u.lv.n + u.tx.n + 1 + 1 + 1) w9) := hi
      clear hi SP
      have sp : TL[n + 1 + 1 + u.ms.n + 4 * u.its.n + u.lv.n + u.tx.n + 1 + 1 + 1]? = some (g, off + j * 16 + 9, 0) := by have h := SG.out.p9; rw [HO.out] at h; exact h
      have SP : Hid _ := sp
      clear sp
      go_wp2_with (first | (refine wpList_haltS 3 _ _ rfl ?_))
      refine Stp.go ?_
      refine wpList_stK rfl 3 _ _ rfl rfl _ rfl Try.sizeK3 hT.out HI.out SP.out (vkI (by have := HM.out; omega)) ?_
      intro w10 hi
      have HI : Hid (MkI w0 w TL K (n + 1 + 1 + u.ms.n + 4 * u.its.n + u.lv.n + u.tx.n + 1 + 1 + 1 + 1) w10) := hi
      clear hi SP
      have sp : TL[n + 1 + 1 + u.ms.n + 4 * u.its.n + u.lv.n + u.tx.n + 1 + 1 + 1 + 1]? = some (g, off + j * 16 + 10, 0) := by have h := SG.out.p10; rw [HO.out] at h; exact h
      have SP : Hid _ := sp
      clear sp
      go_wp2_with (first | (refine wpList_haltS 3 _ _ rfl ?_))
      refine Stp.go ?_
      refine wpList_stK rfl 3 _ _ rfl rfl _ rfl Try.sizeK3 hT.out HI.out SP.out (vkI (by have := HM.out; omega)) ?_
      intro w11 hi
      have HI : Hid (MkI w0 w TL K (n + 1 + 1 + u.ms.n + 4 * u.its.n + u.lv.n + u.tx.n + 1 + 1 + 1 + 1 + 1) w11) := hi
      clear hi SP
      have sp : TL[n + 1 + 1 + u.ms.n + 4 * u.its.n + u.lv.n + u.tx.n + 1 + 1 + 1 + 1 + 1]? = some (g, off + j * 16 + 11, 0) := by have h := SG.out.p11; rw [HO.out] at h; exact h
      have SP : Hid _ := sp
      clear sp
      go_wp2_with (first | (refine wpList_haltS 3 _ _ rfl ?_))
      refine Stp.go ?_
      refine wpList_stK rfl 3 _ _ rfl rfl _ rfl Try.sizeK3 hT.out HI.out SP.out (vkI (by have := HM.out; omega)) ?_
      intro w12 hi
      have HI : Hid (MkI w0 w TL K (n + 1 + 1 + u.ms.n + 4 * u.its.n + u.lv.n + u.tx.n + 1 + 1 + 1 + 1 + 1 + 1) w12) := hi
      clear hi SP
      have sp : TL[n + 1 + 1 + u.ms.n + 4 * u.its.n + u.lv.n + u.tx.n + 1 + 1 + 1 + 1 + 1 + 1]? = some (g, off + j * 16 + 12, 0) := by have h := SG.out.p12; rw [HO.out] at h; exact h
      have SP : Hid _ := sp
      clear sp
      go_wp2_with (first | (refine wpList_haltS 3 _ _ rfl ?_))
      refine Stp.go ?_
      refine wpList_stK rfl 3 _ _ rfl rfl _ rfl Try.sizeK3 hT.out HI.out SP.out (vkI (by have := HM.out; omega)) ?_
      intro w13 hi
      have HI : Hid (MkI w0 w TL K (n + 1 + 1 + u.ms.n + 4 * u.its.n + u.lv.n + u.tx.n + 1 + 1 + 1 + 1 + 1 + 1 + 1) w13) := hi
      clear hi SP
      have sp : TL[n + 1 + 1 + u.ms.n + 4 * u.its.n + u.lv.n + u.tx.n + 1 + 1 + 1 + 1 + 1 + 1 + 1]? = some (g, off + j * 16 + 13, 0) := by have h := SG.out.p13; rw [HO.out] at h; exact h
      have SP : Hid _ := sp
      clear sp
      go_wp2_with (first | (refine wpList_haltS 3 _ _ rfl ?_))
      refine Stp.go ?_
      refine wpList_stK rfl 3 _ _ rfl rfl _ rfl Try.sizeK3 hT.out HI.out SP.out (vkI (by have := HM.out; omega)) ?_
      intro w14 hi
      have HI : Hid (MkI w0 w TL K (n + 1 + 1 + u.ms.n + 4 * u.its.n + u.lv.n + u.tx.n + 1 + 1 + 1 + 1 + 1 + 1 + 1 + 1) w14) := hi
      clear hi SP
      have sp : TL[n + 1 + 1 + u.ms.n + 4 * u.its.n + u.lv.n + u.tx.n + 1 + 1 + 1 + 1 + 1 + 1 + 1 + 1]? = some (g, off + j * 16 + 14, 0) := by have h := SG.out.p14; rw [HO.out] at h; exact h
      have SP : Hid _ := sp
      clear sp
      go_wp2_with (first | (refine wpList_haltS 3 _ _ rfl ?_))
      refine Stp.go ?_
      refine wpList_stK rfl 3 _ _ rfl rfl _ rfl Try.sizeK3 hT.out HI.out SP.out (vkI (by have := HM.out; omega)) ?_
      intro w15 hi
      have HI : Hid (MkI w0 w TL K (n + 1 + 1 + u.ms.n + 4 * u.its.n + u.lv.n + u.tx.n + 1 + 1 + 1 + 1 + 1 + 1 + 1 + 1 + 1) w15) := hi
      clear hi SP
      have hc : w15.cell? ⟨g, off + j * 16 + 15, none⟩ = some (.slice u.ws.a u.ws.n u.ws.c) := by have h := HI.out.cell SG.out.gl SG.out.q15 SG.out.h15; rw [HO.out] at h; exact h
      go_wp2_with fail
      clear hc
      refine (markI_z w0 TL K (n + 1 + 1 + u.ms.n + 4 * u.its.n + u.lv.n + u.tx.n + 1 + 1 + 1 + 1 + 1 + 1 + 1 + 1 + 1) u.ws.a u.ws.n u.ws.c ((M6 : Int) + 1 + 1 + 1 + 1 + 1 + 1 + 1 + 1 + 1) _ hT HI.out.anchor SG.out.s15 (by have := HM.out; omega) (by omega)).mono ?_
      rintro e w16 ⟨M16, rfl, hm, hi⟩
      have HM : Hid (M16 = K + (n + 1 + 1 + u.ms.n + 4 * u.its.n + u.lv.n + u.tx.n + 1 + 1 + 1 + 1 + 1 + 1 + 1 + 1 + 1 + u.ws.n)) := hm
      have HI : Hid (MkI w0 w TL K (n + 1 + 1 + u.ms.n + 4 * u.its.n + u.lv.n + u.tx.n + 1 + 1 + 1 + 1 + 1 + 1 + 1 + 1 + 1 + u.ws.n) w16) := HI.out.back hi
      have hMl : M16 ≤ 4999990 := by omega
      clear hm hi
      go_wp2_with fail
      go_roundw
      case rel =>
        have e : K + N (j + 1) = K + (n + (1 + 1 + u.ms.n + 4 * u.its.n + u.lv.n + u.tx.n + 1 + 1 + 1 + 1 + 1 + 1 + 1 + 1 + 1 + u.ws.n)) := by have h1 := HNX.out; unfold MtSeg.len at h1; omega
        refine ⟨j + 1, by omega, by go_num, by have := HM.out; congr 1; omega, ?_⟩
        have h := HI.out
        rw [show N (j + 1) = n + 1 + 1 + u.ms.n + 4 * u.its.n + u.lv.n + u.tx.n + 1 + 1 + 1 + 1 + 1 + 1 + 1 + 1 + 1 + u.ws.n by omega]
        exact h
      case measure => simp [intOf]; omega
    · obtain rfl : j = len := by omega
      go_wp2_with fail
      go_ret
      exact ⟨M, rfl, HM.out, HI.out⟩
set_option maxRecDepth 100000 in
set_option maxHeartbeats 16000000 in
theorem heldmates_sp (TL : List Spot) (K : Nat) (ao : Option Addr) (len cap : Nat) (us : Nat → Mv) (N : Nat → Nat) (z : Int) (w : World) (hH : Hid (Held w TL K)) (hs : Hid (MtSegL w TL ao len us N)) (hz : Hid (z = ((K + N 0 : Nat) : Int))) (hl : K + N len ≤ 4999990) (hll : len ≤ 4999990) (hK : 0 < K) :
    Calls Try.prog 95 #[.slice ao len cap, .int .i64 z] w fun e w' => ∃ M : Nat, e = .returned (.int .i64 (M : Int)) ∧ M = K + N len ∧ Below w.heap.size w w' := by
  obtain ⟨M0, hM0⟩ : ∃ M : Nat, M = K + N 0 := ⟨_, rfl⟩
  have e0 : z = (M0 : Int) := by have := hz.out; omega
  subst e0
  have HM0 : Hid (M0 = K + N 0) := hM0
  clear hM0 hz
  go_enter Try.func95, Try.ntmps95
  go_wp2_with fail
  go_loopw [1, 5] (fun kk i wr => ∃ (j : Nat), j ≤ len ∧ i = .int .i64 (j : Int) ∧ kk = .int .i64 ((K + N j : Nat) : Int) ∧ Hid (Below w.heap.size w wr)) (fun _ i _ => len - (intOf i).toNat)
  case atStart => exact ⟨0, by omega, rfl, by have := HM0.out; congr 1; omega, Below.refl _ _⟩
  case round =>
    obtain ⟨j, hj, rfl, rfl, HI⟩ := hrel
    obtain ⟨M, hM⟩ : ∃ M : Nat, M = K + N j := ⟨_, rfl⟩
    rw [← hM]
    have HM : Hid (M = K + N j) := hM
    clear hM
    by_cases hlt : j < len
    · obtain ⟨g, off, rfl, sg⟩ := hs.out.one j hlt
      have HNX : Hid _ := hs.out.nx j hlt
      have hle := hs.out.le (len - (j + 1)) (j + 1) (by omega)
      obtain ⟨u, hu⟩ : ∃ u, us j = u := ⟨_, rfl⟩
      rw [hu] at sg HNX
      have hle2 : N j + (1 + 1 + u.ms.n + 4 * u.its.n + u.lv.n + u.tx.n + 1 + 1 + 1 + 1 + 1 + 1 + 1 + 1 + 1 + u.ws.n) ≤ N len := by have := HNX.out; unfold MtSeg.len at this; omega
      obtain ⟨n, hn⟩ : ∃ n, n = N j := ⟨_, rfl⟩
      rw [← hn] at sg HM HNX hle2
      have HN : Hid (n = N j) := hn
      obtain ⟨o, ho⟩ : ∃ o, o = off + j * 16 := ⟨_, rfl⟩
      rw [← ho] at sg
      have HO : Hid (o = off + j * 16) := ho
      have SG : Hid (MtSeg w TL n g o u) := sg
      have SG : Hid (MtSeg wr TL n g o u) := SG.out.later HI.out
      have HH : Hid (Held wr TL K) := hH.out.later HI.out
      clear sg hu hn ho hle
      have hMl : M ≤ 4999990 := by have := HM.out; omega
      have i0 : (0 : Int) ≤ (j : Int) := by omega
      have i1 : (j : Int) < (len : Int) := by omega
      have hc0 : wr.cell? ⟨g, off + j * 16, none⟩ = some (.int .i64 ((M : Int))) := by have h := HH.out.int SG.out.p0 (z := (M : Int)) (by have := HM.out; omega); rw [HO.out] at h; exact h
      have hc1 : wr.cell? ⟨g, off + j * 16 + 1, none⟩ = some (.int .i64 ((M : Int) + 1)) := by have h := HH.out.int SG.out.p1 (z := (M : Int) + 1) (by have := HM.out; omega); rw [HO.out] at h; exact h
      have hc : wr.cell? ⟨g, off + j * 16 + 2, none⟩ = some (.slice u.ms.a u.ms.n u.ms.c) := by have h := SG.out.h2; rw [HO.out] at h; exact h
      go_wp2_with fail
      clear hc hc0 hc1
      refine (heldI_z TL K (n + 1 + 1) u.ms.a u.ms.n u.ms.c ((M : Int) + 1 + 1) _ HH SG.out.s2 (by have := HM.out; omega) (by omega)).mono ?_
      rintro e w3 ⟨M3, rfl, hm, b⟩
      have HM : Hid (M3 = K + (n + 1 + 1 + u.ms.n)) := hm
      have HH : Hid (Held w3 TL K) := HH.out.later b
      have SG : Hid (MtSeg w3 TL n g o u) := SG.out.later b
      have HI : Hid (Below w.heap.size w w3) := bl_next HI.out b
      have hMl : M3 ≤ 4999990 := by omega
      have hM0 : decide ((M3 : Int) < 0) = false := by simp
      clear hm b
      have hc : w3.cell? ⟨g, off + j * 16 + 3, none⟩ = some (.slice u.its.a u.its.n u.its.c) := by have h := SG.out.h3; rw [HO.out] at h; exact h
      go_wp2_with fail
      clear hc 
      refine (heldItems_z TL K (n + 1 + 1 + u.ms.n) u.its.a u.its.n u.its.c ((M3 : Int)) _ HH SG.out.s3 (by have := HM.out; omega) (by omega) hK).mono ?_
      rintro e w4 ⟨M4, rfl, hm, b⟩
      have HM : Hid (M4 = K + (n + 1 + 1 + u.ms.n + 4 * u.its.n)) := hm
      have HH : Hid (Held w4 TL K) := HH.out.later b
      have SG : Hid (MtSeg w4 TL n g o u) := SG.out.later b
      have HI : Hid (Below w.heap.size w w4) := bl_next HI.out b
      have hMl : M4 ≤ 4999990 := by omega
      have hM0 : decide ((M4 : Int) < 0) = false := by simp
      clear hm b
      have hc : w4.cell? ⟨g, off + j * 16 + 4, none⟩ = some (.slice u.lv.a u.lv.n u.lv.c) := by have h := SG.out.h4; rw [HO.out] at h; exact h
      go_wp2_with fail
      clear hc 
      refine (heldI_z TL K (n + 1 + 1 + u.ms.n + 4 * u.its.n) u.lv.a u.lv.n u.lv.c ((M4 : Int)) _ HH SG.out.s4 (by have := HM.out; omega) (by omega)).mono ?_
      rintro e w5 ⟨M5, rfl, hm, b⟩
      have HM : Hid (M5 = K + (n + 1 + 1 + u.ms.n + 4 * u.its.n + u.lv.n)) := hm
      have HH : Hid (Held w5 TL K) := HH.out.later b
      have SG : Hid (MtSeg w5 TL n g o u) := SG.out.later b
      have HI : Hid (Below w.heap.size w w5) := bl_next HI.out b
      have hMl : M5 ≤ 4999990 := by omega
      have hM0 : decide ((M5 : Int) < 0) = false := by simp
      clear hm b
      have hc : w5.cell? ⟨g, off + j * 16 + 5, none⟩ = some (.slice u.tx.a u.tx.n u.tx.c) := by have h := SG.out.h5; rw [HO.out] at h; exact h
      go_wp2_with fail
      clear hc 
      refine (heldSt_z TL K (n + 1 + 1 + u.ms.n + 4 * u.its.n + u.lv.n) u.tx.a u.tx.n u.tx.c ((M5 : Int)) _ HH SG.out.s5 (by have := HM.out; omega) (by omega) hK).mono ?_
      rintro e w6 ⟨M6, rfl, hm, b⟩
      have HM : Hid (M6 = K + (n + 1 + 1 + u.ms.n + 4 * u.its.n + u.lv.n + u.tx.n)) := hm
      have HH : Hid (Held w6 TL K) := HH.out.later b
      have SG : Hid (MtSeg w6 TL n g o u) := SG.out.later b
      have HI : Hid (Below w.heap.size w w6) := bl_next HI.out b
      have hMl : M6 ≤ 4999990 := by omega
      have hM0 : decide ((M6 : Int) < 0) = false := by simp
      clear hm b
      have hc6 : w6.cell? ⟨g, off + j * 16 + 6, none⟩ = some (.int .i64 ((M6 : Int))) := by have h := HH.out.int SG.out.p6 (z := (M6 : Int)) (by have := HM.out; omega); rw [HO.out] at h; exact h
      have hc7 : w6.cell? ⟨g, off + j * 16 + 7, none⟩ = some (.int .i64 ((M6 : Int) + 1)) := by have h := HH.out.int SG.out.p7 (z := (M6 : Int) + 1) (by have := HM.out; omega); rw [HO.out] at h; exact h
      have hc8 : w6.cell? ⟨g, off + j * 16 + 8, none⟩ = some (.int .i64 ((M6 : Int) + 1 + 1)) := by have h := HH.out.int SG.out.p8 (z := (M6 : Int) + 1 + 1) (by have := HM.out; omega); rw [HO.out] at h; exact h
      have hc9 : w6.cell? ⟨g, off + j * 16 + 9, none⟩ = some (.int .i64 ((M6 : Int) + 1 + 1 + 1)) := by have h := HH.out.int SG.out.p9 (z := (M6 : Int) + 1 + 1 + 1) (by have := HM.out; omega); rw [HO.out] at h; exact h
      have hc10 : w6.cell? ⟨g, off + j * 16 + 10, none⟩ = some (.int .i64 ((M6 : Int) + 1 + 1 + 1 + 1)) := by have h := HH.out.int SG.out.p10 (z := (M6 : Int) + 1 + 1 + 1 + 1) (by have := HM.out; omega); rw [HO.out] at h; exact h
      have hc11 : w6.cell? ⟨g, off + j * 16 + 11, none⟩ = some (.int .i64 ((M6 : Int) + 1 + 1 + 1 + 1 + 1)) := by have h := HH.out.int SG.out.p11 (z := (M6 : Int) + 1 + 1 + 1 + 1 + 1) (by have := HM.out; omega); rw [HO.out] at h; exact h
      have hc12 : w6.cell? ⟨g, off + j * 16 + 12, none⟩ = some (.int .i64 ((M6 : Int) + 1 + 1 + 1 + 1 + 1 + 1)) := by have h := HH.out.int SG.out.p12 (z := (M6 : Int) + 1 + 1 + 1 + 1 + 1 + 1) (by have := HM.out; omega); rw [HO.out] at h; exact h
      have hc13 : w6.cell? ⟨g, off + j * 16 + 13, none⟩ = some (.int .i64 ((M6 : Int) + 1 + 1 + 1 + 1 + 1 + 1 + 1)) := by have h := HH.out.int SG.out.p13 (z := (M6 : Int) + 1 + 1 + 1 + 1 + 1 + 1 + 1) (by have := HM.out; omega); rw [HO.out] at h; exact h
      have hc14 : w6.cell? ⟨g, off + j * 16 + 14, none⟩ = some (.int .i64 ((M6 : Int) + 1 + 1 + 1 + 1 + 1 + 1 + 1 + 1)) := by have h := HH.out.int SG.out.p14 (z := (M6 : Int) + 1 + 1 + 1 + 1 + 1 + 1 + 1 + 1) (by have := HM.out; omega); rw [HO.out] at h; exact h
      have hc : w6.cell? ⟨g, off + j * 16 + 15, none⟩ = some (.slice u.ws.a u.ws.n u.ws.c) := by have h := SG.out.h15; rw [HO.out] at h; exact h
      go_wp2_with fail
      clear hc hc6 hc7 hc8 hc9 hc10 hc11 hc12 hc13 hc14
      refine (heldI_z TL K (n + 1 + 1 + u.ms.n + 4 * u.its.n + u.lv.n + u.tx.n + 1 + 1 + 1 + 1 + 1 + 1 + 1 + 1 + 1) u.ws.a u.ws.n u.ws.c ((M6 : Int) + 1 + 1 + 1 + 1 + 1 + 1 + 1 + 1 + 1) _ HH SG.out.s15 (by have := HM.out; omega) (by omega)).mono ?_
      rintro e w16 ⟨M16, rfl, hm, b⟩
      have HM : Hid (M16 = K + (n + 1 + 1 + u.ms.n + 4 * u.its.n + u.lv.n + u.tx.n + 1 + 1 + 1 + 1 + 1 + 1 + 1 + 1 + 1 + u.ws.n)) := hm
      have HH : Hid (Held w16 TL K) := HH.out.later b
      have SG : Hid (MtSeg w16 TL n g o u) := SG.out.later b
      have HI : Hid (Below w.heap.size w w16) := bl_next HI.out b
      have hMl : M16 ≤ 4999990 := by omega
      have hM0 : decide ((M16 : Int) < 0) = false := by simp
      clear hm b
      go_wp2_with fail
      go_roundw
      case rel =>
        have e : K + N (j + 1) = K + (n + (1 + 1 + u.ms.n + 4 * u.its.n + u.lv.n + u.tx.n + 1 + 1 + 1 + 1 + 1 + 1 + 1 + 1 + 1 + u.ws.n)) := by have h1 := HNX.out; unfold MtSeg.len at h1; omega
        exact ⟨j + 1, by omega, by go_num, by have := HM.out; congr 1; omega, HI⟩
      case measure => simp [intOf]; omega
    · obtain rfl : j = len := by omega
      go_wp2_with fail
      go_ret
      exact ⟨M, rfl, HM.out, HI.out⟩
end Go.Proofs.Ythdjkkiegecgnaa


/- Lists of what is on the way: marked, and looked at again. Written by gen_gs.py. -/
namespace Go.Proofs.Ythdjkkiegecgnaa
open Go.RowKit Pl
set_option linter.unusedVariables false
set_option linter.unusedSimpArgs false

/-- where the places of one lie. -/
structure FlSeg (w : World) (TL : List Spot) (n g o : Nat) (u : Sv) : Prop where
  gl : g < w.heap.size
  p0 : TL[n]? = some (g, o, 0)
  p1 : TL[n + 1]? = some (g, o + 1, 1)
  p2 : TL[n + 1 + 1]? = some (g, o + 2, 0)
  p3 : TL[n + 1 + 1 + 1]? = some (g, o + 3, 0)
  p4 : TL[n + 1 + 1 + 1 + 1]? = some (g, o + 4, 0)
  p5 : TL[n + 1 + 1 + 1 + 1 + 1]? = some (g, o + 5, 0)
  p6 : TL[n + 1 + 1 + 1 + 1 + 1 + 1]? = some (g, o + 6, 0)
  h7 : w.cell? ⟨g, o + 7, none⟩ = some (.slice u.a u.n u.c)
  q7 : ∀ s ∈ TL, ¬ (s.1 = g ∧ s.2.1 = o + 7)
  s7 : Seg TL (n + 1 + 1 + 1 + 1 + 1 + 1 + 1) u.a u.n [0]
  p8 : TL[n + 1 + 1 + 1 + 1 + 1 + 1 + 1 + u.n]? = some (g, o + 8, 0)
  p9 : TL[n + 1 + 1 + 1 + 1 + 1 + 1 + 1 + u.n + 1]? = some (g, o + 9, 0)
  p10 : TL[n + 1 + 1 + 1 + 1 + 1 + 1 + 1 + u.n + 1 + 1]? = some (g, o + 10, 0)
  p11 : TL[n + 1 + 1 + 1 + 1 + 1 + 1 + 1 + u.n + 1 + 1 + 1]? = some (g, o + 11, 2)
def FlSeg.len (u : Sv) : Nat := 1 + 1 + 1 + 1 + 1 + 1 + 1 + u.n + 1 + 1 + 1 + 1
theorem FlSeg.marked {w0 ws w : World} {TL : List Spot} {n g o K m : Nat} {u : Sv} (h : FlSeg w0 TL n g o u) (k : MkI w0 ws TL K m w) : FlSeg w TL n g o u :=
  { h with gl := by have := h.gl; have := k.size; omega, h7 := k.cell h.gl h.q7 h.h7 }
theorem FlSeg.later {w w' : World} {TL : List Spot} {n g o : Nat} {u : Sv} (h : FlSeg w TL n g o u) (b : Below w.heap.size w w') : FlSeg w' TL n g o u :=
  { h with gl := by have := h.gl; have := b.size; omega, h7 := (cell_block (b.block _ h.gl)).trans h.h7 }
/-- .. and of a list of them. -/
structure FlSegL (w : World) (TL : List Spot) (ao : Option Addr) (len : Nat) (us : Nat → Sv) (N : Nat → Nat) : Prop where
  one : ∀ j, j < len → ∃ g off, ao = some ⟨g, off, none⟩ ∧ FlSeg w TL (N j) g (off + j * 12) (us j)
  nx : ∀ j, j < len → N (j + 1) = N j + FlSeg.len (us j)
theorem FlSegL.marked {w0 ws w : World} {TL : List Spot} {ao : Option Addr} {len K m : Nat} {us : Nat → Sv} {N : Nat → Nat} (h : FlSegL w0 TL ao len us N) (k : MkI w0 ws TL K m w) : FlSegL w TL ao len us N := ⟨fun j hj => by obtain ⟨g, off, e, x⟩ := h.one j hj; exact ⟨g, off, e, x.marked k⟩, h.nx⟩
theorem FlSegL.later {w w' : World} {TL : List Spot} {ao : Option Addr} {len : Nat} {us : Nat → Sv} {N : Nat → Nat} (h : FlSegL w TL ao len us N) (b : Below w.heap.size w w') : FlSegL w' TL ao len us N := ⟨fun j hj => by obtain ⟨g, off, e, x⟩ := h.one j hj; exact ⟨g, off, e, x.later b⟩, h.nx⟩
theorem FlSegL.le {w : World} {TL : List Spot} {ao : Option Addr} {len : Nat} {us : Nat → Sv} {N : Nat → Nat} (h : FlSegL w TL ao len us N) : ∀ (d j : Nat), j + d = len → N j ≤ N len
  | 0, j, e => by rw [show j = len by omega]; exact Nat.le_refl _
  | d + 1, j, e => by
    have h1 := h.nx j (by omega)
    have h2 := h.le d (j + 1) (by omega)
    omega
set_option maxRecDepth 100000 in
set_option maxHeartbeats 16000000 in
theorem markflys_sp (w0 : World) (TL : List Spot) (K : Nat) (ao : Option Addr) (len cap : Nat) (us : Nat → Sv) (N : Nat → Nat) (z : Int) (w : World) (hT : Hid (TLok w0 TL)) (hI : Hid (MkI w0 w TL K (N 0) w)) (hs : Hid (FlSegL w0 TL ao len us N)) (hz : Hid (z = ((K + N 0 : Nat) : Int))) (hl : K + N len ≤ 4999990) (hll : len ≤ 4999990) (hK : 0 < K) :
    Calls Try.prog 91 #[.slice ao len cap, .int .i64 z] w fun e w' => ∃ M : Nat, e = .returned (.int .i64 (M : Int)) ∧ M = K + N len ∧ MkI w0 w TL K (N len) w' := by
  obtain ⟨M0, hM0⟩ : ∃ M : Nat, M = K + N 0 := ⟨_, rfl⟩
  have e0 : z = (M0 : Int) := by have := hz.out; omega
  subst e0
  have HM0 : Hid (M0 = K + N 0) := hM0
  clear hM0 hz
  go_enter Try.func91, Try.ntmps91
  go_wp2_with fail
  go_loopw [1, 5] (fun kk i wr => ∃ (j : Nat), j ≤ len ∧ i = .int .i64 (j : Int) ∧ kk = .int .i64 ((K + N j : Nat) : Int) ∧ Hid (MkI w0 w TL K (N j) wr)) (fun _ i _ => len - (intOf i).toNat)
  case atStart => exact ⟨0, by omega, rfl, by have := HM0.out; congr 1; omega, hI⟩
  case round =>
    obtain ⟨j, hj, rfl, rfl, HI⟩ := hrel
    obtain ⟨M, hM⟩ : ∃ M : Nat, M = K + N j := ⟨_, rfl⟩
    rw [← hM]
    have HM : Hid (M = K + N j) := hM
    clear hM
    by_cases hlt : j < len
    · obtain ⟨g, off, rfl, sg⟩ := hs.out.one j hlt
      have HNX : Hid _ := hs.out.nx j hlt
      have hle := hs.out.le (len - (j + 1)) (j + 1) (by omega)
      obtain ⟨u, hu⟩ : ∃ u, us j = u := ⟨_, rfl⟩
      rw [hu] at sg HNX
      have hle2 : N j + (1 + 1 + 1 + 1 + 1 + 1 + 1 + u.n + 1 + 1 + 1 + 1) ≤ N len := by have := HNX.out; unfold FlSeg.len at this; omega
      obtain ⟨n, hn⟩ : ∃ n, n = N j := ⟨_, rfl⟩
      rw [← hn] at sg HM HNX hle2 HI
      have HN : Hid (n = N j) := hn
      obtain ⟨o, ho⟩ : ∃ o, o = off + j * 12 := ⟨_, rfl⟩
      rw [← ho] at sg
      have HO : Hid (o = off + j * 12) := ho
      have SG : Hid (FlSeg w0 TL n g o u) := sg
      clear sg hu hn ho hle
      have hMl : M ≤ 4999990 := by have := HM.out; omega
      have i0 : (0 : Int) ≤ (j : Int) := by omega
      have i1 : (j : Int) < (len : Int) := by omega
      have sp : TL[n]? = some (g, off + j * 12, 0) := by have h := SG.out.p0; rw [HO.out] at h; exact h
      have SP : Hid _ := sp
      clear sp
      go_wp2_with (first | (refine wpList_haltS 3 _ _ rfl ?_))
      refine Stp.go ?_
      refine wpList_stK rfl 3 _ _ rfl rfl _ rfl Try.sizeK3 hT.out HI.out SP.out (vkI (by have := HM.out; omega)) ?_
      intro w1 hi
      have HI : Hid (MkI w0 w TL K (n + 1) w1) := hi
      clear hi SP
      have sp : TL[n + 1]? = some (g, off + j * 12 + 1, 1) := by have h := SG.out.p1; rw [HO.out] at h; exact h
      have SP : Hid _ := sp
      clear sp
      go_wp2_with (first | (refine wpList_haltS 4 _ _ rfl ?_))
      refine Stp.go ?_
      refine wpList_stK rfl 4 _ _ rfl rfl _ rfl Try.sizeK4 hT.out HI.out SP.out (by show Value.bool _ = _; exact vkB (by have := HM.out; omega)) ?_
      intro w2 hi
      have HI : Hid (MkI w0 w TL K (n + 1 + 1) w2) := hi
      clear hi SP
      have sp : TL[n + 1 + 1]? = some (g, off + j * 12 + 2, 0) := by have h := SG.out.p2; rw [HO.out] at h; exact h
      have SP : Hid _ := sp
      clear sp
      go_wp2_with (first | (refine wpList_haltS 3 _ _ rfl ?_))
      refine Stp.go ?_
      refine wpList_stK rfl 3 _ _ rfl rfl _ rfl Try.sizeK3 hT.out HI.out SP.out (vkI (by have := HM.out; omega)) ?_
      intro w3 hi
      have HI : Hid (MkI w0 w TL K (n + 1 + 1 + 1) w3) := hi
      clear hi SP
      have sp : TL[n + 1 + 1 + 1]? = some (g, off + j * 12 + 3, 0) := by have h := SG.out.p3; rw [HO.out] at h; exact h
      have SP : Hid _ := sp
      clear sp
      go_wp2_with (first | (refine wpList_haltS 3 _ _ rfl ?_))
      refine Stp.go ?_
      refine wpList_stK rfl 3 _ _ rfl rfl _ rfl Try.sizeK3 hT.out HI.out SP.out (vkI (by have := HM.out; omega)) ?_
      intro w4 hi
      have HI : Hid (MkI w0 w TL K (n + 1 + 1 + 1 + 1) w4) := hi
      clear hi SP
      have sp : TL[n + 1 + 1 + 1 + 1]? = some (g, off + j * 12 + 4, 0) := by have h := SG.out.p4; rw [HO.out] at h; exact h
      have SP : Hid _ := sp
      clear sp
      go_wp2_with (first | (refine wpList_haltS 3 _ _ rfl ?_))
      refine Stp.go ?_
      refine wpList_stK rfl 3 _ _ rfl rfl _ rfl Try.sizeK3 hT.out HI.out SP.out (vkI (by have := HM.out; omega)) ?_
      intro w5 hi
      have HI : Hid (MkI w0 w TL K (n + 1 + 1 + 1 + 1 + 1) w5) := hi
      clear hi SP
      have sp : TL[n + 1 + 1 + 1 + 1 + 1]? = some (g, off + j * 12 + 5, 0) := by have h := SG.out.p5; rw [HO.out] at h; exact h
      have SP : Hid _ := sp
      clear sp
      go_wp2_with (first | (refine wpList_haltS 3 _ _ rfl ?_))
      refine Stp.go ?_
      refine wpList_stK rfl 3 _ _ rfl rfl _ rfl Try.sizeK3 hT.out HI.out SP.out (vkI (by have := HM.out; omega)) ?_
      intro w6 hi
      have HI : Hid (MkI w0 w TL K (n + 1 + 1 + 1 + 1 + 1 + 1) w6) := hi
      clear hi SP
      have sp : TL[n + 1 + 1 + 1 + 1 + 1 + 1]? = some (g, off + j * 12 + 6, 0) := by have h := SG.out.p6; rw [HO.out] at h; exact h
      have SP : Hid _ := sp
      clear sp
      go_wp2_with (first | (refine wpList_haltS 3 _ _ rfl ?_))
      refine Stp.go ?_
      refine wpList_stK rfl 3 _ _ rfl rfl _ rfl Try.sizeK3 hT.out HI.out SP.out (vkI (by have := HM.out; omega)) ?_
      intro w7 hi
      have HI : Hid (MkI w0 w TL K (n + 1 + 1 + 1 + 1 + 1 + 1 + 1) w7) := hi
      clear hi SP
      have hc : w7.cell? ⟨g, off + j * 12 + 7, none⟩ = some (.slice u.a u.n u.c) := by have h := HI.out.cell SG.out.gl SG.out.q7 SG.out.h7; rw [HO.out] at h; exact h
      go_wp2_with fail
      clear hc
      refine (markI_z w0 TL K (n + 1 + 1 + 1 + 1 + 1 + 1 + 1) u.a u.n u.c ((M : Int) + 1 + 1 + 1 + 1 + 1 + 1 + 1) _ hT HI.out.anchor SG.out.s7 (by have := HM.out; omega) (by omega)).mono ?_
      rintro e w8 ⟨M8, rfl, hm, hi⟩
      have HM : Hid (M8 = K + (n + 1 + 1 + 1 + 1 + 1 + 1 + 1 + u.n)) := hm
      have HI : Hid (MkI w0 w TL K (n + 1 + 1 + 1 + 1 + 1 + 1 + 1 + u.n) w8) := HI.out.back hi
      have hMl : M8 ≤ 4999990 := by omega
      clear hm hi
      have sp : TL[n + 1 + 1 + 1 + 1 + 1 + 1 + 1 + u.n]? = some (g, off + j * 12 + 8, 0) := by have h := SG.out.p8; rw [HO.out] at h; exact h
      have SP : Hid _ := sp
      clear sp
      go_wp2_with (first | (refine wpList_haltS 3 _ _ rfl ?_))
      refine Stp.go ?_
      refine wpList_stK rfl 3 _ _ rfl rfl _ rfl Try.sizeK3 hT.out HI.out SP.out (vkI (by have := HM.out; omega)) ?_
      intro w9 hi
      have HI : Hid (MkI w0 w TL K (n + 1 + 1 + 1 + 1 + 1 + 1 + 1 + u.n + 1) w9) := hi
      clear hi SP
      have sp : TL[n + 1 + 1 + 1 + 1 + 1 + 1 + 1 + u.n + 1]? = some (g, off + j * 12 + 9, 0) := by have h := SG.out.p9; rw [HO.out] at h; exact h
      have SP : Hid _ := sp
      clear sp
      go_wp2_with (first | (refine wpList_haltS 3 _ _ rfl ?_))
      refine Stp.go ?_
      refine wpList_stK rfl 3 _ _ rfl rfl _ rfl Try.sizeK3 hT.out HI.out SP.out (vkI (by have := HM.out; omega)) ?_
      intro w10 hi
      have HI : Hid (MkI w0 w TL K (n + 1 + 1 + 1 + 1 + 1 + 1 + 1 + u.n + 1 + 1) w10) := hi
      clear hi SP
      have sp : TL[n + 1 + 1 + 1 + 1 + 1 + 1 + 1 + u.n + 1 + 1]? = some (g, off + j * 12 + 10, 0) := by have h := SG.out.p10; rw [HO.out] at h; exact h
      have SP : Hid _ := sp
      clear sp
      go_wp2_with (first | (refine wpList_haltS 3 _ _ rfl ?_))
      refine Stp.go ?_
      refine wpList_stK rfl 3 _ _ rfl rfl _ rfl Try.sizeK3 hT.out HI.out SP.out (vkI (by have := HM.out; omega)) ?_
      intro w11 hi
      have HI : Hid (MkI w0 w TL K (n + 1 + 1 + 1 + 1 + 1 + 1 + 1 + u.n + 1 + 1 + 1) w11) := hi
      clear hi SP
      go_wp2_with fail
      refine (mark_at ((M8 : Int) + 1 + 1 + 1) w11 (by omega) (by omega)).mono ?_
      rintro e w12 ⟨rfl, b⟩
      have HI : Hid (MkI w0 w TL K (n + 1 + 1 + 1 + 1 + 1 + 1 + 1 + u.n + 1 + 1 + 1) w12) := HI.out.later hT.out b
      clear b
      have sp : TL[n + 1 + 1 + 1 + 1 + 1 + 1 + 1 + u.n + 1 + 1 + 1]? = some (g, off + j * 12 + 11, 2) := by have h := SG.out.p11; rw [HO.out] at h; exact h
      have SP : Hid _ := sp
      clear sp
      go_wp2_with (first | (refine wpList_haltS 9 _ _ rfl ?_))
      refine Stp.go ?_
      refine wpList_stK rfl 9 _ _ rfl rfl _ rfl Try.sizeK9 hT.out HI.out SP.out (by show Value.string _ = _; rw [vk2]; congr 2; have := HM.out; omega) ?_
      intro x12 hi
      have HI : Hid (MkI w0 w TL K (n + 1 + 1 + 1 + 1 + 1 + 1 + 1 + u.n + 1 + 1 + 1 + 1) x12) := hi
      clear hi SP
      go_wp2_with fail
      go_roundw
      case rel =>
        have e : K + N (j + 1) = K + (n + (1 + 1 + 1 + 1 + 1 + 1 + 1 + u.n + 1 + 1 + 1 + 1)) := by have h1 := HNX.out; unfold FlSeg.len at h1; omega
        refine ⟨j + 1, by omega, by go_num, by have := HM.out; congr 1; omega, ?_⟩
        have h := HI.out
        rw [show N (j + 1) = n + 1 + 1 + 1 + 1 + 1 + 1 + 1 + u.n + 1 + 1 + 1 + 1 by omega]
        exact h
      case measure => simp [intOf]; omega
    · obtain rfl : j = len := by omega
      go_wp2_with fail
      go_ret
      exact ⟨M, rfl, HM.out, HI.out⟩
set_option maxRecDepth 100000 in
set_option maxHeartbeats 16000000 in
theorem heldflys_sp (TL : List Spot) (K : Nat) (ao : Option Addr) (len cap : Nat) (us : Nat → Sv) (N : Nat → Nat) (z : Int) (w : World) (hH : Hid (Held w TL K)) (hs : Hid (FlSegL w TL ao len us N)) (hz : Hid (z = ((K + N 0 : Nat) : Int))) (hl : K + N len ≤ 4999990) (hll : len ≤ 4999990) (hK : 0 < K) :
    Calls Try.prog 96 #[.slice ao len cap, .int .i64 z] w fun e w' => ∃ M : Nat, e = .returned (.int .i64 (M : Int)) ∧ M = K + N len ∧ Below w.heap.size w w' := by
  obtain ⟨M0, hM0⟩ : ∃ M : Nat, M = K + N 0 := ⟨_, rfl⟩
  have e0 : z = (M0 : Int) := by have := hz.out; omega
  subst e0
  have HM0 : Hid (M0 = K + N 0) := hM0
  clear hM0 hz
  go_enter Try.func96, Try.ntmps96
  go_wp2_with fail
  go_loopw [1, 5] (fun kk i wr => ∃ (j : Nat), j ≤ len ∧ i = .int .i64 (j : Int) ∧ kk = .int .i64 ((K + N j : Nat) : Int) ∧ Hid (Below w.heap.size w wr)) (fun _ i _ => len - (intOf i).toNat)
  case atStart => exact ⟨0, by omega, rfl, by have := HM0.out; congr 1; omega, Below.refl _ _⟩
  case round =>
    obtain ⟨j, hj, rfl, rfl, HI⟩ := hrel
    obtain ⟨M, hM⟩ : ∃ M : Nat, M = K + N j := ⟨_, rfl⟩
    rw [← hM]
    have HM : Hid (M = K + N j) := hM
    clear hM
    by_cases hlt : j < len
    · obtain ⟨g, off, rfl, sg⟩ := hs.out.one j hlt
      have HNX : Hid _ := hs.out.nx j hlt
      have hle := hs.out.le (len - (j + 1)) (j + 1) (by omega)
      obtain ⟨u, hu⟩ : ∃ u, us j = u := ⟨_, rfl⟩
      rw [hu] at sg HNX
      have hle2 : N j + (1 + 1 + 1 + 1 + 1 + 1 + 1 + u.n + 1 + 1 + 1 + 1) ≤ N len := by have := HNX.out; unfold FlSeg.len at this; omega
      obtain ⟨n, hn⟩ : ∃ n, n = N j := ⟨_, rfl⟩
      rw [← hn] at sg HM HNX hle2
      have HN : Hid (n = N j) := hn
      obtain ⟨o, ho⟩ : ∃ o, o = off + j * 12 := ⟨_, rfl⟩
      rw [← ho] at sg
      have HO : Hid (o = off + j * 12) := ho
      have SG : Hid (FlSeg w TL n g o u) := sg
      have SG : Hid (FlSeg wr TL n g o u) := SG.out.later HI.out
      have HH : Hid (Held wr TL K) := hH.out.later HI.out
      clear sg hu hn ho hle
      have hMl : M ≤ 4999990 := by have := HM.out; omega
      have i0 : (0 : Int) ≤ (j : Int) := by omega
      have i1 : (j : Int) < (len : Int) := by omega
      have hc0 : wr.cell? ⟨g, off + j * 12, none⟩ = some (.int .i64 ((M : Int))) := by have h := HH.out.int SG.out.p0 (z := (M : Int)) (by have := HM.out; omega); rw [HO.out] at h; exact h
      have hc1 : wr.cell? ⟨g, off + j * 12 + 1, none⟩ = some (.bool (((M : Int) + 1) % 3 == 0)) := by have h := HH.out.bool SG.out.p1 (k := ((M : Int) + 1).toNat) (by have := HM.out; omega); rw [HO.out] at h; rw [h]; exact congrArg some (vkB (by omega)).symm
      have hc2 : wr.cell? ⟨g, off + j * 12 + 2, none⟩ = some (.int .i64 ((M : Int) + 1 + 1)) := by have h := HH.out.int SG.out.p2 (z := (M : Int) + 1 + 1) (by have := HM.out; omega); rw [HO.out] at h; exact h
      have hc3 : wr.cell? ⟨g, off + j * 12 + 3, none⟩ = some (.int .i64 ((M : Int) + 1 + 1 + 1)) := by have h := HH.out.int SG.out.p3 (z := (M : Int) + 1 + 1 + 1) (by have := HM.out; omega); rw [HO.out] at h; exact h
      have hc4 : wr.cell? ⟨g, off + j * 12 + 4, none⟩ = some (.int .i64 ((M : Int) + 1 + 1 + 1 + 1)) := by have h := HH.out.int SG.out.p4 (z := (M : Int) + 1 + 1 + 1 + 1) (by have := HM.out; omega); rw [HO.out] at h; exact h
      have hc5 : wr.cell? ⟨g, off + j * 12 + 5, none⟩ = some (.int .i64 ((M : Int) + 1 + 1 + 1 + 1 + 1)) := by have h := HH.out.int SG.out.p5 (z := (M : Int) + 1 + 1 + 1 + 1 + 1) (by have := HM.out; omega); rw [HO.out] at h; exact h
      have hc6 : wr.cell? ⟨g, off + j * 12 + 6, none⟩ = some (.int .i64 ((M : Int) + 1 + 1 + 1 + 1 + 1 + 1)) := by have h := HH.out.int SG.out.p6 (z := (M : Int) + 1 + 1 + 1 + 1 + 1 + 1) (by have := HM.out; omega); rw [HO.out] at h; exact h
      have hc : wr.cell? ⟨g, off + j * 12 + 7, none⟩ = some (.slice u.a u.n u.c) := by have h := SG.out.h7; rw [HO.out] at h; exact h
      go_wp2_with fail
      clear hc hc0 hc1 hc2 hc3 hc4 hc5 hc6
      refine (heldI_z TL K (n + 1 + 1 + 1 + 1 + 1 + 1 + 1) u.a u.n u.c ((M : Int) + 1 + 1 + 1 + 1 + 1 + 1 + 1) _ HH SG.out.s7 (by have := HM.out; omega) (by omega)).mono ?_
      rintro e w8 ⟨M8, rfl, hm, b⟩
      have HM : Hid (M8 = K + (n + 1 + 1 + 1 + 1 + 1 + 1 + 1 + u.n)) := hm
      have HH : Hid (Held w8 TL K) := HH.out.later b
      have SG : Hid (FlSeg w8 TL n g o u) := SG.out.later b
      have HI : Hid (Below w.heap.size w w8) := bl_next HI.out b
      have hMl : M8 ≤ 4999990 := by omega
      have hM0 : decide ((M8 : Int) < 0) = false := by simp
      clear hm b
      have hc8 : w8.cell? ⟨g, off + j * 12 + 8, none⟩ = some (.int .i64 ((M8 : Int))) := by have h := HH.out.int SG.out.p8 (z := (M8 : Int)) (by have := HM.out; omega); rw [HO.out] at h; exact h
      have hc9 : w8.cell? ⟨g, off + j * 12 + 9, none⟩ = some (.int .i64 ((M8 : Int) + 1)) := by have h := HH.out.int SG.out.p9 (z := (M8 : Int) + 1) (by have := HM.out; omega); rw [HO.out] at h; exact h
      have hc10 : w8.cell? ⟨g, off + j * 12 + 10, none⟩ = some (.int .i64 ((M8 : Int) + 1 + 1)) := by have h := HH.out.int SG.out.p10 (z := (M8 : Int) + 1 + 1) (by have := HM.out; omega); rw [HO.out] at h; exact h
      have hMk : 0 < (M8 : Int) + 1 + 1 + 1 ∧ (M8 : Int) + 1 + 1 + 1 ≤ 5000000 := by have := HM.out; omega
      have HTX : Hid (w8.cell? ⟨g, off + j * 12 + 11, none⟩ = some (.string (markS ((M8 : Int) + 1 + 1 + 1).toNat))) := (by have h := HH.out.text SG.out.p11 (k := ((M8 : Int) + 1 + 1 + 1).toNat) (by have := HM.out; omega); rw [HO.out] at h; exact h : _ = _)
      have hgl : g < w8.heap.size := SG.out.gl
      go_wp2_with fail
      clear hc8 hc9 hc10
      refine quietC (C := fun w' => Below w8.heap.size w8 w') (by kernel_rfl) (by kernel_rfl) (Below.refl _ _).drew ?_
      go_big_quiet_want
      refine q_val (.slice (some ⟨g, off, none⟩) len cap) (fun w' hw' => by go_simp) ?_
      go_big_quiet_on
      simp only [Act.put, List.setIfInBounds_toArray, List.set_cons_zero, List.set_cons_succ]
      go_big_quiet_want
      refine q_val (.int .i64 ((j : Int))) (fun w' hw' => by go_simp) ?_
      go_big_quiet_on
      simp only [Act.put, List.setIfInBounds_toArray, List.set_cons_zero, List.set_cons_succ]
      go_big_quiet_want
      refine q_val (.pointer (some ⟨g, off + j * 12, none⟩)) (fun w' hw' => by go_simp) ?_
      go_big_quiet_on
      simp only [Act.put, List.setIfInBounds_toArray, List.set_cons_zero, List.set_cons_succ]
      go_big_quiet_want
      refine q_val (.pointer (some ⟨g, off + j * 12 + 8, none⟩)) (fun w' hw' => by go_simp) ?_
      go_big_quiet_on
      simp only [Act.put, List.setIfInBounds_toArray, List.set_cons_zero, List.set_cons_succ]
      go_big_quiet_want
      refine q_val (.pointer (some ⟨g, off + j * 12 + 8 + 3, none⟩)) (fun w' hw' => by go_simp) ?_
      go_big_quiet_on
      simp only [Act.put, List.setIfInBounds_toArray, List.set_cons_zero, List.set_cons_succ]
      go_big_quiet_want
      refine q_val (.string (markS ((M8 : Int) + 1 + 1 + 1).toNat)) (fun w' hw' => by have c0 : w'.cell? ⟨g, off + j * 12 + 8 + 3, none⟩ = some (.string (markS ((M8 : Int) + 1 + 1 + 1).toNat)) := (hw'.cell (p := ⟨g, off + j * 12 + 8 + 3, none⟩) hgl).trans HTX.out; go_simp) ?_
      go_big_quiet_on
      simp only [Act.put, List.setIfInBounds_toArray, List.set_cons_zero, List.set_cons_succ]
      go_big_quiet_want
      refine q_val (.int .i64 ((M8 : Int) + 1 + 1 + 1)) (fun w' hw' => by go_simp) ?_
      go_big_quiet_on
      simp only [Act.put, List.setIfInBounds_toArray, List.set_cons_zero, List.set_cons_succ]
      go_big_quiet_want
      refine q_callB (W := w8) (.string (markS ((M8 : Int) + 1 + 1 + 1).toNat)) 143 #[(.int .i64 ((M8 : Int) + 1 + 1 + 1))] (fun w' hw' => by go_simp) (fun w' hw' => mark_at ((M8 : Int) + 1 + 1 + 1) w' (by omega) (by omega)) ?_
      go_big_quiet_on
      simp only [Act.put, List.setIfInBounds_toArray, List.set_cons_zero, List.set_cons_succ]
      go_big_quiet_want
      refine q_val (.bool false) (fun w' hw' => by go_simp) ?_
      go_big_quiet_on
      simp only [Act.put, List.setIfInBounds_toArray, List.set_cons_zero, List.set_cons_succ]
      refine wpQuiet_nil ?_
      intro w12 b
      have HH : Hid (Held w12 TL K) := HH.out.later b
      have SG : Hid (FlSeg w12 TL n g o u) := SG.out.later b
      have HI : Hid (Below w.heap.size w w12) := bl_next HI.out b
      clear b HTX
      go_wp2_with fail
      go_roundw
      case rel =>
        have e : K + N (j + 1) = K + (n + (1 + 1 + 1 + 1 + 1 + 1 + 1 + u.n + 1 + 1 + 1 + 1)) := by have h1 := HNX.out; unfold FlSeg.len at h1; omega
        exact ⟨j + 1, by omega, by go_num, by have := HM.out; congr 1; omega, HI⟩
      case measure => simp [intOf]; omega
    · obtain rfl : j = len := by omega
      go_wp2_with fail
      go_ret
      exact ⟨M, rfl, HM.out, HI.out⟩
end Go.Proofs.Ythdjkkiegecgnaa


/- Lists of lists of items: marked, and looked at again. Written by gen_gs.py. -/
namespace Go.Proofs.Ythdjkkiegecgnaa
open Go.RowKit Pl
set_option linter.unusedVariables false
set_option linter.unusedSimpArgs false

/-- where the places of one lie. -/
structure SsSeg (w : World) (TL : List Spot) (n g o : Nat) (u : Sv) : Prop where
  gl : g < w.heap.size
  h0 : w.cell? ⟨g, o, none⟩ = some (.slice u.a u.n u.c)
  q0 : ∀ s ∈ TL, ¬ (s.1 = g ∧ s.2.1 = o)
  s0 : Seg TL (n) u.a u.n [0, 0, 0, 2]
def SsSeg.len (u : Sv) : Nat := 4 * u.n
theorem SsSeg.marked {w0 ws w : World} {TL : List Spot} {n g o K m : Nat} {u : Sv} (h : SsSeg w0 TL n g o u) (k : MkI w0 ws TL K m w) : SsSeg w TL n g o u :=
  { h with gl := by have := h.gl; have := k.size; omega, h0 := k.cell h.gl h.q0 h.h0 }
theorem SsSeg.later {w w' : World} {TL : List Spot} {n g o : Nat} {u : Sv} (h : SsSeg w TL n g o u) (b : Below w.heap.size w w') : SsSeg w' TL n g o u :=
  { h with gl := by have := h.gl; have := b.size; omega, h0 := (cell_block (b.block _ h.gl)).trans h.h0 }
/-- .. and of a list of them. -/
structure SsSegL (w : World) (TL : List Spot) (ao : Option Addr) (len : Nat) (us : Nat → Sv) (N : Nat → Nat) : Prop where
  one : ∀ j, j < len → ∃ g off, ao = some ⟨g, off, none⟩ ∧ SsSeg w TL (N j) g (off + j) (us j)
  nx : ∀ j, j < len → N (j + 1) = N j + SsSeg.len (us j)
theorem SsSegL.marked {w0 ws w : World} {TL : List Spot} {ao : Option Addr} {len K m : Nat} {us : Nat → Sv} {N : Nat → Nat} (h : SsSegL w0 TL ao len us N) (k : MkI w0 ws TL K m w) : SsSegL w TL ao len us N := ⟨fun j hj => by obtain ⟨g, off, e, x⟩ := h.one j hj; exact ⟨g, off, e, x.marked k⟩, h.nx⟩
theorem SsSegL.later {w w' : World} {TL : List Spot} {ao : Option Addr} {len : Nat} {us : Nat → Sv} {N : Nat → Nat} (h : SsSegL w TL ao len us N) (b : Below w.heap.size w w') : SsSegL w' TL ao len us N := ⟨fun j hj => by obtain ⟨g, off, e, x⟩ := h.one j hj; exact ⟨g, off, e, x.later b⟩, h.nx⟩
theorem SsSegL.le {w : World} {TL : List Spot} {ao : Option Addr} {len : Nat} {us : Nat → Sv} {N : Nat → Nat} (h : SsSegL w TL ao len us N) : ∀ (d j : Nat), j + d = len → N j ≤ N len
  | 0, j, e => by rw [show j = len by omega]; exact Nat.le_refl _
  | d + 1, j, e => by
    have h1 := h.nx j (by omega)
    have h2 := h.le d (j + 1) (by omega)
    omega
set_option maxRecDepth 100000 in
set_option maxHeartbeats 16000000 in
theorem markss_sp (w0 : World) (TL : List Spot) (K : Nat) (ao : Option Addr) (len cap : Nat) (us : Nat → Sv) (N : Nat → Nat) (z : Int) (w : World) (hT : Hid (TLok w0 TL)) (hI : Hid (MkI w0 w TL K (N 0) w)) (hs : Hid (SsSegL w0 TL ao len us N)) (hz : Hid (z = ((K + N 0 : Nat) : Int))) (hl : K + N len ≤ 4999990) (hll : len ≤ 4999990) (hK : 0 < K) :
    Calls Try.prog 92 #[.slice ao len cap, .int .i64 z] w fun e w' => ∃ M : Nat, e = .returned (.int .i64 (M : Int)) ∧ M = K + N len ∧ MkI w0 w TL K (N len) w' := by
  obtain ⟨M0, hM0⟩ : ∃ M : Nat, M = K + N 0 := ⟨_, rfl⟩
  have e0 : z = (M0 : Int) := by have := hz.out; omega
  subst e0
  have HM0 : Hid (M0 = K + N 0) := hM0
  clear hM0 hz
  go_enter Try.func92, Try.ntmps92
  go_wp2_with fail
  go_loopw [1, 5] (fun kk i wr => ∃ (j : Nat), j ≤ len ∧ i = .int .i64 (j : Int) ∧ kk = .int .i64 ((K + N j : Nat) : Int) ∧ Hid (MkI w0 w TL K (N j) wr)) (fun _ i _ => len - (intOf i).toNat)
  case atStart => exact ⟨0, by omega, rfl, by have := HM0.out; congr 1; omega, hI⟩
  case round =>
    obtain ⟨j, hj, rfl, rfl, HI⟩ := hrel
    obtain ⟨M, hM⟩ : ∃ M : Nat, M = K + N j := ⟨_, rfl⟩
    rw [← hM]
    have HM : Hid (M = K + N j) := hM
    clear hM
    by_cases hlt : j < len
    · obtain ⟨g, off, rfl, sg⟩ := hs.out.one j hlt
      have HNX : Hid _ := hs.out.nx j hlt
      have hle := hs.out.le (len - (j + 1)) (j + 1) (by omega)
      obtain ⟨u, hu⟩ : ∃ u, us j = u := ⟨_, rfl⟩
      rw [hu] at sg HNX
      have hle2 : N j + (4 * u.n) ≤ N len := by have := HNX.out; unfold SsSeg.len at this; omega
      obtain ⟨n, hn⟩ : ∃ n, n = N j := ⟨_, rfl⟩
      rw [← hn] at sg HM HNX hle2 HI
      have HN : Hid (n = N j) := hn
      obtain ⟨o, ho⟩ : ∃ o, o = off + j := ⟨_, rfl⟩
      rw [← ho] at sg
      have HO : Hid (o = off + j) := ho
      have SG : Hid (SsSeg w0 TL n g o u) := sg
      clear sg hu hn ho hle
      have hMl : M ≤ 4999990 := by have := HM.out; omega
      have i0 : (0 : Int) ≤ (j : Int) := by omega
      have i1 : (j : Int) < (len : Int) := by omega
      have hc : wr.cell? ⟨g, off + j, none⟩ = some (.slice u.a u.n u.c) := by have h := HI.out.cell SG.out.gl SG.out.q0 SG.out.h0; rw [HO.out] at h; exact h
      go_wp2_with fail
      clear hc
      refine (markItems_z w0 TL K (n) u.a u.n u.c ((M : Int)) _ hT HI.out.anchor SG.out.s0 (by have := HM.out; omega) (by omega) hK).mono ?_
      rintro e w1 ⟨M1, rfl, hm, hi⟩
      have HM : Hid (M1 = K + (n + 4 * u.n)) := hm
      have HI : Hid (MkI w0 w TL K (n + 4 * u.n) w1) := HI.out.back hi
      have hMl : M1 ≤ 4999990 := by omega
      clear hm hi
      go_wp2_with fail
      go_roundw
      case rel =>
        have e : K + N (j + 1) = K + (n + (4 * u.n)) := by have h1 := HNX.out; unfold SsSeg.len at h1; omega
        refine ⟨j + 1, by omega, by go_num, by have := HM.out; congr 1; omega, ?_⟩
        have h := HI.out
        rw [show N (j + 1) = n + 4 * u.n by omega]
        exact h
      case measure => simp [intOf]; omega
    · obtain rfl : j = len := by omega
      go_wp2_with fail
      go_ret
      exact ⟨M, rfl, HM.out, HI.out⟩
set_option maxRecDepth 100000 in
set_option maxHeartbeats 16000000 in
theorem heldss_sp (TL : List Spot) (K : Nat) (ao : Option Addr) (len cap : Nat) (us : Nat → Sv) (N : Nat → Nat) (z : Int) (w : World) (hH : Hid (Held w TL K)) (hs : Hid (SsSegL w TL ao len us N)) (hz : Hid (z = ((K + N 0 : Nat) : Int))) (hl : K + N len ≤ 4999990) (hll : len ≤ 4999990) (hK : 0 < K) :
    Calls Try.prog 97 #[.slice ao len cap, .int .i64 z] w fun e w' => ∃ M : Nat, e = .returned (.int .i64 (M : Int)) ∧ M = K + N len ∧ Below w.heap.size w w' := by
  obtain ⟨M0, hM0⟩ : ∃ M : Nat, M = K + N 0 := ⟨_, rfl⟩
  have e0 : z = (M0 : Int) := by have := hz.out; omega
  subst e0
  have HM0 : Hid (M0 = K + N 0) := hM0
  clear hM0 hz
  go_enter Try.func97, Try.ntmps97
  go_wp2_with fail
  go_loopw [1, 5] (fun kk i wr => ∃ (j : Nat), j ≤ len ∧ i = .int .i64 (j : Int) ∧ kk = .int .i64 ((K + N j : Nat) : Int) ∧ Hid (Below w.heap.size w wr)) (fun _ i _ => len - (intOf i).toNat)
  case atStart => exact ⟨0, by omega, rfl, by have := HM0.out; congr 1; omega, Below.refl _ _⟩
  case round =>
    obtain ⟨j, hj, rfl, rfl, HI⟩ := hrel
    obtain ⟨M, hM⟩ : ∃ M : Nat, M = K + N j := ⟨_, rfl⟩
    rw [← hM]
    have HM : Hid (M = K + N j) := hM
    clear hM
    by_cases hlt : j < len
    · obtain ⟨g, off, rfl, sg⟩ := hs.out.one j hlt
      have HNX : Hid _ := hs.out.nx j hlt
      have hle := hs.out.le (len - (j + 1)) (j + 1) (by omega)
      obtain ⟨u, hu⟩ : ∃ u, us j = u := ⟨_, rfl⟩
      rw [hu] at sg HNX
      have hle2 : N j + (4 * u.n) ≤ N len := by have := HNX.out; unfold SsSeg.len at this; omega
      obtain ⟨n, hn⟩ : ∃ n, n = N j := ⟨_, rfl⟩
      rw [← hn] at sg HM HNX hle2
      have HN : Hid (n = N j) := hn
      obtain ⟨o, ho⟩ : ∃ o, o = off + j := ⟨_, rfl⟩
      rw [← ho] at sg
      have HO : Hid (o = off + j) := ho
      have SG : Hid (SsSeg w TL n g o u) := sg
      have SG : Hid (SsSeg wr TL n g o u) := SG.out.later HI.out
      have HH : Hid (Held wr TL K) := hH.out.later HI.out
      clear sg hu hn ho hle
      have hMl : M ≤ 4999990 := by have := HM.out; omega
      have i0 : (0 : Int) ≤ (j : Int) := by omega
      have i1 : (j : Int) < (len : Int) := by omega
      have hc : wr.cell? ⟨g, off + j, none⟩ = some (.slice u.a u.n u.c) := by have h := SG.out.h0; rw [HO.out] at h; exact h
      go_wp2_with fail
      clear hc 
      refine (heldItems_z TL K (n) u.a u.n u.c ((M : Int)) _ HH SG.out.s0 (by have := HM.out; omega) (by omega) hK).mono ?_
      rintro e w1 ⟨M1, rfl, hm, b⟩
      have HM : Hid (M1 = K + (n + 4 * u.n)) := hm
      have HH : Hid (Held w1 TL K) := HH.out.later b
      have SG : Hid (SsSeg w1 TL n g o u) := SG.out.later b
      have HI : Hid (Below w.heap.size w w1) := bl_next HI.out b
      have hMl : M1 ≤ 4999990 := by omega
      have hM0 : decide ((M1 : Int) < 0) = false := by simp
      clear hm b
      go_wp2_with fail
      go_roundw
      case rel =>
        have e : K + N (j + 1) = K + (n + (4 * u.n)) := by have h1 := HNX.out; unfold SsSeg.len at h1; omega
        exact ⟨j + 1, by omega, by go_num, by have := HM.out; congr 1; omega, HI⟩
      case measure => simp [intOf]; omega
    · obtain rfl : j = len := by omega
      go_wp2_with fail
      go_ret
      exact ⟨M, rfl, HM.out, HI.out⟩
end Go.Proofs.Ythdjkkiegecgnaa


/- A ring, a ring at work, handed over by value: marked, and looked at again. Written by hand and program. -/
namespace Go.Proofs.Ythdjkkiegecgnaa
open Go.RowKit Pl
set_option linter.unusedVariables false
set_option linter.unusedSimpArgs false

theorem MkI.box {w0 ws w : World} {TL : List Spot} {K n g T : Nat} {cs : List Value} (h : MkI w0 ws TL K n w) (hB : Bx ws g T cs) (hg : w0.heap.size ≤ g) : Bx w g T cs := (h.news.2 g hg hB.lt).trans hB

set_option maxRecDepth 100000 in
set_option maxHeartbeats 2000000 in
theorem markring_bv (w0 : World) (TL : List Spot) (K n : Nat) (i : Int) (s : Sv) (z : Int) (w : World) (hT : Hid (TLok w0 TL)) (hI : Hid (MkI w0 w TL K n w)) (hs : Hid (Seg TL n s.a s.n [0])) (hz : Hid (z = ((K + n : Nat) : Int))) (hl : K + n + s.n ≤ 4999990) :
    Calls Try.prog 32 #[.agg #[.int .i64 i, .slice s.a s.n s.c], .int .i64 z] w fun e w' => ∃ M : Nat, e = .returned (.int .i64 (M : Int)) ∧ M = K + (n + s.n) ∧ MkI w0 w TL K (n + s.n) w' := by
  have B0 : Hid (Bx (w.alloc (.cells #[.int .i64 i, .slice s.a s.n s.c] 26)) w.heap.size 26 [.int .i64 i, .slice s.a s.n s.c]) := Bx.new w 26 _
  have HI : Hid (MkI w0 w TL K n (w.alloc (.cells #[.int .i64 i, .slice s.a s.n s.c] 26))) := hI.out.later hT.out ((Below.refl _ _).alloc (Nat.le_refl _) _)
  have c1 := B0.out.cell 1
  clear hI
  go_enter Try.func32, Try.ntmps32
  go_wp2_with fail
  generalize w.alloc (.cells #[.int .i64 i, .slice s.a s.n s.c] 26) = W at *
  refine (markI_z w0 TL K n s.a s.n s.c z _ hT HI.out.anchor hs.out hz.out hl).mono ?_
  rintro e w1 ⟨M, rfl, hm, hi⟩
  have HM : Hid (M = K + (n + s.n)) := hm
  have H1 : Hid (MkI w0 w TL K (n + s.n) w1) := HI.out.back hi
  clear hm hi HI c1 B0
  go_wp2_with fail
  go_ret
  exact ⟨M, rfl, HM.out, H1.out⟩

set_option maxRecDepth 100000 in
set_option maxHeartbeats 2000000 in
theorem heldring_bv (TL : List Spot) (K n : Nat) (i : Int) (s : Sv) (z : Int) (w : World) (hH : Hid (Held w TL K)) (hs : Hid (Seg TL n s.a s.n [0])) (hz : Hid (z = ((K + n : Nat) : Int))) (hl : K + n + s.n ≤ 4999990) :
    Calls Try.prog 94 #[.agg #[.int .i64 i, .slice s.a s.n s.c], .int .i64 z] w fun e w' => ∃ M : Nat, e = .returned (.int .i64 (M : Int)) ∧ M = K + (n + s.n) ∧ Below w.heap.size w w' := by
  have B0 : Hid (Bx (w.alloc (.cells #[.int .i64 i, .slice s.a s.n s.c] 26)) w.heap.size 26 [.int .i64 i, .slice s.a s.n s.c]) := Bx.new w 26 _
  have BW : Hid (Below w.heap.size w (w.alloc (.cells #[.int .i64 i, .slice s.a s.n s.c] 26))) := (Below.refl _ _).alloc (Nat.le_refl _) _
  have HH : Hid (Held (w.alloc (.cells #[.int .i64 i, .slice s.a s.n s.c] 26)) TL K) := hH.out.later BW.out
  have c1 := B0.out.cell 1
  clear hH
  go_enter Try.func94, Try.ntmps94
  go_wp2_with fail
  generalize w.alloc (.cells #[.int .i64 i, .slice s.a s.n s.c] 26) = W at *
  refine (heldI_z TL K n s.a s.n s.c z _ HH hs.out hz.out hl).mono ?_
  rintro e w1 ⟨M, rfl, hm, b⟩
  have HM : Hid (M = K + (n + s.n)) := hm
  have B1 : Hid (Below w.heap.size w w1) := bl_next BW.out b
  have hM0 : decide ((M : Int) < 0) = false := by simp
  clear hm b HH c1 B0 BW
  go_wp2_with fail
  go_ret
  exact ⟨M, rfl, HM.out, B1.out⟩

/-- where the places of a ring at work lie. -/
structure WkSeg (w : World) (TL : List Spot) (k : Wv) (us : Nat → Mv) (N1 : Nat → Nat) (vs : Nat → Sv) (N2 : Nat → Nat) (xs : Nat → Sv) (N3 : Nat → Nat) : Prop where
  ring : Seg TL 0 k.mv.a k.mv.n [0]
  ma : MtSegL w TL k.mav.a k.mav.n us N1
  m0 : N1 0 = k.mv.n
  fl : FlSegL w TL k.flv.a k.flv.n vs N2
  f0 : N2 0 = N1 k.mav.n
  he : SsSegL w TL k.hev.a k.hev.n xs N3
  h0 : N3 0 = N2 k.flv.n
  sa : Seg TL (N3 k.hev.n) k.sav.a k.sav.n [0, 0, 0, 2]
  ln : TL.length = N3 k.hev.n + 4 * k.sav.n
theorem TLok.later {w w' : World} {TL : List Spot} (h : TLok w TL) (b : Below w.heap.size w w') : TLok w' TL :=
  ⟨h.nd, fun s hs => by have := h.lt s hs; have := b.size; omega, fun s hs => by rw [cell_block (b.block s.1 (h.lt s hs))]; exact h.live s hs, fun s hs => (frozen_block (b.block s.1 (h.lt s hs))).trans (h.fr s hs)⟩
theorem WkSeg.later {w w' : World} {TL : List Spot} {k : Wv} {us : Nat → Mv} {N1 : Nat → Nat} {vs : Nat → Sv} {N2 : Nat → Nat} {xs : Nat → Sv} {N3 : Nat → Nat} (h : WkSeg w TL k us N1 vs N2 xs N3) (b : Below w.heap.size w w') : WkSeg w' TL k us N1 vs N2 xs N3 :=
  { h with ma := h.ma.later b, fl := h.fl.later b, he := h.he.later b }

set_option maxRecDepth 100000 in
set_option maxHeartbeats 4000000 in
theorem markwork_bv (w0 : World) (TL : List Spot) (K : Nat) (k : Wv) (us : Nat → Mv) (N1 : Nat → Nat) (vs : Nat → Sv) (N2 : Nat → Nat) (xs : Nat → Sv) (N3 : Nat → Nat) (w : World) (hT : Hid (TLok w0 TL)) (hI : Hid (MkI w0 w TL K 0 w)) (hs : Hid (WkSeg w0 TL k us N1 vs N2 xs N3)) (hl : K + TL.length ≤ 4999990) (hK : 0 < K) (l1 : k.mav.n ≤ 1048576) (l2 : k.flv.n ≤ 1048576) (l3 : k.hev.n ≤ 1048576) :
    Calls Try.prog 33 #[.agg #[.int .i64 k.rid, .slice k.mv.a k.mv.n k.mv.c, .slice k.mav.a k.mav.n k.mav.c, .slice k.flv.a k.flv.n k.flv.c, .slice k.hev.a k.hev.n k.hev.c, .slice k.sav.a k.sav.n k.sav.c], .int .i64 (K : Int)] w fun e w' => e = .returned (.int .i64 ((K + TL.length : Nat) : Int)) ∧ MkI w0 w TL K TL.length w' := by
  have B0 : Hid (Bx (w.alloc (.cells #[.int .i64 k.rid, .slice k.mv.a k.mv.n k.mv.c, .slice k.mav.a k.mav.n k.mav.c, .slice k.flv.a k.flv.n k.flv.c, .slice k.hev.a k.hev.n k.hev.c, .slice k.sav.a k.sav.n k.sav.c] 65)) w.heap.size 65 [.int .i64 k.rid, .slice k.mv.a k.mv.n k.mv.c, .slice k.mav.a k.mav.n k.mav.c, .slice k.flv.a k.flv.n k.flv.c, .slice k.hev.a k.hev.n k.hev.c, .slice k.sav.a k.sav.n k.sav.c]) := Bx.new w 65 _
  have HI : Hid (MkI w0 w TL K 0 (w.alloc (.cells #[.int .i64 k.rid, .slice k.mv.a k.mv.n k.mv.c, .slice k.mav.a k.mav.n k.mav.c, .slice k.flv.a k.flv.n k.flv.c, .slice k.hev.a k.hev.n k.hev.c, .slice k.sav.a k.sav.n k.sav.c] 65))) := hI.out.later hT.out ((Below.refl _ _).alloc (Nat.le_refl _) _)
  have hz0 : w0.heap.size ≤ w.heap.size := hI.out.size
  have q0 := hs.out.ma.le k.mav.n 0 (by omega)
  have q1 := hs.out.fl.le k.flv.n 0 (by omega)
  have q2 := hs.out.he.le k.hev.n 0 (by omega)
  have q3 := hs.out.m0
  have q4 := hs.out.f0
  have q5 := hs.out.h0
  have q6 := hs.out.ln
  have HQ : Hid (k.mv.n ≤ N1 k.mav.n ∧ N1 k.mav.n ≤ N2 k.flv.n ∧ N2 k.flv.n ≤ N3 k.hev.n ∧ N3 k.hev.n + 4 * k.sav.n = TL.length) := ⟨by omega, by omega, by omega, by omega⟩
  clear hI q0 q1 q2 q3 q4 q5 q6
  go_enter Try.func33, Try.ntmps33
  go_wp2_with (first | (refine wpList_ldG rfl 26 _ rfl w.heap.size 0 rfl 65 _ B0.out [.int .i64 k.rid, .slice k.mv.a k.mv.n k.mv.c] rfl _ Try.underlying26 rfl Try.sizeR ?_))
  generalize w.alloc (.cells #[.int .i64 k.rid, .slice k.mv.a k.mv.n k.mv.c, .slice k.mav.a k.mav.n k.mav.c, .slice k.flv.a k.flv.n k.flv.c, .slice k.hev.a k.hev.n k.hev.c, .slice k.sav.a k.sav.n k.sav.c] 65) = W at *
  refine (markring_bv w0 TL K 0 k.rid k.mv (K : Int) _ hT HI.out.anchor hs.out.ring (by simp : (K : Int) = ((K + 0 : Nat) : Int)) (by have := HQ.out; omega)).mono ?_
  rintro e w1 ⟨M, rfl, hm, hi⟩
  have B1 : Hid (Bx w1 w.heap.size 65 [.int .i64 k.rid, .slice k.mv.a k.mv.n k.mv.c, .slice k.mav.a k.mav.n k.mav.c, .slice k.flv.a k.flv.n k.flv.c, .slice k.hev.a k.hev.n k.hev.c, .slice k.sav.a k.sav.n k.sav.c]) := hi.box B0.out hz0
  have H1 : Hid (MkI w0 w TL K (N1 0) w1) := (by have h := HI.out.back hi; rw [hs.out.m0]; rw [Nat.zero_add] at h; exact h : MkI _ _ _ _ _ _)
  have HM1 : Hid ((M : Int) = ((K + N1 0 : Nat) : Int)) := (by have := hs.out.m0; omega : _ = _)
  have c2 := B1.out.cell 2
  clear hm hi HI B0
  go_wp2_with fail
  clear c2
  refine (markmates_sp w0 TL K k.mav.a k.mav.n k.mav.c us N1 (M : Int) _ hT H1.out.anchor hs.out.ma HM1 (by have := HQ.out; omega) (by omega) hK).mono ?_
  rintro e w2 ⟨M2, rfl, hm, hi⟩
  have B2 : Hid (Bx w2 w.heap.size 65 [.int .i64 k.rid, .slice k.mv.a k.mv.n k.mv.c, .slice k.mav.a k.mav.n k.mav.c, .slice k.flv.a k.flv.n k.flv.c, .slice k.hev.a k.hev.n k.hev.c, .slice k.sav.a k.sav.n k.sav.c]) := hi.box B1.out hz0
  have H2 : Hid (MkI w0 w TL K (N2 0) w2) := (by have h := H1.out.back hi; rw [hs.out.f0]; exact h : MkI _ _ _ _ _ _)
  have HM2 : Hid ((M2 : Int) = ((K + N2 0 : Nat) : Int)) := (by have := hs.out.f0; omega : _ = _)
  have c3 := B2.out.cell 3
  clear hm hi H1 B1 HM1
  go_wp2_with fail
  clear c3
  refine (markflys_sp w0 TL K k.flv.a k.flv.n k.flv.c vs N2 (M2 : Int) _ hT H2.out.anchor hs.out.fl HM2 (by have := HQ.out; omega) (by omega) hK).mono ?_
  rintro e w3 ⟨M3, rfl, hm, hi⟩
  have B3 : Hid (Bx w3 w.heap.size 65 [.int .i64 k.rid, .slice k.mv.a k.mv.n k.mv.c, .slice k.mav.a k.mav.n k.mav.c, .slice k.flv.a k.flv.n k.flv.c, .slice k.hev.a k.hev.n k.hev.c, .slice k.sav.a k.sav.n k.sav.c]) := hi.box B2.out hz0
  have H3 : Hid (MkI w0 w TL K (N3 0) w3) := (by have h := H2.out.back hi; rw [hs.out.h0]; exact h : MkI _ _ _ _ _ _)
  have HM3 : Hid ((M3 : Int) = ((K + N3 0 : Nat) : Int)) := (by have := hs.out.h0; omega : _ = _)
  have c4 := B3.out.cell 4
  clear hm hi H2 B2 HM2
  go_wp2_with fail
  clear c4
  refine (markss_sp w0 TL K k.hev.a k.hev.n k.hev.c xs N3 (M3 : Int) _ hT H3.out.anchor hs.out.he HM3 (by have := HQ.out; omega) (by omega) hK).mono ?_
  rintro e w4 ⟨M4, rfl, hm, hi⟩
  have B4 : Hid (Bx w4 w.heap.size 65 [.int .i64 k.rid, .slice k.mv.a k.mv.n k.mv.c, .slice k.mav.a k.mav.n k.mav.c, .slice k.flv.a k.flv.n k.flv.c, .slice k.hev.a k.hev.n k.hev.c, .slice k.sav.a k.sav.n k.sav.c]) := hi.box B3.out hz0
  have H4 : Hid (MkI w0 w TL K (N3 k.hev.n) w4) := H3.out.back hi
  have HM4 : Hid ((M4 : Int) = ((K + N3 k.hev.n : Nat) : Int)) := (by omega : _ = _)
  have c5 := B4.out.cell 5
  clear hm hi H3 B3 HM3
  go_wp2_with fail
  clear c5
  refine (markItems_z w0 TL K (N3 k.hev.n) k.sav.a k.sav.n k.sav.c (M4 : Int) _ hT H4.out.anchor hs.out.sa HM4.out (by have := HQ.out; omega) hK).mono ?_
  rintro e w5 ⟨M5, rfl, hm, hi⟩
  have H5 : Hid (MkI w0 w TL K TL.length w5) := (by have h := H4.out.back hi; rw [hs.out.ln]; exact h : MkI _ _ _ _ _ _)
  have HM5 : Hid (M5 = K + TL.length) := (by have := hs.out.ln; omega : _ = _)
  clear hm hi H4 B4 HM4
  go_wp2_with fail
  go_ret
  exact ⟨by rw [← HM5.out]; rfl, H5.out⟩

set_option maxRecDepth 100000 in
set_option maxHeartbeats 4000000 in
theorem heldwork_bv (TL : List Spot) (K : Nat) (k : Wv) (us : Nat → Mv) (N1 : Nat → Nat) (vs : Nat → Sv) (N2 : Nat → Nat) (xs : Nat → Sv) (N3 : Nat → Nat) (w : World) (hH : Hid (Held w TL K)) (hs : Hid (WkSeg w TL k us N1 vs N2 xs N3)) (hl : K + TL.length ≤ 4999990) (hK : 0 < K) (l1 : k.mav.n ≤ 1048576) (l2 : k.flv.n ≤ 1048576) (l3 : k.hev.n ≤ 1048576) :
    Calls Try.prog 34 #[.agg #[.int .i64 k.rid, .slice k.mv.a k.mv.n k.mv.c, .slice k.mav.a k.mav.n k.mav.c, .slice k.flv.a k.flv.n k.flv.c, .slice k.hev.a k.hev.n k.hev.c, .slice k.sav.a k.sav.n k.sav.c], .int .i64 (K : Int)] w fun e w' => e = .returned (.int .i64 ((K + TL.length : Nat) : Int)) ∧ Below w.heap.size w w' := by
  have B0 : Hid (Bx (w.alloc (.cells #[.int .i64 k.rid, .slice k.mv.a k.mv.n k.mv.c, .slice k.mav.a k.mav.n k.mav.c, .slice k.flv.a k.flv.n k.flv.c, .slice k.hev.a k.hev.n k.hev.c, .slice k.sav.a k.sav.n k.sav.c] 65)) w.heap.size 65 [.int .i64 k.rid, .slice k.mv.a k.mv.n k.mv.c, .slice k.mav.a k.mav.n k.mav.c, .slice k.flv.a k.flv.n k.flv.c, .slice k.hev.a k.hev.n k.hev.c, .slice k.sav.a k.sav.n k.sav.c]) := Bx.new w 65 _
  have BW : Hid (Below w.heap.size w (w.alloc (.cells #[.int .i64 k.rid, .slice k.mv.a k.mv.n k.mv.c, .slice k.mav.a k.mav.n k.mav.c, .slice k.flv.a k.flv.n k.flv.c, .slice k.hev.a k.hev.n k.hev.c, .slice k.sav.a k.sav.n k.sav.c] 65))) := (Below.refl _ _).alloc (Nat.le_refl _) _
  have HH : Hid (Held (w.alloc (.cells #[.int .i64 k.rid, .slice k.mv.a k.mv.n k.mv.c, .slice k.mav.a k.mav.n k.mav.c, .slice k.flv.a k.flv.n k.flv.c, .slice k.hev.a k.hev.n k.hev.c, .slice k.sav.a k.sav.n k.sav.c] 65)) TL K) := hH.out.later BW.out
  have SG : Hid (WkSeg (w.alloc (.cells #[.int .i64 k.rid, .slice k.mv.a k.mv.n k.mv.c, .slice k.mav.a k.mav.n k.mav.c, .slice k.flv.a k.flv.n k.flv.c, .slice k.hev.a k.hev.n k.hev.c, .slice k.sav.a k.sav.n k.sav.c] 65)) TL k us N1 vs N2 xs N3) := hs.out.later BW.out
  have q0 := hs.out.ma.le k.mav.n 0 (by omega)
  have q1 := hs.out.fl.le k.flv.n 0 (by omega)
  have q2 := hs.out.he.le k.hev.n 0 (by omega)
  have q3 := hs.out.m0
  have q4 := hs.out.f0
  have q5 := hs.out.h0
  have q6 := hs.out.ln
  have HQ : Hid (k.mv.n ≤ N1 k.mav.n ∧ N1 k.mav.n ≤ N2 k.flv.n ∧ N2 k.flv.n ≤ N3 k.hev.n ∧ N3 k.hev.n + 4 * k.sav.n = TL.length) := ⟨by omega, by omega, by omega, by omega⟩
  clear hH hs q0 q1 q2 q3 q4 q5 q6
  go_enter Try.func34, Try.ntmps34
  go_wp2_with (first | (refine wpList_ldG rfl 26 _ rfl w.heap.size 0 rfl 65 _ B0.out [.int .i64 k.rid, .slice k.mv.a k.mv.n k.mv.c] rfl _ Try.underlying26 rfl Try.sizeR ?_))
  generalize w.alloc (.cells #[.int .i64 k.rid, .slice k.mv.a k.mv.n k.mv.c, .slice k.mav.a k.mav.n k.mav.c, .slice k.flv.a k.flv.n k.flv.c, .slice k.hev.a k.hev.n k.hev.c, .slice k.sav.a k.sav.n k.sav.c] 65) = W at *
  refine (heldring_bv TL K 0 k.rid k.mv (K : Int) _ HH SG.out.ring (by simp : (K : Int) = ((K + 0 : Nat) : Int)) (by have := HQ.out; omega)).mono ?_
  rintro e w1 ⟨M, rfl, hm, b⟩
  have HM1 : Hid ((M : Int) = ((K + N1 0 : Nat) : Int)) := (by have := SG.out.m0; omega : _ = _)
  have hM0 : decide ((M : Int) < 0) = false := by simp
  have B0 : Hid (Bx w1 w.heap.size 65 [.int .i64 k.rid, .slice k.mv.a k.mv.n k.mv.c, .slice k.mav.a k.mav.n k.mav.c, .slice k.flv.a k.flv.n k.flv.c, .slice k.hev.a k.hev.n k.hev.c, .slice k.sav.a k.sav.n k.sav.c]) := B0.out.later b
  have BW : Hid (Below w.heap.size w w1) := bl_next BW.out b
  have HH : Hid (Held w1 TL K) := HH.out.later b
  have SG : Hid (WkSeg w1 TL k us N1 vs N2 xs N3) := SG.out.later b
  have cc := B0.out.cell 2
  clear hm b
  go_wp2_with fail
  clear cc hM0
  refine (heldmates_sp TL K k.mav.a k.mav.n k.mav.c us N1 (M : Int) _ HH SG.out.ma HM1 (by have := HQ.out; omega) (by omega) hK).mono ?_
  rintro e w2 ⟨M2, rfl, hm, b⟩
  have HM1 : Hid ((M2 : Int) = ((K + N2 0 : Nat) : Int)) := (by have := SG.out.f0; omega : _ = _)
  have hM0 : decide ((M2 : Int) < 0) = false := by simp
  have B0 : Hid (Bx w2 w.heap.size 65 [.int .i64 k.rid, .slice k.mv.a k.mv.n k.mv.c, .slice k.mav.a k.mav.n k.mav.c, .slice k.flv.a k.flv.n k.flv.c, .slice k.hev.a k.hev.n k.hev.c, .slice k.sav.a k.sav.n k.sav.c]) := B0.out.later b
  have BW : Hid (Below w.heap.size w w2) := bl_next BW.out b
  have HH : Hid (Held w2 TL K) := HH.out.later b
  have SG : Hid (WkSeg w2 TL k us N1 vs N2 xs N3) := SG.out.later b
  have cc := B0.out.cell 3
  clear hm b
  go_wp2_with fail
  clear cc hM0
  refine (heldflys_sp TL K k.flv.a k.flv.n k.flv.c vs N2 (M2 : Int) _ HH SG.out.fl HM1 (by have := HQ.out; omega) (by omega) hK).mono ?_
  rintro e w3 ⟨M3, rfl, hm, b⟩
  have HM1 : Hid ((M3 : Int) = ((K + N3 0 : Nat) : Int)) := (by have := SG.out.h0; omega : _ = _)
  have hM0 : decide ((M3 : Int) < 0) = false := by simp
  have B0 : Hid (Bx w3 w.heap.size 65 [.int .i64 k.rid, .slice k.mv.a k.mv.n k.mv.c, .slice k.mav.a k.mav.n k.mav.c, .slice k.flv.a k.flv.n k.flv.c, .slice k.hev.a k.hev.n k.hev.c, .slice k.sav.a k.sav.n k.sav.c]) := B0.out.later b
  have BW : Hid (Below w.heap.size w w3) := bl_next BW.out b
  have HH : Hid (Held w3 TL K) := HH.out.later b
  have SG : Hid (WkSeg w3 TL k us N1 vs N2 xs N3) := SG.out.later b
  have cc := B0.out.cell 4
  clear hm b
  go_wp2_with fail
  clear cc hM0
  refine (heldss_sp TL K k.hev.a k.hev.n k.hev.c xs N3 (M3 : Int) _ HH SG.out.he HM1 (by have := HQ.out; omega) (by omega) hK).mono ?_
  rintro e w4 ⟨M4, rfl, hm, b⟩
  have HM1 : Hid ((M4 : Int) = ((K + N3 k.hev.n : Nat) : Int)) := (by omega : _ = _)
  have hM0 : decide ((M4 : Int) < 0) = false := by simp
  have B0 : Hid (Bx w4 w.heap.size 65 [.int .i64 k.rid, .slice k.mv.a k.mv.n k.mv.c, .slice k.mav.a k.mav.n k.mav.c, .slice k.flv.a k.flv.n k.flv.c, .slice k.hev.a k.hev.n k.hev.c, .slice k.sav.a k.sav.n k.sav.c]) := B0.out.later b
  have BW : Hid (Below w.heap.size w w4) := bl_next BW.out b
  have HH : Hid (Held w4 TL K) := HH.out.later b
  have SG : Hid (WkSeg w4 TL k us N1 vs N2 xs N3) := SG.out.later b
  have cc := B0.out.cell 5
  clear hm b
  go_wp2_with fail
  clear cc hM0
  refine (heldItems_z TL K (N3 k.hev.n) k.sav.a k.sav.n k.sav.c (M4 : Int) _ HH SG.out.sa HM1.out (by have := HQ.out; omega) hK).mono ?_
  rintro e w5 ⟨M5, rfl, hm, b⟩
  have HM5 : Hid (M5 = K + TL.length) := (by have := SG.out.ln; omega : _ = _)
  have hM0 : decide ((M5 : Int) < 0) = false := by simp
  have BW : Hid (Below w.heap.size w w5) := bl_next BW.out b
  clear hm b
  go_wp2_with fail
  go_ret
  exact ⟨by rw [← HM5.out]; rfl, BW.out⟩
end Go.Proofs.Ythdjkkiegecgnaa


/- A member catches an item: the walks over both Catch. Written by gen_ct.py. -/
namespace Go.Proofs.Ythdjkkiegecgnaa
open Go.RowKit Pl
set_option linter.unusedVariables false
set_option linter.unusedSimpArgs false

theorem MtO.past {w w' : World} {B g T : Nat} {m : Mt} {v : Mv} {cs : List Value} (h : MtO w B m v) (hB : Bx w g T cs) (ht : TurnAt g w w') (h3 : T ≠ 3) (h9 : T ≠ 9) (hI : T ≠ 38) : MtO w' B m v :=
  ⟨h.ms.past hB ht h3, h.its.past hB ht hI, h.lv.past hB ht h3, h.tx.past hB ht h9, h.ws.past hB ht h3, h.a1, h.a2, h.a3⟩
theorem MtO.keepb {w w' : World} {B g T : Nat} {m : Mt} {v : Mv} {cs : List Value} (h : MtO w B m v) (hB : Bx w g T cs) (ht : KeepBut g w w') (h3 : T ≠ 3) (h9 : T ≠ 9) (hI : T ≠ 38) : MtO w' B m v :=
  ⟨h.ms.keepb hB ht h3, h.its.keepb hB ht hI, h.lv.keepb hB ht h3, h.tx.keepb hB ht h9, h.ws.keepb hB ht h3, h.a1, h.a2, h.a3⟩
/-- the member behind it. -/
def Mt.setIt (m : Mt) (ts : List It) : Mt := ⟨m.id, m.rid, m.ms, ts, m.lv, m.tx, m.rd, m.se, m.li, m.he, m.la⟩
def Mt.cat (m : Mt) (y : It) : Mt := m.setIt (if m.ok = true then putP m.its y else m.its)
end Go.Proofs.Ythdjkkiegecgnaa


/- One cell that is read in a statement that leaves its order open. -/
namespace Go.Proofs.Ythdjkkiegecgnaa
open Go.RowKit Pl
set_option linter.unusedVariables false
theorem ldC_yield {P : Program} {ops : Array Oper} {o : Oper} {a : Act} {S : World → Prop} (hw : Region.wanted o (yielded ops a.tmps) = true) (ty : TypeId) (x : Operand) (ho : o.op = .load ty x) (g off : Nat) (hx : a.eval x = .pointer (some ⟨g, off, none⟩)) (u : Value) (hS : ∀ w, S w → w.cell? ⟨g, off, none⟩ = some u)
    (d : TypeDesc) (ht : P.underlying ty = some d) (hd : d.isRow = false) : YieldsIf P ops S o u a :=
  .inl ⟨hw, fun w hw' => by
    have hc := hS w hw'
    have hagg : (isAgg ty).run P w = .ok false w := by
      unfold isAgg
      rw [Sem.run_bind, run_underlying ht w]
      cases d <;> simp_all
    unfold execOp
    simp [ho, hx, Instr.loadAt, Instr.sureAddr, loadVar, Sem.run_bind, hagg, hc]⟩
end Go.Proofs.Ythdjkkiegecgnaa


