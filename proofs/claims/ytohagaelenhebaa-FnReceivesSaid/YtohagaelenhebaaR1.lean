/- The walk over the program's receive. -/
import Derived.Test.YtohagaelenhebaaQ5
import Derived.Test.YtohagaelenhebaaP2
import Derived.Deep.RegionHeld3
import Derived.Deep.RegionLaw
import Derived.BigQuiet
namespace Go.Proofs.Ytohagaelenhebaa
open Go.RowKit Pl
set_option linter.unusedVariables false

/-- the block g is a parcel. -/
def PcC (w : World) (T g : Nat) (n a : Int) (s : ByteArray) : Prop := w.heap[g]? = some (.cells #[.int .i64 n, .int .i64 a, .string s] T (0, 0))
theorem PcC.lt {w : World} {T g : Nat} {n a : Int} {s : ByteArray} (h : PcC w T g n a s) : g < w.heap.size := (Array.getElem?_eq_some_iff.1 h).1
theorem PcC.cells {w : World} {T g : Nat} {n a : Int} {s : ByteArray} (h : PcC w T g n a s) : w.cell? ⟨g, 0, none⟩ = some (.int .i64 n) ∧ w.cell? ⟨g, 1, none⟩ = some (.int .i64 a) ∧ w.cell? ⟨g, 2, none⟩ = some (.string s) := by
  refine ⟨?_, ?_, ?_⟩ <;> rw [cell_of_row w g _ _ T (0, 0) h] <;> rfl
theorem PcC.frozen {w : World} {T g : Nat} {n a : Int} {s : ByteArray} (h : PcC w T g n a s) (j : Nat) : w.frozen? ⟨g, j, none⟩ = false := frozen_of_row w g j _ T h
theorem PcC.stays {w w' : World} {B T g : Nat} {n a : Int} {s : ByteArray} (h : PcC w T g n a s) (hb : Below B w w') (hg : g < B) : PcC w' T g n a s := (hb.block g hg).trans h
theorem PcC.below {w w' : World} {T g : Nat} {n a : Int} {s : ByteArray} (h : PcC w T g n a s) (hb : Below w.heap.size w w') : PcC w' T g n a s := h.stays hb h.lt
theorem PcC.kept {w w' : World} {row : Option Nat} {T g : Nat} {n a : Int} {s : ByteArray} (h : PcC w T g n a s) (hg : w.grownBy w' row) (hne : some g ≠ row) : PcC w' T g n a s := (hg.block g h.lt hne).trans h
theorem PcC.new (w : World) (T : Nat) (n a : Int) (s : ByteArray) : PcC (w.alloc (.cells #[.int .i64 n, .int .i64 a, .string s] T)) T w.heap.size n a s := heap_alloc_new w _
theorem PcC.gr {S : Nat → Prop} {w w' : World} {T g : Nat} {n a : Int} {s : ByteArray} (h : PcC w T g n a s) (hg : Gr S w w') (hn : ¬ S g) : PcC w' T g n a s := (hg.block g h.lt hn).trans h

theorem own_sliced {ao : Option Addr} {n c n' c' k j b : Nat} (h : (Value.slice (if c = k then ao else ao.map (·.add j)) n' c').ownBlock = some b) : (Value.slice ao n c).ownBlock = some b := by
  cases ao with
  | none => split at h <;> simp [Value.ownBlock] at h
  | some a =>
    split at h
    · exact h
    · simp only [Option.map_some, Value.ownBlock] at h ⊢
      rw [← h]
      congr 1
      unfold Addr.add
      split <;> rfl

theorem slice_cap {w : World} {e : TypeId} {size B n cap : Nat} {ao : Option Addr} {xs : List Value} (h : Sl w e size B (.slice ao n cap) n xs) : n ≤ cap := by
  rcases h.2 with ⟨hv, hn⟩ | ⟨g', off', cap', cur, hv, hb, hg, hc, hm, hs, ht⟩
  · omega
  · simp at hv
    omega
/-- what receive leaves. -/
def RecvQ (w w' : World) (B p : Nat) (e : En) (qv ov : Value) (pc : Pc) : Prop :=
  ∃ qv' ov', EndQ w' B p (recvE e pc) qv' ov' ∧ (∀ k, qv'.ownBlock = some k → qv.ownBlock = some k) ∧ (∀ k, ov'.ownBlock = some k → ov.ownBlock = some k ∨ w.heap.size ≤ k) ∧ Below B w w' ∧ Gr (fun k => k = p ∨ ov.ownBlock = some k) w w'
theorem gr_cell {S : Nat → Prop} (w : World) (g j : Nat) (x : Value) (h : S g) : Gr S w (w.setCell ⟨g, j, none⟩ x) := Gr.ofGrown (grown_cell w g j x) (fun k hk => by rw [← Option.some.inj hk]; exact h)

/-- how far the ack has gone. -/
structure Ackd (w w' : World) (B p : Nat) (e : En) (qv ov : Value) (num ack : Int) (s : ByteArray) (qv' : Value) : Prop where
  eq : EndQ w' B p (ackE e ack) qv' ov
  own : ∀ k, qv'.ownBlock = some k → qv.ownBlock = some k
  below : Below B w w'
  gr : Gr (fun k => k = p ∨ ov.ownBlock = some k) w w'
  pc : PcC w' 41 w.heap.size num ack s

theorem acked {w W : World} {B p : Nat} {e : En} {qa : Option Addr} {qc : Nat} {ov : Value} {num ack : Int} {s : ByteArray} (B0 : Below B w W) (G0 : Gr (fun k => k = p ∨ ov.ownBlock = some k) w W) (P0 : PcC W 41 w.heap.size num ack s) (h0 : EndQ W B p e (.slice qa e.q.length qc) ov) (k : Nat) (ha : e.ak < ack ∧ ack ≤ e.nx) (hk : (ack - e.ak).toNat = k) (hq : k ≤ e.q.length) (hlt : p < w.heap.size) :
    Ackd w ((W.setCell ⟨p, 2, none⟩ (.slice (if qc = k then qa else qa.map (·.add k)) (e.q.length - k) (qc - k))).setCell ⟨p, 1, none⟩ (.int .i64 ack)) B p e (.slice qa e.q.length qc) ov num ack s (.slice (if qc = k then qa else qa.map (·.add k)) (e.q.length - k) (qc - k)) := by
  obtain ⟨x1, x2, x3, x4, x5, x6, x7⟩ := h0
  have hs := Sl.sliced x2 hq
  simp only [Nat.mul_one] at hs
  have hn : ∀ b, (Value.slice (if qc = k then qa else qa.map (·.add k)) (e.q.length - k) (qc - k)).ownBlock = some b → (Value.slice qa e.q.length qc).ownBlock = some b := fun b hb => own_sliced hb
  have n1 : (Value.slice (if qc = k then qa else qa.map (·.add k)) (e.q.length - k) (qc - k)).ownBlock ≠ some p := fun he => x6 (hn p he)
  have hs' : SlT W B (.slice (if qc = k then qa else qa.map (·.add k)) (e.q.length - k) (qc - k)) (e.q.drop k) := by
    unfold SlT
    rw [List.length_drop, List.map_drop]
    simpa using hs
  have he : ackE e ack = ⟨e.nx, ack, e.q.drop k, e.gt, e.o⟩ := by unfold ackE; rw [if_pos ha, hk]
  refine ⟨?_, hn, (B0.setCell (p := ⟨p, 2, none⟩) x5 _).setCell (p := ⟨p, 1, none⟩) x5 _, (G0.trans (gr_cell _ _ _ _ (.inl rfl))).trans (gr_cell _ _ _ _ (.inl rfl)), (P0.kept (grown_cell _ _ _ _) (by simp; omega)).kept (grown_cell _ _ _ _) (by simp; omega)⟩
  rw [he]
  exact ⟨(x1.set2 _).set1 _, slt_other (slt_other hs' n1) n1, slt_other (slt_other x3 x7) x7, fun b hb => x4 b (hn b hb), x5, n1, x7⟩

theorem ackd_none {w W : World} {B p : Nat} {e : En} {qv ov : Value} {num ack : Int} {s : ByteArray} (H0 : EndQ W B p e qv ov) (P0 : PcC W 41 w.heap.size num ack s) (B0 : Below B w W) (G0 : Gr (fun k => k = p ∨ ov.ownBlock = some k) w W) (ha : ¬ (e.ak < ack ∧ ack ≤ e.nx)) : Ackd w W B p e qv ov num ack s qv :=
  ⟨by unfold ackE; rw [if_neg ha]; exact H0, fun _ h => h, B0, G0, P0⟩

theorem Gr.drewN {S : Nat → Prop} {a b : World} (h : Gr S a b) (n : Nat) : Gr S a (b.drewN n) := ⟨h.os, (below_drewN (Below.refl 0 b) n).tape.trans h.tape, h.output, h.size, h.block⟩

theorem Ackd.drewN {w W : World} {B p : Nat} {e : En} {qv ov : Value} {num ack : Int} {s : ByteArray} {qv' : Value} (h : Ackd w W B p e qv ov num ack s qv') (n : Nat) : Ackd w (W.drewN n) B p e qv ov num ack s qv' := ⟨h.eq, h.own, below_drewN h.below _, Gr.drewN h.gr _, h.pc⟩

theorem taken {w W w3 w4 : World} {B p H : Nat} {e : En} {qv qv' ov v4 : Value} {num ack : Int} {s : ByteArray} (A : Ackd w W B p e qv ov num ack s qv') (hb : Below W.heap.size W w3) (hq : ∀ k, qv.ownBlock = some k → k < w.heap.size)
    (S4 : SlT w4 B v4 (e.o ++ [s])) (G4 : w3.grownBy w4 ov.ownBlock) (hH : w3.heap.size ≤ H) (L4 : v4.ownBlock = ov.ownBlock ∨ v4.ownBlock = some (H + 1)) (hN : num = e.gt + 1) (hG : e.gt < 1000) :
    RecvQ w ((w4.setCell ⟨p, 4, none⟩ v4).setCell ⟨p, 3, none⟩ (.int .i64 (e.gt + 1))) B p e qv ov (num, ack, s) := by
  obtain ⟨⟨x1, x2, x3, x4, x5, x6, x7⟩, hown, hB, hG0, hP⟩ := A
  have ho : (ackE e ack).o = e.o := by unfold ackE; split <;> rfl
  have hg : (ackE e ack).gt = e.gt := by unfold ackE; split <;> rfl
  have y1 := x1.below hb
  have y2 := Sl.below x2 hb
  have y3 := Sl.below x3 hb
  have hp := y1.lt
  have hpw : W.heap.size ≤ w3.heap.size := hb.size
  have hwW : w.heap.size ≤ W.heap.size := hG0.size
  have n4 : v4.ownBlock ≠ some p := fun he => by
    rcases L4 with hl | hl
    · rw [hl] at he; exact x7 he
    · rw [hl] at he; simp at he; omega
  have d4 : Dj qv' v4 := fun k k1 k2 => by
    rcases L4 with hl | hl
    · rw [hl] at k2; exact x4 k k1 k2
    · rw [hl] at k2; have := (Sl.lt y2 k k1).2; simp at k2; omega
  have X4 := EndC.kept y1 G4 (fun he => x7 he.symm)
  have Q4 : SlT w4 B qv' (ackE e ack).q := Sl.kept y2 G4 (fun k hk he => x4 k hk he.symm)
  have hBw : B ≤ w3.heap.size := by omega
  have B3 : Below B w w3 := hB.trans (hb.mono (Nat.le_trans (by have := x1.lt; omega) (Nat.le_refl _)))
  have B4 : Below B w3 w4 := ⟨G4.os, G4.tape, G4.output, G4.size, fun k hk => G4.block k (by omega) (fun he => by have := (Sl.lt y3 _ he.symm).1; omega)⟩
  have r : recvE e (num, ack, s) = ⟨(ackE e ack).nx, (ackE e ack).ak, (ackE e ack).q, e.gt + 1, e.o ++ [s]⟩ := by
    unfold recvE takeE takeB
    rw [hg, ho]
    simp [hN, hG]
  refine ⟨qv', v4, ?_, hown, fun k hk => ?_, ((B3.trans B4).setCell (p := ⟨p, 4, none⟩) x5 _).setCell (p := ⟨p, 3, none⟩) x5 _, ?_⟩
  · rw [r]
    exact ⟨((X4.set4 v4).set3 _), slt_other (slt_other Q4 x6) x6, slt_other (slt_other S4 n4) n4, d4, x5, x6, n4⟩
  · rcases L4 with hl | hl
    · rw [hl] at hk; exact .inl hk
    · rw [hl] at hk; simp at hk; exact .inr (by omega)
  · exact (((hG0.trans (Gr.ofBelow hb)).trans (Gr.ofGrown G4 (fun k hk => .inr hk))).trans (gr_cell _ _ _ _ (.inl rfl))).trans (gr_cell _ _ _ _ (.inl rfl))
theorem nottaken {w W : World} {B p : Nat} {e : En} {qv qv' ov : Value} {num ack : Int} {s : ByteArray} (A : Ackd w W B p e qv ov num ack s qv') (hN : ¬ (num = e.gt + 1 ∧ e.gt < 1000)) : RecvQ w W B p e qv ov (num, ack, s) := by
  have hg : (ackE e ack).gt = e.gt := by unfold ackE; split <;> rfl
  refine ⟨qv', ov, ?_, A.own, fun k hk => .inl hk, A.below, A.gr⟩
  have r : recvE e (num, ack, s) = ackE e ack := by
    unfold recvE takeE takeB
    rw [hg]
    have : (decide (num = e.gt + 1) && decide (e.gt < 1000)) = false := by
      cases hh : (decide (num = e.gt + 1) && decide (e.gt < 1000)) with
      | false => rfl
      | true => exact absurd (by simpa using hh) hN
    simp only [this]
    rfl
  rw [r]
  exact A.eq
end Go.Proofs.Ytohagaelenhebaa
