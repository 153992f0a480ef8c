/- Lists of bundles that a law copies and compares. -/
import Derived.Test.YtlflcjdpdbdbkaaBl
import Derived.BigQuiet
namespace Go.Proofs.Ytlflcjdpdbdbkaa
open Go.RowKit Pl
set_option linter.unusedVariables false
set_option linter.unusedSimpArgs false

theorem q_callB {P : Program} {W : World} {o : Oper} {a : Act} {K : Act → Prop} (v : Value) (f : FuncId) (args : Array Value) (h : ∀ w, Below W.heap.size W w → (execOp a.eval o).run P w = .ok (.enter f args) w)
    (hc : ∀ w, Below W.heap.size W w → Calls P f args w fun e w' => e = .returned v ∧ Below w.heap.size w w') (hk : K (a.put o.dst v)) : o.quiet P a (fun w' => Below W.heap.size W w') K :=
  q_call v f args h (fun w hw => (hc w hw).mono fun e w' ⟨he, hb⟩ => ⟨he, hw.trans (hb.mono hw.size)⟩) hk
theorem Try.infoBu : (Try.prog.info? 29).map (fun i => (i.zero, i.size, i.bytes)) = some (some (.agg #[.int .i64 0, .int .i64 0, .int .i64 0, .slice none 0 0]), 4, 48) := by kernel_rfl

/-- a row of bundles: those that are laid already. -/
def RowBu (w : World) (g n : Nat) (cs : List Bu) : Prop := ∃ arr : Array Value, w.heap[g]? = some (.cells arr 29 (0, 0)) ∧ arr.size = n * 4 ∧ ∀ i (h : i < cs.length), arr[i * 4]? = some (.int .i64 cs[i].f) ∧ arr[i * 4 + 1]? = some (.int .i64 cs[i].n) ∧ arr[i * 4 + 2]? = some (.int .i64 cs[i].o) ∧ arr[i * 4 + 3]? = some (.slice cs[i].s.a cs[i].s.n cs[i].s.c)
theorem RowBu.lt {w : World} {g n : Nat} {cs : List Bu} (h : RowBu w g n cs) : g < w.heap.size := by
  obtain ⟨arr, h1, _⟩ := h
  exact (Array.getElem?_eq_some_iff.1 h1).1
theorem RowBu.later {w w' : World} {g n : Nat} {cs : List Bu} (h : RowBu w g n cs) (hb : Below w.heap.size w w') : RowBu w' g n cs := by
  have hl := h.lt
  obtain ⟨arr, h1, rest⟩ := h
  exact ⟨arr, (hb.block g hl).trans h1, rest⟩
theorem RowBu.cell {w : World} {g n : Nat} {cs : List Bu} (h : RowBu w g n cs) (j : Nat) (hj : j < n * 4) : ∃ v, w.cell? ⟨g, j, none⟩ = some v := by
  obtain ⟨arr, h1, h2, _⟩ := h
  exact ⟨arr[j]'(by omega), by rw [cell_of_row w g j arr 29 (0, 0) h1, Array.getElem?_eq_getElem (by omega)]⟩
theorem RowBu.frozen {w : World} {g n : Nat} {cs : List Bu} (h : RowBu w g n cs) (j : Nat) : w.frozen? ⟨g, j, none⟩ = false := by
  obtain ⟨arr, h1, _⟩ := h
  exact frozen_of_row w g j arr 29 h1
theorem RowBu.bx {w : World} {g n : Nat} {cs : List Bu} (h : RowBu w g n cs) : ∃ l : List Value, Bx w g 29 l := by
  obtain ⟨arr, h1, _⟩ := h
  exact ⟨arr.toList, by unfold Bx; rw [h1, Array.toArray_toList]⟩
theorem RowBu.set {w : World} {g n : Nat} {cs : List Bu} (h : RowBu w g n cs) (hlt : cs.length < n) (c : Bu) :
    RowBu ((((w.setCell ⟨g, cs.length * 4, none⟩ (.int .i64 c.f)).setCell ⟨g, cs.length * 4 + 1, none⟩ (.int .i64 c.n)).setCell ⟨g, cs.length * 4 + 2, none⟩ (.int .i64 c.o)).setCell ⟨g, cs.length * 4 + 3, none⟩ (.slice c.s.a c.s.n c.s.c)) g n (cs ++ [c]) := by
  obtain ⟨arr, h1, h2, h3⟩ := h
  have e0 := heap_setCell_same w g (cs.length * 4) arr 29 (.int .i64 c.f) h1
  have e1 := heap_setCell_same _ g (cs.length * 4 + 1) _ 29 (.int .i64 c.n) e0
  have e2 := heap_setCell_same _ g (cs.length * 4 + 2) _ 29 (.int .i64 c.o) e1
  have e3 := heap_setCell_same _ g (cs.length * 4 + 3) _ 29 (.slice c.s.a c.s.n c.s.c) e2
  refine ⟨_, e3, by simp [h2], fun i hi => ?_⟩
  rw [List.length_append, List.length_singleton] at hi
  by_cases he : i < cs.length
  · obtain ⟨a0, a1, a2, a3⟩ := h3 i he
    rw [List.getElem_append_left he]
    refine ⟨?_, ?_, ?_, ?_⟩
    · rw [← a0]; simp only [Array.getElem?_setIfInBounds]; rw [if_neg (by omega), if_neg (by omega), if_neg (by omega), if_neg (by omega)]
    · rw [← a1]; simp only [Array.getElem?_setIfInBounds]; rw [if_neg (by omega), if_neg (by omega), if_neg (by omega), if_neg (by omega)]
    · rw [← a2]; simp only [Array.getElem?_setIfInBounds]; rw [if_neg (by omega), if_neg (by omega), if_neg (by omega), if_neg (by omega)]
    · rw [← a3]; simp only [Array.getElem?_setIfInBounds]; rw [if_neg (by omega), if_neg (by omega), if_neg (by omega), if_neg (by omega)]
  · obtain rfl : i = cs.length := by omega
    have hg : (cs ++ [c])[cs.length] = c := by simp
    rw [hg]
    refine ⟨?_, ?_, ?_, ?_⟩
    · simp only [Array.getElem?_setIfInBounds, Array.size_setIfInBounds]; rw [if_neg (by omega), if_neg (by omega), if_neg (by omega), if_pos trivial, if_pos (by omega)]
    · simp only [Array.getElem?_setIfInBounds, Array.size_setIfInBounds]; rw [if_neg (by omega), if_neg (by omega), if_pos trivial, if_pos (by omega)]
    · simp only [Array.getElem?_setIfInBounds, Array.size_setIfInBounds]; rw [if_neg (by omega), if_pos trivial, if_pos (by omega)]
    · simp only [Array.getElem?_setIfInBounds, Array.size_setIfInBounds]; rw [if_pos trivial, if_pos (by omega)]
theorem RowBu.bns {w : World} {g n : Nat} {cs : List Bu} (h : RowBu w g n cs) (hi : ∀ c ∈ cs, RIt w c.s c.ts) : BnsAt w (some ⟨g, 0, none⟩) cs := by
  have hl := h.lt
  obtain ⟨arr, h1, h2, h3⟩ := h
  intro i hi'
  obtain ⟨a0, a1, a2, a3⟩ := h3 i hi'
  refine ⟨g, 0, rfl, hl, ?_, ?_, ?_, ?_, hi _ (List.getElem_mem hi')⟩
  · rw [Nat.zero_add, cell_of_row w g _ arr 29 (0, 0) h1, a0]
  · rw [Nat.zero_add, cell_of_row w g _ arr 29 (0, 0) h1, a1]
  · rw [Nat.zero_add, cell_of_row w g _ arr 29 (0, 0) h1, a2]
  · rw [Nat.zero_add, cell_of_row w g _ arr 29 (0, 0) h1, a3]

set_option maxRecDepth 100000 in
set_option maxHeartbeats 4000000 in
theorem toBundles_any (ao : Option Addr) (cap : Nat) (bs : List Bu) (w : World) (hx : Hid (BnsAt w ao bs)) (hl : bs.length ≤ 1048576) (hs : Hid (∀ b ∈ bs, b.ts.length ≤ 1048576)) :
    Calls Try.prog 15 #[.slice ao bs.length cap] w fun e w' => ∃ cs : List Bu, e = .returned (.slice (some ⟨w.heap.size, 0, none⟩) bs.length bs.length) ∧ cs.map Bu.pl = bs.map Bu.pl ∧ BnsAt w' (some ⟨w.heap.size, 0, none⟩) cs ∧ Below w.heap.size w w' := by
  obtain ⟨i0, hi, hz0, hz1, hz2⟩ := info_parts Try.infoBu
  obtain ⟨A, hA, hAs⟩ : ∃ A : Array Value, A = madeCells (Value.agg #[.int .i64 0, .int .i64 0, .int .i64 0, .slice none 0 0]).cells (bs.length * 4) ∧ A.size = bs.length * 4 := ⟨_, rfl, size_madeCells _ _⟩
  have hmk : ∀ W : World, (Instr.makeSlice 42 (.int .i64 (bs.length : Int)) (.int .i64 (bs.length : Int))).run Try.prog W = .ok (.slice (some ⟨W.heap.size, 0, none⟩) bs.length bs.length) (W.alloc (.cells A 29)) := fun W => by
    have h := run_make (P := Try.prog) W 42 29 i0 _ Try.underlying42 hi hz0 .i64 .i64 (bs.length : Int) (bs.length : Int) (by omega) (by omega) (by rw [hz2]; omega) (by omega)
    rw [hz1, Int.toNat_natCast, ← hA] at h
    simpa using h
  clear hA
  have H0 : Hid (RowBu (w.alloc (.cells A 29)) w.heap.size bs.length []) := ⟨A, heap_alloc_new w _, hAs, fun i h => absurd h (by simp)⟩
  clear hAs
  go_enter Try.func15, Try.ntmps15
  go_wp2
  go_loopw [4] (fun i wr => ∃ (k : Nat) (cs : List Bu), k ≤ bs.length ∧ i = .int .i64 k ∧ cs.length ≤ k ∧ k ≤ cs.length ∧ Hid (cs.map Bu.pl = (bs.take k).map Bu.pl) ∧ Hid (RowBu wr w.heap.size bs.length cs) ∧ Hid (∀ c ∈ cs, SlI wr w.heap.size c.s.v c.ts) ∧ Hid (Below w.heap.size w wr)) (fun i _ => bs.length - (intOf i).toNat)
  case atStart => exact ⟨0, [], by omega, rfl, by simp, by simp, rfl, H0.out, (fun c hc => absurd hc (by simp) : ∀ c ∈ ([] : List Bu), _), (Below.refl _ _).alloc (Nat.le_refl _) _⟩
  case round =>
    obtain ⟨k, cs, hk, rfl, hc1, hc2, hpl, hrow, hown, hb⟩ := hrel
    clear H0 hmk hi hz0 hz1 hz2
    by_cases hlt : k < bs.length
    · obtain ⟨b, off, rfl, hbb, h0, h1, h2, h3, hrit⟩ := hx.out.stays hb.out k hlt
      have hq1 := hs.out _ (List.getElem_mem hlt)
      have HP : Hid (∃ x : Bu, x = bs[k]) := ⟨_, rfl⟩
      obtain ⟨⟨f, n, o, ts, s⟩, hp⟩ := HP.out
      rw [← hp] at h0 h1 h2 h3 hq1 hrit
      have HQ : Hid (Bu.mk f n o ts s = bs[k]) := hp
      have HRI : Hid (RIt wr s ts) := hrit
      clear hp HP hrit
      dsimp only at h0 h1 h2 h3 hq1
      go_wp2_with fail
      refine (toBundle_any f n o s ts _ HRI hq1).mono ?_
      rintro e w1 ⟨u, rfl, hu, hb1⟩
      have R1 : Hid (RowBu w1 w.heap.size bs.length cs) := hrow.out.later hb1
      have B1 : Hid (Below w.heap.size w w1) := bl_nxt hb.out hb1
      have U1 : Hid (SlI w1 w.heap.size u.v ts) := hu.down hb.out.size
      have O1 : Hid (∀ c ∈ cs, SlI w1 w.heap.size c.s.v c.ts) := fun c hc => (hown.out c hc).below hb1
      have hck : cs.length = k := by omega
      obtain ⟨v0, z0⟩ := R1.out.cell (k * 4) (by omega)
      obtain ⟨v1, z1⟩ := R1.out.cell (k * 4 + 1) (by omega)
      obtain ⟨v2, z2⟩ := R1.out.cell (k * 4 + 2) (by omega)
      obtain ⟨v3, z3⟩ := R1.out.cell (k * 4 + 3) (by omega)
      have f0 := R1.out.frozen (k * 4)
      have f1 := R1.out.frozen (k * 4 + 1)
      have f2 := R1.out.frozen (k * 4 + 2)
      have f3 := R1.out.frozen (k * 4 + 3)
      have S1 := R1.out.set (by omega) ⟨f, n, o, ts, u⟩
      rw [hck] at S1
      have S1 : Hid (RowBu ((((w1.setCell ⟨w.heap.size, k * 4, none⟩ (.int .i64 f)).setCell ⟨w.heap.size, k * 4 + 1, none⟩ (.int .i64 n)).setCell ⟨w.heap.size, k * 4 + 2, none⟩ (.int .i64 o)).setCell ⟨w.heap.size, k * 4 + 3, none⟩ (.slice u.a u.n u.c)) w.heap.size bs.length (cs ++ [Bu.mk f n o ts u])) := S1
      have T1 := (((((TurnAt.refl w.heap.size w1).setCell (k * 4) (.int .i64 f)).setCell (k * 4 + 1) (.int .i64 n)).setCell (k * 4 + 2) (.int .i64 o)).setCell (k * 4 + 3) (.slice u.a u.n u.c))
      obtain ⟨lb, hlb⟩ := R1.out.bx
      have HT1 : Hid (TurnAt w.heap.size w1 ((((w1.setCell ⟨w.heap.size, k * 4, none⟩ (.int .i64 f)).setCell ⟨w.heap.size, k * 4 + 1, none⟩ (.int .i64 n)).setCell ⟨w.heap.size, k * 4 + 2, none⟩ (.int .i64 o)).setCell ⟨w.heap.size, k * 4 + 3, none⟩ (.slice u.a u.n u.c))) := T1
      have HLB : Hid (Bx w1 w.heap.size 29 lb) := hlb
      have HCK : Hid (cs.length = k) := hck
      clear hu hb1 h0 h1 h2 h3 hrow hb hown T1 hlb hck
      go_wp2_with fail
      go_roundw
      case rel =>
        refine ⟨k + 1, cs ++ [Bu.mk f n o ts u], by omega, by go_num, by simp; omega, by simp; omega, ?_, S1.out, fun c hc => ?_, B1.out.trans (HT1.out.below (Nat.le_refl _))⟩
        · show _ = _
          rw [List.map_append, hpl.out, List.take_succ_eq_append_getElem hlt, List.map_append, ← HQ.out]
          rfl
        · rcases List.mem_append.1 hc with h | h
          · exact (O1.out c h).past HLB.out HT1.out (by decide)
          · rw [List.mem_singleton.1 h]; exact U1.out.past HLB.out HT1.out (by decide)
      case measure => simp [intOf]; omega
    · obtain rfl : k = bs.length := by omega
      go_wp2_with fail
      go_ret
      refine ⟨cs, rfl, ?_, hrow.out.bns (fun c hc => (hown.out c hc).rit), hb.out⟩
      have := hpl.out
      rwa [List.take_of_length_le (Nat.le_refl _)] at this
end Go.Proofs.Ytlflcjdpdbdbkaa
