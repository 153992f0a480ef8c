/- The walk over the program's parcels: a channel filled and closed. -/
import Derived.Test.YtohagaelenhebaaCh
import Derived.Test.YtohagaelenhebaaP2
import Derived.Deep.QuietTactic
import Derived.BigQuiet
import Derived.Deep.RegionWith
namespace Go.Proofs.Ytohagaelenhebaa
open Go.RowKit Pl Go.Conc
set_option linter.unusedVariables false

theorem q_val {P : Program} {C : World → Prop} {o : Oper} {a : Act} {K : Act → Prop} (v : Value) (h : ∀ w, C w → (execOp a.eval o).run P w = .ok (.value v) w) (hk : K (a.put o.dst v)) : o.quiet P a C K :=
  ⟨v, fun w hw => by unfold Oper.quietAt; rw [h w hw]; exact ⟨rfl, rfl⟩, hk⟩
theorem q_call {P : Program} {C : World → Prop} {o : Oper} {a : Act} {K : Act → Prop} (v : Value) (f : FuncId) (args : Array Value) (h : ∀ w, C w → (execOp a.eval o).run P w = .ok (.enter f args) w) (hc : ∀ w, C w → Calls P f args w fun e w' => e = .returned v ∧ C w') (hk : K (a.put o.dst v)) : o.quiet P a C K :=
  ⟨v, fun w hw => by unfold Oper.quietAt; rw [h w hw]; exact ⟨rfl, hc w hw⟩, hk⟩

def pcV (p : Pc) : Value := .agg #[.int .i64 p.1, .int .i64 p.2.1, .string p.2.2]
/-- the block c is a channel that holds these parcels. -/
def ChAt (w : World) (c cap : Nat) (shut : Bool) (ps : List Pc) : Prop := ∃ s r, w.heap[c]? = some (.chan cap (ps.map pcV).toArray shut s r false)
theorem ChAt.lt {w : World} {c cap : Nat} {b : Bool} {ps : List Pc} (h : ChAt w c cap b ps) : c < w.heap.size := by
  obtain ⟨s, r, h⟩ := h
  exact (Array.getElem?_eq_some_iff.1 h).1
theorem ChAt.below {w w' : World} {c cap : Nat} {b : Bool} {ps : List Pc} (h : ChAt w c cap b ps) (hb : Below w.heap.size w w') : ChAt w' c cap b ps := by
  have hlt := h.lt
  obtain ⟨s, r, h⟩ := h
  exact ⟨s, r, (hb.block c hlt).trans h⟩

theorem mkChan (n : Nat) (w : World) (hn : n ≤ 100) : (Instr.makeChan 95 (.int .i64 (n : Int))).run Try.prog w = .ok (.chan (some w.heap.size)) (w.alloc (.chan n #[] false 0 0 false)) := by
  have h : (Try.prog.info? 41).map (·.bytes) = some 32 := by kernel_rfl
  obtain ⟨i, hi, hb⟩ := Option.map_eq_some_iff.1 h
  exact run_makeChan (P := Try.prog) (w := w) Try.underlying95 hi .i64 n (by omega) (by rw [hb]; omega)

set_option maxRecDepth 100000 in
set_option maxHeartbeats 4000000 in
theorem pparcels_any {e : En} {B p i n : Nat} (w : World) (h : EndP w B p e) (hq : i + n ≤ e.q.length) (hn : n ≤ 100) (ha : 0 ≤ e.ak) (ha2 : e.ak ≤ 1000) (hi : i ≤ 100) (hs : Hid (∀ t ∈ e.q, t.size ≤ 1048576)) :
    Calls Try.prog 75 #[.pointer (some ⟨p, 0, none⟩), .int .i64 (e.ak + (i : Int)), .int .i64 (e.ak + (i : Int) + (n : Int))] w fun r w' => ∃ c, r = .returned (.chan (some c)) ∧ ChAt w' c n true (parcs e i n) ∧ w.heap.size ≤ c ∧ Below w.heap.size w w' := by
  have hw : IntKind.i64.wrap (e.ak + (i : Int) + (n : Int) - (e.ak + (i : Int))) = (n : Int) := by rw [IntKind.wrap_i64]; omega
  have hmk := mkChan n w hn
  have hw2 : IntKind.i64.wrap (e.ak + (i : Int) + 1) = e.ak + (i : Int) + 1 := by rw [IntKind.wrap_i64]; omega
  go_enter Try.func75, Try.ntmps75
  go_wp2_with fail
  go_loopw [8] (fun num wr => ∃ k : Nat, k ≤ n ∧ num = .int .i64 (e.ak + (i : Int) + (k : Int) + 1) ∧ Hid (ChAt wr w.heap.size n false (parcs e i k)) ∧ Hid (Below w.heap.size w wr)) (fun num _ => (e.ak + (i : Int) + (n : Int) + 1 - intOf num).toNat)
  case atStart => exact ⟨0, Nat.zero_le _, by congr 1; omega, ⟨0, 0, by simpa [parcs] using heap_alloc_new w _⟩, (Below.refl _ _).alloc (Nat.le_refl _) _⟩
  case round =>
    obtain ⟨k, hk, rfl, hC, hB⟩ := hrel
    clear hmk hw hw2
    by_cases hlt : k < n
    · have hd : decide (e.ak + (i : Int) + (k : Int) + 1 ≤ e.ak + (i : Int) + (n : Int)) = true := by simp; omega
      have hx1 : IntKind.i64.wrap (e.ak + (i : Int) + (k : Int) + 1 - e.ak) = (i : Int) + (k : Int) + 1 := by rw [IntKind.wrap_i64]; omega
      have hx2 : IntKind.i64.wrap ((i : Int) + (k : Int)) = (i : Int) + (k : Int) := by rw [IntKind.wrap_i64]; omega
      have hx3 : (0 : Int) ≤ (i : Int) + (k : Int) := by omega
      have hx4 : (i : Int) + (k : Int) < (e.q.length : Int) := by omega
      have hx5 : ((i : Int) + (k : Int)).toNat = i + k := by omega
      obtain ⟨qv, ov, X0, S0, _, _, _, _, _⟩ := h
      obtain ⟨qa, qc, rfl, TQ⟩ := S0.texts
      have X1 : EndC wr 32 p e.nx e.ak (.slice qa e.q.length qc) e.gt ov := X0.below hB.out
      obtain ⟨g, off, rfl, hgl, hgc⟩ := TQ.stays hB.out (i + k) (by omega)
      obtain ⟨x, hx⟩ : ∃ x, x = e.q[i + k]'(by omega) := ⟨_, rfl⟩
      rw [← hx] at hgc
      have hsx : x.size ≤ 1048576 := by rw [hx]; exact hs.out _ (List.getElem_mem _)
      have HX : Hid (parc e (i + k) = (e.ak + (i : Int) + (k : Int) + 1, e.gt, x)) := by
        show parc e (i + k) = _
        unfold parc
        rw [hx, List.getD_eq_getElem?_getD, List.getElem?_eq_getElem (show i + k < e.q.length by omega)]
        simp
        omega
      clear hx
      have hpl := X1.lt
      obtain ⟨_, c1, c2, c3, _⟩ := X1.cells
      have hCs : ∀ w' w'' : World, ((w'.cell? ⟨p, 1, none⟩ = some (.int .i64 e.ak) ∧ w'.cell? ⟨p, 2, none⟩ = some (.slice (some ⟨g, off, none⟩) e.q.length qc) ∧ w'.cell? ⟨p, 3, none⟩ = some (.int .i64 e.gt) ∧ w'.cell? ⟨g, off + (i + k), none⟩ = some (.string x)) ∧ Hid (Below wr.heap.size wr w')) → Below w'.heap.size w' w'' →
          ((w''.cell? ⟨p, 1, none⟩ = some (.int .i64 e.ak) ∧ w''.cell? ⟨p, 2, none⟩ = some (.slice (some ⟨g, off, none⟩) e.q.length qc) ∧ w''.cell? ⟨p, 3, none⟩ = some (.int .i64 e.gt) ∧ w''.cell? ⟨g, off + (i + k), none⟩ = some (.string x)) ∧ Hid (Below wr.heap.size wr w'')) := by
        rintro w' w'' ⟨⟨d1, d2, d3, d4⟩, d5⟩ hb1
        have z := d5.out.size
        exact ⟨⟨(hb1.cell (p := ⟨p, 1, none⟩) (show p < w'.heap.size by omega)).trans d1, (hb1.cell (p := ⟨p, 2, none⟩) (show p < w'.heap.size by omega)).trans d2, (hb1.cell (p := ⟨p, 3, none⟩) (show p < w'.heap.size by omega)).trans d3, (hb1.cell (p := ⟨g, off + (i + k), none⟩) (show g < w'.heap.size by omega)).trans d4⟩, d5.out.trans (hb1.mono z)⟩
      clear S0 TQ X0 X1
      go_wp2_with fail
      refine wp_region_quiet_last (C := fun w' => ((w'.cell? ⟨p, 1, none⟩ = some (.int .i64 e.ak) ∧ w'.cell? ⟨p, 2, none⟩ = some (.slice (some ⟨g, off, none⟩) e.q.length qc) ∧ w'.cell? ⟨p, 3, none⟩ = some (.int .i64 e.gt) ∧ w'.cell? ⟨g, off + (i + k), none⟩ = some (.string x)) ∧ Hid (Below wr.heap.size wr w'))) _ (by simp) (by kernel_rfl) rfl rfl (by kernel_rfl) (by kernel_rfl) (by kernel_rfl) ⟨⟨c1, c2, c3, hgc⟩, (Below.refl _ _).drew⟩ ?_
      simp only [List.dropLast]
      go_big_quiet_want
      refine q_val (.chan (some w.heap.size)) (fun w' hw' => by obtain ⟨⟨d1, d2, d3, d4⟩, _⟩ := hw'; go_simp) ?_
      go_big_quiet_on
      simp only [Act.put, List.setIfInBounds_toArray, List.set_cons_zero, List.set_cons_succ]
      go_big_quiet_want
      refine q_val (.int .i64 (e.ak + (i : Int) + (k : Int) + 1)) (fun w' hw' => by obtain ⟨⟨d1, d2, d3, d4⟩, _⟩ := hw'; go_simp) ?_
      go_big_quiet_on
      simp only [Act.put, List.setIfInBounds_toArray, List.set_cons_zero, List.set_cons_succ]
      go_big_quiet_want
      refine q_val (.pointer (some ⟨p, 0, none⟩)) (fun w' hw' => by obtain ⟨⟨d1, d2, d3, d4⟩, _⟩ := hw'; go_simp) ?_
      go_big_quiet_on
      simp only [Act.put, List.setIfInBounds_toArray, List.set_cons_zero, List.set_cons_succ]
      go_big_quiet_want
      refine q_val (.pointer (some ⟨p, 0, none⟩)) (fun w' hw' => by obtain ⟨⟨d1, d2, d3, d4⟩, _⟩ := hw'; go_simp) ?_
      go_big_quiet_on
      simp only [Act.put, List.setIfInBounds_toArray, List.set_cons_zero, List.set_cons_succ]
      go_big_quiet_want
      refine q_val (.pointer (some ⟨p, 3, none⟩)) (fun w' hw' => by obtain ⟨⟨d1, d2, d3, d4⟩, _⟩ := hw'; go_simp) ?_
      go_big_quiet_on
      simp only [Act.put, List.setIfInBounds_toArray, List.set_cons_zero, List.set_cons_succ]
      go_big_quiet_want
      refine q_val (.int .i64 e.gt) (fun w' hw' => by obtain ⟨⟨d1, d2, d3, d4⟩, _⟩ := hw'; go_simp) ?_
      go_big_quiet_on
      simp only [Act.put, List.setIfInBounds_toArray, List.set_cons_zero, List.set_cons_succ]
      go_big_quiet_want
      refine q_val (.pointer (some ⟨p, 0, none⟩)) (fun w' hw' => by obtain ⟨⟨d1, d2, d3, d4⟩, _⟩ := hw'; go_simp) ?_
      go_big_quiet_on
      simp only [Act.put, List.setIfInBounds_toArray, List.set_cons_zero, List.set_cons_succ]
      go_big_quiet_want
      refine q_val (.pointer (some ⟨p, 0, none⟩)) (fun w' hw' => by obtain ⟨⟨d1, d2, d3, d4⟩, _⟩ := hw'; go_simp) ?_
      go_big_quiet_on
      simp only [Act.put, List.setIfInBounds_toArray, List.set_cons_zero, List.set_cons_succ]
      go_big_quiet_want
      refine q_val (.pointer (some ⟨p, 2, none⟩)) (fun w' hw' => by obtain ⟨⟨d1, d2, d3, d4⟩, _⟩ := hw'; go_simp) ?_
      go_big_quiet_on
      simp only [Act.put, List.setIfInBounds_toArray, List.set_cons_zero, List.set_cons_succ]
      go_big_quiet_want
      refine q_val (.slice (some ⟨g, off, none⟩) e.q.length qc) (fun w' hw' => by obtain ⟨⟨d1, d2, d3, d4⟩, _⟩ := hw'; go_simp) ?_
      go_big_quiet_on
      simp only [Act.put, List.setIfInBounds_toArray, List.set_cons_zero, List.set_cons_succ]
      go_big_quiet_want
      refine q_val (.int .i64 (e.ak + (i : Int) + (k : Int) + 1)) (fun w' hw' => by obtain ⟨⟨d1, d2, d3, d4⟩, _⟩ := hw'; go_simp) ?_
      go_big_quiet_on
      simp only [Act.put, List.setIfInBounds_toArray, List.set_cons_zero, List.set_cons_succ]
      go_big_quiet_want
      refine q_val (.pointer (some ⟨p, 0, none⟩)) (fun w' hw' => by obtain ⟨⟨d1, d2, d3, d4⟩, _⟩ := hw'; go_simp) ?_
      go_big_quiet_on
      simp only [Act.put, List.setIfInBounds_toArray, List.set_cons_zero, List.set_cons_succ]
      go_big_quiet_want
      refine q_val (.pointer (some ⟨p, 0, none⟩)) (fun w' hw' => by obtain ⟨⟨d1, d2, d3, d4⟩, _⟩ := hw'; go_simp) ?_
      go_big_quiet_on
      simp only [Act.put, List.setIfInBounds_toArray, List.set_cons_zero, List.set_cons_succ]
      go_big_quiet_want
      refine q_val (.pointer (some ⟨p, 1, none⟩)) (fun w' hw' => by obtain ⟨⟨d1, d2, d3, d4⟩, _⟩ := hw'; go_simp) ?_
      go_big_quiet_on
      simp only [Act.put, List.setIfInBounds_toArray, List.set_cons_zero, List.set_cons_succ]
      go_big_quiet_want
      refine q_val (.int .i64 e.ak) (fun w' hw' => by obtain ⟨⟨d1, d2, d3, d4⟩, _⟩ := hw'; go_simp) ?_
      go_big_quiet_on
      simp only [Act.put, List.setIfInBounds_toArray, List.set_cons_zero, List.set_cons_succ]
      go_big_quiet_want
      refine q_val (.int .i64 ((i : Int) + (k : Int) + 1)) (fun w' hw' => by obtain ⟨⟨d1, d2, d3, d4⟩, _⟩ := hw'; go_simp) ?_
      go_big_quiet_on
      simp only [Act.put, List.setIfInBounds_toArray, List.set_cons_zero, List.set_cons_succ]
      go_big_quiet_want
      refine q_val (.int .i64 ((i : Int) + (k : Int))) (fun w' hw' => by obtain ⟨⟨d1, d2, d3, d4⟩, _⟩ := hw'; go_simp) ?_
      go_big_quiet_on
      simp only [Act.put, List.setIfInBounds_toArray, List.set_cons_zero, List.set_cons_succ]
      go_big_quiet_want
      refine q_val (.pointer (some ⟨g, off + (i + k), none⟩)) (fun w' hw' => by obtain ⟨⟨d1, d2, d3, d4⟩, _⟩ := hw'; go_simp) ?_
      go_big_quiet_on
      simp only [Act.put, List.setIfInBounds_toArray, List.set_cons_zero, List.set_cons_succ]
      go_big_quiet_want
      refine q_val (.string x) (fun w' hw' => by obtain ⟨⟨d1, d2, d3, d4⟩, _⟩ := hw'; go_simp) ?_
      go_big_quiet_on
      simp only [Act.put, List.setIfInBounds_toArray, List.set_cons_zero, List.set_cons_succ]
      go_big_quiet_want
      refine q_call (.string x) 74 #[.string x] (fun w' hw' => by go_simp) (fun w' hw' => (clone_any x w' hsx).mono fun e1 w'' ⟨he, hb1⟩ => ⟨he, hCs w' w'' hw' hb1⟩) ?_
      go_big_quiet_on
      simp only [Act.put, List.setIfInBounds_toArray, List.set_cons_zero, List.set_cons_succ]
      go_big_quiet_want
      refine q_val (.agg #[.int .i64 (e.ak + (i : Int) + (k : Int) + 1), .int .i64 e.gt, .string x]) (fun w' hw' => by obtain ⟨⟨d1, d2, d3, d4⟩, _⟩ := hw'; go_simp) ?_
      go_big_quiet_on
      simp only [Act.put, List.setIfInBounds_toArray, List.set_cons_zero, List.set_cons_succ]
      refine wpQuiet_nil ?_
      intro w1 hcw
      have hb1 : Below wr.heap.size wr w1 := hcw.2.out
      obtain ⟨s, r, hch⟩ := hC.out.below hb1
      have HCN : Hid (ChAt (w1.setChan w.heap.size n (((parcs e i k).map pcV ++ [Value.agg #[.int .i64 (e.ak + (i : Int) + (k : Int) + 1), .int .i64 e.gt, .string x]]).toArray) false (s + 1) r false) w.heap.size n false (parcs e i (k + 1))) := by
        refine ⟨s + 1, r, ?_⟩
        rw [heap_setChan _ _ _ _ _ _ _ _ (Array.getElem?_eq_some_iff.1 hch).1, parcs_succ, HX.out]
        simp [pcV]
      have HBN : Hid (Below w.heap.size w (w1.setChan w.heap.size n (((parcs e i k).map pcV ++ [Value.agg #[.int .i64 (e.ak + (i : Int) + (k : Int) + 1), .int .i64 e.gt, .string x]]).toArray) false (s + 1) r false)) :=
        below_setChan (hB.out.trans (hb1.mono hB.out.size)) (Nat.le_refl _) _ _ _ _ _ _
      refine runR_send (rest := []) (by rfl) rfl rfl (by rfl) (by rfl) hch (by simp [parcs_length]; omega) ?_
      refine runR_of_ops ?_
      simp only [wpOps]
      clear hch hcw hCs c1 c2 c3 hgc hb1
      have hx6 : IntKind.i64.wrap (e.ak + (i : Int) + (k : Int) + 1 + 1) = e.ak + (i : Int) + (k : Int) + 1 + 1 := by rw [IntKind.wrap_i64]; omega
      go_wp2_with fail
      go_roundw
      case rel => exact ⟨k + 1, by omega, by congr 1; omega, HCN.out, HBN.out⟩
      case measure => simp [intOf]; omega
    · have hd : decide (e.ak + (i : Int) + (k : Int) + 1 ≤ e.ak + (i : Int) + (n : Int)) = false := by simp; omega
      obtain rfl : k = n := by omega
      obtain ⟨s, r, hch⟩ := hC.out
      have hcl := fun ats ty => run_close_open (P := Try.prog) (w := wr) ats ty hch
      have HCN : Hid (ChAt { wr with heap := wr.heap.setIfInBounds w.heap.size (.chan k ((parcs e i k).map pcV).toArray true s r false) } w.heap.size k true (parcs e i k)) := by
        refine ⟨s, r, ?_⟩
        have := (Array.getElem?_eq_some_iff.1 hch).1
        simp [this]
      have HBN : Hid (Below w.heap.size w { wr with heap := wr.heap.setIfInBounds w.heap.size (.chan k ((parcs e i k).map pcV).toArray true s r false) }) :=
        below_setChan hB.out (Nat.le_refl _) k _ true s r false
      go_wp2_with fail
      go_ret
      exact ⟨_, rfl, HCN.out, Nat.le_refl _, HBN.out⟩
end Go.Proofs.Ytohagaelenhebaa
