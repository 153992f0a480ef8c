/- The walks over the program's sendNew and sendAgain. -/
import Derived.Test.YtohagaelenhebaaQ2
namespace Go.Proofs.Ytohagaelenhebaa
open Go.RowKit Pl Go.Conc
set_option linter.unusedVariables false

theorem min4 (n : Nat) : min (4 : Int) (n : Int) = ((min 4 n : Nat) : Int) := by omega

set_option maxRecDepth 100000 in
set_option maxHeartbeats 4000000 in
theorem psendNew_any {e : En} {B p : Nat} (w : World) (h : EndP w B p e) (hok : OkP e) :
    Calls Try.prog 58 #[.pointer (some ⟨p, 0, none⟩)] w fun r w' => ∃ c cap, r = .returned (.chan (some c)) ∧ ChAt w' c cap true (newP e) ∧ EndP w' B p (newE e) ∧ w.heap.size ≤ c ∧ Below B w w' := by
  obtain ⟨qv, ov, X0, S0, O0, D0, hBp, n1, n2⟩ := h
  obtain ⟨qa, qc, rfl⟩ := Sl.form S0
  obtain ⟨c0, c1, c2, c3, c4⟩ := X0.cells
  have f0 := X0.frozen 0
  have hpl := X0.lt
  have ha0 := hok.a0
  have ha1 := hok.a1
  have hn0 := hok.n0
  have hn1 := hok.n1
  have hq0 := hok.q0
  have hq1 := hok.q1
  have ww : (e.ak + if (e.q.length : Int) < 4 then (e.q.length : Int) else 4) = e.ak + ((min 4 e.q.length : Nat) : Int) := by
    split <;> omega
  have HP : Hid (EndP (w.setCell ⟨p, 0, none⟩ (.int .i64 (e.ak + ((min 4 e.q.length : Nat) : Int)))).drew B p (newE e)) :=
    ⟨_, _, X0.set0 _, slt_other S0 n1, slt_other O0 n2, D0, hBp, n1, n2⟩
  have HB : Hid (Below B w (w.setCell ⟨p, 0, none⟩ (.int .i64 (e.ak + ((min 4 e.q.length : Nat) : Int)))).drew) := ((Below.refl B w).setCell hBp _).drew
  have hz : (w.setCell ⟨p, 0, none⟩ (.int .i64 (e.ak + ((min 4 e.q.length : Nat) : Int)))).drew.heap.size = w.heap.size := by simp [World.setCell]
  have d0 : (w.setCell ⟨p, 0, none⟩ (.int .i64 (e.ak + ((min 4 e.q.length : Nat) : Int)))).drew.cell? ⟨p, 0, none⟩ = some (.int .i64 (e.ak + ((min 4 e.q.length : Nat) : Int))) := by
    have := (X0.set0 (e.ak + ((min 4 e.q.length : Nat) : Int))).cells.1
    exact this
  have HFQ : Hid (∀ t ∈ e.q, t.size ≤ 1048576) := fun t ht => by have := hok.fq t ht; omega
  clear X0 S0 O0 D0 n1 n2
  go_enter Try.func58, Try.ntmps58
  go_wp2_with fail
  go_region
  generalize (w.setCell ⟨p, 0, none⟩ (.int .i64 (e.ak + ((min 4 e.q.length : Nat) : Int)))).drew = W at *
  clear c0 c1 c2 c3 c4 f0 ww
  go_wp2_with fail
  all_goals
    have e1 : e.nx = (newE e).ak + (sent e : Int) := by show e.nx = e.ak + (sent e : Int); unfold sent; omega
    have e2 : e.ak + ((min 4 e.q.length : Nat) : Int) = (newE e).ak + (sent e : Int) + ((wide e - sent e : Nat) : Int) := by
      show e.ak + ((min 4 e.q.length : Nat) : Int) = e.ak + (sent e : Int) + ((wide e - sent e : Nat) : Int)
      unfold sent wide
      omega
    rw [e1, e2]
    refine (pparcels_any (e := newE e) W HP.out (by show sent e + (wide e - sent e) ≤ e.q.length; unfold sent wide; omega) (by unfold sent wide; omega) ha0 ha1 (by unfold sent; omega) HFQ).mono ?_
    rintro r w2 ⟨c, rfl, hC, hc, hb⟩
    have HP2 : Hid (EndP w2 B p (newE e)) := HP.out.below hb
    have HB2 : Hid (Below B w w2) := HB.out.trans (hb.mono (by omega))
    have HC2 : Hid (ChAt w2 c (wide e - sent e) true (newP e)) := hC
    clear hC hb HP HB d0 e1 e2
    go_wp2_with fail
    go_ret
    exact ⟨c, _, rfl, HC2.out, HP2.out, by omega, HB2.out⟩

theorem wp_region_last {P : Program} {Q : Exit → Act → World → Prop} {a : Act} {w : World} {id : Nat} (l : List Oper) (hne : l ≠ []) (h : wpList P l.toArray (fun e a' w' => e = .normal ∧ RunR P l.toArray Q [l.dropLast.length] a' w') l.dropLast a w) : (Code.region id l.toArray false).wp P Q a w :=
  wp_region_then l.dropLast (l.getLast hne) (List.dropLast_concat_getLast hne).symm h (fun _ _ h => h)

theorem pparcels_all {e : En} {B p : Nat} (w : World) (h : EndP w B p e) (hok : OkP e) :
    Calls Try.prog 75 #[.pointer (some ⟨p, 0, none⟩), .int .i64 e.ak, .int .i64 e.nx] w fun r w' => ∃ c, r = .returned (.chan (some c)) ∧ ChAt w' c (sent e) true (parcs e 0 (sent e)) ∧ w.heap.size ≤ c ∧ Below w.heap.size w w' := by
  have h1 := hok.q0
  have h2 := hok.n0
  have h3 := hok.n1
  have := pparcels_any (i := 0) (n := sent e) w h (by unfold sent; omega) (by unfold sent; omega) hok.a0 hok.a1 (by omega) (fun t ht => by have := hok.fq t ht; omega)
  have e1 : e.ak + ((0 : Nat) : Int) = e.ak := by omega
  have e2 : e.ak + ((0 : Nat) : Int) + ((sent e : Nat) : Int) = e.nx := by unfold sent; omega
  rw [e2, e1] at this
  exact this

theorem bare_chan (w : World) (g : Int) : ChAt ((w.alloc (.chan 1 #[] false 0 0 false)).setChan w.heap.size 1 #[.agg #[.int .i64 0, .int .i64 g, .string ⟨#[]⟩]] true 1 0 false) w.heap.size 1 true [(0, g, ByteArray.empty)] :=
  ⟨1, 0, heap_setChan _ _ _ _ _ _ _ _ (by simp)⟩

set_option maxRecDepth 100000 in
set_option maxHeartbeats 4000000 in
theorem psendAgain_any {e : En} {B p : Nat} (w : World) (h : EndP w B p e) (hok : OkP e) :
    Calls Try.prog 59 #[.pointer (some ⟨p, 0, none⟩)] w fun r w' => ∃ c cap, r = .returned (.chan (some c)) ∧ ChAt w' c cap true (againP e) ∧ w.heap.size ≤ c ∧ Below w.heap.size w w' := by
  have HP : Hid (EndP w B p e) := h
  obtain ⟨qv, ov, X0, S0, O0, D0, hBp, n1, n2⟩ := h
  obtain ⟨c0, c1, c2, c3, c4⟩ := X0.cells
  have ha0 := hok.a0
  have ha1 := hok.a1
  have hn0 := hok.n0
  have hn1 := hok.n1
  have hq0 := hok.q0
  have hq1 := hok.q1
  have hpl := X0.lt
  have HFQ : Hid (∀ t ∈ e.q, t.size ≤ 1048576) := fun t ht => by have := hok.fq t ht; omega
  by_cases hlt : e.ak < e.nx
  · clear X0 S0 O0 D0 n1 n2
    go_enter Try.func59, Try.ntmps59
    go_wp2_with fail
    go_quiet (fail)
    go_wp2_with fail
    go_region_held3 (fun w' => w'.cell? ⟨p, 0, none⟩ = some (.int .i64 e.nx) ∧ w'.cell? ⟨p, 1, none⟩ = some (.int .i64 e.ak)) (first | exact ⟨(hb2.cell (p := ⟨p, 0, none⟩) hpl).trans c0, (hb2.cell (p := ⟨p, 1, none⟩) hpl).trans c1⟩ | exact ⟨c0, c1⟩)
      (first | (go_at_call 75; refine (pparcels_all _ (show EndP (w.drewN nq).drew B p e from HP.out) hok).mono ?_; rintro r w2 ⟨c, rfl, hC, hc, hb2⟩))
    have HC : Hid (ChAt w2 c (sent e) true (againP e)) := by show ChAt _ _ _ _ _; unfold againP; rw [if_pos hlt]; exact hC
    have HB : Hid (Below w.heap.size w w2) := (below_drewN (Below.refl w.heap.size w) nq).drew.trans hb2
    clear hC hb2
    go_wp2_with fail
    go_ret
    exact ⟨c, _, rfl, HC.out, hc, HB.out⟩
  · clear X0 S0 O0 D0 n1 n2
    go_enter Try.func59, Try.ntmps59
    go_wp2_with fail
    go_quiet (fail)
    have hmk : ∀ W : World, (Instr.makeChan 95 (.int .i64 1)).run Try.prog W = .ok (.chan (some W.heap.size)) (W.alloc (.chan 1 #[] false 0 0 false)) := fun W => mkChan 1 W (by omega)
    have hd : decide (e.ak < e.nx) = false := by simp; omega
    rw [hd]
    rename_i K1 hK1 K2 hK2
    show K2 _ _
    refine hK2 _ _ (wp_cond_false (by rfl) (wp_skip ?_))
    show K1 _ _
    refine hK1 _ _ ?_
    refine wp_seq_k fun K3 hK3 => ?_
    have HK3 : Hid _ := hK3
    clear hK3 hK1 hK2
    go_wp2_with fail
    show K3 _ _
    refine HK3.out _ _ ?_
    clear hmk HK3
    have hbw : Below w.heap.size w ((w.drewN nq).alloc (.chan 1 #[] false 0 0 false)) := (below_drewN (Below.refl w.heap.size w) nq).alloc (Nat.le_refl _) _
    have d3 : ((w.drewN nq).alloc (.chan 1 #[] false 0 0 false)).cell? ⟨p, 3, none⟩ = some (.int .i64 e.gt) := (hbw.cell (p := ⟨p, 3, none⟩) hpl).trans c3
    have hch : ((w.drewN nq).alloc (.chan 1 #[] false 0 0 false)).heap[w.heap.size]? = some (.chan 1 #[] false 0 0 false) := heap_alloc_new (w.drewN nq) _
    generalize ((w.drewN nq).alloc (.chan 1 #[] false 0 0 false)) = W at *
    refine wp_seq_k fun K4 hK4 => ?_
    refine wp_region_last _ (by simp) ?_
    simp only [List.dropLast]
    go_wp2_with fail
    refine runR_send (rest := []) (by rfl) rfl rfl (by rfl) (by rfl) hch (by simp) ?_
    show RunR _ _ _ [] _ (W.setChan w.heap.size 1 #[Value.agg #[.int .i64 0, .int .i64 e.gt, .string ⟨#[]⟩]] false 1 0 false)
    have hlc := (Array.getElem?_eq_some_iff.1 hch).1
    have hch2 : (W.setChan w.heap.size 1 #[Value.agg #[.int .i64 0, .int .i64 e.gt, .string ⟨#[]⟩]] false 1 0 false).heap[w.heap.size]? = some (.chan 1 #[Value.agg #[.int .i64 0, .int .i64 e.gt, .string ⟨#[]⟩]] false 1 0 false) := heap_setChan _ _ _ _ _ _ _ _ hlc
    have hbw2 := below_setChan hbw (Nat.le_refl w.heap.size) 1 #[Value.agg #[.int .i64 0, .int .i64 e.gt, .string ⟨#[]⟩]] false 1 0 false
    refine runR_of_ops ?_
    simp only [wpOps]
    generalize (W.setChan w.heap.size 1 #[Value.agg #[.int .i64 0, .int .i64 e.gt, .string ⟨#[]⟩]] false 1 0 false) = W2 at *
    have hcl := fun ats ty => run_close_open (P := Try.prog) (w := W2) ats ty hch2
    have HC : Hid (ChAt { W2 with heap := W2.heap.setIfInBounds w.heap.size (.chan 1 #[Value.agg #[.int .i64 0, .int .i64 e.gt, .string ⟨#[]⟩]] true 1 0 false) } w.heap.size 1 true (againP e)) := by
      refine ⟨1, 0, ?_⟩
      have := (Array.getElem?_eq_some_iff.1 hch2).1
      unfold againP
      rw [if_neg (by omega)]
      simp [this, pcV]
      rfl
    have HB : Hid (Below w.heap.size w { W2 with heap := W2.heap.setIfInBounds w.heap.size (.chan 1 #[Value.agg #[.int .i64 0, .int .i64 e.gt, .string ⟨#[]⟩]] true 1 0 false) }) :=
      below_setChan hbw2 (Nat.le_refl _) 1 _ true 1 0 false
    go_wp2_with fail
    go_ret
    exact ⟨_, _, rfl, HC.out, Nat.le_refl _, HB.out⟩
end Go.Proofs.Ytohagaelenhebaa
