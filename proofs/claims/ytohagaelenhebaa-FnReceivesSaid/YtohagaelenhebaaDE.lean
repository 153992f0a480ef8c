/- The walk over a drawn end. -/
import Derived.Test.YtohagaelenhebaaXs
namespace Go.Proofs.Ytohagaelenhebaa
open Go.RowKit Pl
set_option linter.unusedVariables false

/-- right, and small. -/
structure Small (k : Nat) (e : En) : Prop where
  ok : OkS e
  le : e.ak + (e.q.length : Int) ≤ k
  gt : e.gt ≤ k
theorem Small.up {k : Nat} {e : En} (h : Small k e) : Small (k + 1) e := ⟨h.ok, by have := h.le; omega, by have := h.gt; omega⟩
theorem small_off {k : Nat} {e : En} {s : ByteArray} (h : Small k e) (hs : s.size ≤ 60) : Small (k + 1) (if offB e s then offE e s else noE) := by
  have h1 := h.le
  have h2 := h.gt
  split
  · rename_i hb
    unfold offB at hb
    simp only [Bool.and_eq_true, decide_eq_true_eq] at hb
    have p := h.ok.ok
    refine ⟨⟨⟨p.a0, p.a1, p.n0, p.n1, ?_, ?_, p.g0, p.g1, p.o0, fun t ht => ?_, p.fo⟩, ?_⟩, ?_, ?_⟩
    · show e.nx - e.ak ≤ ((e.q ++ [s]).length : Int); have := p.q0; rw [List.length_append]; simp; omega
    · show (e.q ++ [s]).length ≤ 30; rw [List.length_append]; simp; omega
    · rcases List.mem_append.1 ht with ht | ht
      · exact p.fq t ht
      · simp at ht; subst ht; exact hs
    · show e.ak + ((e.q ++ [s]).length : Int) ≤ 1000; rw [List.length_append]; simp; omega
    · show e.ak + ((e.q ++ [s]).length : Int) ≤ ((k + 1 : Nat) : Int); rw [List.length_append]; simp; omega
    · show e.gt ≤ ((k + 1 : Nat) : Int); omega
  · refine ⟨noE_ok, ?_, ?_⟩
    · show (0 : Int) + 0 ≤ ((k + 1 : Nat) : Int); omega
    · show (0 : Int) ≤ ((k + 1 : Nat) : Int); omega

theorem small_new {k : Nat} {e : En} (h : Small k e) : Small (k + 1) (newE e) := ⟨newE_ok h.ok, by show e.ak + (e.q.length : Int) ≤ ((k + 1 : Nat) : Int); have := h.le; omega, by show e.gt ≤ ((k + 1 : Nat) : Int); have := h.gt; omega⟩
theorem small_recv {k : Nat} {e : En} {p : Pc} (h : Small k e) (hp : PcOk p) : Small (k + 1) (recvE e p) := by
  have hq := takeE_q (ackE e p.2.1) p
  have h1 := h.le
  have h2 := h.gt
  have hs : (ackE e p.2.1).ak + ((ackE e p.2.1).q.length : Int) ≤ k := by
    have a1 := h.ok.ok.q0
    unfold ackE
    split
    · show p.2.1 + ((e.q.drop (p.2.1 - e.ak).toNat).length : Int) ≤ k
      rw [List.length_drop]
      omega
    · exact h1
  refine ⟨recvE_ok h.ok hp, ?_, ?_⟩
  · unfold recvE
    rw [hq.1, hq.2]
    omega
  · unfold recvE takeE
    have := (ackE_o e p.2.1).2
    split
    · show (ackE e p.2.1).gt + 1 ≤ ((k + 1 : Nat) : Int); omega
    · omega

set_option maxRecDepth 100000 in
set_option maxHeartbeats 4000000 in
theorem drawEnd_any (w0 w : World) (B g n cap : Nat) (ao : Option Addr) (hn : n ≤ 1048576) (hB : B ≤ g) (hd : Hid (Drw w0 w B g ao n cap)) :
    Calls Try.prog 63 #[.pointer (some ⟨g, 0, none⟩)] w fun r w' => (∃ v e, r = .returned v ∧ EndM w' w.heap.size v e ∧ Bnd e) ∧ Hid (Drw w0 w' B g ao n cap) := by
  have hgl := hd.out.lt
  have h0w : w0.heap.size ≤ w.heap.size := hd.out.2.2.size
  have b1 : Below w.heap.size w (w.alloc (Obj.cells #[Value.int IntKind.i64 0, Value.int IntKind.i64 0, Value.slice none 0 0, Value.int IntKind.i64 0, Value.slice none 0 0] 32)) := (Below.refl _ _).alloc (Nat.le_refl _) _
  have b2 : Below (w.alloc (Obj.cells #[Value.int IntKind.i64 0, Value.int IntKind.i64 0, Value.slice none 0 0, Value.int IntKind.i64 0, Value.slice none 0 0] 32)).heap.size (w.alloc (Obj.cells #[Value.int IntKind.i64 0, Value.int IntKind.i64 0, Value.slice none 0 0, Value.int IntKind.i64 0, Value.slice none 0 0] 32)) ((w.alloc (Obj.cells #[Value.int IntKind.i64 0, Value.int IntKind.i64 0, Value.slice none 0 0, Value.int IntKind.i64 0, Value.slice none 0 0] 32)).alloc (Obj.cells #[Value.int IntKind.i64 0, Value.int IntKind.i64 0, Value.slice none 0 0, Value.int IntKind.i64 0, Value.slice none 0 0] 32)) := (Below.refl _ _).alloc (Nat.le_refl _) _
  have R0 : Hid (EndC ((w.alloc (Obj.cells #[Value.int IntKind.i64 0, Value.int IntKind.i64 0, Value.slice none 0 0, Value.int IntKind.i64 0, Value.slice none 0 0] 32)).alloc (Obj.cells #[Value.int IntKind.i64 0, Value.int IntKind.i64 0, Value.slice none 0 0, Value.int IntKind.i64 0, Value.slice none 0 0] 32)) 32 w.heap.size 0 0 (.slice none 0 0) 0 (.slice none 0 0)) := (EndC.new w 32 0 0 0 _ _).below b2
  have A0 : Hid (EndQ ((w.alloc (Obj.cells #[Value.int IntKind.i64 0, Value.int IntKind.i64 0, Value.slice none 0 0, Value.int IntKind.i64 0, Value.slice none 0 0] 32)).alloc (Obj.cells #[Value.int IntKind.i64 0, Value.int IntKind.i64 0, Value.slice none 0 0, Value.int IntKind.i64 0, Value.slice none 0 0] 32)) (w.heap.size + 1) (w.heap.size + 1) noE (.slice none 0 0) (.slice none 0 0)) := by
    have := endQ_new (w := w.alloc (Obj.cells #[Value.int IntKind.i64 0, Value.int IntKind.i64 0, Value.slice none 0 0, Value.int IntKind.i64 0, Value.slice none 0 0] 32)) (B := w.heap.size + 1) (e := noE) (qv := .slice none 0 0) (ov := .slice none 0 0) (Sl.zero _ _ _ _) (Sl.zero _ _ _ _) (fun k hk => by simp [Value.ownBlock] at hk) (by simp)
    show EndQ _ _ _ _ _ _
    simpa [noE] using this
  have D0 : Hid (Drw w0 ((w.alloc (Obj.cells #[Value.int IntKind.i64 0, Value.int IntKind.i64 0, Value.slice none 0 0, Value.int IntKind.i64 0, Value.slice none 0 0] 32)).alloc (Obj.cells #[Value.int IntKind.i64 0, Value.int IntKind.i64 0, Value.slice none 0 0, Value.int IntKind.i64 0, Value.slice none 0 0] 32)) B g ao n cap) := (hd.out.step hB b1).step hB b2
  go_enter Try.func63, Try.ntmps63
  go_wp2_with fail
  clear b1 b2 hd
  generalize ((w.alloc (Obj.cells #[Value.int IntKind.i64 0, Value.int IntKind.i64 0, Value.slice none 0 0, Value.int IntKind.i64 0, Value.slice none 0 0] 32)).alloc (Obj.cells #[Value.int IntKind.i64 0, Value.int IntKind.i64 0, Value.slice none 0 0, Value.int IntKind.i64 0, Value.slice none 0 0] 32)) = W0 at *
  go_loopw [4] (fun i wr => ∃ (k : Nat) (e : En), k ≤ 13 ∧ i = .int .i64 k ∧ Hid (Small k e) ∧ Hid (∃ qv ov, EndQ wr (w.heap.size + 1) (w.heap.size + 1) e qv ov) ∧ Hid (EndC wr 32 w.heap.size 0 0 (.slice none 0 0) 0 (.slice none 0 0)) ∧ Hid (Drw w0 wr B g ao n cap)) (fun i _ => 13 - (intOf i).toNat)
  case atStart => exact ⟨0, noE, by omega, rfl, ⟨noE_ok, by decide, by decide⟩, ⟨_, _, A0.out⟩, R0.out, D0.out⟩
  case round =>
    obtain ⟨k, e, hk13, rfl, hsm, hA, hR, hD⟩ := hrel
    clear A0 R0 D0
    have D1 : Hid (Drw wr wr B g ao n cap) := Drw.start hD.out.1 hD.out.2.1
    go_wp2_with fail
    refine (below_small wr wr B g n cap 14 ao hn hB (by omega) (by omega) D1).mono ?_
    rintro r w2 ⟨⟨x, hx, rfl⟩, hd2⟩
    have hgw : g < w.heap.size + 1 := by omega
    have D2 : Hid (Drw w0 w2 B g ao n cap) := ⟨hd2.out.1, hd2.out.2.1, hD.out.2.2.trans hd2.out.2.2⟩
    have A2 : Hid (∃ qv ov, EndQ w2 (w.heap.size + 1) (w.heap.size + 1) e qv ov) := by
      obtain ⟨qv, ov, h⟩ := hA.out
      have hg2 : Gr (fun j => j = g) wr w2 := ⟨hd2.out.2.2.os, hd2.out.2.2.tape, hd2.out.2.2.output, hd2.out.2.2.size, hd2.out.2.2.block⟩
      exact ⟨qv, ov, h.gr hg2 (by omega) (fun j hj he => by have := (Sl.lt h.2.1 j hj).1; omega) (fun j hj he => by have := (Sl.lt h.2.2.1 j hj).1; omega)⟩
    have R2 : Hid (EndC w2 32 w.heap.size 0 0 (.slice none 0 0) 0 (.slice none 0 0)) := (hd2.out.2.2.block w.heap.size hR.out.lt (by omega)).trans hR.out
    clear D1 hd2 hA hR hD
    by_cases hlt : k < x
    · have hdk : decide ((k : Int) < (x : Int)) = true := by simp; omega
      have D3 : Hid (Drw w2 w2 B g ao n cap) := Drw.start D2.out.1 D2.out.2.1
      go_wp2_with fail
      refine (below_small w2 w2 B g n cap 4 ao hn hB (by omega) (by omega) D3).mono ?_
      rintro r w3 ⟨⟨y, hy, rfl⟩, hd3⟩
      have D4 : Hid (Drw w0 w3 B g ao n cap) := ⟨hd3.out.1, hd3.out.2.1, D2.out.2.2.trans hd3.out.2.2⟩
      have A4 : Hid (∃ qv ov, EndQ w3 (w.heap.size + 1) (w.heap.size + 1) e qv ov) := by
        obtain ⟨qv, ov, h⟩ := A2.out
        have hg2 : Gr (fun j => j = g) w2 w3 := ⟨hd3.out.2.2.os, hd3.out.2.2.tape, hd3.out.2.2.output, hd3.out.2.2.size, hd3.out.2.2.block⟩
        exact ⟨qv, ov, h.gr hg2 (by omega) (fun j hj he => by have := (Sl.lt h.2.1 j hj).1; omega) (fun j hj he => by have := (Sl.lt h.2.2.1 j hj).1; omega)⟩
      have R4 : Hid (EndC w3 32 w.heap.size 0 0 (.slice none 0 0) 0 (.slice none 0 0)) := (hd3.out.2.2.block w.heap.size R2.out.lt (by omega)).trans R2.out
      clear D3 hd3 A2 R2 D2
      by_cases hy2 : 2 ≤ y
      · have e0 : ¬ (y : Int) = 0 := by omega
        have e1 : ¬ (y : Int) = 1 := by omega
        have b0 : ((y : Int) == 0) = false := by simp; omega
        have b1 : ((y : Int) == 1) = false := by simp; omega
        obtain ⟨qv, ov, hQ⟩ := A4.out
        obtain ⟨qa, qc, rfl⟩ := Sl.form hQ.2.1
        obtain ⟨oa, oc, rfl⟩ := Sl.form hQ.2.2.1
        have HQ : Hid (EndQ w3 (w.heap.size + 1) (w.heap.size + 1) e (.slice qa e.q.length qc) (.slice oa e.o.length oc)) := hQ
        clear hQ A4
        go_wp2_with fail
        refine wp_region_until (S := fun w' => (w'.cell? ⟨w.heap.size + 1, 0, none⟩ = some (.int .i64 e.nx) ∧ w'.cell? ⟨w.heap.size + 1, 1, none⟩ = some (.int .i64 e.ak) ∧ w'.cell? ⟨w.heap.size + 1, 2, none⟩ = some (.slice qa e.q.length qc) ∧ w'.cell? ⟨w.heap.size + 1, 3, none⟩ = some (.int .i64 e.gt) ∧ w'.cell? ⟨w.heap.size + 1, 4, none⟩ = some (.slice oa e.o.length oc))) _ 3 (by kernel_rfl) (by kernel_rfl) (by kernel_rfl) (by kernel_rfl) (by kernel_rfl) (by kernel_rfl) ?_ (fun hHeld => ?_)
        · exact HQ.out.1.cells
        simp only [idled, List.mapIdx_cons, List.mapIdx_nil, Nat.reduceAdd, Nat.reduceLeDiff, if_true, if_false, List.size_toArray, List.length_cons, List.length_nil, Nat.zero_le]
        refine wpAnyH_take (i := 0) (v := ?v0) rfl (by kernel_rfl) (by kernel_rfl) (by kernel_rfl) (fun _ _ _ h => h) (Or.inl ⟨by rfl, ?hy0⟩) hHeld ?_
        case hy0 => (intro w hSw; simp only [List.getElem_toArray, List.getElem_cons_zero]; go_simp; with_reducible rfl)
        refine wpAnyH_take (i := 1) (v := ?v1) rfl (by kernel_rfl) (by kernel_rfl) (by kernel_rfl) (fun _ _ _ h => h) (Or.inl ⟨by rfl, ?hy1⟩) hHeld ?_
        case hy1 => (intro w hSw; simp only [List.getElem_toArray, List.getElem_cons_zero, List.getElem_cons_succ]; go_simp; with_reducible rfl)
        refine wpAnyH_ready (rs := [2]) (by kernel_rfl) (by simp) ?_
        refine AllReadyH.cons (i := 2) rfl (fun K hK => ?_) AllReadyH.nil
        simp only [List.getElem_toArray, List.getElem_cons_zero, List.getElem_cons_succ]
        go_simp
        have D5 : Hid (Drw w3 w3 B g ao n cap) := Drw.start D4.out.1 D4.out.2.1
        refine (name_any w3 w3.drew B g n cap ao hn hB (show Hid (Drw w3 w3.drew B g ao n cap) from ⟨D5.out.1, D5.out.2.1, ⟨rfl, rfl, rfl, Nat.le_refl _, fun _ _ _ => rfl⟩⟩)).mono ?_
        rintro r w4 ⟨⟨tx, htx, rfl⟩, hd4⟩
        have hg4 : Gr (fun j => j = g) w3 w4 := ⟨hd4.out.2.2.os, hd4.out.2.2.tape, hd4.out.2.2.output, hd4.out.2.2.size, hd4.out.2.2.block⟩
        have Q4 : EndQ w4 (w.heap.size + 1) (w.heap.size + 1) e (.slice qa e.q.length qc) (.slice oa e.o.length oc) := HQ.out.gr hg4 (by omega) (fun j hj he => by have := (Sl.lt HQ.out.2.1 j hj).1; omega) (fun j hj he => by have := (Sl.lt HQ.out.2.2.1 j hj).1; omega)
        refine hK.out _ _ Q4.1.cells (fun hHeld => ?_)
        clear hK K
        try simp only [Act.put, List.getElem_toArray, List.getElem_cons_zero, List.getElem_cons_succ, List.setIfInBounds_toArray, List.set_cons_zero, List.set_cons_succ]
        refine wpAnyH_ready (rs := [3]) (by kernel_rfl) (by simp) ?_
        refine AllReadyH.cons (i := 3) rfl (fun K hK => ?_) AllReadyH.nil
        simp only [List.getElem_toArray, List.getElem_cons_zero, List.getElem_cons_succ]
        go_simp
        obtain ⟨sk1, sk2, sk3, sk4⟩ := (⟨by have := hsm.out.ok.ok.q1; omega, by have h1 := hsm.out.ok.ok.o0; have h2 := hsm.out.ok.ok.g1; omega, trivial, trivial⟩ : e.q.length ≤ 1048576 ∧ e.o.length ≤ 1048576 ∧ True ∧ True)
        refine (spOffer_any (e := e) tx w4 (show EndR w4 _ e from EndQ.r Q4) sk1 sk2 (by omega)).mono ?_
        rintro r w5 ⟨v, rfl, m5, hb5⟩
        obtain ⟨f, hf⟩ : ∃ f, f = if offB e tx then offE e tx else noE := ⟨_, rfl⟩
        rw [← hf] at m5
        have HF : Hid (f = if offB e tx then offE e tx else noE) := hf
        clear hf
        obtain ⟨ea, ec, eb, ed, rfl⟩ := endM_form m5
        have Q5 := Q4.below hb5
        refine hK.out _ _ Q5.1.cells (fun hHeld => ?_)
        clear hK K
        refine wpAnyH_take (i := 4) (v := ?v4) rfl (by kernel_rfl) (by kernel_rfl) (by kernel_rfl) (fun _ _ _ h => h) (Or.inl ⟨by rfl, ?hy4⟩) hHeld ?_
        case hy4 => (intro w hSw; simp only [List.getElem_toArray, List.getElem_cons_zero, List.getElem_cons_succ]; go_simp; with_reducible rfl)
        refine wpAnyH_take (i := 5) (v := ?v5) rfl (by kernel_rfl) (by kernel_rfl) (by kernel_rfl) (fun _ _ _ h => h) (Or.inl ⟨by rfl, ?hy5⟩) hHeld ?_
        case hy5 => (intro w hSw; simp only [List.getElem_toArray, List.getElem_cons_zero, List.getElem_cons_succ]; go_simp; with_reducible rfl)
        refine wpAnyH_take (i := 6) (v := ?v6) rfl (by kernel_rfl) (by kernel_rfl) (by kernel_rfl) (fun _ _ _ h => h) (Or.inl ⟨by rfl, ?hy6⟩) hHeld ?_
        case hy6 => (intro w hSw; simp only [List.getElem_toArray, List.getElem_cons_zero, List.getElem_cons_succ]; go_simp; with_reducible rfl)
        refine wpAnyH_take (i := 7) (v := ?v7) rfl (by kernel_rfl) (by kernel_rfl) (by kernel_rfl) (fun _ _ _ h => h) (Or.inl ⟨by rfl, ?hy7⟩) hHeld ?_
        case hy7 => (intro w hSw; simp only [List.getElem_toArray, List.getElem_cons_zero, List.getElem_cons_succ]; go_simp; with_reducible rfl)
        refine wpAnyH_done (by kernel_rfl) ?_ _
        show wpAny _ _ _ _ 4 _ _ _
        try simp only [Act.put, List.getElem_toArray, List.getElem_cons_zero, List.getElem_cons_succ]
        refine wpAny_take (i := 4) (v := ?u4) rfl (by kernel_rfl) (by kernel_rfl) (by kernel_rfl) (fun _ _ _ h => h) (Or.inl ⟨by rfl, ?hz4⟩) ?_
        case hz4 => (intro w; simp only [List.getElem_toArray, List.getElem_cons_zero, List.getElem_cons_succ]; go_simp; with_reducible rfl)
        try simp only [Act.put, List.getElem_toArray, List.getElem_cons_zero, List.getElem_cons_succ, List.setIfInBounds_toArray, List.set_cons_zero, List.set_cons_succ]
        refine wpAny_take (i := 5) (v := ?u5) rfl (by kernel_rfl) (by kernel_rfl) (by kernel_rfl) (fun _ _ _ h => h) (Or.inl ⟨by rfl, ?hz5⟩) ?_
        case hz5 => (intro w; simp only [List.getElem_toArray, List.getElem_cons_zero, List.getElem_cons_succ]; go_simp; with_reducible rfl)
        try simp only [Act.put, List.getElem_toArray, List.getElem_cons_zero, List.getElem_cons_succ, List.setIfInBounds_toArray, List.set_cons_zero, List.set_cons_succ]
        refine wpAny_take (i := 6) (v := ?u6) rfl (by kernel_rfl) (by kernel_rfl) (by kernel_rfl) (fun _ _ _ h => h) (Or.inl ⟨by rfl, ?hz6⟩) ?_
        case hz6 => (intro w; simp only [List.getElem_toArray, List.getElem_cons_zero, List.getElem_cons_succ]; go_simp; with_reducible rfl)
        try simp only [Act.put, List.getElem_toArray, List.getElem_cons_zero, List.getElem_cons_succ, List.setIfInBounds_toArray, List.set_cons_zero, List.set_cons_succ]
        obtain ⟨j0, j1, j2, j3, j4⟩ := Q5.1.cells
        have f0 := Q5.1.frozen 0
        have f1 := Q5.1.frozen 1
        have f2 := Q5.1.frozen 2
        have f3 := Q5.1.frozen 3
        have f4 := Q5.1.frozen 4
        refine wpAny_ready (rs := [7]) (by kernel_rfl) (by simp) ?_
        refine AllReady.cons (i := 7) rfl (fun K hK => ?_) AllReady.nil
        simp only [List.getElem_toArray, List.getElem_cons_zero, List.getElem_cons_succ]
        go_simp
        refine hK _ _ (wpAny_done (by kernel_rfl) ?_ _)
        clear hK K
        have AA := endQ_fill Q4 (Nat.le_refl _) hb5 m5
        have K2 := fill_grown w5 (w.heap.size + 1) f.nx f.ak f.gt (.slice ea f.q.length ec) (.slice eb f.o.length ed)
        have A9 : Hid (∃ qv ov, EndQ (fillE w5 (w.heap.size + 1) f.nx f.ak (.slice ea f.q.length ec) f.gt (.slice eb f.o.length ed)) (w.heap.size + 1) (w.heap.size + 1) f qv ov) := ⟨_, _, AA.1⟩
        have D9 : Hid (Drw w0 (fillE w5 (w.heap.size + 1) f.nx f.ak (.slice ea f.q.length ec) f.gt (.slice eb f.o.length ed)) B g ao n cap) := Drw.grown (Drw.step (show Drw w0 w4 B g ao n cap from ⟨hd4.out.1, hd4.out.2.1, D4.out.2.2.trans hd4.out.2.2⟩) hB hb5) hB K2 (fun j hj => by simp at hj; omega)
        have R9 : Hid (EndC (fillE w5 (w.heap.size + 1) f.nx f.ak (.slice ea f.q.length ec) f.gt (.slice eb f.o.length ed)) 32 w.heap.size 0 0 (.slice none 0 0) 0 (.slice none 0 0)) := EndC.kept (EndC.below (show EndC w4 32 w.heap.size 0 0 (.slice none 0 0) 0 (.slice none 0 0) from (hd4.out.2.2.block w.heap.size R4.out.lt (by omega)).trans R4.out) hb5) K2 (by simp)
        have SM : Hid (Small (k + 1) f) := by rw [HF.out]; exact small_off hsm.out (by omega)
        clear AA K2 Q4 Q5 m5 hb5 hg4 hd4 j0 j1 j2 j3 j4 f0 f1 f2 f3 f4 D5 D4 R4 HQ hHeld
        go_wp2_with fail
        go_roundw
        case rel => exact ⟨k + 1, f, by omega, by go_num, SM.out, A9.out, R9.out, D9.out⟩
        case measure => simp [intOf]; omega
      · obtain ⟨qv, ov, hQ⟩ := A4.out
        obtain ⟨qa, qc, rfl⟩ := Sl.form hQ.2.1
        obtain ⟨oa, oc, rfl⟩ := Sl.form hQ.2.2.1
        have HQ : Hid (EndQ w3 (w.heap.size + 1) (w.heap.size + 1) e (.slice qa e.q.length qc) (.slice oa e.o.length oc)) := hQ
        clear hQ A4
        have hy01 : y = 0 ∨ y = 1 := by omega
        rcases hy01 with rfl | rfl
        · obtain ⟨c0, c1, c2, c3, c4⟩ := HQ.out.1.cells
          have sk1 : e.q.length ≤ 1048576 := by have := hsm.out.ok.ok.q1; omega
          have sk2 : e.o.length ≤ 1048576 := by have h1 := hsm.out.ok.ok.o0; have h2 := hsm.out.ok.ok.g1; omega
          go_wp2_with fail
          refine (spSendNew_any (e := e) w3 (show EndR w3 _ e from EndQ.r HQ.out) sk1 sk2).mono ?_
          rintro r w4 ⟨⟨v, u, mid, rfl, hmid, ix, iy⟩, hb4⟩
          obtain ⟨f, hf⟩ : ∃ f, f = newE e := ⟨_, rfl⟩
          rw [(newF_ok hsm.out.ok.ok).1, ← hf] at ix
          have SM : Hid (Small (k + 1) f) := by rw [hf]; exact small_new hsm.out
          clear hf
          obtain ⟨ea, ec, eb, ed, rfl⟩ := endM_form ix.own
          have Q5 := HQ.out.below hb4
          obtain ⟨j0, j1, j2, j3, j4⟩ := Q5.1.cells
          have f0 := Q5.1.frozen 0
          have f1 := Q5.1.frozen 1
          have f2 := Q5.1.frozen 2
          have f3 := Q5.1.frozen 3
          have f4 := Q5.1.frozen 4
          have AA := endQ_fill HQ.out (Nat.le_refl _) hb4 ix.own
          have K2 := fill_grown w4 (w.heap.size + 1) f.nx f.ak f.gt (.slice ea f.q.length ec) (.slice eb f.o.length ed)
          have A9 : Hid (∃ qv ov, EndQ (fillE w4 (w.heap.size + 1) f.nx f.ak (.slice ea f.q.length ec) f.gt (.slice eb f.o.length ed)) (w.heap.size + 1) (w.heap.size + 1) f qv ov) := ⟨_, _, AA.1⟩
          have D9 : Hid (Drw w0 (fillE w4 (w.heap.size + 1) f.nx f.ak (.slice ea f.q.length ec) f.gt (.slice eb f.o.length ed)) B g ao n cap) := Drw.grown (Drw.step D4.out hB hb4) hB K2 (fun j hj => by simp at hj; omega)
          have R9 : Hid (EndC (fillE w4 (w.heap.size + 1) f.nx f.ak (.slice ea f.q.length ec) f.gt (.slice eb f.o.length ed)) 32 w.heap.size 0 0 (.slice none 0 0) 0 (.slice none 0 0)) := EndC.kept (EndC.below R4.out hb4) K2 (by simp)
          clear AA K2 Q5 ix iy hb4 D4 R4 HQ c0 c1 c2 c3 c4
          go_wp2_with fail
          go_roundw
          case rel => exact ⟨k + 1, f, by omega, by go_num, SM.out, A9.out, R9.out, D9.out⟩
          case measure => simp [intOf]; omega
        · have e0 : ¬ (1 : Int) = 0 := by omega
          have QQ4 := HQ.out
          have D5 : Drw w3 w3 B g ao n cap := Drw.start D4.out.1 D4.out.2.1
          have hgt0 := hsm.out.ok.ok.g0
          have hgt1 := hsm.out.gt
          have hak0 := hsm.out.ok.ok.a0
          have hak1 := hsm.out.le
          go_wp2_with fail
          refine wp_region_until (S := fun w' => (w'.cell? ⟨w.heap.size + 1, 0, none⟩ = some (.int .i64 e.nx) ∧ w'.cell? ⟨w.heap.size + 1, 1, none⟩ = some (.int .i64 e.ak) ∧ w'.cell? ⟨w.heap.size + 1, 2, none⟩ = some (.slice qa e.q.length qc) ∧ w'.cell? ⟨w.heap.size + 1, 3, none⟩ = some (.int .i64 e.gt) ∧ w'.cell? ⟨w.heap.size + 1, 4, none⟩ = some (.slice oa e.o.length oc))) _ 14 (by kernel_rfl) (by kernel_rfl) (by kernel_rfl) (by kernel_rfl) (by kernel_rfl) (by kernel_rfl) ?_ (fun hHeld => ?_)
          · exact HQ.out.1.cells
          simp only [idled, List.mapIdx_cons, List.mapIdx_nil, Nat.reduceAdd, Nat.reduceLeDiff, if_true, if_false, List.size_toArray, List.length_cons, List.length_nil, Nat.zero_le]
          refine wpAnyH_take (i := 0) (v := ?vb0) rfl (by kernel_rfl) (by kernel_rfl) (by kernel_rfl) (fun _ _ _ h => h) (Or.inl ⟨by rfl, ?hyb0⟩) hHeld ?_
          case hyb0 => (intro w hSw; simp only [List.getElem_toArray, List.getElem_cons_zero]; go_simp; with_reducible rfl)
          try simp only [Act.put, List.getElem_toArray, List.getElem_cons_zero, List.setIfInBounds_toArray, List.set_cons_zero, List.set_cons_succ]
          refine wpAnyH_take (i := 1) (v := ?vb1) rfl (by kernel_rfl) (by kernel_rfl) (by kernel_rfl) (fun _ _ _ h => h) (Or.inl ⟨by rfl, ?hyb1⟩) hHeld ?_
          case hyb1 => (intro w hSw; simp only [List.getElem_toArray, List.getElem_cons_zero, List.getElem_cons_succ]; go_simp; with_reducible rfl)
          try simp only [Act.put, List.getElem_toArray, List.getElem_cons_zero, List.getElem_cons_succ, List.setIfInBounds_toArray, List.set_cons_zero, List.set_cons_succ]
          refine wpAnyH_take (i := 2) (v := ?vb2) rfl (by kernel_rfl) (by kernel_rfl) (by kernel_rfl) (fun _ _ _ h => h) (Or.inl ⟨by rfl, ?hyb2⟩) hHeld ?_
          case hyb2 => (intro w hSw; simp only [List.getElem_toArray, List.getElem_cons_zero, List.getElem_cons_succ]; go_simp; with_reducible rfl)
          try simp only [Act.put, List.getElem_toArray, List.getElem_cons_zero, List.getElem_cons_succ, List.setIfInBounds_toArray, List.set_cons_zero, List.set_cons_succ]
          refine wpAnyH_take (i := 3) (v := ?vb3) rfl (by kernel_rfl) (by kernel_rfl) (by kernel_rfl) (fun _ _ _ h => h) (Or.inl ⟨by rfl, ?hyb3⟩) hHeld ?_
          case hyb3 => (intro w hSw; simp only [List.getElem_toArray, List.getElem_cons_zero, List.getElem_cons_succ]; go_simp; with_reducible rfl)
          try simp only [Act.put, List.getElem_toArray, List.getElem_cons_zero, List.getElem_cons_succ, List.setIfInBounds_toArray, List.set_cons_zero, List.set_cons_succ]
          refine wpAnyH_take (i := 6) (v := ?vb6) rfl (by kernel_rfl) (by kernel_rfl) (by kernel_rfl) (fun _ _ _ h => h) (Or.inl ⟨by rfl, ?hyb6⟩) hHeld ?_
          case hyb6 => (intro w hSw; simp only [List.getElem_toArray, List.getElem_cons_zero, List.getElem_cons_succ]; go_simp; with_reducible rfl)
          try simp only [Act.put, List.getElem_toArray, List.getElem_cons_zero, List.getElem_cons_succ, List.setIfInBounds_toArray, List.set_cons_zero, List.set_cons_succ]
          refine wpAnyH_take (i := 7) (v := ?vb7) rfl (by kernel_rfl) (by kernel_rfl) (by kernel_rfl) (fun _ _ _ h => h) (Or.inl ⟨by rfl, ?hyb7⟩) hHeld ?_
          case hyb7 => (intro w hSw; simp only [List.getElem_toArray, List.getElem_cons_zero, List.getElem_cons_succ]; go_simp; with_reducible rfl)
          try simp only [Act.put, List.getElem_toArray, List.getElem_cons_zero, List.getElem_cons_succ, List.setIfInBounds_toArray, List.set_cons_zero, List.set_cons_succ]
          refine wpAnyH_take (i := 8) (v := ?vb8) rfl (by kernel_rfl) (by kernel_rfl) (by kernel_rfl) (fun _ _ _ h => h) (Or.inl ⟨by rfl, ?hyb8⟩) hHeld ?_
          case hyb8 => (intro w hSw; simp only [List.getElem_toArray, List.getElem_cons_zero, List.getElem_cons_succ]; go_simp; with_reducible rfl)
          try simp only [Act.put, List.getElem_toArray, List.getElem_cons_zero, List.getElem_cons_succ, List.setIfInBounds_toArray, List.set_cons_zero, List.set_cons_succ]
          refine wpAnyH_take (i := 11) (v := ?vb11) rfl (by kernel_rfl) (by kernel_rfl) (by kernel_rfl) (fun _ _ _ h => h) (Or.inl ⟨by rfl, ?hyb11⟩) hHeld ?_
          case hyb11 => (intro w hSw; simp only [List.getElem_toArray, List.getElem_cons_zero, List.getElem_cons_succ]; go_simp; with_reducible rfl)
          try simp only [Act.put, List.getElem_toArray, List.getElem_cons_zero, List.getElem_cons_succ, List.setIfInBounds_toArray, List.set_cons_zero, List.set_cons_succ]
          refine wpAnyH_ready (rs := [4]) (by kernel_rfl) (by simp) ?_
          refine AllReadyH.cons (i := 4) rfl (fun K hK => ?_) AllReadyH.nil
          simp only [List.getElem_toArray, List.getElem_cons_zero, List.getElem_cons_succ]
          go_simp
          refine (below_small w3 w3.drew B g n cap 2 ao hn hB (by omega) (by omega) (show Hid (Drw w3 w3.drew B g ao n cap) from ⟨D5.1, D5.2.1, ⟨rfl, rfl, rfl, Nat.le_refl _, fun _ _ _ => rfl⟩⟩)).mono ?_
          rintro r w5 ⟨⟨x1, hx1, rfl⟩, hd5⟩
          have hg5 : Gr (fun j => j = g) w3 w5 := ⟨hd5.out.2.2.os, hd5.out.2.2.tape, hd5.out.2.2.output, hd5.out.2.2.size, hd5.out.2.2.block⟩
          have QQ5 : EndQ w5 (w.heap.size + 1) (w.heap.size + 1) e (.slice qa e.q.length qc) (.slice oa e.o.length oc) := (QQ4).gr hg5 (by omega) (fun j hj he => by have := (Sl.lt QQ4.2.1 j hj).1; omega) (fun j hj he => by have := (Sl.lt QQ4.2.2.1 j hj).1; omega)
          refine hK.out _ _ QQ5.1.cells (fun hHeld => ?_)
          clear hK K
          try simp only [Act.put, List.getElem_toArray, List.getElem_cons_zero, List.getElem_cons_succ, List.setIfInBounds_toArray, List.set_cons_zero, List.set_cons_succ]
          have ww1 : IntKind.i64.wrap (e.gt + (x1 : Int)) = e.gt + (x1 : Int) := by rw [IntKind.wrap_i64]; omega
          refine wpAnyH_take (i := 5) (v := ?vb5) rfl (by kernel_rfl) (by kernel_rfl) (by kernel_rfl) (fun _ _ _ h => h) (Or.inl ⟨by rfl, ?hyb5⟩) hHeld ?_
          case hyb5 => (intro w hSw; simp only [List.getElem_toArray, List.getElem_cons_zero, List.getElem_cons_succ]; go_simp; with_reducible rfl)
          try simp only [Act.put, List.getElem_toArray, List.getElem_cons_zero, List.getElem_cons_succ, List.setIfInBounds_toArray, List.set_cons_zero, List.set_cons_succ]
          refine wpAnyH_ready (rs := [9]) (by kernel_rfl) (by simp) ?_
          refine AllReadyH.cons (i := 9) rfl (fun K hK => ?_) AllReadyH.nil
          simp only [List.getElem_toArray, List.getElem_cons_zero, List.getElem_cons_succ]
          go_simp
          refine (below_small w5 w5 B g n cap 3 ao hn hB (by omega) (by omega) (Drw.start hd5.out.1 hd5.out.2.1)).mono ?_
          rintro r w6 ⟨⟨x2, hx2, rfl⟩, hd6⟩
          have hg6 : Gr (fun j => j = g) w5 w6 := ⟨hd6.out.2.2.os, hd6.out.2.2.tape, hd6.out.2.2.output, hd6.out.2.2.size, hd6.out.2.2.block⟩
          have QQ6 : EndQ w6 (w.heap.size + 1) (w.heap.size + 1) e (.slice qa e.q.length qc) (.slice oa e.o.length oc) := (QQ5).gr hg6 (by omega) (fun j hj he => by have := (Sl.lt QQ5.2.1 j hj).1; omega) (fun j hj he => by have := (Sl.lt QQ5.2.2.1 j hj).1; omega)
          refine hK.out _ _ QQ6.1.cells (fun hHeld => ?_)
          clear hK K
          try simp only [Act.put, List.getElem_toArray, List.getElem_cons_zero, List.getElem_cons_succ, List.setIfInBounds_toArray, List.set_cons_zero, List.set_cons_succ]
          have ww2 : IntKind.i64.wrap (e.ak + (x2 : Int)) = e.ak + (x2 : Int) := by rw [IntKind.wrap_i64]; omega
          refine wpAnyH_take (i := 10) (v := ?vb10) rfl (by kernel_rfl) (by kernel_rfl) (by kernel_rfl) (fun _ _ _ h => h) (Or.inl ⟨by rfl, ?hyb10⟩) hHeld ?_
          case hyb10 => (intro w hSw; simp only [List.getElem_toArray, List.getElem_cons_zero, List.getElem_cons_succ]; go_simp; with_reducible rfl)
          try simp only [Act.put, List.getElem_toArray, List.getElem_cons_zero, List.getElem_cons_succ, List.setIfInBounds_toArray, List.set_cons_zero, List.set_cons_succ]
          refine wpAnyH_ready (rs := [12]) (by kernel_rfl) (by simp) ?_
          refine AllReadyH.cons (i := 12) rfl (fun K hK => ?_) AllReadyH.nil
          simp only [List.getElem_toArray, List.getElem_cons_zero, List.getElem_cons_succ]
          go_simp
          refine (name_any w6 w6 B g n cap ao hn hB (Drw.start hd6.out.1 hd6.out.2.1)).mono ?_
          rintro r w7 ⟨⟨tx, htx, rfl⟩, hd7⟩
          have hg7 : Gr (fun j => j = g) w6 w7 := ⟨hd7.out.2.2.os, hd7.out.2.2.tape, hd7.out.2.2.output, hd7.out.2.2.size, hd7.out.2.2.block⟩
          have QQ7 : EndQ w7 (w.heap.size + 1) (w.heap.size + 1) e (.slice qa e.q.length qc) (.slice oa e.o.length oc) := (QQ6).gr hg7 (by omega) (fun j hj he => by have := (Sl.lt QQ6.2.1 j hj).1; omega) (fun j hj he => by have := (Sl.lt QQ6.2.2.1 j hj).1; omega)
          refine hK.out _ _ QQ7.1.cells (fun hHeld => ?_)
          clear hK K
          try simp only [Act.put, List.getElem_toArray, List.getElem_cons_zero, List.getElem_cons_succ, List.setIfInBounds_toArray, List.set_cons_zero, List.set_cons_succ]
          refine wpAnyH_take (i := 13) (v := ?vb13) rfl (by kernel_rfl) (by kernel_rfl) (by kernel_rfl) (fun _ _ _ h => h) (Or.inl ⟨by rfl, ?hyb13⟩) hHeld ?_
          case hyb13 => (intro w hSw; simp only [List.getElem_toArray, List.getElem_cons_zero, List.getElem_cons_succ]; go_simp; with_reducible rfl)
          try simp only [Act.put, List.getElem_toArray, List.getElem_cons_zero, List.getElem_cons_succ, List.setIfInBounds_toArray, List.set_cons_zero, List.set_cons_succ]
          refine wpAnyH_ready (rs := [14]) (by kernel_rfl) (by simp) ?_
          refine AllReadyH.cons (i := 14) rfl (fun K hK => ?_) AllReadyH.nil
          simp only [List.getElem_toArray, List.getElem_cons_zero, List.getElem_cons_succ]
          go_simp
          have sk1 : e.q.length ≤ 1048576 := by have := hsm.out.ok.ok.q1; omega
          have sk2 : e.o.length ≤ 1048576 := by have h1 := hsm.out.ok.ok.o0; have h2 := hsm.out.ok.ok.g1; omega
          refine (spReceive_any (e := e) (e.gt + (x1 : Int)) (e.ak + (x2 : Int)) tx w7 (show EndR w7 _ e from EndQ.r QQ7) sk1 sk2).mono ?_
          rintro r w8 ⟨v, rfl, m8, hb8⟩
          have hxo : PcOk (e.gt + (x1 : Int), e.ak + (x2 : Int), tx) := ⟨by show 0 ≤ e.gt + (x1 : Int); omega, by show tx.size ≤ 60; omega⟩
          obtain ⟨f, hf⟩ : ∃ f, f = recvE e (e.gt + (x1 : Int), e.ak + (x2 : Int), tx) := ⟨_, rfl⟩
          rw [(rcv_yes (may_ok hsm.out.ok.ok hxo)).2, ← hf] at m8
          have SM : Hid (Small (k + 1) f) := by rw [hf]; exact small_recv hsm.out hxo
          clear hf
          obtain ⟨ea, ec, eb, ed, rfl⟩ := endM_form m8
          have Q8 := QQ7.below hb8
          refine hK.out _ _ Q8.1.cells (fun hHeld => ?_)
          clear hK K
          refine wpAnyH_take (i := 15) (v := ?vb15) rfl (by kernel_rfl) (by kernel_rfl) (by kernel_rfl) (fun _ _ _ h => h) (Or.inl ⟨by rfl, ?hyb15⟩) hHeld ?_
          case hyb15 => (intro w hSw; simp only [List.getElem_toArray, List.getElem_cons_zero, List.getElem_cons_succ]; go_simp; with_reducible rfl)
          try simp only [Act.put, List.getElem_toArray, List.getElem_cons_zero, List.getElem_cons_succ]
          refine wpAnyH_take (i := 16) (v := ?vb16) rfl (by kernel_rfl) (by kernel_rfl) (by kernel_rfl) (fun _ _ _ h => h) (Or.inl ⟨by rfl, ?hyb16⟩) hHeld ?_
          case hyb16 => (intro w hSw; simp only [List.getElem_toArray, List.getElem_cons_zero, List.getElem_cons_succ]; go_simp; with_reducible rfl)
          try simp only [Act.put, List.getElem_toArray, List.getElem_cons_zero, List.getElem_cons_succ]
          refine wpAnyH_take (i := 17) (v := ?vb17) rfl (by kernel_rfl) (by kernel_rfl) (by kernel_rfl) (fun _ _ _ h => h) (Or.inl ⟨by rfl, ?hyb17⟩) hHeld ?_
          case hyb17 => (intro w hSw; simp only [List.getElem_toArray, List.getElem_cons_zero, List.getElem_cons_succ]; go_simp; with_reducible rfl)
          try simp only [Act.put, List.getElem_toArray, List.getElem_cons_zero, List.getElem_cons_succ]
          refine wpAnyH_take (i := 18) (v := ?vb18) rfl (by kernel_rfl) (by kernel_rfl) (by kernel_rfl) (fun _ _ _ h => h) (Or.inl ⟨by rfl, ?hyb18⟩) hHeld ?_
          case hyb18 => (intro w hSw; simp only [List.getElem_toArray, List.getElem_cons_zero, List.getElem_cons_succ]; go_simp; with_reducible rfl)
          try simp only [Act.put, List.getElem_toArray, List.getElem_cons_zero, List.getElem_cons_succ]
          refine wpAnyH_done (by kernel_rfl) ?_ _
          show wpAny _ _ _ _ 4 _ _ _
          try simp only [Act.put, List.getElem_toArray, List.getElem_cons_zero, List.getElem_cons_succ, List.setIfInBounds_toArray, List.set_cons_zero, List.set_cons_succ]
          refine wpAny_take (i := 15) (v := ?ub15) rfl (by kernel_rfl) (by kernel_rfl) (by kernel_rfl) (fun _ _ _ h => h) (Or.inl ⟨by rfl, ?hzb15⟩) ?_
          case hzb15 => (intro w; simp only [List.getElem_toArray, List.getElem_cons_zero, List.getElem_cons_succ]; go_simp; with_reducible rfl)
          try simp only [Act.put, List.getElem_toArray, List.getElem_cons_zero, List.getElem_cons_succ, List.setIfInBounds_toArray, List.set_cons_zero, List.set_cons_succ]
          refine wpAny_take (i := 16) (v := ?ub16) rfl (by kernel_rfl) (by kernel_rfl) (by kernel_rfl) (fun _ _ _ h => h) (Or.inl ⟨by rfl, ?hzb16⟩) ?_
          case hzb16 => (intro w; simp only [List.getElem_toArray, List.getElem_cons_zero, List.getElem_cons_succ]; go_simp; with_reducible rfl)
          try simp only [Act.put, List.getElem_toArray, List.getElem_cons_zero, List.getElem_cons_succ, List.setIfInBounds_toArray, List.set_cons_zero, List.set_cons_succ]
          refine wpAny_take (i := 17) (v := ?ub17) rfl (by kernel_rfl) (by kernel_rfl) (by kernel_rfl) (fun _ _ _ h => h) (Or.inl ⟨by rfl, ?hzb17⟩) ?_
          case hzb17 => (intro w; simp only [List.getElem_toArray, List.getElem_cons_zero, List.getElem_cons_succ]; go_simp; with_reducible rfl)
          try simp only [Act.put, List.getElem_toArray, List.getElem_cons_zero, List.getElem_cons_succ, List.setIfInBounds_toArray, List.set_cons_zero, List.set_cons_succ]
          obtain ⟨j0, j1, j2, j3, j4⟩ := Q8.1.cells
          have f0 := Q8.1.frozen 0
          have f1 := Q8.1.frozen 1
          have f2 := Q8.1.frozen 2
          have f3 := Q8.1.frozen 3
          have f4 := Q8.1.frozen 4
          refine wpAny_ready (rs := [18]) (by kernel_rfl) (by simp) ?_
          refine AllReady.cons (i := 18) rfl (fun K hK => ?_) AllReady.nil
          simp only [List.getElem_toArray, List.getElem_cons_zero, List.getElem_cons_succ]
          go_simp
          refine hK _ _ (wpAny_done (by kernel_rfl) ?_ _)
          clear hK K
          have AA := endQ_fill QQ7 (Nat.le_refl _) hb8 m8
          have K2 := fill_grown w8 (w.heap.size + 1) f.nx f.ak f.gt (.slice ea f.q.length ec) (.slice eb f.o.length ed)
          have kb : KeepBut g w3 w7 := (hd5.out.2.2.trans hd6.out.2.2).trans hd7.out.2.2
          have A9 : Hid (∃ qv ov, EndQ (fillE w8 (w.heap.size + 1) f.nx f.ak (.slice ea f.q.length ec) f.gt (.slice eb f.o.length ed)) (w.heap.size + 1) (w.heap.size + 1) f qv ov) := ⟨_, _, AA.1⟩
          have D9 : Hid (Drw w0 (fillE w8 (w.heap.size + 1) f.nx f.ak (.slice ea f.q.length ec) f.gt (.slice eb f.o.length ed)) B g ao n cap) := Drw.grown (Drw.step (show Drw w0 w7 B g ao n cap from ⟨hd7.out.1, hd7.out.2.1, D4.out.2.2.trans kb⟩) hB hb8) hB K2 (fun j hj => by simp at hj; omega)
          have R9 : Hid (EndC (fillE w8 (w.heap.size + 1) f.nx f.ak (.slice ea f.q.length ec) f.gt (.slice eb f.o.length ed)) 32 w.heap.size 0 0 (.slice none 0 0) 0 (.slice none 0 0)) := EndC.kept (EndC.below (show EndC w7 32 w.heap.size 0 0 (.slice none 0 0) 0 (.slice none 0 0) from (kb.block w.heap.size R4.out.lt (by omega)).trans R4.out) hb8) K2 (by simp)
          clear AA K2 QQ4 QQ5 QQ6 QQ7 Q8 m8 hb8 hg5 hg6 hg7 hd5 hd6 hd7 kb j0 j1 j2 j3 j4 f0 f1 f2 f3 f4 D5 D4 R4 HQ hHeld
          go_wp2_with fail
          go_roundw
          case rel => exact ⟨k + 1, f, by omega, by go_num, SM.out, A9.out, R9.out, D9.out⟩
          case measure => simp [intOf]; omega
    · have hdk : decide ((k : Int) < (x : Int)) = false := by simp; omega
      obtain ⟨qv, ov, hQ⟩ := A2.out
      obtain ⟨qa, qc, rfl⟩ := Sl.form hQ.2.1
      obtain ⟨oa, oc, rfl⟩ := Sl.form hQ.2.2.1
      have HX : Hid (Xs w0 w w2 B g n cap ao e (.slice qa e.q.length qc) (.slice oa e.o.length oc)) := ⟨hQ, R2.out, D2.out, hgl, h0w, hB⟩
      have D3 : Hid (Drw w2 w2 B g ao n cap) := Drw.start D2.out.1 D2.out.2.1
      clear hQ A2 R2 D2
      go_wp2_with fail
      refine (below_small w2 w2 B g n cap 24 ao hn hB (by omega) (by omega) D3).mono ?_
      rintro r w3 ⟨⟨y, hy, rfl⟩, hd3⟩
      have HX3 : Hid (Xs w0 w w3 B g n cap ao e (.slice qa e.q.length qc) (.slice oa e.o.length oc)) := HX.out.keep hd3.out
      clear HX D3 hd3
      have p := hsm.out.ok.ok
      have hb1 := hsm.out.le
      have hb2 := hsm.out.gt
      have pq := p.q1
      have pq0 := p.q0
      have po := p.o0
      have pa := p.a0
      have pg := p.g0
      have pn := p.n1
      have pn0 := p.n0
      have HP : Hid (OkP e) := p
      clear p
      by_cases y0 : y = 0
      · subst y0
        have RW : Hid (RowIp (w3.alloc (.cells #[.int .i64 (-1), .int .i64 1000, .int .i64 1001] 3)) w3.heap.size 3 (fun z => z = -1 ∨ z = 1000 ∨ z = 1001)) := rowIp_new w3 [-1, 1000, 1001] 3 _ rfl (fun t ht => by simp at ht; exact ht)
        have bA : Below w3.heap.size w3 (w3.alloc (.cells #[.int .i64 (-1), .int .i64 1000, .int .i64 1001] 3)) := (Below.refl _ _).alloc (Nat.le_refl _) _
        have HX4 : Hid (Xs w0 w (w3.alloc (.cells #[.int .i64 (-1), .int .i64 1000, .int .i64 1001] 3)) B g n cap ao e (.slice qa e.q.length qc) (.slice oa e.o.length oc)) := HX3.out.below bA
        have hz3 : w3.heap.size < (w3.alloc (.cells #[.int .i64 (-1), .int .i64 1000, .int .i64 1001] 3)).heap.size := by simp
        have hgw3 : w3.heap.size ≠ g := by have := HX3.out.r.lt; have := HX3.out.gl; omega
        clear bA
        go_wp2_with fail
        generalize w3.alloc (.cells #[.int .i64 (-1), .int .i64 1000, .int .i64 1001] 3) = W4 at *
        refine (pickInt_p W4 B g n cap w3.heap.size 3 ao _ hn hB (by omega) (by omega) hz3 hgw3 RW (Drw.start HX4.out.d.1 HX4.out.d.2.1)).mono ?_
        rintro r w5 ⟨⟨z, hz, rfl⟩, hd5⟩
        have HX5 : Hid (Xs w0 w w5 B g n cap ao e (.slice qa e.q.length qc) (.slice oa e.o.length oc)) := HX4.out.keep hd5.out
        have HX6 : Hid (Xs w0 w (w5.setCell ⟨w.heap.size + 1, 1, none⟩ (.int .i64 z)) B g n cap ao { e with ak := z } (.slice qa e.q.length qc) (.slice oa e.o.length oc)) := HX5.out.put1 z
        have HBN : Hid (Bnd { e with ak := z }) := ⟨by show e.q.length ≤ 31; omega, by show e.o.length ≤ 13; omega, fun t ht => by have := HP.out.fq t ht; omega, fun t ht => by have := HP.out.fo t ht; omega, by show -10 ≤ z; omega, by show z ≤ 1001; omega, by show 0 ≤ e.gt; omega, by show e.gt ≤ 14; omega, fun hh => by
          have hh := okB_true.1 hh
          have h1 := hh.a0
          have h2 := hh.a1
          have h3 := hh.n0
          dsimp only at h1 h2 h3
          omega⟩
        obtain ⟨_, e1, _⟩ := HX5.out.q.1.cells
        have e2 := HX5.out.q.1.frozen 1
        clear hd5 RW HX4 HX3 hz
        clear HX5
        have HX7 := HX6
        clear HX6
        obtain ⟨c0, c1, c2, c3, c4⟩ := HX7.out.q.1.cells
        obtain ⟨r0, r1, r2, r3, r4⟩ := HX7.out.r.cells
        have k0 := HX7.out.r.frozen 0
        have k1 := HX7.out.r.frozen 1
        have k2 := HX7.out.r.frozen 2
        have k3 := HX7.out.r.frozen 3
        have k4 := HX7.out.r.frozen 4
        dsimp only at c0 c1 c2 c3 c4
        go_wp2_with fail
        show bodyPost _ _ _ _ _ (fillE (w5.setCell ⟨w.heap.size + 1, 1, none⟩ (.int .i64 z)) w.heap.size e.nx z (.slice qa e.q.length qc) e.gt (.slice oa e.o.length oc))
        have K1 := fill_end HX7.out.r e.nx z e.gt (.slice qa e.q.length qc) (.slice oa e.o.length oc)
        have FF : EndM (fillE (w5.setCell ⟨w.heap.size + 1, 1, none⟩ (.int .i64 z)) w.heap.size e.nx z (.slice qa e.q.length qc) e.gt (.slice oa e.o.length oc)) w.heap.size (.agg #[.int .i64 e.nx, .int .i64 z, (.slice qa e.q.length qc), .int .i64 e.gt, (.slice oa e.o.length oc)]) { e with ak := z } ∧ Drw w0 (fillE (w5.setCell ⟨w.heap.size + 1, 1, none⟩ (.int .i64 z)) w.heap.size e.nx z (.slice qa e.q.length qc) e.gt (.slice oa e.o.length oc)) B g ao n cap := HX7.out.fill
        generalize fillE (w5.setCell ⟨w.heap.size + 1, 1, none⟩ (.int .i64 z)) w.heap.size e.nx z (.slice qa e.q.length qc) e.gt (.slice oa e.o.length oc) = WF at *
        obtain ⟨z0, z1, z2, z3, z4⟩ := K1.cells
        refine bodyPost_ret (v := .agg #[.int .i64 e.nx, .int .i64 z, (.slice qa e.q.length qc), .int .i64 e.gt, (.slice oa e.o.length oc)]) (by simp [results, Try.results63, go_sem, z0, z1, z2, z3, z4]) rfl ?_
        exact ⟨⟨_, _, rfl, FF.1, HBN.out⟩, FF.2⟩
      have i0 : ¬ (y : Int) = 0 := by omega
      have g0 : ((y : Int) == 0) = false := by simp; omega
      by_cases y1 : y = 1
      · subst y1
        have RW : Hid (RowIp (w3.alloc (.cells #[.int .i64 (-1), .int .i64 1, .int .i64 9] 3)).drew w3.heap.size 3 (fun z => z = -1 ∨ z = 1 ∨ z = 9)) := rowIp_new w3 [-1, 1, 9] 3 _ rfl (fun t ht => by simp at ht; exact ht)
        have bA : Below w3.heap.size w3 (w3.alloc (.cells #[.int .i64 (-1), .int .i64 1, .int .i64 9] 3)).drew := ((Below.refl _ _).alloc (Nat.le_refl _) _).drew
        have HX4 : Hid (Xs w0 w (w3.alloc (.cells #[.int .i64 (-1), .int .i64 1, .int .i64 9] 3)).drew B g n cap ao e (.slice qa e.q.length qc) (.slice oa e.o.length oc)) := HX3.out.below bA
        have hz3 : w3.heap.size < ((w3.alloc (.cells #[.int .i64 (-1), .int .i64 1, .int .i64 9] 3)).drew).heap.size := by show _ < (w3.alloc _).heap.size; simp
        have hgw3 : w3.heap.size ≠ g := by have := HX3.out.r.lt; have := HX3.out.gl; omega
        obtain ⟨b0, b1, b2, b3, b4⟩ := HX3.out.q.1.cells
        obtain ⟨d0, d1, d2, d3, d4⟩ := HX4.out.q.1.cells
        have HY : Hid (True) := trivial
        clear bA
        go_wp2_with fail
        go_region_with (first | (go_at_call 64; refine (pickInt_p (w3.alloc (.cells #[.int .i64 (-1), .int .i64 1, .int .i64 9] 3)).drew B g n cap w3.heap.size 3 ao _ hn hB (by omega) (by omega) hz3 hgw3 RW (Drw.start HX4.out.d.1 HX4.out.d.2.1)).mono ?_; rintro r w5 ⟨⟨z, hz, rfl⟩, hd5⟩; have HX5 : Hid (Xs w0 w w5 B g n cap ao e (.slice qa e.q.length qc) (.slice oa e.o.length oc)) := HX4.out.keep hd5.out; have e0 := HX5.out.q.1.cells.1; have e1 := HX5.out.q.1.frozen 0; have hwn : IntKind.i64.wrap (e.nx + z) = e.nx + z := (by rw [IntKind.wrap_i64]; omega)))
        all_goals
          have HX7 : Hid (Xs w0 w (w5.setCell ⟨w.heap.size + 1, 0, none⟩ (.int .i64 (e.nx + z))) B g n cap ao { e with nx := e.nx + z } (.slice qa e.q.length qc) (.slice oa e.o.length oc)) := HX5.out.put0 (e.nx + z)
          have HBN : Hid (Bnd { e with nx := e.nx + z }) := ⟨by show e.q.length ≤ 31; omega, by show e.o.length ≤ 13; omega, fun t ht => by have := HP.out.fq t ht; omega, fun t ht => by have := HP.out.fo t ht; omega, by show -10 ≤ e.ak; omega, by show e.ak ≤ 1001; omega, by show 0 ≤ e.gt; omega, by show e.gt ≤ 14; omega, fun _ => by show e.ak + (e.q.length : Int) ≤ 1000; omega⟩
          clear HX3 HX4 HX5 RW hd5 hz b0 b1 b2 b3 b4 d0 d1 d2 d3 d4 e0 e1
          obtain ⟨c0, c1, c2, c3, c4⟩ := HX7.out.q.1.cells
          obtain ⟨r0, r1, r2, r3, r4⟩ := HX7.out.r.cells
          have k0 := HX7.out.r.frozen 0
          have k1 := HX7.out.r.frozen 1
          have k2 := HX7.out.r.frozen 2
          have k3 := HX7.out.r.frozen 3
          have k4 := HX7.out.r.frozen 4
          try dsimp only at c0 c1 c2 c3 c4
          go_wp2_with fail
          show bodyPost _ _ _ _ _ (fillE (w5.setCell ⟨w.heap.size + 1, 0, none⟩ (.int .i64 (e.nx + z))) w.heap.size (e.nx + z) e.ak (.slice qa e.q.length qc) e.gt (.slice oa e.o.length oc))
          have K1 := fill_end HX7.out.r (e.nx + z) e.ak e.gt (.slice qa e.q.length qc) (.slice oa e.o.length oc)
          have FF : EndM (fillE (w5.setCell ⟨w.heap.size + 1, 0, none⟩ (.int .i64 (e.nx + z))) w.heap.size (e.nx + z) e.ak (.slice qa e.q.length qc) e.gt (.slice oa e.o.length oc)) w.heap.size (.agg #[.int .i64 (e.nx + z), .int .i64 e.ak, (.slice qa e.q.length qc), .int .i64 e.gt, (.slice oa e.o.length oc)]) { e with nx := e.nx + z } ∧ Drw w0 (fillE (w5.setCell ⟨w.heap.size + 1, 0, none⟩ (.int .i64 (e.nx + z))) w.heap.size (e.nx + z) e.ak (.slice qa e.q.length qc) e.gt (.slice oa e.o.length oc)) B g ao n cap := HX7.out.fill
          generalize fillE (w5.setCell ⟨w.heap.size + 1, 0, none⟩ (.int .i64 (e.nx + z))) w.heap.size (e.nx + z) e.ak (.slice qa e.q.length qc) e.gt (.slice oa e.o.length oc) = WF at *
          obtain ⟨z0, z1, z2, z3, z4⟩ := K1.cells
          refine bodyPost_ret (v := .agg #[.int .i64 (e.nx + z), .int .i64 e.ak, (.slice qa e.q.length qc), .int .i64 e.gt, (.slice oa e.o.length oc)]) (by simp [results, Try.results63, go_sem, z0, z1, z2, z3, z4]) rfl ?_
          exact ⟨⟨_, _, rfl, FF.1, HBN.out⟩, FF.2⟩
      have i1 : ¬ (y : Int) = 1 := by omega
      have g1 : ((y : Int) == 1) = false := by simp; omega
      by_cases y2 : y = 2
      · subst y2
        have HX7 : Hid (Xs w0 w (w3.setCell ⟨w.heap.size + 1, 3, none⟩ (.int .i64 (e.gt + 1))) B g n cap ao { e with gt := e.gt + 1 } (.slice qa e.q.length qc) (.slice oa e.o.length oc)) := HX3.out.put3 (e.gt + 1)
        have HBN : Hid (Bnd { e with gt := e.gt + 1 }) := ⟨by show e.q.length ≤ 31; omega, by show e.o.length ≤ 13; omega, fun t ht => by have := HP.out.fq t ht; omega, fun t ht => by have := HP.out.fo t ht; omega, by show -10 ≤ e.ak; omega, by show e.ak ≤ 1001; omega, by show 0 ≤ e.gt + 1; omega, by show e.gt + 1 ≤ 14; omega, fun _ => by show e.ak + (e.q.length : Int) ≤ 1000; omega⟩
        have hwg : IntKind.i64.wrap (e.gt + 1) = e.gt + 1 := by rw [IntKind.wrap_i64]; omega
        obtain ⟨b0, b1, b2, b3, b4⟩ := HX3.out.q.1.cells
        have e3 := HX3.out.q.1.frozen 3
        clear HX3
        obtain ⟨c0, c1, c2, c3, c4⟩ := HX7.out.q.1.cells
        obtain ⟨r0, r1, r2, r3, r4⟩ := HX7.out.r.cells
        have k0 := HX7.out.r.frozen 0
        have k1 := HX7.out.r.frozen 1
        have k2 := HX7.out.r.frozen 2
        have k3 := HX7.out.r.frozen 3
        have k4 := HX7.out.r.frozen 4
        try dsimp only at c0 c1 c2 c3 c4
        go_wp2_with fail
        show bodyPost _ _ _ _ _ (fillE (w3.setCell ⟨w.heap.size + 1, 3, none⟩ (.int .i64 (e.gt + 1))) w.heap.size e.nx e.ak (.slice qa e.q.length qc) (e.gt + 1) (.slice oa e.o.length oc))
        have K1 := fill_end HX7.out.r e.nx e.ak (e.gt + 1) (.slice qa e.q.length qc) (.slice oa e.o.length oc)
        have FF : EndM (fillE (w3.setCell ⟨w.heap.size + 1, 3, none⟩ (.int .i64 (e.gt + 1))) w.heap.size e.nx e.ak (.slice qa e.q.length qc) (e.gt + 1) (.slice oa e.o.length oc)) w.heap.size (.agg #[.int .i64 e.nx, .int .i64 e.ak, (.slice qa e.q.length qc), .int .i64 (e.gt + 1), (.slice oa e.o.length oc)]) { e with gt := e.gt + 1 } ∧ Drw w0 (fillE (w3.setCell ⟨w.heap.size + 1, 3, none⟩ (.int .i64 (e.gt + 1))) w.heap.size e.nx e.ak (.slice qa e.q.length qc) (e.gt + 1) (.slice oa e.o.length oc)) B g ao n cap := HX7.out.fill
        generalize fillE (w3.setCell ⟨w.heap.size + 1, 3, none⟩ (.int .i64 (e.gt + 1))) w.heap.size e.nx e.ak (.slice qa e.q.length qc) (e.gt + 1) (.slice oa e.o.length oc) = WF at *
        obtain ⟨z0, z1, z2, z3, z4⟩ := K1.cells
        refine bodyPost_ret (v := .agg #[.int .i64 e.nx, .int .i64 e.ak, (.slice qa e.q.length qc), .int .i64 (e.gt + 1), (.slice oa e.o.length oc)]) (by simp [results, Try.results63, go_sem, z0, z1, z2, z3, z4]) rfl ?_
        exact ⟨⟨_, _, rfl, FF.1, HBN.out⟩, FF.2⟩
      have i2 : ¬ (y : Int) = 2 := by omega
      have g2 : ((y : Int) == 2) = false := by simp; omega
      by_cases y3 : y = 3
      · subst y3
        have S0 : Hid (Sl (w3.alloc (.cells #[] 9)) 9 1 w3.heap.size (.slice (some ⟨w3.heap.size, 0, none⟩) 0 0) 0 []) := Sl.made w3 9 1 _ (Nat.le_refl _)
        have bA : Below w3.heap.size w3 (w3.alloc (.cells #[] 9)) := (Below.refl _ _).alloc (Nat.le_refl _) _
        have HX4 : Hid (Xs w0 w (w3.alloc (.cells #[] 9)) B g n cap ao e (.slice qa e.q.length qc) (.slice oa e.o.length oc)) := HX3.out.below bA
        have HSRC : Hid (Src Try.prog 1 24 (.slice qa e.q.length qc) e.q.length (e.q.map Value.string) (w3.alloc (.cells #[] 9))) := Sl.src HX4.out.q.2.1 Try.underlying24 (fun u hu => by obtain ⟨t, _, rfl⟩ := List.mem_map.1 hu; rfl)
        have HBA : Hid (Below w3.heap.size w3 (w3.alloc (.cells #[] 9))) := bA
        have hsz : w3.heap.size ≤ (w3.alloc (.cells #[] 9)).heap.size := by simp
        obtain ⟨b0, b1, b2, b3, b4⟩ := HX4.out.q.1.cells
        clear bA
        go_wp2_with (at_builtin; refine Stop.mk ?_)
        refine Stop.go ?_
        refine wpList_appendS rfl _ _ 24 rfl (.string ⟨#[]⟩) 16 Try.underlying24 Try.info9 rfl (by rfl) S0.out _ e.q.length (e.q.map Value.string) (by rfl) HSRC.out (by unfold maxLen; omega) (by omega) hsz ?_
        intro v1 w4 s4 g4 l4
        rw [Nat.zero_add, List.nil_append] at s4
        obtain ⟨va, vc, rfl⟩ := Sl.form s4
        replace g4 : World.grownBy _ w4 (some w3.heap.size) := g4
        have b4' : Below w3.heap.size w3 w4 := HBA.out.trans ⟨g4.os, g4.tape, g4.output, g4.size, fun k hk => g4.block k (by omega) (by simp; omega)⟩
        have HX5 : Hid (Xs w0 w w4 B g n cap ao e (.slice qa e.q.length qc) (.slice oa e.o.length oc)) := HX3.out.below b4'
        have S4 : Hid (SlT w4 w3.heap.size (.slice va e.q.length vc) e.q) := s4
        have HB4 : Hid (Below w3.heap.size w3 w4) := b4'
        clear s4 g4 l4 b4' S0 HSRC HX4 HBA b0 b1 b2 b3 b4
        have hg3 : g < w3.heap.size := by have := HX3.out.r.lt; have := HX3.out.gl; omega
        go_wp2_with fail
        refine (below_small w4 w4 B g n cap 2 ao hn hB (by omega) (by omega) (Drw.start HX5.out.d.1 HX5.out.d.2.1)).mono ?_
        rintro r w5 ⟨⟨m, hm, rfl⟩, hd5⟩
        have HX6 : Hid (Xs w0 w w5 B g n cap ao e (.slice qa e.q.length qc) (.slice oa e.o.length oc)) := HX5.out.keep hd5.out
        have S5 : Hid (SlT w5 w3.heap.size (.slice va e.q.length vc) e.q) := slt_keep S4.out hd5.out.2.2 hg3
        have hwm : IntKind.i64.wrap (60 + (m : Int)) = ((60 + m : Nat) : Int) := by rw [IntKind.wrap_i64]; omega
        have HG5 : Hid (Gr (fun j => j = g ∨ w3.heap.size ≤ j) w3 w5) := (Gr.ofBelow HB4.out).trans ⟨hd5.out.2.2.os, hd5.out.2.2.tape, hd5.out.2.2.output, hd5.out.2.2.size, fun k hk hn => hd5.out.2.2.block k hk (fun h => hn (Or.inl h))⟩
        clear hd5 HX5 S4 HB4
        go_wp2_with fail
        refine (long_any (60 + m) w5 (by omega)).mono ?_
        rintro r w6 ⟨⟨tx, htx, rfl⟩, b6⟩
        have HX7 : Hid (Xs w0 w w6 B g n cap ao e (.slice qa e.q.length qc) (.slice oa e.o.length oc)) := HX6.out.below b6
        have S6 : SlT w6 w3.heap.size (.slice va e.q.length vc) e.q := S5.out.below b6
        have HG6 : Hid (Gr (fun j => j = g ∨ w3.heap.size ≤ j) w3 w6) := HG5.out.trans (Gr.ofBelow b6)
        have hs6 : w3.heap.size ≤ w6.heap.size := HG6.out.size
        have HL6 : Hid (∀ j, (Value.slice va e.q.length vc).ownBlock = some j → w3.heap.size ≤ j ∧ j < w6.heap.size) := fun j hj => Sl.lt S6 j hj
        have HS6 : Hid (SlT w6 w3.heap.size (.slice va e.q.length vc) e.q) := S6
        have HTX : Hid (tx.size ≤ 61) := by show tx.size ≤ 61; omega
        clear b6 HX6 S5 HG5 S6 htx hwm
        go_wp2_with (at_builtin; refine Stop.mk ?_)
        refine Stop.go ?_
        refine wpList_pushT rfl _ _ 24 rfl Try.underlying24 Try.info9 (by rfl) HS6.out tx rfl (by rfl) (by omega) hs6 ?_
        intro v7 w7 s7 g7 z7 l7
        obtain ⟨xa, xc, rfl⟩ := Sl.form s7
        have hq1 : (e.q ++ [tx]).length = e.q.length + 1 := by simp
        have D7 : Drw w0 w7 B g ao n cap := HX7.out.d.grown hB g7 (fun j hj => by have := HL6.out j hj; have := HX3.out.r.lt; omega)
        have G7 : Gr (fun j => j = g ∨ w3.heap.size ≤ j) w3 w7 := HG6.out.trans (Gr.ofGrown g7 (fun j hj => Or.inr (HL6.out j hj).1))
        have X7 : Xs w0 w w7 B g n cap ao e (.slice qa e.q.length qc) (.slice oa e.o.length oc) := HX3.out.gr G7 D7
        have hlow : ∀ j, (Value.slice xa (e.q ++ [tx]).length xc).ownBlock = some j → w3.heap.size ≤ j := fun j hj => (Sl.lt s7 j hj).1
        have hp3 := HX3.out.q.1.lt
        have X8 : Xs w0 w (w7.setCell ⟨w.heap.size + 1, 2, none⟩ (.slice xa (e.q ++ [tx]).length xc)) B g n cap ao { e with q := e.q ++ [tx] } (.slice xa (e.q ++ [tx]).length xc) (.slice oa e.o.length oc) :=
          X7.put2 (Sl.down s7 (by omega)) (fun j h1 h2 => by have := hlow j h1; have := (Sl.lt HX3.out.q.2.2.1 j h2).2; omega) (fun h => by have := hlow _ h; omega)
        have HBN : Hid (Bnd { e with q := e.q ++ [tx] }) := ⟨by show (e.q ++ [tx]).length ≤ 31; omega, by show e.o.length ≤ 13; omega, fun t ht => by
            rcases List.mem_append.1 ht with ht | ht
            · have := HP.out.fq t ht; omega
            · simp at ht; subst ht; exact HTX.out, fun t ht => by have := HP.out.fo t ht; omega, by show -10 ≤ e.ak; omega, by show e.ak ≤ 1001; omega, by show 0 ≤ e.gt; omega, by show e.gt ≤ 14; omega, fun _ => by show e.ak + ((e.q ++ [tx]).length : Int) ≤ 1000; omega⟩
        obtain ⟨b0, b1, b2, b3, b4⟩ := X7.q.1.cells
        have e2 := X7.q.1.frozen 2
        have HX9 : Hid _ := X8
        clear X7 X8 s7 g7 z7 l7 D7 G7 HX7 HX3 HG6 HS6 HL6 hlow hp3
        generalize (e.q ++ [tx]).length = NQ at *
        clear hq1
        have HX7 := HX9
        obtain ⟨c0, c1, c2, c3, c4⟩ := HX7.out.q.1.cells
        obtain ⟨r0, r1, r2, r3, r4⟩ := HX7.out.r.cells
        have k0 := HX7.out.r.frozen 0
        have k1 := HX7.out.r.frozen 1
        have k2 := HX7.out.r.frozen 2
        have k3 := HX7.out.r.frozen 3
        have k4 := HX7.out.r.frozen 4
        dsimp only at c0 c1 c2 c3 c4
        go_wp2_with fail
        show bodyPost _ _ _ _ _ (fillE (w7.setCell ⟨w.heap.size + 1, 2, none⟩ (.slice xa NQ xc)) w.heap.size e.nx e.ak (.slice xa NQ xc) e.gt (.slice oa e.o.length oc))
        have K1 := fill_end HX7.out.r e.nx e.ak e.gt (.slice xa NQ xc) (.slice oa e.o.length oc)
        have FF : EndM (fillE (w7.setCell ⟨w.heap.size + 1, 2, none⟩ (.slice xa NQ xc)) w.heap.size e.nx e.ak (.slice xa NQ xc) e.gt (.slice oa e.o.length oc)) w.heap.size (.agg #[.int .i64 e.nx, .int .i64 e.ak, (.slice xa NQ xc), .int .i64 e.gt, (.slice oa e.o.length oc)]) { e with q := e.q ++ [tx] } ∧ Drw w0 (fillE (w7.setCell ⟨w.heap.size + 1, 2, none⟩ (.slice xa NQ xc)) w.heap.size e.nx e.ak (.slice xa NQ xc) e.gt (.slice oa e.o.length oc)) B g ao n cap := HX7.out.fill
        generalize fillE (w7.setCell ⟨w.heap.size + 1, 2, none⟩ (.slice xa NQ xc)) w.heap.size e.nx e.ak (.slice xa NQ xc) e.gt (.slice oa e.o.length oc) = WF at *
        obtain ⟨z0, z1, z2, z3, z4⟩ := K1.cells
        refine bodyPost_ret (v := .agg #[.int .i64 e.nx, .int .i64 e.ak, (.slice xa NQ xc), .int .i64 e.gt, (.slice oa e.o.length oc)]) (by simp [results, Try.results63, go_sem, z0, z1, z2, z3, z4]) rfl ?_
        exact ⟨⟨_, _, rfl, FF.1, HBN.out⟩, FF.2⟩
      have i3 : ¬ (y : Int) = 3 := by omega
      have g3 : ((y : Int) == 3) = false := by simp; omega
      have HX7 := HX3
      have HBN : Hid (Bnd e) := ⟨by omega, by omega, fun t ht => by have := HP.out.fq t ht; omega, fun t ht => by have := HP.out.fo t ht; omega, by omega, by omega, by omega, by omega, fun _ => by omega⟩
      clear HX3
      obtain ⟨c0, c1, c2, c3, c4⟩ := HX7.out.q.1.cells
      obtain ⟨r0, r1, r2, r3, r4⟩ := HX7.out.r.cells
      have k0 := HX7.out.r.frozen 0
      have k1 := HX7.out.r.frozen 1
      have k2 := HX7.out.r.frozen 2
      have k3 := HX7.out.r.frozen 3
      have k4 := HX7.out.r.frozen 4
      try dsimp only at c0 c1 c2 c3 c4
      go_wp2_with fail
      show bodyPost _ _ _ _ _ (fillE w3 w.heap.size e.nx e.ak (.slice qa e.q.length qc) e.gt (.slice oa e.o.length oc))
      have K1 := fill_end HX7.out.r e.nx e.ak e.gt (.slice qa e.q.length qc) (.slice oa e.o.length oc)
      have FF : EndM (fillE w3 w.heap.size e.nx e.ak (.slice qa e.q.length qc) e.gt (.slice oa e.o.length oc)) w.heap.size (.agg #[.int .i64 e.nx, .int .i64 e.ak, (.slice qa e.q.length qc), .int .i64 e.gt, (.slice oa e.o.length oc)]) e ∧ Drw w0 (fillE w3 w.heap.size e.nx e.ak (.slice qa e.q.length qc) e.gt (.slice oa e.o.length oc)) B g ao n cap := HX7.out.fill
      generalize fillE w3 w.heap.size e.nx e.ak (.slice qa e.q.length qc) e.gt (.slice oa e.o.length oc) = WF at *
      obtain ⟨z0, z1, z2, z3, z4⟩ := K1.cells
      refine bodyPost_ret (v := .agg #[.int .i64 e.nx, .int .i64 e.ak, (.slice qa e.q.length qc), .int .i64 e.gt, (.slice oa e.o.length oc)]) (by simp [results, Try.results63, go_sem, z0, z1, z2, z3, z4]) rfl ?_
      exact ⟨⟨_, _, rfl, FF.1, HBN.out⟩, FF.2⟩
end Go.Proofs.Ytohagaelenhebaa
