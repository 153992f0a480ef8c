/- The walk over the program's Talk. -/
import Derived.Test.YtohagaelenhebaaK6
namespace Go.Proofs.Ytohagaelenhebaa
open Go.RowKit Pl
set_option linter.unusedVariables false

theorem talkB_true {ts : List ByteArray} {ps : List Int} (h : talkB ts ps = true) : ts.length ≤ 20 ∧ ps.length ≤ 200 ∧ (∀ t ∈ ts, t.size ≤ 60) ∧ ∀ x ∈ ps, 0 ≤ x := by
  unfold talkB at h
  simp only [Bool.and_eq_true, decide_eq_true_eq, fitB_true] at h
  refine ⟨h.1, h.2.1, h.2.2.1, fun x hx => ?_⟩
  have := List.all_eq_true.1 h.2.2.2 x hx
  simpa using this
theorem TextsAt.take {w : World} {ao : Option Addr} {ts : List ByteArray} (h : TextsAt w ao ts) (n : Nat) : TextsAt w ao (ts.take n) := by
  intro i hi
  have hi' : i < ts.length := by rw [List.length_take] at hi; omega
  obtain ⟨b, off, h1, h2, h3⟩ := h i hi'
  exact ⟨b, off, h1, h2, by rw [List.getElem_take]; exact h3⟩
/-- what Talk gives. -/
def TalkOut (w w' : World) (ts : List ByteArray) (ps : List Int) (r : Ending) : Prop := ∃ v, r = .returned (.tuple #[v, .bool (talkR ts ps)]) ∧ SlT w' w.heap.size v (talkO ts ps)
theorem natsOf_take (ps : List Int) {k : Nat} (h : k < ps.length) (hx : 0 ≤ ps[k]) : natsOf (ps.take (k + 1)) = natsOf (ps.take k) ++ [ps[k].toNat] := by
  unfold natsOf
  rw [List.take_succ_eq_append_getElem h, List.map_append]
  rfl

set_option maxRecDepth 100000 in
set_option maxHeartbeats 4000000 in
theorem talk_any (ao io : Option Addr) (ac ic : Nat) (ts : List ByteArray) (ps : List Int) (w : World) (hx : Hid (TextsAt w ao ts)) (hy : Hid (IntsAt w io ps)) (hl : ts.length ≤ 1048576) (hm : ps.length ≤ 1048576) (hac : ts.length ≤ ac) (hi64 : Hid (∀ x ∈ ps, x ≤ 9223372036854775807)) :
    Calls Try.prog 14 #[.slice ao ts.length ac, .slice io ps.length ic] w fun r w' => TalkOut w w' ts ps r ∧ Below w.heap.size w w' := by
  go_enter Try.func14, Try.ntmps14
  go_wp2_with fail
  refine (talkOk_any ao io ac ic ts ps w hx hy hl hm).mono ?_
  rintro e w1 ⟨rfl, rfl⟩
  cases hok : talkB ts ps with
  | false =>
    have S1 : Hid (SlT (w1.alloc (.cells #[] 9)) w1.heap.size (.slice (some ⟨w1.heap.size, 0, none⟩) 0 0) []) := Sl.made w1 9 1 w1.heap.size (Nat.le_refl _)
    go_wp2_with fail
    go_ret2
    refine ⟨⟨_, by unfold talkR; rw [hok]; rfl, ?_⟩, (Below.refl _ _).alloc (Nat.le_refl _) _⟩
    unfold talkO
    rw [hok]
    exact S1.out
  | true =>
    obtain ⟨t1, t2, t3, t4⟩ := talkB_true hok
    have HF : Hid (∀ t ∈ ts, t.size ≤ 60) := t3
    have HP : Hid (∀ x ∈ ps, 0 ≤ x) := t4
    clear t3 t4
    go_wp2_with fail
    refine (newTalk_any ao ac ts w1 hx (by omega) HF).mono ?_
    rintro e w2 ⟨p, rfl, hT, hB⟩
    have HT : Hid _ := hT
    have HB : Hid _ := hB
    clear hT hB
    go_wp2_with fail
    go_loopw [19] (fun i wr => ∃ k : Nat, k ≤ ps.length ∧ i = .int .i64 k ∧ Hid (TalkQ wr w1.heap.size p (Pl.runT ts (natsOf (ps.take k)))) ∧ Hid (Below w1.heap.size w1 wr)) (fun i _ => ps.length - (intOf i).toNat)
    case atStart => exact ⟨0, Nat.zero_le _, rfl, HT.out, HB.out⟩
    case round =>
      obtain ⟨k, hk, rfl, hT, hB⟩ := hrel
      clear HT HB
      by_cases hlt : k < ps.length
      · obtain ⟨g1, o1, rfl, hg1, hc1⟩ := hy.out k hlt
        have hx0 : 0 ≤ ps[k] := HP.out _ (List.getElem_mem hlt)
        have hx1 : ps[k] ≤ 9223372036854775807 := hi64.out _ (List.getElem_mem hlt)
        obtain ⟨n, hn⟩ : ∃ n : Nat, ps[k] = (n : Int) := ⟨ps[k].toNat, by omega⟩
        rw [hn] at hc1 hx1
        have d1 : wr.cell? ⟨g1, o1 + k, none⟩ = some (.int .i64 n) := (hB.out.cell (p := ⟨g1, o1 + k, none⟩) hg1).trans hc1
        have HN : Hid (Pl.runT ts (natsOf (ps.take (k + 1))) = Pl.stepT (Pl.runT ts (natsOf (ps.take k))) n) := by
          show Pl.runT ts (natsOf (ps.take (k + 1))) = _
          rw [natsOf_take ps hlt hx0, Pl.runT_succ, hn]
          rfl
        obtain ⟨i1, i2, i3⟩ := run_inv (show ts.length ≤ 30 by omega) HF.out (natsOf (ps.take k))
        have hlk : (natsOf (ps.take k)).length ≤ 200 := by unfold natsOf; rw [List.length_map, List.length_take]; omega
        have HI : Hid _ := i1
        clear hc1 hn hx0 i1
        have hd : decide ((k : Int) < (ps.length : Int)) = true := by simp; omega
        go_wp2_with fail
        refine (step_any n wr hT.out HI.out hx1 (by omega) (by omega)).mono ?_
        rintro r w3 ⟨⟨y, rfl⟩, hT3, hB3⟩
        have T3 : Hid (TalkQ w3 w1.heap.size p (Pl.runT ts (natsOf (ps.take (k + 1))))) := by show TalkQ _ _ _ _; rw [HN.out]; exact hT3
        have B3 : Hid (Below w1.heap.size w1 w3) := hB.out.trans hB3
        clear hT3 hB3 hT hB d1 HI i2 i3
        go_wp2_with fail
        go_roundw
        case rel => exact ⟨k + 1, by omega, by go_num, T3.out, B3.out⟩
        case measure => simp [intOf]; omega
      · have hke : k = ps.length := by omega
        have hd : decide ((k : Int) < (ps.length : Int)) = false := by simp; omega
        obtain ⟨t, ht⟩ : ∃ t, t = Pl.runT ts (natsOf ps) := ⟨_, rfl⟩
        have HTT : Hid (t = Pl.runT ts (natsOf ps)) := ht
        have T3 : TalkQ wr w1.heap.size p t := by have := hT.out; rw [hke, List.take_length, ← ht] at this; exact this
        obtain ⟨z, pa, pb, qa, oa, qb, ob, tv, bv, h⟩ := T3
        have h1 := h.c.cells.2.1
        have h4 := h.b.1.cells.2.2.2.2
        obtain ⟨xa, xc, rfl, hxt⟩ := SlT.texts h.b.2.2.1
        have HS : Hid (SlT wr w1.heap.size (.slice xa t.b.o.length xc) t.b.o) := h.b.2.2.1
        have HX : Hid (TextsAt wr xa t.b.o) := hxt
        have hol : t.b.o.length ≤ 1000 := by
          have i1 := (run_inv (show ts.length ≤ 30 by omega) HF.out (natsOf ps)).1
          rw [← ht] at i1
          have a1 := i1.b.ok.o0
          have a2 := i1.b.ok.g1
          omega
        have HO : Hid (talkO ts ps = t.b.o) := by show talkO ts ps = _; unfold talkO; rw [hok, if_pos rfl, ht]
        have HR : Hid (talkR ts ps = begB ts t.b.o) := by show talkR ts ps = _; unfold talkR; rw [hok, ht]; rfl
        clear h hxt ht hT hke
        by_cases hle : t.b.o.length ≤ ts.length
        · have hd2 : decide ((t.b.o.length : Int) ≤ (ts.length : Int)) = true := by simp; omega
          have q1 : (0 : Int) ≤ (t.b.o.length : Int) := by omega
          have q2 : (t.b.o.length : Int) ≤ (ac : Int) := by omega
          have q3 : t.b.o.length ≤ ac := by omega
          have E := slEq_any xa ao xc ac t.b.o (ts.take t.b.o.length) wr HX (show Hid (TextsAt wr ao _) from TextsAt.take (hx.out.stays hB.out) _) (by rw [List.length_take]; omega) (by omega)
          rw [show (ts.take t.b.o.length).length = t.b.o.length by rw [List.length_take]; omega] at E
          have HE : Hid _ := E
          clear E
          go_wp2_with fail
          refine Calls.mono HE.out ?_
          rintro r w3 ⟨rfl, hb3⟩
          have S3 : Hid (SlT w3 w1.heap.size (.slice xa t.b.o.length xc) t.b.o) := Sl.below HS.out hb3
          have B3 : Hid (Below w1.heap.size w1 w3) := hB.out.trans (hb3.mono hB.out.size)
          clear hb3 HE HS HX hB h1 h4
          generalize hbb : decide (t.b.o = ts.take t.b.o.length) = bb at *
          have HBB : Hid _ := hbb
          clear hbb
          go_wp2_with fail
          go_ret2
          refine ⟨⟨_, ?_, by rw [HO.out]; exact S3.out⟩, B3.out⟩
          rw [HR.out, show begB ts t.b.o = bb by unfold begB; rw [show decide (t.b.o.length ≤ ts.length) = true by simp; omega, Bool.true_and]; exact HBB.out]
          rfl
        · have hd2 : decide ((t.b.o.length : Int) ≤ (ts.length : Int)) = false := by simp; omega
          go_wp2_with fail
          go_ret2
          refine ⟨⟨_, ?_, by rw [HO.out]; exact HS.out⟩, hB.out⟩
          rw [HR.out, show begB ts t.b.o = false by unfold begB; simp; omega]
          rfl
end Go.Proofs.Ytohagaelenhebaa
