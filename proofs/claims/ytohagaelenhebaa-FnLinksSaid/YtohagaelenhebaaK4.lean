/- The walk over the program's step. -/
import Derived.Test.YtohagaelenhebaaK3
namespace Go.Proofs.Ytohagaelenhebaa
open Go.RowKit Pl
set_option linter.unusedVariables false

set_option maxRecDepth 100000 in
set_option maxHeartbeats 4000000 in
theorem step_any {t : Tk} {B p : Nat} (n : Nat) (w : World) (h : TalkQ w B p t) (hi : Inv t) (hn : (n : Int) ≤ 9223372036854775807) (hl1 : t.th.length ≤ 10000) (hl2 : t.bk.length ≤ 10000) :
    Calls Try.prog 52 #[.pointer (some ⟨p, 0, none⟩), .int .i64 n] w fun r w' => (∃ x, r = .returned x) ∧ TalkQ w' B p (Pl.stepT t n) ∧ Below B w w' := by
  have HH : Hid (TalkQ w B p t) := h
  have hlb : (((n : Int) / 4 % 2) == 1) = lostB n := by
    unfold lostB
    by_cases hh : n / 4 % 2 = 1
    · have : (n : Int) / 4 % 2 = 1 := by omega
      simp [hh, this]
    · have : ¬ (n : Int) / 4 % 2 = 1 := by omega
      simp [hh, this]
  have hc4 : n % 4 = 0 ∨ n % 4 = 1 ∨ n % 4 = 2 ∨ n % 4 = 3 := by omega
  obtain ⟨z, pa, pb, qa, oa, qb, ob, tv, bv, h⟩ := h
  obtain ⟨ka, kc, rfl⟩ := Sl.form h.th
  have hBp := h.le
  have hpl := h.c.lt
  have HT : Hid (TalkS w B p t z pa pb qa oa qb ob (.slice ka t.th.length kc) bv) := h
  clear h
  rcases hc4 with hc | hc | hc | hc
  · have m4 : (n : Int) % 4 = 0 := by omega
    have hq : Hid (Pl.stepT t n = { t with a := newE t.a, th := t.th ++ newP t.a }) := by show Pl.stepT t n = _; unfold Pl.stepT; rw [if_pos hc]
    clear hc
    go_enter Try.func52, Try.ntmps52
    go_wp2_with fail
    obtain ⟨c0, c1, c2, c3⟩ := HT.out.c.cells
    go_region_with (first
      | (go_at_call 58; refine (psendNewQ _ (show EndQ w.drew B pa t.a qa oa from HT.out.a) hi.a.ok).mono ?_; rintro r_ w4 ⟨c, cc, rfl, hC, ha4, hc, hb4, hg4⟩; have C4 : TalkC w4 p pa pb (.slice ka t.th.length kc) bv := TalkC.grS (show TalkC w.drew p pa pb (.slice ka t.th.length kc) bv from HT.out.c) hg4 (fun hk => by have h1 := HT.out.zp; have h2 := HT.out.za.p; rw [hk] at h1; omega); have z4 : w.heap.size ≤ w4.heap.size := hg4.size; obtain ⟨j0, j1, j2, j3⟩ := C4.cells)
      | (go_at_call 57; refine (withP_any w4 (show SlP w4 B (.slice ka t.th.length kc) t.th from Sl.gr (show SlP w.drew B _ _ from HT.out.th) hg4 (fun k hk hs => by have h1 := HT.out.zt k hk; have h2 := HT.out.za.p; rw [hs] at h1; omega)) hC (by have := HT.out.c.lt; omega) (by have := newP_len4 t.a; omega)).mono ?_; rintro r_ w5 ⟨v5, rfl, s5, g5, l5⟩; have SK := HT.out.drew.sent_t (e := newE t.a) z4 ha4 hg4 hc s5 g5 l5; have C5 := SK.2.2.2; obtain ⟨xa, xc, rfl⟩ := Sl.form s5; generalize (t.th ++ newP t.a).length = N at *; have f5 := C5.frozen 2; obtain ⟨i0', i1, i2, i3⟩ := C5.cells))
    all_goals
      have HQ : Hid _ := SK.1
      have HB5 : Hid (Below B w _) := (Below.refl B w).drew.trans SK.2.1
      clear SK C4 C5 s5 g5 l5 hC
      go_wp2_with fail
      go_end0
      refine ⟨⟨_, rfl⟩, ?_, HB5.out⟩
      rw [hq.out]
      exact HQ.out
  · have m4 : (n : Int) % 4 = 1 := by omega
    have hq : Hid (Pl.stepT t n = { t with a := t.a, th := t.th ++ againP t.a }) := by show Pl.stepT t n = _; unfold Pl.stepT; rw [if_neg (by omega), if_pos hc]
    clear hc
    go_enter Try.func52, Try.ntmps52
    go_wp2_with fail
    obtain ⟨c0, c1, c2, c3⟩ := HT.out.c.cells
    go_region_with (first
      | (go_at_call 59; refine (psendAgain_any _ (show EndP w.drew B pa t.a from HT.out.a.p) hi.a.ok).mono ?_; rintro r_ w4 ⟨c, cc, rfl, hC, hc, hb4⟩; have hg4 : Gr (fun k => k = pa) w.drew w4 := Gr.ofBelow hb4; have C4 : TalkC w4 p pa pb (.slice ka t.th.length kc) bv := TalkC.grS (show TalkC w.drew p pa pb (.slice ka t.th.length kc) bv from HT.out.c) hg4 (fun hk => by have h1 := HT.out.zp; have h2 := HT.out.za.p; rw [hk] at h1; omega); have z4 : w.heap.size ≤ w4.heap.size := hg4.size; obtain ⟨j0, j1, j2, j3⟩ := C4.cells)
      | (go_at_call 57; refine (withP_any w4 (show SlP w4 B (.slice ka t.th.length kc) t.th from Sl.gr (show SlP w.drew B _ _ from HT.out.th) hg4 (fun k hk hs => by have h1 := HT.out.zt k hk; have h2 := HT.out.za.p; rw [hs] at h1; omega)) hC (by have := HT.out.c.lt; omega) (by have := againP_len4 hi.a.ok; omega)).mono ?_; rintro r_ w5 ⟨v5, rfl, s5, g5, l5⟩; have SK := HT.out.drew.sent_t (e := t.a) z4 (EndQ.below (show EndQ w.drew B pa t.a qa oa from HT.out.a) hb4) hg4 hc s5 g5 l5; have C5 := SK.2.2.2; obtain ⟨xa, xc, rfl⟩ := Sl.form s5; generalize (t.th ++ againP t.a).length = N at *; have f5 := C5.frozen 2; obtain ⟨i0', i1, i2, i3⟩ := C5.cells))
    all_goals
      have HQ : Hid _ := SK.1
      have HB5 : Hid (Below B w _) := (Below.refl B w).drew.trans SK.2.1
      clear SK C4 C5 s5 g5 l5 hC
      go_wp2_with fail
      go_end0
      refine ⟨⟨_, rfl⟩, ?_, HB5.out⟩
      rw [hq.out]
      exact HQ.out
  · have m4 : (n : Int) % 4 = 2 := by omega
    have hq : Hid (Pl.stepT t n = comeT t (lostB n)) := by show Pl.stepT t n = _; unfold Pl.stepT; rw [if_neg (by omega), if_neg (by omega), if_pos hc]
    clear hc
    go_enter Try.func52, Try.ntmps52
    go_wp2_with fail
    refine (comeThere_any (lostB n) w HH.out hi hl2).mono ?_
    rintro r_ w2 ⟨⟨x, rfl⟩, hT, hB⟩
    have HT2 : Hid _ := hT
    have HB2 : Hid _ := hB
    clear hT hB
    go_wp2_with fail
    go_end0
    refine ⟨⟨_, rfl⟩, ?_, HB2.out⟩
    rw [hq.out]
    exact HT2.out
  · have m4 : (n : Int) % 4 = 3 := by omega
    have hq : Hid (Pl.stepT t n = comeB t (lostB n)) := by show Pl.stepT t n = _; unfold Pl.stepT; rw [if_neg (by omega), if_neg (by omega), if_neg (by omega)]
    clear hc
    go_enter Try.func52, Try.ntmps52
    go_wp2_with fail
    refine (comeBack_any (lostB n) w HH.out hi).mono ?_
    rintro r_ w2 ⟨⟨x, rfl⟩, hT, hB⟩
    have HT2 : Hid _ := hT
    have HB2 : Hid _ := hB
    clear hT hB
    go_wp2_with fail
    go_end0
    refine ⟨⟨_, rfl⟩, ?_, HB2.out⟩
    rw [hq.out]
    exact HT2.out
end Go.Proofs.Ytohagaelenhebaa
