/- The walk over the program's comeThere. -/
import Derived.Test.YtohagaelenhebaaK2
import Derived.Deep.RegionWith
namespace Go.Proofs.Ytohagaelenhebaa
open Go.RowKit Pl
set_option linter.unusedVariables false

set_option maxRecDepth 100000 in
set_option maxHeartbeats 4000000 in
theorem comeThere_any {t : Tk} {B p : Nat} (l : Bool) (w : World) (h : TalkQ w B p t) (hi : Inv t) (hl2 : t.bk.length ≤ 10000) :
    Calls Try.prog 71 #[.pointer (some ⟨p, 0, none⟩), .bool l] w fun r w' => (∃ x, r = .returned x) ∧ TalkQ w' B p (comeT t l) ∧ Below B w w' := by
  obtain ⟨z, pa, pb, qa, oa, qb, ob, tv, bv, h⟩ := h
  have HT : Hid (TalkS w B p t z pa pb qa oa qb ob tv bv) := h
  obtain ⟨ao, cap, rfl, hp⟩ := SlP.parcels h.th
  obtain ⟨c0, c1, c2, c3⟩ := h.c.cells
  have hpl := h.c.lt
  have hBp := h.le
  cases hth : t.th with
  | nil =>
    have hq : comeT t l = t := by unfold comeT; rw [hth]
    rw [hth] at c2
    simp only [List.length_nil] at c2
    rw [hq]
    clear h hp
    go_enter Try.func71, Try.ntmps71
    go_wp2_with fail
    refine bodyPost_ret (results_none rfl _ _ _) rfl ?_
    exact ⟨⟨_, rfl⟩, ⟨_, _, _, _, _, _, _, _, _, HT.out⟩, Below.refl _ _⟩
  | cons x rest =>
    obtain ⟨num, ack, s⟩ := x
    have hxo : PcOk (num, ack, s) := hi.th _ (by rw [hth]; simp)
    have hlen : t.th.length = rest.length + 1 := by rw [hth]; rfl
    obtain ⟨g, off, rfl, hgl, e0, e1, e2⟩ := hp 0 (by omega)
    have hx0 : t.th[0]'(by omega) = (num, ack, s) := by simp [hth]
    rw [hx0] at e0 e1 e2
    simp only [Nat.zero_mul, Nat.add_zero] at e0 e1 e2
    rw [hlen] at c2
    have hcap : rest.length + 1 ≤ cap := by rw [← hlen]; exact slice_cap h.th
    have hcut := cut_slp h.th hlen hth
    clear hp h hx0
    have i0 : (0 : Int) < ((rest.length + 1 : Nat) : Int) := by omega
    have f2 := HT.out.c.frozen 2
    have key : ∀ V : Value, SlP w B V rest → V.ownBlock = some g → TalkS ((w.setCell ⟨p, 2, none⟩ V).alloc (.cells #[.int .i64 num, .int .i64 ack, .string s] 41)) B p { t with th := rest } (relab z w.heap.size 3) pa pb qa oa qb ob V bv ∧ PcC ((w.setCell ⟨p, 2, none⟩ V).alloc (.cells #[.int .i64 num, .int .i64 ack, .string s] 41)) 41 w.heap.size num ack s ∧ Below B w ((w.setCell ⟨p, 2, none⟩ V).alloc (.cells #[.int .i64 num, .int .i64 ack, .string s] 41)) := fun V hV hVo => by
      have h2 := HT.out.put_t (N := w.heap.size) (Nat.le_refl _) HT.out.c HT.out.a HT.out.b HT.out.bk hV (fun k hk => .inl (by rw [hVo] at hk; exact hk))
      refine ⟨h2.below ((Below.refl _ _).alloc (Nat.le_refl _) _), ?_, ((Below.refl B w).setCell (p := ⟨p, 2, none⟩) hBp V).alloc (by simp [World.setCell]; omega) _⟩
      have := PcC.new (w.setCell ⟨p, 2, none⟩ V) 41 num ack s
      simpa [World.setCell] using this
    have HK : Hid _ := key
    clear key
    go_enter Try.func71, Try.ntmps71
    by_cases hc1 : cap = 1
    · subst hc1
      obtain ⟨T2, P2, B2⟩ := HK.out (Value.slice (some ⟨g, off, none⟩) 0 0) (hcut.1 rfl) rfl
      cases l with
      | true =>
        have hq : Hid (comeT t true = { t with th := rest }) := by show comeT t true = _; unfold comeT; rw [hth]; rfl
        have HT2 : Hid _ := T2
        have HB2 : Hid _ := B2
        clear T2 P2 B2
        go_wp2_with fail
        refine bodyPost_ret (results_none rfl _ _ _) rfl ?_
        refine ⟨⟨_, rfl⟩, ?_, HB2.out⟩
        rw [hq.out]
        exact ⟨_, _, _, _, _, _, _, _, _, HT2.out⟩
      | false =>
        have hq : Hid (comeT t false = { t with th := rest, b := recvE t.b (num, ack, s), bk := t.bk ++ againP (recvE t.b (num, ack, s)) }) := by show comeT t false = _; unfold comeT; rw [hth]; rfl
        have HT2 : Hid (TalkS ((w.setCell ⟨p, 2, none⟩ (Value.slice (some ⟨g, off, none⟩) 0 0)).alloc (.cells #[.int .i64 num, .int .i64 ack, .string s] 41)) B p { t with th := rest } (relab z w.heap.size 3) pa pb qa oa qb ob (Value.slice (some ⟨g, off, none⟩) 0 0) bv) := T2
        have HP2 : Hid (PcC ((w.setCell ⟨p, 2, none⟩ (Value.slice (some ⟨g, off, none⟩) 0 0)).alloc (.cells #[.int .i64 num, .int .i64 ack, .string s] 41)) 41 w.heap.size num ack s) := P2
        have HB2 : Hid (Below B w ((w.setCell ⟨p, 2, none⟩ (Value.slice (some ⟨g, off, none⟩) 0 0)).alloc (.cells #[.int .i64 num, .int .i64 ack, .string s] 41))) := B2
        clear T2 P2 B2
        go_wp2_with fail
        clear e0 e1 e2 c0 c1 c2 c3 f2
        generalize ((w.setCell ⟨p, 2, none⟩ (Value.slice (some ⟨g, off, none⟩) 0 0)).alloc (.cells #[.int .i64 num, .int .i64 ack, .string s] 41)) = W2 at *
        generalize (Value.slice (some ⟨g, off, none⟩) 0 0) = V at *
        have d1 := HT2.out.c.cells.2.1
        obtain ⟨p0, p1, p2⟩ := HP2.out.cells
        go_region_held3 (fun w' => w'.cell? ⟨p, 1, none⟩ = some (.pointer (some ⟨pb, 0, none⟩)) ∧ w'.cell? ⟨w.heap.size, 0, none⟩ = some (.int .i64 num) ∧ w'.cell? ⟨w.heap.size, 1, none⟩ = some (.int .i64 ack) ∧ w'.cell? ⟨w.heap.size, 2, none⟩ = some (.string s))
          (first | exact ⟨d1, p0, p1, p2⟩ | exact S3)
          (first | (go_at_call 60; refine (preceive_any num ack s _ (show EndQ W2.drew _ _ _ _ _ from HT2.out.b) hi.b.ok (by have := hxo.2; simp at this; omega)).mono ?_; rintro r_ w3 ⟨rfl, qv', ov', hQ, hu1, hu2, hb3, hg3⟩; have T3 := HT2.out.drew.with_b hg3 hQ hu1 hu2; have P3 : PcC w3 41 w.heap.size num ack s := PcC.gr (show PcC W2.drew 41 w.heap.size num ack s from HP2.out) hg3 (fun hk => by rcases hk with hk | hk; (have := HT.out.b.1.lt; omega); (have := (Sl.lt HT.out.b.2.2.1 _ hk).2; omega)); have S3 := And.intro T3.c.cells.2.1 P3.cells))
        obtain ⟨b', hb'⟩ : ∃ b', b' = recvE t.b (num, ack, s) := ⟨_, rfl⟩
        have hok' : OkS b' := by rw [hb']; exact recvE_ok hi.b hxo
        rw [← hb'] at T3
        have hq2 : Hid (comeT t false = { t with th := rest, b := b', bk := t.bk ++ againP b' }) := by rw [hb']; exact hq.out
        have HT3 : Hid (TalkS w3 B p { t with th := rest, b := b' } (relab (relab z w.heap.size 3) W2.drew.heap.size 2) pa pb qa oa qv' ov' V bv) := T3
        have HB3 : Hid (Below B w w3) := HB2.out.drew.trans hb3
        clear T3 P3 S3 hQ hu1 hu2 hb3 hg3 hb' hq d1 p0 p1 p2 HP2 HT2 HB2
        obtain ⟨ka, kc, rfl⟩ := Sl.form HT3.out.bk
        dsimp only at HT3
        have d1 := HT3.out.c.cells.2.1
        have d3 := HT3.out.c.cells.2.2.2
        have lk : t.bk.length ≤ 10000 := hl2
        go_wp2_with fail
        go_region_with (first
            | (go_at_call 59; refine (psendAgain_any _ (show EndP w3.drew B pb b' from HT3.out.b.p) hok'.ok).mono ?_; rintro r_ w4 ⟨c, cc, rfl, hC, hc, hb4⟩; have C4 : TalkC w4 p pa pb V (.slice ka t.bk.length kc) := TalkC.grS (show TalkC w3.drew p pa pb V (.slice ka t.bk.length kc) from HT3.out.c) (Gr.ofBelow (S := fun _ => False) hb4) (fun x => x); have z4 : w3.heap.size ≤ w4.heap.size := hb4.size; obtain ⟨j0, j1, j2, j3⟩ := C4.cells)
            | (go_at_call 57; refine (withP_any w4 (show SlP w4 B (.slice ka t.bk.length kc) t.bk from Sl.below (show SlP w3.drew B _ _ from HT3.out.bk) hb4) hC (by have := HT3.out.c.lt; omega) (by have := againP_len4 hok'.ok; omega)).mono ?_; rintro r_ w5 ⟨v5, rfl, s5, g5, l5⟩; have SK := HT3.out.drew.sent_k hb4 hc s5 g5 l5; have C5 := SK.2.2.2; obtain ⟨xa, xc, rfl⟩ := Sl.form s5; generalize (t.bk ++ againP b').length = N at *; have f5 := C5.frozen 3; obtain ⟨i0', i1, i2, i3⟩ := C5.cells))
        all_goals
          have HQ : Hid _ := SK.1
          have HB5 : Hid (Below B w _) := HB3.out.drew.trans SK.2.1
          clear SK C4 C5 s5 g5 l5 hC hb4
          go_wp2_with fail
          go_end0
          refine ⟨⟨_, rfl⟩, ?_, HB5.out⟩
          rw [hq2.out]
          exact HQ.out
    · obtain ⟨T2, P2, B2⟩ := HK.out (Value.slice (some ⟨g, off + 3, none⟩) rest.length (cap - 1)) hcut.2 rfl
      cases l with
      | true =>
        have hq : Hid (comeT t true = { t with th := rest }) := by show comeT t true = _; unfold comeT; rw [hth]; rfl
        have HT2 : Hid _ := T2
        have HB2 : Hid _ := B2
        clear T2 P2 B2
        go_wp2_with fail
        refine bodyPost_ret (results_none rfl _ _ _) rfl ?_
        refine ⟨⟨_, rfl⟩, ?_, HB2.out⟩
        rw [hq.out]
        exact ⟨_, _, _, _, _, _, _, _, _, HT2.out⟩
      | false =>
        have hq : Hid (comeT t false = { t with th := rest, b := recvE t.b (num, ack, s), bk := t.bk ++ againP (recvE t.b (num, ack, s)) }) := by show comeT t false = _; unfold comeT; rw [hth]; rfl
        have HT2 : Hid (TalkS ((w.setCell ⟨p, 2, none⟩ (Value.slice (some ⟨g, off + 3, none⟩) rest.length (cap - 1))).alloc (.cells #[.int .i64 num, .int .i64 ack, .string s] 41)) B p { t with th := rest } (relab z w.heap.size 3) pa pb qa oa qb ob (Value.slice (some ⟨g, off + 3, none⟩) rest.length (cap - 1)) bv) := T2
        have HP2 : Hid (PcC ((w.setCell ⟨p, 2, none⟩ (Value.slice (some ⟨g, off + 3, none⟩) rest.length (cap - 1))).alloc (.cells #[.int .i64 num, .int .i64 ack, .string s] 41)) 41 w.heap.size num ack s) := P2
        have HB2 : Hid (Below B w ((w.setCell ⟨p, 2, none⟩ (Value.slice (some ⟨g, off + 3, none⟩) rest.length (cap - 1))).alloc (.cells #[.int .i64 num, .int .i64 ack, .string s] 41))) := B2
        clear T2 P2 B2
        go_wp2_with fail
        clear e0 e1 e2 c0 c1 c2 c3 f2
        generalize ((w.setCell ⟨p, 2, none⟩ (Value.slice (some ⟨g, off + 3, none⟩) rest.length (cap - 1))).alloc (.cells #[.int .i64 num, .int .i64 ack, .string s] 41)) = W2 at *
        generalize (Value.slice (some ⟨g, off + 3, none⟩) rest.length (cap - 1)) = V at *
        have d1 := HT2.out.c.cells.2.1
        obtain ⟨p0, p1, p2⟩ := HP2.out.cells
        go_region_held3 (fun w' => w'.cell? ⟨p, 1, none⟩ = some (.pointer (some ⟨pb, 0, none⟩)) ∧ w'.cell? ⟨w.heap.size, 0, none⟩ = some (.int .i64 num) ∧ w'.cell? ⟨w.heap.size, 1, none⟩ = some (.int .i64 ack) ∧ w'.cell? ⟨w.heap.size, 2, none⟩ = some (.string s))
          (first | exact ⟨d1, p0, p1, p2⟩ | exact S3)
          (first | (go_at_call 60; refine (preceive_any num ack s _ (show EndQ W2.drew _ _ _ _ _ from HT2.out.b) hi.b.ok (by have := hxo.2; simp at this; omega)).mono ?_; rintro r_ w3 ⟨rfl, qv', ov', hQ, hu1, hu2, hb3, hg3⟩; have T3 := HT2.out.drew.with_b hg3 hQ hu1 hu2; have P3 : PcC w3 41 w.heap.size num ack s := PcC.gr (show PcC W2.drew 41 w.heap.size num ack s from HP2.out) hg3 (fun hk => by rcases hk with hk | hk; (have := HT.out.b.1.lt; omega); (have := (Sl.lt HT.out.b.2.2.1 _ hk).2; omega)); have S3 := And.intro T3.c.cells.2.1 P3.cells))
        obtain ⟨b', hb'⟩ : ∃ b', b' = recvE t.b (num, ack, s) := ⟨_, rfl⟩
        have hok' : OkS b' := by rw [hb']; exact recvE_ok hi.b hxo
        rw [← hb'] at T3
        have hq2 : Hid (comeT t false = { t with th := rest, b := b', bk := t.bk ++ againP b' }) := by rw [hb']; exact hq.out
        have HT3 : Hid (TalkS w3 B p { t with th := rest, b := b' } (relab (relab z w.heap.size 3) W2.drew.heap.size 2) pa pb qa oa qv' ov' V bv) := T3
        have HB3 : Hid (Below B w w3) := HB2.out.drew.trans hb3
        clear T3 P3 S3 hQ hu1 hu2 hb3 hg3 hb' hq d1 p0 p1 p2 HP2 HT2 HB2
        obtain ⟨ka, kc, rfl⟩ := Sl.form HT3.out.bk
        dsimp only at HT3
        have d1 := HT3.out.c.cells.2.1
        have d3 := HT3.out.c.cells.2.2.2
        have lk : t.bk.length ≤ 10000 := hl2
        go_wp2_with fail
        go_region_with (first
            | (go_at_call 59; refine (psendAgain_any _ (show EndP w3.drew B pb b' from HT3.out.b.p) hok'.ok).mono ?_; rintro r_ w4 ⟨c, cc, rfl, hC, hc, hb4⟩; have C4 : TalkC w4 p pa pb V (.slice ka t.bk.length kc) := TalkC.grS (show TalkC w3.drew p pa pb V (.slice ka t.bk.length kc) from HT3.out.c) (Gr.ofBelow (S := fun _ => False) hb4) (fun x => x); have z4 : w3.heap.size ≤ w4.heap.size := hb4.size; obtain ⟨j0, j1, j2, j3⟩ := C4.cells)
            | (go_at_call 57; refine (withP_any w4 (show SlP w4 B (.slice ka t.bk.length kc) t.bk from Sl.below (show SlP w3.drew B _ _ from HT3.out.bk) hb4) hC (by have := HT3.out.c.lt; omega) (by have := againP_len4 hok'.ok; omega)).mono ?_; rintro r_ w5 ⟨v5, rfl, s5, g5, l5⟩; have SK := HT3.out.drew.sent_k hb4 hc s5 g5 l5; have C5 := SK.2.2.2; obtain ⟨xa, xc, rfl⟩ := Sl.form s5; generalize (t.bk ++ againP b').length = N at *; have f5 := C5.frozen 3; obtain ⟨i0', i1, i2, i3⟩ := C5.cells))
        all_goals
          have HQ : Hid _ := SK.1
          have HB5 : Hid (Below B w _) := HB3.out.drew.trans SK.2.1
          clear SK C4 C5 s5 g5 l5 hC hb4
          go_wp2_with fail
          go_end0
          refine ⟨⟨_, rfl⟩, ?_, HB5.out⟩
          rw [hq2.out]
          exact HQ.out
end Go.Proofs.Ytohagaelenhebaa
