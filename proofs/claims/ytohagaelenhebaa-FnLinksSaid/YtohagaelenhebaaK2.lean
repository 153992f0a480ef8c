/- The walk over the program's comeBack. -/
import Derived.Test.YtohagaelenhebaaK1
import Derived.Deep.RegionHeld3
import Derived.BigQuiet
namespace Go.Proofs.Ytohagaelenhebaa
open Go.RowKit Pl
set_option linter.unusedVariables false

theorem cut_slp {w : World} {B g off cap : Nat} {ps rest : List Pc} {x : Pc} (h : SlP w B (.slice (some ⟨g, off, none⟩) ps.length cap) ps) (hl : ps.length = rest.length + 1) (hx : ps = x :: rest) :
    (cap = 1 → SlP w B (Value.slice (some ⟨g, off, none⟩) 0 0) rest) ∧ SlP w B (Value.slice (some ⟨g, off + 3, none⟩) rest.length (cap - 1)) rest := by
  have h' : Sl w 41 3 B (.slice (some ⟨g, off, none⟩) ps.length cap) ps.length (cellsP ps) := h
  have hd : (cellsP ps).drop 3 = cellsP rest := by
    have := cellsP_drop ps 1
    rw [hx] at this ⊢
    simpa using this
  constructor
  · intro hc
    have := slice_cap h
    have hr : rest = [] := List.eq_nil_of_length_eq_zero (by omega)
    subst hr
    exact (Sl.cutAll h' 0).resolve_right (by omega)
  · have := Sl.cut h' (k := 1) (by omega)
    rw [show 1 * 3 = 3 from rfl, hd, hl, show rest.length + 1 - 1 = rest.length by omega] at this
    exact this

set_option maxRecDepth 100000 in
set_option maxHeartbeats 4000000 in
theorem comeBack_any {t : Tk} {B p : Nat} (l : Bool) (w : World) (h : TalkQ w B p t) (hi : Inv t) :
    Calls Try.prog 72 #[.pointer (some ⟨p, 0, none⟩), .bool l] w fun r w' => (∃ x, r = .returned x) ∧ TalkQ w' B p (comeB t l) ∧ Below B w w' := by
  obtain ⟨z, pa, pb, qa, oa, qb, ob, tv, bv, h⟩ := h
  have HT : Hid (TalkS w B p t z pa pb qa oa qb ob tv bv) := h
  obtain ⟨ao, cap, rfl, hp⟩ := SlP.parcels h.bk
  obtain ⟨c0, c1, c2, c3⟩ := h.c.cells
  have hpl := h.c.lt
  have hBp := h.le
  cases hbk : t.bk with
  | nil =>
    have hq : comeB t l = t := by unfold comeB; rw [hbk]
    rw [hbk] at c3
    simp only [List.length_nil] at c3
    rw [hq]
    clear h hp
    go_enter Try.func72, Try.ntmps72
    go_wp2_with fail
    refine bodyPost_ret (results_none rfl _ _ _) rfl ?_
    exact ⟨⟨_, rfl⟩, ⟨_, _, _, _, _, _, _, _, _, HT.out⟩, Below.refl _ _⟩
  | cons x rest =>
    obtain ⟨num, ack, s⟩ := x
    have hxo : PcOk (num, ack, s) := hi.bk _ (by rw [hbk]; simp)
    have hlen : t.bk.length = rest.length + 1 := by rw [hbk]; rfl
    obtain ⟨g, off, rfl, hgl, e0, e1, e2⟩ := hp 0 (by omega)
    have hx0 : t.bk[0]'(by omega) = (num, ack, s) := by simp [hbk]
    rw [hx0] at e0 e1 e2
    simp only [Nat.zero_mul, Nat.add_zero] at e0 e1 e2
    rw [hlen] at c3
    have hcap : rest.length + 1 ≤ cap := by rw [← hlen]; exact slice_cap h.bk
    have hcut := cut_slp h.bk hlen hbk
    clear hp h hx0
    have i0 : (0 : Int) < ((rest.length + 1 : Nat) : Int) := by omega
    have f3 := HT.out.c.frozen 3
    have key : ∀ V : Value, SlP w B V rest → V.ownBlock = some g → TalkS ((w.setCell ⟨p, 3, none⟩ V).alloc (.cells #[.int .i64 num, .int .i64 ack, .string s] 41)) B p { t with bk := rest } (relab z w.heap.size 4) pa pb qa oa qb ob tv V ∧ PcC ((w.setCell ⟨p, 3, none⟩ V).alloc (.cells #[.int .i64 num, .int .i64 ack, .string s] 41)) 41 w.heap.size num ack s ∧ Below B w ((w.setCell ⟨p, 3, none⟩ V).alloc (.cells #[.int .i64 num, .int .i64 ack, .string s] 41)) := fun V hV hVo => by
      have h2 := HT.out.put_k (N := w.heap.size) (Nat.le_refl _) HT.out.c HT.out.a HT.out.b HT.out.th hV (fun k hk => .inl (by rw [hVo] at hk; exact hk))
      refine ⟨h2.below ((Below.refl _ _).alloc (Nat.le_refl _) _), ?_, ((Below.refl B w).setCell (p := ⟨p, 3, none⟩) hBp V).alloc (by simp [World.setCell]; omega) _⟩
      have := PcC.new (w.setCell ⟨p, 3, none⟩ V) 41 num ack s
      simpa [World.setCell] using this
    have HK : Hid _ := key
    clear key
    go_enter Try.func72, Try.ntmps72
    by_cases hc1 : cap = 1
    · subst hc1
      obtain ⟨T2, P2, B2⟩ := HK.out (Value.slice (some ⟨g, off, none⟩) 0 0) (hcut.1 rfl) rfl
      cases l with
      | true =>
        have hq : Hid (comeB t true = { t with bk := rest }) := by show comeB t true = _; unfold comeB; rw [hbk]; rfl
        have HT2 : Hid _ := T2
        have HB2 : Hid _ := B2
        clear T2 P2 B2
        go_wp2_with fail
        go_end0
        refine ⟨⟨_, rfl⟩, ?_, HB2.out⟩
        rw [hq.out]
        exact ⟨_, _, _, _, _, _, _, _, _, HT2.out⟩
      | false =>
        have hq : Hid (comeB t false = { t with bk := rest, a := recvE t.a (num, ack, s) }) := by show comeB t false = _; unfold comeB; rw [hbk]; rfl
        have HT2 : Hid (TalkS ((w.setCell ⟨p, 3, none⟩ (Value.slice (some ⟨g, off, none⟩) 0 0)).alloc (.cells #[.int .i64 num, .int .i64 ack, .string s] 41)) B p { t with bk := rest } (relab z w.heap.size 4) pa pb qa oa qb ob tv (Value.slice (some ⟨g, off, none⟩) 0 0)) := T2
        have HP2 : Hid (PcC ((w.setCell ⟨p, 3, none⟩ (Value.slice (some ⟨g, off, none⟩) 0 0)).alloc (.cells #[.int .i64 num, .int .i64 ack, .string s] 41)) 41 w.heap.size num ack s) := P2
        have HB2 : Hid (Below B w ((w.setCell ⟨p, 3, none⟩ (Value.slice (some ⟨g, off, none⟩) 0 0)).alloc (.cells #[.int .i64 num, .int .i64 ack, .string s] 41))) := B2
        clear T2 P2 B2
        go_wp2_with fail
        clear e0 e1 e2 c0 c1 c2 c3 f3
        generalize ((w.setCell ⟨p, 3, none⟩ (Value.slice (some ⟨g, off, none⟩) 0 0)).alloc (.cells #[.int .i64 num, .int .i64 ack, .string s] 41)) = W2 at *
        generalize (Value.slice (some ⟨g, off, none⟩) 0 0) = V at *
        have d0 := HT2.out.c.cells.1
        obtain ⟨p0, p1, p2⟩ := HP2.out.cells
        go_region_held3 (fun w' => w'.cell? ⟨p, 0, none⟩ = some (.pointer (some ⟨pa, 0, none⟩)) ∧ w'.cell? ⟨w.heap.size, 0, none⟩ = some (.int .i64 num) ∧ w'.cell? ⟨w.heap.size, 1, none⟩ = some (.int .i64 ack) ∧ w'.cell? ⟨w.heap.size, 2, none⟩ = some (.string s))
          (first | exact ⟨d0, p0, p1, p2⟩ | exact S3)
          (first | (go_at_call 60; refine (preceive_any num ack s _ (show EndQ W2.drew _ _ _ _ _ from HT2.out.a) hi.a.ok (by have := hxo.2; simp at this; omega)).mono ?_; rintro r_ w3 ⟨rfl, qv', ov', hQ, hu1, hu2, hb3, hg3⟩; have T3 := HT2.out.drew.with_a hg3 hQ hu1 hu2; have P3 : PcC w3 41 w.heap.size num ack s := PcC.gr (show PcC W2.drew 41 w.heap.size num ack s from HP2.out) hg3 (fun hk => by rcases hk with hk | hk; (have := HT.out.a.1.lt; omega); (have := (Sl.lt HT.out.a.2.2.1 _ hk).2; omega)); have S3 := And.intro T3.c.cells.1 P3.cells))
        have HT3 : Hid _ := T3
        have HB3 : Hid (Below B w w3) := HB2.out.drew.trans hb3
        clear T3 P3 S3 hQ hu1 hu2 hb3 hg3
        go_wp2_with fail
        go_end0
        refine ⟨⟨_, rfl⟩, ?_, HB3.out⟩
        rw [hq.out]
        exact ⟨_, _, _, _, _, _, _, _, _, HT3.out⟩
    · obtain ⟨T2, P2, B2⟩ := HK.out (Value.slice (some ⟨g, off + 3, none⟩) rest.length (cap - 1)) hcut.2 rfl
      cases l with
      | true =>
        have hq : Hid (comeB t true = { t with bk := rest }) := by show comeB t true = _; unfold comeB; rw [hbk]; rfl
        have HT2 : Hid _ := T2
        have HB2 : Hid _ := B2
        clear T2 P2 B2
        go_wp2_with fail
        go_end0
        refine ⟨⟨_, rfl⟩, ?_, HB2.out⟩
        rw [hq.out]
        exact ⟨_, _, _, _, _, _, _, _, _, HT2.out⟩
      | false =>
        have hq : Hid (comeB t false = { t with bk := rest, a := recvE t.a (num, ack, s) }) := by show comeB t false = _; unfold comeB; rw [hbk]; rfl
        have HT2 : Hid (TalkS ((w.setCell ⟨p, 3, none⟩ (Value.slice (some ⟨g, off + 3, none⟩) rest.length (cap - 1))).alloc (.cells #[.int .i64 num, .int .i64 ack, .string s] 41)) B p { t with bk := rest } (relab z w.heap.size 4) pa pb qa oa qb ob tv (Value.slice (some ⟨g, off + 3, none⟩) rest.length (cap - 1))) := T2
        have HP2 : Hid (PcC ((w.setCell ⟨p, 3, none⟩ (Value.slice (some ⟨g, off + 3, none⟩) rest.length (cap - 1))).alloc (.cells #[.int .i64 num, .int .i64 ack, .string s] 41)) 41 w.heap.size num ack s) := P2
        have HB2 : Hid (Below B w ((w.setCell ⟨p, 3, none⟩ (Value.slice (some ⟨g, off + 3, none⟩) rest.length (cap - 1))).alloc (.cells #[.int .i64 num, .int .i64 ack, .string s] 41))) := B2
        clear T2 P2 B2
        go_wp2_with fail
        clear e0 e1 e2 c0 c1 c2 c3 f3
        generalize ((w.setCell ⟨p, 3, none⟩ (Value.slice (some ⟨g, off + 3, none⟩) rest.length (cap - 1))).alloc (.cells #[.int .i64 num, .int .i64 ack, .string s] 41)) = W2 at *
        generalize (Value.slice (some ⟨g, off + 3, none⟩) rest.length (cap - 1)) = V at *
        have d0 := HT2.out.c.cells.1
        obtain ⟨p0, p1, p2⟩ := HP2.out.cells
        go_region_held3 (fun w' => w'.cell? ⟨p, 0, none⟩ = some (.pointer (some ⟨pa, 0, none⟩)) ∧ w'.cell? ⟨w.heap.size, 0, none⟩ = some (.int .i64 num) ∧ w'.cell? ⟨w.heap.size, 1, none⟩ = some (.int .i64 ack) ∧ w'.cell? ⟨w.heap.size, 2, none⟩ = some (.string s))
          (first | exact ⟨d0, p0, p1, p2⟩ | exact S3)
          (first | (go_at_call 60; refine (preceive_any num ack s _ (show EndQ W2.drew _ _ _ _ _ from HT2.out.a) hi.a.ok (by have := hxo.2; simp at this; omega)).mono ?_; rintro r_ w3 ⟨rfl, qv', ov', hQ, hu1, hu2, hb3, hg3⟩; have T3 := HT2.out.drew.with_a hg3 hQ hu1 hu2; have P3 : PcC w3 41 w.heap.size num ack s := PcC.gr (show PcC W2.drew 41 w.heap.size num ack s from HP2.out) hg3 (fun hk => by rcases hk with hk | hk; (have := HT.out.a.1.lt; omega); (have := (Sl.lt HT.out.a.2.2.1 _ hk).2; omega)); have S3 := And.intro T3.c.cells.1 P3.cells))
        have HT3 : Hid _ := T3
        have HB3 : Hid (Below B w w3) := HB2.out.drew.trans hb3
        clear T3 P3 S3 hQ hu1 hu2 hb3 hg3
        go_wp2_with fail
        go_end0
        refine ⟨⟨_, rfl⟩, ?_, HB3.out⟩
        rw [hq.out]
        exact ⟨_, _, _, _, _, _, _, _, _, HT3.out⟩
end Go.Proofs.Ytohagaelenhebaa
