/- The walk over a drawn end and a drawn parcel. -/
import Derived.Test.YtohagaelenhebaaDR
import Derived.Deep.DeepCutAuto
namespace Go.Proofs.Ytohagaelenhebaa
open Go.RowKit Pl
set_option linter.unusedVariables false

theorem endM_drew {w : World} {B : Nat} {v : Value} {e : En} (h : EndM w B v e) : EndM w.drew B v e := h.stays (Below.refl _ _).drew
theorem below_drew' {B : Nat} {w w' : World} (h : Below B w w') : Below B w w'.drew := h.drew
theorem PcC.drew {w : World} {T g : Nat} {n a : Int} {s : ByteArray} (h : PcC w T g n a s) : PcC w.drew T g n a s := h

set_option maxRecDepth 100000 in
set_option maxHeartbeats 8000000 in
theorem drawReceive_any (w : World) (n cap : Nat) (ao : Option Addr) (hn : n ≤ 1048576) (hk : Hid (CodeAt w w.heap.size ao n)) :
    Calls Try.prog 22 #[.slice ao n cap] w fun r w' => (∃ v e num ack t, r = .returned (.tuple #[v, .agg #[.int .i64 num, .int .i64 ack, .string t]]) ∧ EndM w' w.heap.size v e ∧ Bnd e ∧ t.size ≤ 61) ∧ Below w.heap.size w w' := by
  have b0 : Below w.heap.size w ((w.alloc (Obj.cells #[Value.int IntKind.i64 0, Value.int IntKind.i64 0, Value.slice none 0 0, Value.int IntKind.i64 0, Value.slice none 0 0] 32)).alloc (Obj.cells #[Value.int IntKind.i64 0, Value.int IntKind.i64 0, Value.string ⟨#[]⟩] 41)) := ((Below.refl _ _).alloc (Nat.le_refl _) _).alloc (by simp) _
  have hk0 : Hid (CodeAt ((w.alloc (Obj.cells #[Value.int IntKind.i64 0, Value.int IntKind.i64 0, Value.slice none 0 0, Value.int IntKind.i64 0, Value.slice none 0 0] 32)).alloc (Obj.cells #[Value.int IntKind.i64 0, Value.int IntKind.i64 0, Value.string ⟨#[]⟩] 41)) ((w.alloc (Obj.cells #[Value.int IntKind.i64 0, Value.int IntKind.i64 0, Value.slice none 0 0, Value.int IntKind.i64 0, Value.slice none 0 0] 32)).alloc (Obj.cells #[Value.int IntKind.i64 0, Value.int IntKind.i64 0, Value.string ⟨#[]⟩] 41)).heap.size ao n) := CodeAt.up (hk.out.stays b0 (Nat.le_refl _)) b0.size
  have hk1 : Hid (CodeAt ((w.alloc (Obj.cells #[Value.int IntKind.i64 0, Value.int IntKind.i64 0, Value.slice none 0 0, Value.int IntKind.i64 0, Value.slice none 0 0] 32)).alloc (Obj.cells #[Value.int IntKind.i64 0, Value.int IntKind.i64 0, Value.string ⟨#[]⟩] 41)) w.heap.size ao n) := hk.out.stays b0 (Nat.le_refl _)
  have E0 : EndC ((w.alloc (Obj.cells #[Value.int IntKind.i64 0, Value.int IntKind.i64 0, Value.slice none 0 0, Value.int IntKind.i64 0, Value.slice none 0 0] 32)).alloc (Obj.cells #[Value.int IntKind.i64 0, Value.int IntKind.i64 0, Value.string ⟨#[]⟩] 41)) 32 w.heap.size 0 0 (.slice none 0 0) 0 (.slice none 0 0) := (EndC.new w 32 0 0 0 _ _).below ((Below.refl _ _).alloc (Nat.le_refl _) _)
  have P0 : PcC ((w.alloc (Obj.cells #[Value.int IntKind.i64 0, Value.int IntKind.i64 0, Value.slice none 0 0, Value.int IntKind.i64 0, Value.slice none 0 0] 32)).alloc (Obj.cells #[Value.int IntKind.i64 0, Value.int IntKind.i64 0, Value.string ⟨#[]⟩] 41)) 41 (w.heap.size + 1) 0 0 ⟨#[]⟩ := by
    have := PcC.new (w.alloc (Obj.cells #[Value.int IntKind.i64 0, Value.int IntKind.i64 0, Value.slice none 0 0, Value.int IntKind.i64 0, Value.slice none 0 0] 32)) 41 0 0 ⟨#[]⟩
    simpa using this
  have hs0 : ((w.alloc (Obj.cells #[Value.int IntKind.i64 0, Value.int IntKind.i64 0, Value.slice none 0 0, Value.int IntKind.i64 0, Value.slice none 0 0] 32)).alloc (Obj.cells #[Value.int IntKind.i64 0, Value.int IntKind.i64 0, Value.string ⟨#[]⟩] 41)).heap.size = w.heap.size + 2 := by simp
  have HE0 : Hid (EndC ((w.alloc (Obj.cells #[Value.int IntKind.i64 0, Value.int IntKind.i64 0, Value.slice none 0 0, Value.int IntKind.i64 0, Value.slice none 0 0] 32)).alloc (Obj.cells #[Value.int IntKind.i64 0, Value.int IntKind.i64 0, Value.string ⟨#[]⟩] 41)) 32 w.heap.size 0 0 (.slice none 0 0) 0 (.slice none 0 0)) := E0
  have HP0 : Hid (PcC ((w.alloc (Obj.cells #[Value.int IntKind.i64 0, Value.int IntKind.i64 0, Value.slice none 0 0, Value.int IntKind.i64 0, Value.slice none 0 0] 32)).alloc (Obj.cells #[Value.int IntKind.i64 0, Value.int IntKind.i64 0, Value.string ⟨#[]⟩] 41)) 41 (w.heap.size + 1) 0 0 ⟨#[]⟩) := P0
  have HB0 : Hid (Below w.heap.size w ((w.alloc (Obj.cells #[Value.int IntKind.i64 0, Value.int IntKind.i64 0, Value.slice none 0 0, Value.int IntKind.i64 0, Value.slice none 0 0] 32)).alloc (Obj.cells #[Value.int IntKind.i64 0, Value.int IntKind.i64 0, Value.string ⟨#[]⟩] 41))) := b0
  clear E0 P0 b0
  go_enter Try.func22, Try.ntmps22
  go_wp2_with fail
  generalize (w.alloc (Obj.cells #[Value.int IntKind.i64 0, Value.int IntKind.i64 0, Value.slice none 0 0, Value.int IntKind.i64 0, Value.slice none 0 0] 32)).alloc (Obj.cells #[Value.int IntKind.i64 0, Value.int IntKind.i64 0, Value.string ⟨#[]⟩] 41) = W0 at *
  refine (new_any W0 n cap ao hn hk0).mono ?_
  rintro r w1 ⟨rfl, hc1, hb1, hs1⟩
  rw [hs0] at hc1 hs1 ⊢
  have hb1' : Below W0.heap.size W0 w1 := hb1
  have D1 : Hid (Drw w1 w1 w.heap.size (w.heap.size + 2) ao n cap) := Drw.start hc1.out (hk1.out.stays hb1' (by omega))
  have HE1 : Hid (EndC w1 32 w.heap.size 0 0 (.slice none 0 0) 0 (.slice none 0 0)) := HE0.out.below hb1'
  have HP1 : Hid (PcC w1 41 (w.heap.size + 1) 0 0 ⟨#[]⟩) := HP0.out.below hb1'
  have HB1 : Hid (Below w.heap.size w w1) := HB0.out.trans (hb1'.mono HB0.out.size)
  clear hk0 hk1 HE0 HP0 HB0 hb1 hb1' hc1 hs0
  have hs3 : w1.heap.size = w.heap.size + 3 := by omega
  have HS3 : Hid (w1.heap.size = w.heap.size + 3) := hs3
  clear hs1 hs3
  go_wp2_with fail
  refine (drawEnd_any w1 w1 w.heap.size (w.heap.size + 2) n cap ao hn (by omega) D1).mono ?_
  rintro r w2 ⟨⟨v2, e, rfl, m2, bn⟩, hd2⟩
  obtain ⟨qa, qc, oa, oc, rfl⟩ := endM_form m2
  have HBN : Hid (Bnd e) := bn
  have hz2 : w1.heap.size ≤ w2.heap.size := hd2.out.2.2.size
  obtain ⟨lo, hlo⟩ : ∃ lo, lo = w1.heap.size := ⟨_, rfl⟩
  obtain ⟨p, hp⟩ : ∃ p, p = w2.heap.size := ⟨_, rfl⟩
  have Y3 : Hid (Ys w1 (w2.alloc (Obj.cells #[Value.int IntKind.i64 e.nx, Value.int IntKind.i64 e.ak, Value.slice qa e.q.length qc, Value.int IntKind.i64 e.gt, Value.slice oa e.o.length oc] 32)) w.heap.size (w.heap.size + 2) n cap w.heap.size lo p ao e (.slice qa e.q.length qc) (.slice oa e.o.length oc)) := by
    have s3 := HS3.out
    obtain ⟨qv, ov, hv, t1, t2, t3⟩ := m2
    simp at hv
    obtain ⟨rfl, rfl⟩ := hv
    have hq := endQ_new (w := w2) (B := w1.heap.size) (e := e) t1 t2 t3 hz2
    have bb : Below w2.heap.size w2 (w2.alloc (Obj.cells #[Value.int IntKind.i64 e.nx, Value.int IntKind.i64 e.ak, Value.slice qa e.q.length qc, Value.int IntKind.i64 e.gt, Value.slice oa e.o.length oc] 32)) := (Below.refl _ _).alloc (Nat.le_refl _) _
    rw [hlo, hp]
    exact ⟨hq, EndC.below ((hd2.out.2.2.block w.heap.size (by omega) (by omega)).trans HE1.out) bb, PcC.below ((hd2.out.2.2.block (w.heap.size + 1) (by omega) (by omega)).trans HP1.out) bb, hd2.out.step (by omega) bb, by omega, by omega, by omega⟩
  have g0 := bn.g0
  have g1 := bn.g1
  have a0 := bn.a0
  have a1 := bn.a1
  clear m2 hd2 D1 HE1 HP1 bn
  go_wp2_with fail
  rw [← hp]
  clear hp hlo hz2
  generalize w2.alloc (Obj.cells #[Value.int IntKind.i64 e.nx, Value.int IntKind.i64 e.ak, Value.slice qa e.q.length qc, Value.int IntKind.i64 e.gt, Value.slice oa e.o.length oc] 32) = WS at *
  go_cut [6] (fun u6_ wx => BoxP w1 WS wx w.heap.size (w.heap.size + 2) n cap w.heap.size lo p ao e (.slice qa e.q.length qc) (.slice oa e.o.length oc) u6_)
  case first =>
    have yd : Hid (Ys w1 (WS.drew) w.heap.size (w.heap.size + 2) n cap w.heap.size lo p ao e (.slice qa e.q.length qc) (.slice oa e.o.length oc)) := Y3.out.below (Below.refl _ _).drew
    have ya : Hid (∀ o : Obj, Ys w1 ((WS.alloc o).drew) w.heap.size (w.heap.size + 2) n cap w.heap.size lo p ao e (.slice qa e.q.length qc) (.slice oa e.o.length oc)) := fun o => Y3.out.below ((Below.refl _ _).alloc (Nat.le_refl _) o).drew
    have keepS : Hid (∀ w', Ys w1 (w') w.heap.size (w.heap.size + 2) n cap w.heap.size lo p ao e (.slice qa e.q.length qc) (.slice oa e.o.length oc) → (w'.cell? ⟨p, 1, none⟩ = some (.int .i64 e.ak) ∧ w'.cell? ⟨p, 3, none⟩ = some (.int .i64 e.gt))) := fun w' h => ⟨h.q.1.cells.2.1, h.q.1.cells.2.2.2.1⟩
    have hgS : w.heap.size + 2 < WS.heap.size := Y3.out.d.lt
    have yf : Hid (∀ (W9 : World) (k : Nat) (num ack : Int) (t : ByteArray), WS.heap.size ≤ k → Ys w1 (W9) w.heap.size (w.heap.size + 2) n cap w.heap.size lo p ao e (.slice qa e.q.length qc) (.slice oa e.o.length oc) → Ys w1 (((W9.setCell ⟨k, 0, none⟩ (.int .i64 num)).setCell ⟨k, 1, none⟩ (.int .i64 ack)).setCell ⟨k, 2, none⟩ (.string t)) w.heap.size (w.heap.size + 2) n cap w.heap.size lo p ao e (.slice qa e.q.length qc) (.slice oa e.o.length oc)) := fun W9 k num ack t hk h => Y3.out.high (N := 0) hk (Y3.out.high (N := 0) hk (Y3.out.high (N := 0) hk h))
    go_region_held3 (fun w' => w'.cell? ⟨p, 1, none⟩ = some (.int .i64 e.ak) ∧ w'.cell? ⟨p, 3, none⟩ = some (.int .i64 e.gt))
      (first | with_reducible exact keepS.out _ (yf.out _ _ _ _ _ (by omega) Y9.out) | with_reducible exact keepS.out _ (Y9.out.alloc _) | with_reducible exact keepS.out _ Y9.out | with_reducible exact keepS.out _ (Y8.out.alloc _) | with_reducible exact keepS.out _ Y8.out | with_reducible exact keepS.out _ (Y7.out.alloc _) | with_reducible exact keepS.out _ Y7.out | with_reducible exact keepS.out _ (ya.out _) | with_reducible exact keepS.out _ yd.out)
      (first
        | (go_at_call_of 47 (Value.int IntKind.i64 3); refine (belowY 3 hn (by omega) (by omega) (by first | with_reducible exact yd.out | with_reducible exact ya.out _)).mono ?_; rintro r_ w7 ⟨⟨x1, hx1, rfl⟩, Y7_, K7⟩; have Y7 : Hid (Ys w1 (w7) w.heap.size (w.heap.size + 2) n cap w.heap.size lo p ao e (.slice qa e.q.length qc) (.slice oa e.o.length oc)) := Y7_; clear Y7_; have z7 : WS.heap.size ≤ w7.heap.size := (by have h := K7.size; first | exact h | (simp at h; omega)); have ww1 : IntKind.i64.wrap (e.gt + (x1 : Int)) = e.gt + (x1 : Int) := (by rw [IntKind.wrap_i64]; omega); (first | (with_reducible have X7 : PcC w7 41 WS.heap.size 0 0 ⟨#[]⟩ := PcC.but (PcC.drew (PcC.new WS 41 0 0 ⟨#[]⟩)) K7 (by omega)) | skip))
        | (go_at_call_of 47 (Value.int IntKind.i64 5); refine (belowY 5 hn (by omega) (by omega) (by first | with_reducible exact Y7.out | with_reducible exact Y7.out.alloc _)).mono ?_; rintro r_ w8 ⟨⟨x2, hx2, rfl⟩, Y8_, K8⟩; have Y8 : Hid (Ys w1 (w8) w.heap.size (w.heap.size + 2) n cap w.heap.size lo p ao e (.slice qa e.q.length qc) (.slice oa e.o.length oc)) := Y8_; clear Y8_; have z8 : WS.heap.size ≤ w8.heap.size := (by have h := K8.size; first | omega | (simp at h; omega)); have ww2 : IntKind.i64.wrap (e.ak + (x2 : Int)) = e.ak + (x2 : Int) := (by rw [IntKind.wrap_i64]; omega); (first | (with_reducible have X8 : PcC w8 41 w7.heap.size 0 0 ⟨#[]⟩ := PcC.but (PcC.new w7 41 0 0 ⟨#[]⟩) K8 (by omega)) | (with_reducible have X8 := PcC.but X7 K8 (by omega)) | skip))
        | (go_at_call 48; refine (nameY hn (by first | with_reducible exact Y8.out | with_reducible exact Y8.out.alloc _)).mono ?_; rintro r_ w9 ⟨⟨tx, htx, rfl⟩, Y9_, K9⟩; have Y9 : Hid (Ys w1 (w9) w.heap.size (w.heap.size + 2) n cap w.heap.size lo p ao e (.slice qa e.q.length qc) (.slice oa e.o.length oc)) := Y9_; clear Y9_; have z9 : WS.heap.size ≤ w9.heap.size := (by have h := K9.size; first | omega | (simp at h; omega)); (first | (with_reducible have X9 : PcC w9 41 w8.heap.size 0 0 ⟨#[]⟩ := PcC.but (PcC.new w8 41 0 0 ⟨#[]⟩) K9 (by omega)) | (with_reducible have X9 := PcC.but X8 K9 (by omega)) | skip); (try (obtain ⟨x0_, x1_, x2_⟩ := X9.cells; have k0_ := X9.frozen 0; have k1_ := X9.frozen 1; have k2_ := X9.frozen 2))))
    all_goals clear keepS
    all_goals (try go_wp2_with fail)
    all_goals go_meet
    all_goals first | with_reducible exact boxP_late z9 Y9.out (by omega) | with_reducible exact boxP_early Y3.out (by omega) X9 Y9.out (by omega)
  case rest =>
    obtain ⟨k, num, ack, t, rfl, ht, hkS, PK, YK⟩ := hcut
    have hkg : k ≠ w.heap.size + 2 := by have := Y3.out.d.lt; omega
    have hkS' : WS.heap.size ≤ k := hkS
    have hkr : w.heap.size + 2 < k := by have := Y3.out.d.lt; omega
    have hkn1 : ¬ k = w.heap.size := by omega
    have hkn2 : ¬ w.heap.size = k := by omega
    have hkn3 : ¬ k = w.heap.size + 1 := by omega
    have hkn4 : ¬ w.heap.size + 1 = k := by omega
    have HPK : Hid (PcC wc 41 k num ack t) := PK
    have HYK : Hid (Ys w1 (wc) w.heap.size (w.heap.size + 2) n cap w.heap.size lo p ao e (.slice qa e.q.length qc) (.slice oa e.o.length oc)) := YK
    have HT0 : Hid (t.size ≤ 61) := ht
    have HH : Hid (∀ (W' : World) (j : Nat) (x : Value), Ys w1 (W') w.heap.size (w.heap.size + 2) n cap w.heap.size lo p ao e (.slice qa e.q.length qc) (.slice oa e.o.length oc) → Ys w1 (W'.setCell ⟨k, j, none⟩ x) w.heap.size (w.heap.size + 2) n cap w.heap.size lo p ao e (.slice qa e.q.length qc) (.slice oa e.o.length oc)) := fun W' j x h => Y3.out.high (N := 0) hkS' h
    clear PK YK ht Y3 g0 g1 a0 a1 hkS hkS'
    generalize wc = w3 at *
    go_wp2_with fail
    refine (belowY 12 hn (by omega) (by omega) HYK.out).mono ?_
    rintro r w4 ⟨⟨y, hy, rfl⟩, Y4, K4⟩
    have HY4 : Hid (Ys w1 (w4) w.heap.size (w.heap.size + 2) n cap w.heap.size lo p ao e (.slice qa e.q.length qc) (.slice oa e.o.length oc)) := Y4
    have HP4 : Hid (PcC w4 41 k num ack t) := HPK.out.but K4 hkg
    clear Y4 K4 HYK HPK
    by_cases y0 : y = 0
    · subst y0
      have RW : Hid (RowIp (w4.alloc (.cells #[.int .i64 (-1), .int .i64 9223372036854775807] 3)) w4.heap.size 2 (fun _ => True)) := rowIp_new w4 [-1, 9223372036854775807] 2 _ rfl (fun _ _ => trivial)
      have Y5 : Hid (Ys w1 (w4.alloc (.cells #[.int .i64 (-1), .int .i64 9223372036854775807] 3)) w.heap.size (w.heap.size + 2) n cap w.heap.size lo p ao e (.slice qa e.q.length qc) (.slice oa e.o.length oc)) := HY4.out.alloc _
      have P5 : Hid (PcC (w4.alloc (.cells #[.int .i64 (-1), .int .i64 9223372036854775807] 3)) 41 k num ack t) := HP4.out.below ((Below.refl _ _).alloc (Nat.le_refl _) _)
      have hz5 : w4.heap.size < (w4.alloc (.cells #[.int .i64 (-1), .int .i64 9223372036854775807] 3)).heap.size := by simp
      have hg5 : w4.heap.size ≠ w.heap.size + 2 := by have := HY4.out.d.lt; omega
      clear HY4 HP4
      go_wp2_with fail
      generalize w4.alloc (.cells #[.int .i64 (-1), .int .i64 9223372036854775807] 3) = W5 at *
      refine (pickInt_p W5 w.heap.size (w.heap.size + 2) n cap w4.heap.size 2 ao _ hn (by omega) (by omega) (by omega) hz5 hg5 RW (Drw.start Y5.out.d.1 Y5.out.d.2.1)).mono ?_
      rintro r w6 ⟨⟨z, _, rfl⟩, hd6⟩
      have Y6 : Hid (Ys w1 (w6) w.heap.size (w.heap.size + 2) n cap w.heap.size lo p ao e (.slice qa e.q.length qc) (.slice oa e.o.length oc)) := Y5.out.keep hd6.out
      have P6 : Hid (PcC w6 41 k num ack t) := P5.out.but hd6.out.2.2 hkg
      have YF : Hid (Ys w1 (w6.setCell ⟨k, 0, none⟩ (.int .i64 z)) w.heap.size (w.heap.size + 2) n cap w.heap.size lo p ao e (.slice qa e.q.length qc) (.slice oa e.o.length oc)) := HH.out w6 0 _ Y6.out
      have PF : Hid (PcC (w6.setCell ⟨k, 0, none⟩ (.int .i64 z)) 41 k z ack t) := P6.out.set0
      have HT := HT0
      obtain ⟨p0, p1, p2⟩ := P6.out.cells
      have l0 := P6.out.frozen 0
      clear hd6 RW Y5 P5 Y6 P6 HH HT0
      obtain ⟨c0, c1, c2, c3, c4⟩ := YF.out.q.1.cells
      obtain ⟨e0, e1, e2⟩ := PF.out.cells
      obtain ⟨r0, r1, r2, r3, r4⟩ := YF.out.r1.cells
      have k0 := YF.out.r1.frozen 0
      have k1 := YF.out.r1.frozen 1
      have k2 := YF.out.r1.frozen 2
      have k3 := YF.out.r1.frozen 3
      have k4 := YF.out.r1.frozen 4
      have FF := fill_grown (w6.setCell ⟨k, 0, none⟩ (.int .i64 z)) w.heap.size e.nx e.ak e.gt (.slice qa e.q.length qc) (.slice oa e.o.length oc)
      have K1 := fill_end YF.out.r1 e.nx e.ak e.gt (.slice qa e.q.length qc) (.slice oa e.o.length oc)
      have R2 := YF.out.r2.kept FF (by simp)
      obtain ⟨s0, s1, s2⟩ := R2.cells
      have m0 := R2.frozen 0
      have m1 := R2.frozen 1
      have m2 := R2.frozen 2
      have R3 : PcC ((((fillE (w6.setCell ⟨k, 0, none⟩ (.int .i64 z)) w.heap.size e.nx e.ak (.slice qa e.q.length qc) e.gt (.slice oa e.o.length oc)).setCell ⟨w.heap.size + 1, 0, none⟩ (.int .i64 z)).setCell ⟨w.heap.size + 1, 1, none⟩ (.int .i64 ack)).setCell ⟨w.heap.size + 1, 2, none⟩ (.string t)) 41 (w.heap.size + 1) z ack t := R2.set0.set1.set2
      have G3 : World.grownBy (fillE (w6.setCell ⟨k, 0, none⟩ (.int .i64 z)) w.heap.size e.nx e.ak (.slice qa e.q.length qc) e.gt (.slice oa e.o.length oc)) ((((fillE (w6.setCell ⟨k, 0, none⟩ (.int .i64 z)) w.heap.size e.nx e.ak (.slice qa e.q.length qc) e.gt (.slice oa e.o.length oc)).setCell ⟨w.heap.size + 1, 0, none⟩ (.int .i64 z)).setCell ⟨w.heap.size + 1, 1, none⟩ (.int .i64 ack)).setCell ⟨w.heap.size + 1, 2, none⟩ (.string t)) (some (w.heap.size + 1)) := grown_trans (grown_trans (grown_cell _ _ 0 _) (grown_cell _ _ 1 _)) (grown_cell _ _ 2 _)
      have K3 : EndC ((((fillE (w6.setCell ⟨k, 0, none⟩ (.int .i64 z)) w.heap.size e.nx e.ak (.slice qa e.q.length qc) e.gt (.slice oa e.o.length oc)).setCell ⟨w.heap.size + 1, 0, none⟩ (.int .i64 z)).setCell ⟨w.heap.size + 1, 1, none⟩ (.int .i64 ack)).setCell ⟨w.heap.size + 1, 2, none⟩ (.string t)) 32 w.heap.size e.nx e.ak (.slice qa e.q.length qc) e.gt (.slice oa e.o.length oc) := K1.kept G3 (by simp)
      have hz := YF.out.d.2.2.size
      have hs3 := HS3.out
      have hlo := YF.out.gl
      have M1 : EndM ((((fillE (w6.setCell ⟨k, 0, none⟩ (.int .i64 z)) w.heap.size e.nx e.ak (.slice qa e.q.length qc) e.gt (.slice oa e.o.length oc)).setCell ⟨w.heap.size + 1, 0, none⟩ (.int .i64 z)).setCell ⟨w.heap.size + 1, 1, none⟩ (.int .i64 ack)).setCell ⟨w.heap.size + 1, 2, none⟩ (.string t)) w.heap.size (.agg #[.int .i64 e.nx, .int .i64 e.ak, .slice qa e.q.length qc, .int .i64 e.gt, .slice oa e.o.length oc]) e := by
        refine ⟨_, _, rfl, ?_, ?_, YF.out.q.2.2.2.1⟩
        · exact Sl.down (Sl.kept (Sl.kept YF.out.q.2.1 FF (fun i hi he => by have := (Sl.lt YF.out.q.2.1 i hi).1; simp at he; omega)) G3 (fun i hi he => by have := (Sl.lt YF.out.q.2.1 i hi).1; simp at he; omega)) (by omega)
        · exact Sl.down (Sl.kept (Sl.kept YF.out.q.2.2.1 FF (fun i hi he => by have := (Sl.lt YF.out.q.2.2.1 i hi).1; simp at he; omega)) G3 (fun i hi he => by have := (Sl.lt YF.out.q.2.2.1 i hi).1; simp at he; omega)) (by omega)
      have BW : Below w.heap.size w (w6.setCell ⟨k, 0, none⟩ (.int .i64 z)) := HB1.out.trans (YF.out.d.2.2.below (by omega) (by omega))
      have BG : Below w.heap.size w ((((fillE (w6.setCell ⟨k, 0, none⟩ (.int .i64 z)) w.heap.size e.nx e.ak (.slice qa e.q.length qc) e.gt (.slice oa e.o.length oc)).setCell ⟨w.heap.size + 1, 0, none⟩ (.int .i64 z)).setCell ⟨w.heap.size + 1, 1, none⟩ (.int .i64 ack)).setCell ⟨w.heap.size + 1, 2, none⟩ (.string t)) := (BW.trans (grown_to_below FF (Nat.le_refl _) BW.size)).trans (grown_to_below G3 (by omega) (by have := BW.size; have := FF.size; omega))
      have HR3 : Hid _ := R3
      have HK3 : Hid _ := K3
      have HM1 : Hid _ := M1
      have HBG : Hid _ := BG
      clear FF K1 R2 R3 G3 K3 M1 BG BW hz hs3 hlo
      unfold fillE at s0 s1 s2 m0 m1 m2
      unfold fillE at HR3 HK3 HM1 HBG
      go_wp2_with fail
      go_region
      all_goals
        go_wp2_with fail
        generalize (((((((((w6.setCell ⟨k, 0, none⟩ (.int .i64 z)).setCell ⟨w.heap.size, 0, none⟩ (.int .i64 e.nx)).setCell ⟨w.heap.size, 1, none⟩ (.int .i64 e.ak)).setCell ⟨w.heap.size, 2, none⟩ (.slice qa e.q.length qc)).setCell ⟨w.heap.size, 3, none⟩ (.int .i64 e.gt)).setCell ⟨w.heap.size, 4, none⟩ (.slice oa e.o.length oc)).setCell ⟨w.heap.size + 1, 0, none⟩ (.int .i64 z)).setCell ⟨w.heap.size + 1, 1, none⟩ (.int .i64 ack)).setCell ⟨w.heap.size + 1, 2, none⟩ (.string t)) = WF at *
        obtain ⟨z0, z1, z2, z3, z4⟩ := EndC.cells HK3.out
        obtain ⟨y0_, y1_, y2_⟩ := PcC.cells HR3.out
        refine bodyPost_ret (v := .tuple #[.agg #[.int .i64 e.nx, .int .i64 e.ak, .slice qa e.q.length qc, .int .i64 e.gt, .slice oa e.o.length oc], .agg #[.int .i64 z, .int .i64 ack, .string t]]) (by simp [results, Try.results22, go_sem, z0, z1, z2, z3, z4, y0_, y1_, y2_]) rfl ?_
        exact ⟨⟨_, e, z, ack, t, rfl, endM_drew HM1.out, HBN.out, HT.out⟩, below_drew' HBG.out⟩
    have i0 : ¬ (y : Int) = 0 := by omega
    have g0 : ((y : Int) == 0) = false := by simp; omega
    by_cases y1 : y = 1
    · subst y1
      have RW : Hid (RowIp (w4.alloc (.cells #[.int .i64 (-1), .int .i64 9223372036854775807, .int .i64 (-9223372036854775808)] 3)) w4.heap.size 3 (fun _ => True)) := rowIp_new w4 [-1, 9223372036854775807, -9223372036854775808] 3 _ rfl (fun _ _ => trivial)
      have Y5 : Hid (Ys w1 (w4.alloc (.cells #[.int .i64 (-1), .int .i64 9223372036854775807, .int .i64 (-9223372036854775808)] 3)) w.heap.size (w.heap.size + 2) n cap w.heap.size lo p ao e (.slice qa e.q.length qc) (.slice oa e.o.length oc)) := HY4.out.alloc _
      have P5 : Hid (PcC (w4.alloc (.cells #[.int .i64 (-1), .int .i64 9223372036854775807, .int .i64 (-9223372036854775808)] 3)) 41 k num ack t) := HP4.out.below ((Below.refl _ _).alloc (Nat.le_refl _) _)
      have hz5 : w4.heap.size < (w4.alloc (.cells #[.int .i64 (-1), .int .i64 9223372036854775807, .int .i64 (-9223372036854775808)] 3)).heap.size := by simp
      have hg5 : w4.heap.size ≠ w.heap.size + 2 := by have := HY4.out.d.lt; omega
      clear HY4 HP4
      go_wp2_with fail
      generalize w4.alloc (.cells #[.int .i64 (-1), .int .i64 9223372036854775807, .int .i64 (-9223372036854775808)] 3) = W5 at *
      refine (pickInt_p W5 w.heap.size (w.heap.size + 2) n cap w4.heap.size 3 ao _ hn (by omega) (by omega) (by omega) hz5 hg5 RW (Drw.start Y5.out.d.1 Y5.out.d.2.1)).mono ?_
      rintro r w6 ⟨⟨z, _, rfl⟩, hd6⟩
      have Y6 : Hid (Ys w1 (w6) w.heap.size (w.heap.size + 2) n cap w.heap.size lo p ao e (.slice qa e.q.length qc) (.slice oa e.o.length oc)) := Y5.out.keep hd6.out
      have P6 : Hid (PcC w6 41 k num ack t) := P5.out.but hd6.out.2.2 hkg
      have YF : Hid (Ys w1 (w6.setCell ⟨k, 1, none⟩ (.int .i64 z)) w.heap.size (w.heap.size + 2) n cap w.heap.size lo p ao e (.slice qa e.q.length qc) (.slice oa e.o.length oc)) := HH.out w6 1 _ Y6.out
      have PF : Hid (PcC (w6.setCell ⟨k, 1, none⟩ (.int .i64 z)) 41 k num z t) := P6.out.set1
      have HT := HT0
      obtain ⟨p0, p1, p2⟩ := P6.out.cells
      have l0 := P6.out.frozen 1
      clear hd6 RW Y5 P5 Y6 P6 HH HT0
      obtain ⟨c0, c1, c2, c3, c4⟩ := YF.out.q.1.cells
      obtain ⟨e0, e1, e2⟩ := PF.out.cells
      obtain ⟨r0, r1, r2, r3, r4⟩ := YF.out.r1.cells
      have k0 := YF.out.r1.frozen 0
      have k1 := YF.out.r1.frozen 1
      have k2 := YF.out.r1.frozen 2
      have k3 := YF.out.r1.frozen 3
      have k4 := YF.out.r1.frozen 4
      have FF := fill_grown (w6.setCell ⟨k, 1, none⟩ (.int .i64 z)) w.heap.size e.nx e.ak e.gt (.slice qa e.q.length qc) (.slice oa e.o.length oc)
      have K1 := fill_end YF.out.r1 e.nx e.ak e.gt (.slice qa e.q.length qc) (.slice oa e.o.length oc)
      have R2 := YF.out.r2.kept FF (by simp)
      obtain ⟨s0, s1, s2⟩ := R2.cells
      have m0 := R2.frozen 0
      have m1 := R2.frozen 1
      have m2 := R2.frozen 2
      have R3 : PcC ((((fillE (w6.setCell ⟨k, 1, none⟩ (.int .i64 z)) w.heap.size e.nx e.ak (.slice qa e.q.length qc) e.gt (.slice oa e.o.length oc)).setCell ⟨w.heap.size + 1, 0, none⟩ (.int .i64 num)).setCell ⟨w.heap.size + 1, 1, none⟩ (.int .i64 z)).setCell ⟨w.heap.size + 1, 2, none⟩ (.string t)) 41 (w.heap.size + 1) num z t := R2.set0.set1.set2
      have G3 : World.grownBy (fillE (w6.setCell ⟨k, 1, none⟩ (.int .i64 z)) w.heap.size e.nx e.ak (.slice qa e.q.length qc) e.gt (.slice oa e.o.length oc)) ((((fillE (w6.setCell ⟨k, 1, none⟩ (.int .i64 z)) w.heap.size e.nx e.ak (.slice qa e.q.length qc) e.gt (.slice oa e.o.length oc)).setCell ⟨w.heap.size + 1, 0, none⟩ (.int .i64 num)).setCell ⟨w.heap.size + 1, 1, none⟩ (.int .i64 z)).setCell ⟨w.heap.size + 1, 2, none⟩ (.string t)) (some (w.heap.size + 1)) := grown_trans (grown_trans (grown_cell _ _ 0 _) (grown_cell _ _ 1 _)) (grown_cell _ _ 2 _)
      have K3 : EndC ((((fillE (w6.setCell ⟨k, 1, none⟩ (.int .i64 z)) w.heap.size e.nx e.ak (.slice qa e.q.length qc) e.gt (.slice oa e.o.length oc)).setCell ⟨w.heap.size + 1, 0, none⟩ (.int .i64 num)).setCell ⟨w.heap.size + 1, 1, none⟩ (.int .i64 z)).setCell ⟨w.heap.size + 1, 2, none⟩ (.string t)) 32 w.heap.size e.nx e.ak (.slice qa e.q.length qc) e.gt (.slice oa e.o.length oc) := K1.kept G3 (by simp)
      have hz := YF.out.d.2.2.size
      have hs3 := HS3.out
      have hlo := YF.out.gl
      have M1 : EndM ((((fillE (w6.setCell ⟨k, 1, none⟩ (.int .i64 z)) w.heap.size e.nx e.ak (.slice qa e.q.length qc) e.gt (.slice oa e.o.length oc)).setCell ⟨w.heap.size + 1, 0, none⟩ (.int .i64 num)).setCell ⟨w.heap.size + 1, 1, none⟩ (.int .i64 z)).setCell ⟨w.heap.size + 1, 2, none⟩ (.string t)) w.heap.size (.agg #[.int .i64 e.nx, .int .i64 e.ak, .slice qa e.q.length qc, .int .i64 e.gt, .slice oa e.o.length oc]) e := by
        refine ⟨_, _, rfl, ?_, ?_, YF.out.q.2.2.2.1⟩
        · exact Sl.down (Sl.kept (Sl.kept YF.out.q.2.1 FF (fun i hi he => by have := (Sl.lt YF.out.q.2.1 i hi).1; simp at he; omega)) G3 (fun i hi he => by have := (Sl.lt YF.out.q.2.1 i hi).1; simp at he; omega)) (by omega)
        · exact Sl.down (Sl.kept (Sl.kept YF.out.q.2.2.1 FF (fun i hi he => by have := (Sl.lt YF.out.q.2.2.1 i hi).1; simp at he; omega)) G3 (fun i hi he => by have := (Sl.lt YF.out.q.2.2.1 i hi).1; simp at he; omega)) (by omega)
      have BW : Below w.heap.size w (w6.setCell ⟨k, 1, none⟩ (.int .i64 z)) := HB1.out.trans (YF.out.d.2.2.below (by omega) (by omega))
      have BG : Below w.heap.size w ((((fillE (w6.setCell ⟨k, 1, none⟩ (.int .i64 z)) w.heap.size e.nx e.ak (.slice qa e.q.length qc) e.gt (.slice oa e.o.length oc)).setCell ⟨w.heap.size + 1, 0, none⟩ (.int .i64 num)).setCell ⟨w.heap.size + 1, 1, none⟩ (.int .i64 z)).setCell ⟨w.heap.size + 1, 2, none⟩ (.string t)) := (BW.trans (grown_to_below FF (Nat.le_refl _) BW.size)).trans (grown_to_below G3 (by omega) (by have := BW.size; have := FF.size; omega))
      have HR3 : Hid _ := R3
      have HK3 : Hid _ := K3
      have HM1 : Hid _ := M1
      have HBG : Hid _ := BG
      clear FF K1 R2 R3 G3 K3 M1 BG BW hz hs3 hlo
      unfold fillE at s0 s1 s2 m0 m1 m2
      unfold fillE at HR3 HK3 HM1 HBG
      go_wp2_with fail
      go_region
      all_goals
        go_wp2_with fail
        generalize (((((((((w6.setCell ⟨k, 1, none⟩ (.int .i64 z)).setCell ⟨w.heap.size, 0, none⟩ (.int .i64 e.nx)).setCell ⟨w.heap.size, 1, none⟩ (.int .i64 e.ak)).setCell ⟨w.heap.size, 2, none⟩ (.slice qa e.q.length qc)).setCell ⟨w.heap.size, 3, none⟩ (.int .i64 e.gt)).setCell ⟨w.heap.size, 4, none⟩ (.slice oa e.o.length oc)).setCell ⟨w.heap.size + 1, 0, none⟩ (.int .i64 num)).setCell ⟨w.heap.size + 1, 1, none⟩ (.int .i64 z)).setCell ⟨w.heap.size + 1, 2, none⟩ (.string t)) = WF at *
        obtain ⟨z0, z1, z2, z3, z4⟩ := EndC.cells HK3.out
        obtain ⟨y0_, y1_, y2_⟩ := PcC.cells HR3.out
        refine bodyPost_ret (v := .tuple #[.agg #[.int .i64 e.nx, .int .i64 e.ak, .slice qa e.q.length qc, .int .i64 e.gt, .slice oa e.o.length oc], .agg #[.int .i64 num, .int .i64 z, .string t]]) (by simp [results, Try.results22, go_sem, z0, z1, z2, z3, z4, y0_, y1_, y2_]) rfl ?_
        exact ⟨⟨_, e, num, z, t, rfl, endM_drew HM1.out, HBN.out, HT.out⟩, below_drew' HBG.out⟩
    have i1 : ¬ (y : Int) = 1 := by omega
    have g1 : ((y : Int) == 1) = false := by simp; omega
    by_cases y2 : y = 2
    · subst y2
      go_wp2_with fail
      refine (belowY 2 hn (by omega) (by omega) HY4.out).mono ?_
      rintro r w5 ⟨⟨m, hm, rfl⟩, Y5, K5⟩
      have hwm : IntKind.i64.wrap (60 + (m : Int)) = ((60 + m : Nat) : Int) := by rw [IntKind.wrap_i64]; omega
      have HY5 : Hid (Ys w1 (w5) w.heap.size (w.heap.size + 2) n cap w.heap.size lo p ao e (.slice qa e.q.length qc) (.slice oa e.o.length oc)) := Y5
      have HP5 : Hid (PcC w5 41 k num ack t) := HP4.out.but K5 hkg
      clear Y5 K5 HY4 HP4
      go_wp2_with fail
      refine (long_any (60 + m) w5 (by omega)).mono ?_
      rintro r w6 ⟨⟨tx, htx, rfl⟩, b6⟩
      have Y6 : Hid (Ys w1 (w6) w.heap.size (w.heap.size + 2) n cap w.heap.size lo p ao e (.slice qa e.q.length qc) (.slice oa e.o.length oc)) := HY5.out.below b6
      have P6 : Hid (PcC w6 41 k num ack t) := HP5.out.below b6
      have YF : Hid (Ys w1 (w6.setCell ⟨k, 2, none⟩ (.string tx)) w.heap.size (w.heap.size + 2) n cap w.heap.size lo p ao e (.slice qa e.q.length qc) (.slice oa e.o.length oc)) := HH.out w6 2 _ Y6.out
      have PF : Hid (PcC (w6.setCell ⟨k, 2, none⟩ (.string tx)) 41 k num ack tx) := P6.out.set2
      have HT : Hid (tx.size ≤ 61) := by show tx.size ≤ 61; omega
      obtain ⟨p0, p1, p2⟩ := P6.out.cells
      have l0 := P6.out.frozen 2
      clear b6 htx HY5 HP5 Y6 P6 HH HT0
      obtain ⟨c0, c1, c2, c3, c4⟩ := YF.out.q.1.cells
      obtain ⟨e0, e1, e2⟩ := PF.out.cells
      obtain ⟨r0, r1, r2, r3, r4⟩ := YF.out.r1.cells
      have k0 := YF.out.r1.frozen 0
      have k1 := YF.out.r1.frozen 1
      have k2 := YF.out.r1.frozen 2
      have k3 := YF.out.r1.frozen 3
      have k4 := YF.out.r1.frozen 4
      have FF := fill_grown (w6.setCell ⟨k, 2, none⟩ (.string tx)) w.heap.size e.nx e.ak e.gt (.slice qa e.q.length qc) (.slice oa e.o.length oc)
      have K1 := fill_end YF.out.r1 e.nx e.ak e.gt (.slice qa e.q.length qc) (.slice oa e.o.length oc)
      have R2 := YF.out.r2.kept FF (by simp)
      obtain ⟨s0, s1, s2⟩ := R2.cells
      have m0 := R2.frozen 0
      have m1 := R2.frozen 1
      have m2 := R2.frozen 2
      have R3 : PcC ((((fillE (w6.setCell ⟨k, 2, none⟩ (.string tx)) w.heap.size e.nx e.ak (.slice qa e.q.length qc) e.gt (.slice oa e.o.length oc)).setCell ⟨w.heap.size + 1, 0, none⟩ (.int .i64 num)).setCell ⟨w.heap.size + 1, 1, none⟩ (.int .i64 ack)).setCell ⟨w.heap.size + 1, 2, none⟩ (.string tx)) 41 (w.heap.size + 1) num ack tx := R2.set0.set1.set2
      have G3 : World.grownBy (fillE (w6.setCell ⟨k, 2, none⟩ (.string tx)) w.heap.size e.nx e.ak (.slice qa e.q.length qc) e.gt (.slice oa e.o.length oc)) ((((fillE (w6.setCell ⟨k, 2, none⟩ (.string tx)) w.heap.size e.nx e.ak (.slice qa e.q.length qc) e.gt (.slice oa e.o.length oc)).setCell ⟨w.heap.size + 1, 0, none⟩ (.int .i64 num)).setCell ⟨w.heap.size + 1, 1, none⟩ (.int .i64 ack)).setCell ⟨w.heap.size + 1, 2, none⟩ (.string tx)) (some (w.heap.size + 1)) := grown_trans (grown_trans (grown_cell _ _ 0 _) (grown_cell _ _ 1 _)) (grown_cell _ _ 2 _)
      have K3 : EndC ((((fillE (w6.setCell ⟨k, 2, none⟩ (.string tx)) w.heap.size e.nx e.ak (.slice qa e.q.length qc) e.gt (.slice oa e.o.length oc)).setCell ⟨w.heap.size + 1, 0, none⟩ (.int .i64 num)).setCell ⟨w.heap.size + 1, 1, none⟩ (.int .i64 ack)).setCell ⟨w.heap.size + 1, 2, none⟩ (.string tx)) 32 w.heap.size e.nx e.ak (.slice qa e.q.length qc) e.gt (.slice oa e.o.length oc) := K1.kept G3 (by simp)
      have hz := YF.out.d.2.2.size
      have hs3 := HS3.out
      have hlo := YF.out.gl
      have M1 : EndM ((((fillE (w6.setCell ⟨k, 2, none⟩ (.string tx)) w.heap.size e.nx e.ak (.slice qa e.q.length qc) e.gt (.slice oa e.o.length oc)).setCell ⟨w.heap.size + 1, 0, none⟩ (.int .i64 num)).setCell ⟨w.heap.size + 1, 1, none⟩ (.int .i64 ack)).setCell ⟨w.heap.size + 1, 2, none⟩ (.string tx)) w.heap.size (.agg #[.int .i64 e.nx, .int .i64 e.ak, .slice qa e.q.length qc, .int .i64 e.gt, .slice oa e.o.length oc]) e := by
        refine ⟨_, _, rfl, ?_, ?_, YF.out.q.2.2.2.1⟩
        · exact Sl.down (Sl.kept (Sl.kept YF.out.q.2.1 FF (fun i hi he => by have := (Sl.lt YF.out.q.2.1 i hi).1; simp at he; omega)) G3 (fun i hi he => by have := (Sl.lt YF.out.q.2.1 i hi).1; simp at he; omega)) (by omega)
        · exact Sl.down (Sl.kept (Sl.kept YF.out.q.2.2.1 FF (fun i hi he => by have := (Sl.lt YF.out.q.2.2.1 i hi).1; simp at he; omega)) G3 (fun i hi he => by have := (Sl.lt YF.out.q.2.2.1 i hi).1; simp at he; omega)) (by omega)
      have BW : Below w.heap.size w (w6.setCell ⟨k, 2, none⟩ (.string tx)) := HB1.out.trans (YF.out.d.2.2.below (by omega) (by omega))
      have BG : Below w.heap.size w ((((fillE (w6.setCell ⟨k, 2, none⟩ (.string tx)) w.heap.size e.nx e.ak (.slice qa e.q.length qc) e.gt (.slice oa e.o.length oc)).setCell ⟨w.heap.size + 1, 0, none⟩ (.int .i64 num)).setCell ⟨w.heap.size + 1, 1, none⟩ (.int .i64 ack)).setCell ⟨w.heap.size + 1, 2, none⟩ (.string tx)) := (BW.trans (grown_to_below FF (Nat.le_refl _) BW.size)).trans (grown_to_below G3 (by omega) (by have := BW.size; have := FF.size; omega))
      have HR3 : Hid _ := R3
      have HK3 : Hid _ := K3
      have HM1 : Hid _ := M1
      have HBG : Hid _ := BG
      clear FF K1 R2 R3 G3 K3 M1 BG BW hz hs3 hlo
      unfold fillE at s0 s1 s2 m0 m1 m2
      unfold fillE at HR3 HK3 HM1 HBG
      go_wp2_with fail
      go_region
      all_goals
        go_wp2_with fail
        generalize (((((((((w6.setCell ⟨k, 2, none⟩ (.string tx)).setCell ⟨w.heap.size, 0, none⟩ (.int .i64 e.nx)).setCell ⟨w.heap.size, 1, none⟩ (.int .i64 e.ak)).setCell ⟨w.heap.size, 2, none⟩ (.slice qa e.q.length qc)).setCell ⟨w.heap.size, 3, none⟩ (.int .i64 e.gt)).setCell ⟨w.heap.size, 4, none⟩ (.slice oa e.o.length oc)).setCell ⟨w.heap.size + 1, 0, none⟩ (.int .i64 num)).setCell ⟨w.heap.size + 1, 1, none⟩ (.int .i64 ack)).setCell ⟨w.heap.size + 1, 2, none⟩ (.string tx)) = WF at *
        obtain ⟨z0, z1, z2, z3, z4⟩ := EndC.cells HK3.out
        obtain ⟨y0_, y1_, y2_⟩ := PcC.cells HR3.out
        refine bodyPost_ret (v := .tuple #[.agg #[.int .i64 e.nx, .int .i64 e.ak, .slice qa e.q.length qc, .int .i64 e.gt, .slice oa e.o.length oc], .agg #[.int .i64 num, .int .i64 ack, .string tx]]) (by simp [results, Try.results22, go_sem, z0, z1, z2, z3, z4, y0_, y1_, y2_]) rfl ?_
        exact ⟨⟨_, e, num, ack, tx, rfl, endM_drew HM1.out, HBN.out, HT.out⟩, below_drew' HBG.out⟩
    have i2 : ¬ (y : Int) = 2 := by omega
    have g2 : ((y : Int) == 2) = false := by simp; omega
    have YF := HY4
    have PF := HP4
    have HT := HT0
    clear HY4 HP4 HH HT0
    obtain ⟨c0, c1, c2, c3, c4⟩ := YF.out.q.1.cells
    obtain ⟨e0, e1, e2⟩ := PF.out.cells
    obtain ⟨r0, r1, r2, r3, r4⟩ := YF.out.r1.cells
    have k0 := YF.out.r1.frozen 0
    have k1 := YF.out.r1.frozen 1
    have k2 := YF.out.r1.frozen 2
    have k3 := YF.out.r1.frozen 3
    have k4 := YF.out.r1.frozen 4
    have FF := fill_grown w4 w.heap.size e.nx e.ak e.gt (.slice qa e.q.length qc) (.slice oa e.o.length oc)
    have K1 := fill_end YF.out.r1 e.nx e.ak e.gt (.slice qa e.q.length qc) (.slice oa e.o.length oc)
    have R2 := YF.out.r2.kept FF (by simp)
    obtain ⟨s0, s1, s2⟩ := R2.cells
    have m0 := R2.frozen 0
    have m1 := R2.frozen 1
    have m2 := R2.frozen 2
    have R3 : PcC ((((fillE w4 w.heap.size e.nx e.ak (.slice qa e.q.length qc) e.gt (.slice oa e.o.length oc)).setCell ⟨w.heap.size + 1, 0, none⟩ (.int .i64 num)).setCell ⟨w.heap.size + 1, 1, none⟩ (.int .i64 ack)).setCell ⟨w.heap.size + 1, 2, none⟩ (.string t)) 41 (w.heap.size + 1) num ack t := R2.set0.set1.set2
    have G3 : World.grownBy (fillE w4 w.heap.size e.nx e.ak (.slice qa e.q.length qc) e.gt (.slice oa e.o.length oc)) ((((fillE w4 w.heap.size e.nx e.ak (.slice qa e.q.length qc) e.gt (.slice oa e.o.length oc)).setCell ⟨w.heap.size + 1, 0, none⟩ (.int .i64 num)).setCell ⟨w.heap.size + 1, 1, none⟩ (.int .i64 ack)).setCell ⟨w.heap.size + 1, 2, none⟩ (.string t)) (some (w.heap.size + 1)) := grown_trans (grown_trans (grown_cell _ _ 0 _) (grown_cell _ _ 1 _)) (grown_cell _ _ 2 _)
    have K3 : EndC ((((fillE w4 w.heap.size e.nx e.ak (.slice qa e.q.length qc) e.gt (.slice oa e.o.length oc)).setCell ⟨w.heap.size + 1, 0, none⟩ (.int .i64 num)).setCell ⟨w.heap.size + 1, 1, none⟩ (.int .i64 ack)).setCell ⟨w.heap.size + 1, 2, none⟩ (.string t)) 32 w.heap.size e.nx e.ak (.slice qa e.q.length qc) e.gt (.slice oa e.o.length oc) := K1.kept G3 (by simp)
    have hz := YF.out.d.2.2.size
    have hs3 := HS3.out
    have hlo := YF.out.gl
    have M1 : EndM ((((fillE w4 w.heap.size e.nx e.ak (.slice qa e.q.length qc) e.gt (.slice oa e.o.length oc)).setCell ⟨w.heap.size + 1, 0, none⟩ (.int .i64 num)).setCell ⟨w.heap.size + 1, 1, none⟩ (.int .i64 ack)).setCell ⟨w.heap.size + 1, 2, none⟩ (.string t)) w.heap.size (.agg #[.int .i64 e.nx, .int .i64 e.ak, .slice qa e.q.length qc, .int .i64 e.gt, .slice oa e.o.length oc]) e := by
      refine ⟨_, _, rfl, ?_, ?_, YF.out.q.2.2.2.1⟩
      · exact Sl.down (Sl.kept (Sl.kept YF.out.q.2.1 FF (fun i hi he => by have := (Sl.lt YF.out.q.2.1 i hi).1; simp at he; omega)) G3 (fun i hi he => by have := (Sl.lt YF.out.q.2.1 i hi).1; simp at he; omega)) (by omega)
      · exact Sl.down (Sl.kept (Sl.kept YF.out.q.2.2.1 FF (fun i hi he => by have := (Sl.lt YF.out.q.2.2.1 i hi).1; simp at he; omega)) G3 (fun i hi he => by have := (Sl.lt YF.out.q.2.2.1 i hi).1; simp at he; omega)) (by omega)
    have BW : Below w.heap.size w w4 := HB1.out.trans (YF.out.d.2.2.below (by omega) (by omega))
    have BG : Below w.heap.size w ((((fillE w4 w.heap.size e.nx e.ak (.slice qa e.q.length qc) e.gt (.slice oa e.o.length oc)).setCell ⟨w.heap.size + 1, 0, none⟩ (.int .i64 num)).setCell ⟨w.heap.size + 1, 1, none⟩ (.int .i64 ack)).setCell ⟨w.heap.size + 1, 2, none⟩ (.string t)) := (BW.trans (grown_to_below FF (Nat.le_refl _) BW.size)).trans (grown_to_below G3 (by omega) (by have := BW.size; have := FF.size; omega))
    have HR3 : Hid _ := R3
    have HK3 : Hid _ := K3
    have HM1 : Hid _ := M1
    have HBG : Hid _ := BG
    clear FF K1 R2 R3 G3 K3 M1 BG BW hz hs3 hlo
    unfold fillE at s0 s1 s2 m0 m1 m2
    unfold fillE at HR3 HK3 HM1 HBG
    go_wp2_with fail
    go_region
    all_goals
      go_wp2_with fail
      generalize ((((((((w4.setCell ⟨w.heap.size, 0, none⟩ (.int .i64 e.nx)).setCell ⟨w.heap.size, 1, none⟩ (.int .i64 e.ak)).setCell ⟨w.heap.size, 2, none⟩ (.slice qa e.q.length qc)).setCell ⟨w.heap.size, 3, none⟩ (.int .i64 e.gt)).setCell ⟨w.heap.size, 4, none⟩ (.slice oa e.o.length oc)).setCell ⟨w.heap.size + 1, 0, none⟩ (.int .i64 num)).setCell ⟨w.heap.size + 1, 1, none⟩ (.int .i64 ack)).setCell ⟨w.heap.size + 1, 2, none⟩ (.string t)) = WF at *
      obtain ⟨z0, z1, z2, z3, z4⟩ := EndC.cells HK3.out
      obtain ⟨y0_, y1_, y2_⟩ := PcC.cells HR3.out
      refine bodyPost_ret (v := .tuple #[.agg #[.int .i64 e.nx, .int .i64 e.ak, .slice qa e.q.length qc, .int .i64 e.gt, .slice oa e.o.length oc], .agg #[.int .i64 num, .int .i64 ack, .string t]]) (by simp [results, Try.results22, go_sem, z0, z1, z2, z3, z4, y0_, y1_, y2_]) rfl ?_
      exact ⟨⟨_, e, num, ack, t, rfl, endM_drew HM1.out, HBN.out, HT.out⟩, below_drew' HBG.out⟩
end Go.Proofs.Ytohagaelenhebaa
