/- The walk over the law on ends. -/
import Derived.Test.YtohagaelenhebaaTe
import Derived.Test.YtohagaelenhebaaDT
import Derived.Test.YtohagaelenhebaaBg
import Derived.Test.YtohagaelenhebaaL5
import Derived.Test.YtohagaelenhebaaK8
import Derived.Test.YtohagaelenhebaaP3
import Derived.Deep.DeepCutAuto
namespace Go.Proofs.Ytohagaelenhebaa
open Go.RowKit Pl
set_option linter.unusedVariables false

theorem texts_take {w : World} {ao : Option Addr} {ts : List ByteArray} (h : TextsAt w ao ts) (n : Nat) : TextsAt w ao (ts.take n) := by
  intro i hi
  have hi' : i < ts.length := by rw [List.length_take] at hi; omega
  obtain ⟨b, off, h1, h2, h3⟩ := h i hi'
  exact ⟨b, off, h1, h2, by rw [List.getElem_take]; exact h3⟩
theorem endQ_fill {w w1 : World} {B p N : Nat} {e f : En} {qv ov : Value} {xa xb : Option Addr} {xc xd : Nat} (h : EndQ w B p e qv ov) (hN : w.heap.size ≤ N) (hb : Below w.heap.size w w1) (m : EndM w1 N (.agg #[.int .i64 f.nx, .int .i64 f.ak, .slice xa f.q.length xc, .int .i64 f.gt, .slice xb f.o.length xd]) f) :
    EndQ (fillE w1 p f.nx f.ak (.slice xa f.q.length xc) f.gt (.slice xb f.o.length xd)) B p f (.slice xa f.q.length xc) (.slice xb f.o.length xd) ∧ Below B w (fillE w1 p f.nx f.ak (.slice xa f.q.length xc) f.gt (.slice xb f.o.length xd)) := by
  have hpl := h.1.lt
  have hBp := h.2.2.2.2.1
  have K1 := fill_end (h.1.below hb) f.nx f.ak f.gt (.slice xa f.q.length xc) (.slice xb f.o.length xd)
  have K2 := fill_grown w1 p f.nx f.ak f.gt (.slice xa f.q.length xc) (.slice xb f.o.length xd)
  obtain ⟨q1, o1, hv, m1, m2, m3⟩ := m
  simp at hv
  obtain ⟨rfl, rfl⟩ := hv
  have n1 := ne_low m1 (show p < N by omega)
  have n2 := ne_low m2 (show p < N by omega)
  refine ⟨⟨K1, Sl.down (slt_grown m1 K2 n1) (by omega), Sl.down (slt_grown m2 K2 n2) (by omega), m3, hBp, n1, n2⟩, (hb.mono (by omega)).trans (grown_to_below K2 hBp (by have := hb.size; omega))⟩
theorem EndQ.m {w : World} {B p : Nat} {e : En} {qv ov : Value} (h : EndQ w B p e qv ov) : EndM w B (.agg #[.int .i64 e.nx, .int .i64 e.ak, qv, .int .i64 e.gt, ov]) e := ⟨qv, ov, rfl, h.2.1, h.2.2.1, h.2.2.2.1⟩
def fits (L : List ByteArray) : List ByteArray := L.filter fun t => decide (t.size ≤ 60)
theorem fits_snoc (L : List ByteArray) (x : ByteArray) : fits (L ++ [x]) = fits L ++ (if x.size ≤ 60 then [x] else []) := by
  unfold fits
  rw [List.filter_append]
  congr 1
  by_cases h : x.size ≤ 60 <;> simp [h]
theorem fits_len (L : List ByteArray) : (fits L).length ≤ L.length := List.length_filter_le _ _
theorem fits_ok (L : List ByteArray) : ∀ t ∈ fits L, t.size ≤ 60 := fun t ht => by unfold fits at ht; simpa using (List.mem_filter.1 ht).2
theorem off_tel {Q : List ByteArray} {x : ByteArray} (hQ : Q.length ≤ 8) (hs : ∀ t ∈ Q, t.size ≤ 60) : offB (tel Q 0) x = decide (x.size ≤ 60) ∧ offE (tel Q 0) x = tel (Q ++ [x]) 0 := by
  have hok := okB_true.2 (tel_ok hQ hs (Nat.zero_le _)).ok
  refine ⟨?_, by unfold offE tel; simp⟩
  unfold offB
  rw [hok, Bool.true_and]
  have h1 : (tel Q 0).q.length = Q.length := by unfold tel; simp
  have h2 : (tel Q 0).ak = 0 := by unfold tel; simp
  rw [h1, h2, show decide (Q.length < 30) = true by simp; omega, show decide ((0 : Int) + (Q.length : Int) < 1000) = true by simp; omega]
  simp
theorem offerB {y : Value} {e f : En} {b : Bool} (s : ByteArray) (lq : e.q.length ≤ 1048576) (lo : e.o.length ≤ 1048576) (hs : s.size ≤ 1048576) (w0 W : World) (hW : Below w0.heap.size w0 W) (hy : EndR W y e) (hf : Hid (f = if offB e s then offE e s else noE)) (hb : Hid (b = offB e s)) :
    Calls Try.prog 17 #[y, .string s] W fun r w' => ∃ v, r = .returned (.tuple #[v, .bool b]) ∧ EndM w' W.heap.size v f ∧ Below W.heap.size W w' ∧ Below w0.heap.size w0 w' := by
  rw [hf.out, hb.out]
  exact (offer_any (e := e) s W hy lq lo hs).mono fun r w' ⟨v, h1, h2, h3⟩ => ⟨v, h1, h2, h3, hW.trans (h3.mono hW.size)⟩
theorem flat6x {a b c d e f : Prop} (h1 : a ∧ b ∧ c ∧ d ∧ e) (h2 : f) : a ∧ b ∧ c ∧ d ∧ e ∧ f := ⟨h1.1, h1.2.1, h1.2.2.1, h1.2.2.2.1, h1.2.2.2.2, h2⟩

/-- a new end and a new list at once. -/
theorem SpS.set_at {w w1 : World} {B : Nat} {t : Tk} {z : Nat → Nat} {pa pb : Nat} {qa oa qb ob tv bv : Value} (h : SpS w B t z pa pb qa oa qb ob tv bv) {e : En} {xa xb : Option Addr} {xc xd mid : Nat} {ps : List Pc} {v : Value} (hmid : w.heap.size ≤ mid) (hb : Below w.heap.size w w1) (m : EndI w1 w.heap.size mid (.agg #[.int .i64 e.nx, .int .i64 e.ak, .slice xa e.q.length xc, .int .i64 e.gt, .slice xb e.o.length xd]) e) (s : SlP w1 mid v ps) :
    (∃ z', SpS (fillE w1 pa e.nx e.ak (.slice xa e.q.length xc) e.gt (.slice xb e.o.length xd)) B { t with a := e, th := ps } z' pa pb (.slice xa e.q.length xc) (.slice xb e.o.length xd) qb ob v bv) ∧ Below B w (fillE w1 pa e.nx e.ak (.slice xa e.q.length xc) e.gt (.slice xb e.o.length xd)) := by
  obtain ⟨h1, h2⟩ := h.set_a (Nat.le_refl _) hb m.own
  have K2 := fill_grown w1 pa e.nx e.ak e.gt (.slice xa e.q.length xc) (.slice xb e.o.length xd)
  have hpl := h.a.1.lt
  have s' : SlP (fillE w1 pa e.nx e.ak (.slice xa e.q.length xc) e.gt (.slice xb e.o.length xd)) mid v ps := Sl.kept s K2 (fun j hj he => by have := (Sl.lt s j hj).1; simp at he; omega)
  have hBw : B ≤ w.heap.size := by have := h.a.2.2.2.2.1; omega
  have mq : ∀ k, (Value.slice xa e.q.length xc).ownBlock = some k → w.heap.size ≤ k ∧ k < mid := fun k hk => m.at' k (endBlk_is.2 (.inl hk))
  have mo : ∀ k, (Value.slice xb e.o.length xd).ownBlock = some k → w.heap.size ≤ k ∧ k < mid := fun k hk => m.at' k (endBlk_is.2 (.inr hk))
  have zz : ∀ k, k < w.heap.size → (fun k => if k < mid then relab z w.heap.size 1 k else 3) k = z k := fun k hk => by show (if _ then _ else _) = _; rw [if_pos (by omega)]; exact relab_old hk
  refine ⟨⟨fun k => if k < mid then relab z w.heap.size 1 k else 3, h1.a, h1.b, Sl.down s' (by omega), h1.bk, ⟨(zz _ hpl).trans h.za.p, fun k hk => ?_, fun k hk => ?_⟩, ⟨(zz _ h.b.1.lt).trans h.zb.p, fun k hk => (zz _ (Sl.lt h.b.2.1 k hk).2).trans (h.zb.q k hk), fun k hk => (zz _ (Sl.lt h.b.2.2.1 k hk).2).trans (h.zb.o k hk)⟩, fun k hk => ?_, fun k hk => (zz _ (Sl.lt h.bk k hk).2).trans (h.zk k hk)⟩, h2⟩
  · have := mq k hk
    show (if _ then _ else _) = _
    rw [if_pos this.2]
    exact relab_new this.1
  · have := mo k hk
    show (if _ then _ else _) = _
    rw [if_pos this.2]
    exact relab_new this.1
  · have := (Sl.lt s k hk).1
    show (if _ then _ else _) = _
    rw [if_neg (by omega)]
theorem SpS.nil {w : World} {B : Nat} {t : Tk} {z : Nat → Nat} {pa pb : Nat} {qa oa qb ob tv bv : Value} (h : SpS w B t z pa pb qa oa qb ob tv bv) : SpQ w B pa pb ⟨t.a, t.b, [], []⟩ (.slice none 0 0) (.slice none 0 0) :=
  ⟨z, qa, oa, qb, ob, h.a, h.b, Sl.zero _ _ _ _, Sl.zero _ _ _ _, h.za, h.zb, fun k hk => by simp [Value.ownBlock] at hk, fun k hk => by simp [Value.ownBlock] at hk⟩
theorem okS_sz {e : En} (h : OkS e) : Hid (∀ t ∈ e.q, t.size ≤ 1048576) ∧ Hid (∀ t ∈ e.o, t.size ≤ 1048576) ∧ e.q.length ≤ 1048576 ∧ e.o.length ≤ 1048576 := by
  have h1 := h.ok.q1
  have h2 := h.ok.o0
  have h3 := h.ok.g1
  exact ⟨fun t ht => by have := h.ok.fq t ht; omega, fun t ht => by have := h.ok.fo t ht; omega, by omega, by omega⟩

set_option maxRecDepth 100000 in
set_option maxHeartbeats 8000000 in
theorem lawEnds (w : World) (n cap : Nat) (ao : Option Addr) (hk : Hid (CodeAt w w.heap.size ao n)) :
    Calls Try.prog 4 #[.slice ao n cap] w fun r w' => r = .returned (.bool true) ∧ Below w.heap.size w w' := by
  by_cases hbg : 1048576 < n
  · go_enter Try.func4, Try.ntmps4
    go_wp2_with fail
    refine (big_any w n cap ao true (by simp; omega)).mono ?_
    rintro e w1 ⟨rfl, rfl⟩
    go_wp2_with fail
    go_ret
    exact ⟨rfl, Below.refl _ _⟩
  have hn : n ≤ 1048576 := by omega
  go_enter Try.func4, Try.ntmps4
  go_wp2_with fail
  refine (big_any w n cap ao false (by simp; omega)).mono ?_
  rintro e w1 ⟨rfl, rfl⟩
  clear hbg
  go_wp2_with fail
  refine (drawTalk_any w1 n cap ao hn hk).mono ?_
  rintro e w2 ⟨v, u, L, zs, rfl, hDr⟩
  have B2 : Hid (Below w1.heap.size w1 w2) := hDr.b
  have hLl := hDr.sl
  have H61 : Hid (∀ t ∈ L, t.size ≤ 61) := hDr.sz
  obtain ⟨va, vc, rfl, vt⟩ := SlT.texts hDr.l
  have hvc : L.length ≤ vc := slice_cap hDr.l
  have VT : Hid (TextsAt w2 va L) := vt
  clear hDr hk vt
  go_upto_if 26 with fail
  go_cut [3] (fun u3_ wx => ∃ L8 : List ByteArray, u3_ = .slice va L8.length vc ∧ L8.length ≤ 8 ∧ Hid (∀ t ∈ L8, t.size ≤ 61) ∧ Hid (TextsAt wx va L8) ∧ Hid (Below w1.heap.size w1 wx))
  case first =>
    by_cases h8 : 8 < L.length
    · have hd : decide (8 < (L.length : Int)) = true := by simp; omega
      have q1 : (8 : Int) ≤ (vc : Int) := by omega
      have q2 : 8 ≤ vc := by omega
      go_wp2_with fail
      go_meet
      refine ⟨L.take 8, ?_, by rw [List.length_take]; omega, (fun t ht => H61.out t (List.mem_of_mem_take ht)), texts_take VT.out 8, B2.out⟩
      rw [List.length_take, Nat.min_eq_left (by omega)]
    · have hd : decide (8 < (L.length : Int)) = false := by simp; omega
      go_wp2_with fail
      go_meet
      exact ⟨L, rfl, by omega, H61.out, VT.out, B2.out⟩
  case rest =>
    obtain ⟨L8, rfl, hl8, h61, VT3, B3⟩ := hcut
    clear B2 H61 VT hvc hLl
    generalize wc = w3 at *
    have A0 : Hid (EndQ (w3.alloc (Obj.cells #[Value.int IntKind.i64 0, Value.int IntKind.i64 0, Value.slice none 0 0, Value.int IntKind.i64 0, Value.slice none 0 0] 32)) w3.heap.size w3.heap.size (tel (fits (L8.take 0)) 0) (.slice none 0 0) (.slice none 0 0)) := endQ_new (e := tel [] 0) (Sl.zero _ _ _ _) (Sl.zero _ _ _ _) (fun k hk => by simp [Value.ownBlock] at hk) (Nat.le_refl _)
    have B4 : Hid (Below w3.heap.size w3 (w3.alloc (Obj.cells #[Value.int IntKind.i64 0, Value.int IntKind.i64 0, Value.slice none 0 0, Value.int IntKind.i64 0, Value.slice none 0 0] 32))) := (Below.refl _ _).alloc (Nat.le_refl _) _
    go_wp2_with fail
    generalize (w3.alloc (Obj.cells #[Value.int IntKind.i64 0, Value.int IntKind.i64 0, Value.slice none 0 0, Value.int IntKind.i64 0, Value.slice none 0 0] 32)) = W4 at *
    go_loopw [6, 7] (fun nn i wr => ∃ k : Nat, k ≤ L8.length ∧ i = .int .i64 k ∧ nn = .int .i64 (((fits (L8.take k)).length : Nat) : Int) ∧ Hid (∃ qv ov, EndQ wr w3.heap.size w3.heap.size (tel (fits (L8.take k)) 0) qv ov) ∧ Hid (Below w3.heap.size w3 wr)) (fun _ i _ => L8.length - (intOf i).toNat)
    case atStart => exact ⟨0, Nat.zero_le _, rfl, rfl, ⟨_, _, A0.out⟩, B4.out⟩
    case round =>
      obtain ⟨k, hk8, rfl, rfl, hA, hB⟩ := hrel
      clear A0 B4
      by_cases hlt : k < L8.length
      · obtain ⟨g1, o1, rfl, hg1, hc1⟩ := VT3.out k hlt
        obtain ⟨x, hxe⟩ : ∃ x, x = L8[k] := ⟨_, rfl⟩
        rw [← hxe] at hc1
        have d1 : wr.cell? ⟨g1, o1 + k, none⟩ = some (.string x) := (hB.out.cell (p := ⟨g1, o1 + k, none⟩) hg1).trans hc1
        have hxs : x.size ≤ 61 := by rw [hxe]; exact h61.out _ (List.getElem_mem hlt)
        have HX : Hid (L8.take (k + 1) = L8.take k ++ [x]) := by show L8.take (k + 1) = _; rw [List.take_succ_eq_append_getElem hlt, hxe]
        clear hxe hc1
        obtain ⟨Q, hQe⟩ : ∃ Q, Q = fits (L8.take k) := ⟨_, rfl⟩
        have HQE : Hid (fits (L8.take (k + 1)) = Q ++ (if x.size ≤ 60 then [x] else [])) := by show fits (L8.take (k + 1)) = _; rw [HX.out, fits_snoc, hQe]
        have hQl : Q.length ≤ 8 := by rw [hQe]; have := fits_len (L8.take k); rw [List.length_take] at this; omega
        have HQs : Hid (∀ t ∈ Q, t.size ≤ 60) := by rw [hQe]; exact fits_ok _
        rw [← hQe] at hA ⊢
        clear hQe
        obtain ⟨e, hee⟩ : ∃ e, e = tel Q 0 := ⟨_, rfl⟩
        rw [← hee] at hA
        have heq : e.q.length ≤ 8 := by rw [hee]; unfold tel; simpa using hQl
        have heo : e.o.length ≤ 0 := by rw [hee]; unfold tel; simp
        obtain ⟨b, hbe⟩ : ∃ b, b = decide (x.size ≤ 60) := ⟨_, rfl⟩
        obtain ⟨f, hfe⟩ : ∃ f, f = if offB e x then offE e x else noE := ⟨_, rfl⟩
        have HBE : Hid (b = offB e x) := by rw [hee, hbe]; exact (off_tel hQl HQs.out).1.symm
        have HFE : Hid (f = if offB e x then offE e x else noE) := hfe
        have HFT : Hid (x.size ≤ 60 → f = tel (Q ++ [x]) 0) := fun hx6 => by
          rw [hfe, hee, (off_tel hQl HQs.out).1, if_pos (by simpa using hx6)]
          exact (off_tel hQl HQs.out).2
        have HEE : Hid (e = tel Q 0) := hee
        have HBX : Hid (b = decide (x.size ≤ 60)) := hbe
        clear hee hbe hfe
        obtain ⟨qv, ov, hQ⟩ := hA.out
        obtain ⟨qa, qc, rfl⟩ := Sl.form hQ.2.1
        obtain ⟨oa, oc, rfl⟩ := Sl.form hQ.2.2.1
        have HQ : Hid (EndQ wr w3.heap.size w3.heap.size e (.slice qa e.q.length qc) (.slice oa e.o.length oc)) := hQ
        clear hQ hA
        have hd : decide ((k : Int) < (L8.length : Int)) = true := by simp; omega
        have hq1 : (0 : Int) ≤ (k : Int) := by omega
        have hq2 : (k : Int) < (L8.length : Int) := by omega
        go_wp2_with fail
        go_cut [8, 9] (fun u8_ u9_ wx => BoxR wr wx u8_ u9_ f b)
        case first =>
          have hFc := HQ.out.1
          have hgl : g1 < wr.heap.size := by have := hB.out.size; omega
          have keepS : ∀ w', Below wr.heap.size wr w' → (w'.cell? ⟨w3.heap.size, 0, none⟩ = some (.int .i64 e.nx) ∧ w'.cell? ⟨w3.heap.size, 1, none⟩ = some (.int .i64 e.ak) ∧ w'.cell? ⟨w3.heap.size, 2, none⟩ = some (.slice qa e.q.length qc) ∧ w'.cell? ⟨w3.heap.size, 3, none⟩ = some (.int .i64 e.gt) ∧ w'.cell? ⟨w3.heap.size, 4, none⟩ = some (.slice oa e.o.length oc) ∧ w'.cell? ⟨g1, o1 + k, none⟩ = some (.string x)) := fun w' hb => flat6x (hFc.below hb).cells ((hb.cell (p := ⟨g1, o1 + k, none⟩) hgl).trans d1)
          have B0d : Below wr.heap.size wr wr.drew := (Below.refl _ _).drew
          have B0a : ∀ o : Obj, Below wr.heap.size wr (wr.alloc o).drew := fun o => ((Below.refl _ _).alloc (Nat.le_refl _) o).drew
          have hXr : EndR wr _ e := EndQ.r HQ.out
          go_region_held3 (fun w' => (w'.cell? ⟨w3.heap.size, 0, none⟩ = some (.int .i64 e.nx) ∧ w'.cell? ⟨w3.heap.size, 1, none⟩ = some (.int .i64 e.ak) ∧ w'.cell? ⟨w3.heap.size, 2, none⟩ = some (.slice qa e.q.length qc) ∧ w'.cell? ⟨w3.heap.size, 3, none⟩ = some (.int .i64 e.gt) ∧ w'.cell? ⟨w3.heap.size, 4, none⟩ = some (.slice oa e.o.length oc) ∧ w'.cell? ⟨g1, o1 + k, none⟩ = some (.string x)))
            (first | with_reducible exact keepS _ (fill5 B9 (by omega) _ _ _ _ _) | with_reducible exact keepS _ (B9.alloc B9.size _) | with_reducible exact keepS _ B9 | with_reducible exact keepS _ (B0a _) | with_reducible exact keepS _ B0d)
            (first
              | (go_at_call 17; refine (offerB (e := e) x (by omega) (by omega) (by omega) wr _ (by first | with_reducible exact B0d | with_reducible exact B0a _) (by first | exact hXr.stays B0d | exact hXr.stays (B0a _)) HFE HBE).mono ?_; rintro r_ w9 ⟨v9, rfl, m9, hb9, B9⟩; (first | (with_reducible have X9 : EndC w9 32 wr.heap.size 0 0 (.slice none 0 0) 0 (.slice none 0 0) := (EndC.drew (EndC.new wr 32 0 0 0 (.slice none 0 0) (.slice none 0 0))).below hb9) | skip); obtain ⟨ea, ec, eb, ed, rfl⟩ := endM_form m9; (try (obtain ⟨x0, x1, x2, x3, x4⟩ := X9.cells; have k0 := X9.frozen 0; have k1 := X9.frozen 1; have k2 := X9.frozen 2; have k3 := X9.frozen 3; have k4 := X9.frozen 4))))
          all_goals clear keepS
          all_goals (try go_wp2_with fail)
          all_goals go_meet
          all_goals first | with_reducible exact boxLate B9 m9 (Nat.le_refl _) | with_reducible exact boxEarly B9 X9 m9 (by simp) (Nat.le_refl _)
        case rest =>
          obtain ⟨rfl, hbx, pN, lo, hi, na, nc, nb, nd, rfl, cx, ix, hp1, hp2, hp3, hp4⟩ := hcut
          generalize wc = w5 at *
          have hz5 : wr.heap.size ≤ w5.heap.size := hbx.size
          have hpa : w3.heap.size < wr.heap.size := HQ.out.1.lt
          clear d1
          cases b with
          | true =>
            have hx6 : x.size ≤ 60 := by have := HBX.out; simpa using this.symm
            have FT := HFT.out hx6
            have AA := endQ_fill HQ.out hp2 hbx ix.own
            have X5 := HQ.out.1.below hbx
            obtain ⟨c0, c1, c2, c3, c4⟩ := cx.cells
            obtain ⟨j0, j1, j2, j3, j4⟩ := X5.cells
            have f0 := X5.frozen 0
            have f1 := X5.frozen 1
            have f2 := X5.frozen 2
            have f3 := X5.frozen 3
            have f4 := X5.frozen 4
            have A9 : Hid (∃ qv ov, EndQ (fillE w5 w3.heap.size f.nx f.ak (.slice na f.q.length nc) f.gt (.slice nb f.o.length nd)) w3.heap.size w3.heap.size (tel (fits (L8.take (k + 1))) 0) qv ov) := by
              show ∃ qv ov, EndQ _ _ _ _ qv ov
              rw [HQE.out, if_pos hx6, ← FT]
              exact ⟨_, _, AA.1⟩
            have B9 : Hid (Below w3.heap.size w3 (fillE w5 w3.heap.size f.nx f.ak (.slice na f.q.length nc) f.gt (.slice nb f.o.length nd))) := hB.out.trans AA.2
            have HLQ : Hid ((fits (L8.take (k + 1))).length = Q.length + 1) := by show (fits (L8.take (k + 1))).length = Q.length + 1; rw [HQE.out, if_pos hx6, List.length_append]; rfl
            have wQ : IntKind.i64.wrap ((Q.length : Int) + 1) = (Q.length : Int) + 1 := by rw [IntKind.wrap_i64]; omega
            clear AA X5 cx ix hbx FT hB HQ
            go_wp2_with fail
            go_roundw
            case rel => exact ⟨k + 1, by omega, by go_num, (by rw [HLQ.out]; go_num), A9.out, B9.out⟩
            case measure => simp [intOf]; omega
          | false =>
            have hx6 : ¬ x.size ≤ 60 := by have := HBX.out; simpa using this.symm
            have A9 : Hid (∃ qv ov, EndQ w5 w3.heap.size w3.heap.size (tel (fits (L8.take (k + 1))) 0) qv ov) := by
              show ∃ qv ov, EndQ _ _ _ _ qv ov
              rw [HQE.out, if_neg hx6, List.append_nil, ← HEE.out]
              exact ⟨_, _, HQ.out.below hbx⟩
            have B9 : Hid (Below w3.heap.size w3 w5) := hB.out.trans (hbx.mono (by omega))
            have HLQ : Hid ((fits (L8.take (k + 1))).length = Q.length) := by show (fits (L8.take (k + 1))).length = Q.length; rw [HQE.out, if_neg hx6, List.append_nil]
            clear cx ix hbx hB HQ
            go_wp2_with fail
            go_roundw
            case rel => exact ⟨k + 1, by omega, by go_num, (by rw [HLQ.out]), A9.out, B9.out⟩
            case measure => simp [intOf]; omega
      · have hke : k = L8.length := by omega
        subst hke
        clear hlt hk8
        have hd : decide ((L8.length : Int) < (L8.length : Int)) = false := by simp
        rw [List.take_length] at hA ⊢
        obtain ⟨Q, hQe⟩ : ∃ Q, Q = fits L8 := ⟨_, rfl⟩
        have hQl : Q.length ≤ 8 := by rw [hQe]; have := fits_len L8; omega
        have HQs : Hid (∀ t ∈ Q, t.size ≤ 60) := by rw [hQe]; exact fits_ok _
        rw [← hQe] at hA ⊢
        clear hQe
        obtain ⟨qv, ov, hQ⟩ := hA.out
        have hpa : w3.heap.size < wr.heap.size := hQ.1.lt
        have bZ : Below wr.heap.size wr (wr.alloc (Obj.cells #[Value.int IntKind.i64 0, Value.int IntKind.i64 0, Value.slice none 0 0, Value.int IntKind.i64 0, Value.slice none 0 0] 32)) := (Below.refl _ _).alloc (Nat.le_refl _) _
        have Q0 : Hid (SpQ (wr.alloc (Obj.cells #[Value.int IntKind.i64 0, Value.int IntKind.i64 0, Value.slice none 0 0, Value.int IntKind.i64 0, Value.slice none 0 0] 32)) w3.heap.size w3.heap.size wr.heap.size ⟨tel Q 0, hea Q 0, [], []⟩ (.slice none 0 0) (.slice none 0 0)) := by
          have n1 : ∀ k, (Value.slice none 0 0).ownBlock ≠ some k := fun k => by simp [Value.ownBlock]
          have hb := endQ_new (w := wr) (B := w3.heap.size) (e := hea Q 0) (qv := .slice none 0 0) (ov := .slice none 0 0) (Sl.zero _ _ _ _) (Sl.zero _ _ _ _) (fun k hk => absurd hk (n1 k)) (by omega)
          refine ⟨fun k => if k = wr.heap.size then 2 else 1, qv, ov, .slice none 0 0, .slice none 0 0, hQ.below bZ, hb, Sl.zero _ _ _ _, Sl.zero _ _ _ _, ⟨by show (if _ then _ else _) = _; rw [if_neg (by omega)], fun k hk => ?_, fun k hk => ?_⟩, ⟨by simp, fun k hk => absurd hk (n1 k), fun k hk => absurd hk (n1 k)⟩, fun k hk => absurd hk (n1 k), fun k hk => absurd hk (n1 k)⟩
          · have := (Sl.lt hQ.2.1 k hk).2; show (if _ then _ else _) = _; rw [if_neg (by omega)]
          · have := (Sl.lt hQ.2.2.1 k hk).2; show (if _ then _ else _) = _; rw [if_neg (by omega)]
        have B5 : Hid (Below w3.heap.size w3 (wr.alloc (Obj.cells #[Value.int IntKind.i64 0, Value.int IntKind.i64 0, Value.slice none 0 0, Value.int IntKind.i64 0, Value.slice none 0 0] 32))) := hB.out.trans (bZ.mono (by omega))
        clear hQ hA hB bZ
        go_wp2_with fail
        generalize (wr.alloc (Obj.cells #[Value.int IntKind.i64 0, Value.int IntKind.i64 0, Value.slice none 0 0, Value.int IntKind.i64 0, Value.slice none 0 0] 32)) = W5 at *
        obtain ⟨pb, hpb⟩ : ∃ pb, pb = wr.heap.size := ⟨_, rfl⟩
        rw [← hpb] at Q0 ⊢
        clear hpb
        go_loopw [11] (fun i wr => ∃ k m : Nat, k ≤ 12 ∧ i = .int .i64 k ∧ m ≤ Q.length ∧ Hid (min (4 * k) Q.length ≤ m) ∧ Hid (SpQ wr w3.heap.size w3.heap.size pb ⟨tel Q m, hea Q m, [], []⟩ (.slice none 0 0) (.slice none 0 0)) ∧ Hid (Below w3.heap.size w3 wr)) (fun i _ => 12 - (intOf i).toNat)
        case atStart => exact ⟨0, 0, by omega, rfl, Nat.zero_le _, (by show min (4 * 0) Q.length ≤ 0; omega), Q0.out, B5.out⟩
        case round =>
          obtain ⟨k, m, hk12, rfl, hmQ, hmk, hS, hB⟩ := hrel
          clear Q0 B5
          by_cases hlt : k < 12
          · have hd12 : decide ((k : Int) < 12) = true := by simp; omega
            obtain ⟨e, hee⟩ : ∃ e, e = tel Q m := ⟨_, rfl⟩
            obtain ⟨h0, hhe⟩ : ∃ h0, h0 = hea Q m := ⟨_, rfl⟩
            have hoe : OkS e := by rw [hee]; exact tel_ok hQl HQs.out hmQ
            have hoh : OkS h0 := by rw [hhe]; exact hea_ok hQl HQs.out hmQ
            obtain ⟨a1, ha1⟩ : ∃ a1, a1 = newE e := ⟨_, rfl⟩
            have hoa : OkS a1 := by rw [ha1]; exact newE_ok hoe
            obtain ⟨ps, hps⟩ : ∃ ps, ps = newP e ++ againP a1 := ⟨_, rfl⟩
            have hpo : ∀ p ∈ ps, PcOk p := by
              rw [hps]
              intro p hp
              rcases List.mem_append.1 hp with hp | hp
              · exact newP_ok hoe.ok p hp
              · exact againP_ok hoa.ok p hp
            have hpl8 : ps.length ≤ 8 := by rw [hps, List.length_append]; have := newP_len4 e; have := againP_len4 hoa.ok; omega
            have HFB : Hid (foldR h0 ps = hea Q (m + stepN Q m)) := by show foldR h0 ps = _; rw [hps, ha1, hee, hhe]; exact round_b hQl hmQ
            have HFA : Hid (foldR a1 (againP (hea Q (m + stepN Q m))) = tel Q (m + stepN Q m)) := by show foldR a1 _ = _; rw [ha1, hee]; exact round_a hmQ
            have HPO : Hid (∀ p ∈ ps, PcOk p) := hpo
            have HPS : Hid (ps = newP e ++ againP a1) := hps
            have HA1 : Hid (a1 = newE e) := ha1
            rw [← hee, ← hhe] at hS
            clear hee hhe ha1 hps hpo
            obtain ⟨se1, se2, se3, se4⟩ := okS_sz hoe
            obtain ⟨sa1, sa2, sa3, sa4⟩ := okS_sz hoa
            obtain ⟨z, qa, qc, oa, oc, xa, xc, ya, yc, ta, tc, ka, kc, et, eb', h⟩ := SpQ.form hS.out
            rw [← et, ← eb'] at h
            clear et eb'
            have HS : Hid (SpS wr w3.heap.size ⟨e, h0, [], []⟩ z w3.heap.size pb (.slice qa e.q.length qc) (.slice oa e.o.length oc) (.slice xa h0.q.length xc) (.slice ya h0.o.length yc) (.slice none 0 0) (.slice none 0 0)) := h
            clear h hS
            have hws : w3.heap.size ≤ wr.heap.size := hB.out.size
            obtain ⟨c0, c1, c2, c3, c4⟩ := HS.out.a.1.cells
            go_wp2_with fail
            refine (sendNew_any (e := e) wr (show EndR wr _ e from EndQ.r HS.out.a) se3 se4 se1 se2).mono ?_
            rintro r w4 ⟨⟨v, u, mid, rfl, hmid, ix, iy⟩, hb4⟩
            rw [(newF_ok hoe.ok).1, ← HA1.out] at ix
            rw [(newF_ok hoe.ok).2] at iy
            obtain ⟨ea, ec, eb, ed, rfl⟩ := endM_form ix.own
            obtain ⟨ua, uc, rfl⟩ := Sl.form iy.own
            have bO : Below w4.heap.size w4 (w4.alloc (Obj.cells #[Value.int IntKind.i64 a1.nx, Value.int IntKind.i64 a1.ak, Value.slice ea a1.q.length ec, Value.int IntKind.i64 a1.gt, Value.slice eb a1.o.length ed] 32)) := (Below.refl _ _).alloc (Nat.le_refl _) _
            have hz4 : wr.heap.size ≤ w4.heap.size := hb4.size
            have bw : Below wr.heap.size wr (w4.alloc (Obj.cells #[Value.int IntKind.i64 a1.nx, Value.int IntKind.i64 a1.ak, Value.slice ea a1.q.length ec, Value.int IntKind.i64 a1.gt, Value.slice eb a1.o.length ed] 32)) := hb4.trans (bO.mono hz4)
            have X2 := EndC.below HS.out.a.1 bw
            obtain ⟨j0, j1, j2, j3, j4⟩ := X2.cells
            have f0 := X2.frozen 0
            have f1 := X2.frozen 1
            have f2 := X2.frozen 2
            have f3 := X2.frozen 3
            have f4 := X2.frozen 4
            have SA := HS.out.set_at hmid bw (ix.below bO) (Sl.below iy.own bO)
            obtain ⟨z2, SA1⟩ := SA.1
            have HSA : Hid (SpS (fillE (w4.alloc (Obj.cells #[Value.int IntKind.i64 a1.nx, Value.int IntKind.i64 a1.ak, Value.slice ea a1.q.length ec, Value.int IntKind.i64 a1.gt, Value.slice eb a1.o.length ed] 32)) w3.heap.size a1.nx a1.ak (.slice ea a1.q.length ec) a1.gt (.slice eb a1.o.length ed)) w3.heap.size ⟨a1, h0, newP e, []⟩ z2 w3.heap.size pb (.slice ea a1.q.length ec) (.slice eb a1.o.length ed) (.slice xa h0.q.length xc) (.slice ya h0.o.length yc) (.slice ua (newP e).length uc) (.slice none 0 0)) := SA1
            have HSB : Hid (Below w3.heap.size w3 (fillE (w4.alloc (Obj.cells #[Value.int IntKind.i64 a1.nx, Value.int IntKind.i64 a1.ak, Value.slice ea a1.q.length ec, Value.int IntKind.i64 a1.gt, Value.slice eb a1.o.length ed] 32)) w3.heap.size a1.nx a1.ak (.slice ea a1.q.length ec) a1.gt (.slice eb a1.o.length ed))) := hB.out.trans SA.2
            have hsz : w4.heap.size + 1 ≤ (fillE (w4.alloc (Obj.cells #[Value.int IntKind.i64 a1.nx, Value.int IntKind.i64 a1.ak, Value.slice ea a1.q.length ec, Value.int IntKind.i64 a1.gt, Value.slice eb a1.o.length ed] 32)) w3.heap.size a1.nx a1.ak (.slice ea a1.q.length ec) a1.gt (.slice eb a1.o.length ed)).heap.size := by have := (fill_grown (w4.alloc (Obj.cells #[Value.int IntKind.i64 a1.nx, Value.int IntKind.i64 a1.ak, Value.slice ea a1.q.length ec, Value.int IntKind.i64 a1.gt, Value.slice eb a1.o.length ed] 32)) w3.heap.size a1.nx a1.ak a1.gt (.slice ea a1.q.length ec) (.slice eb a1.o.length ed)).size; simpa using this
            obtain ⟨n0, n1, n2, n3, n4⟩ := SA1.a.1.cells
            clear SA SA1 X2 bw bO ix iy hb4 hB HS
            go_wp2_with fail
            change Calls _ _ _ (fillE (w4.alloc (Obj.cells #[Value.int IntKind.i64 a1.nx, Value.int IntKind.i64 a1.ak, Value.slice ea a1.q.length ec, Value.int IntKind.i64 a1.gt, Value.slice eb a1.o.length ed] 32)) w3.heap.size a1.nx a1.ak (.slice ea a1.q.length ec) a1.gt (.slice eb a1.o.length ed)) _
            generalize (fillE (w4.alloc (Obj.cells #[Value.int IntKind.i64 a1.nx, Value.int IntKind.i64 a1.ak, Value.slice ea a1.q.length ec, Value.int IntKind.i64 a1.gt, Value.slice eb a1.o.length ed] 32)) w3.heap.size a1.nx a1.ak (.slice ea a1.q.length ec) a1.gt (.slice eb a1.o.length ed)) = W9 at *
            refine (sendAgain_any (e := a1) W9 (show EndM W9 w3.heap.size _ a1 from EndQ.m HSA.out.a) (by omega) (by omega) (by omega)).mono ?_
            rintro r w6 ⟨u2, rfl, iy2, hb6⟩
            rw [againL_ok hoa.ok] at iy2
            have S6 := HSA.out.below hb6
            have hz6 : W9.heap.size ≤ w6.heap.size := hb6.size
            go_wp2_with (at_builtin; refine Stop.mk ?_)
            refine Stop.go ?_
            refine wpList_appP rfl _ _ rfl (by rfl) S6.th (by rfl) iy2 (by have := newP_len4 e; have := againP_len4 hoa.ok; show (newP e).length + _ ≤ _; omega) (by omega) ?_
            intro v7 w7 s7 g7 l7
            have A7 := S6.app_t s7 g7 l7
            have P7 : SlP w7 w3.heap.size v7 ps := by rw [HPS.out]; exact s7
            obtain ⟨sa, sc, rfl⟩ := Sl.form P7
            have HS7 : Hid (SpQ w7 w3.heap.size w3.heap.size pb ⟨a1, foldR h0 (ps.take 0), ps, []⟩ (.slice sa ps.length sc) (.slice none 0 0)) := by
              have h := A7.1
              show SpQ _ _ _ _ _ _ _
              rw [← HPS.out] at h
              exact ⟨_, _, _, _, _, h⟩
            have HB7 : Hid (Below w3.heap.size w3 w7) := (HSB.out.trans (hb6.mono (by omega))).trans A7.2
            clear A7 P7 s7 g7 l7 S6 iy2 hb6 HSA HSB c0 c1 c2 c3 c4 j0 j1 j2 j3 j4 f0 f1 f2 f3 f4 n0 n1 n2 n3 n4
            go_wp2_with fail
            go_loopw [14] (fun i wr => ∃ j : Nat, j ≤ ps.length ∧ i = .int .i64 j ∧ Hid (SpQ wr w3.heap.size w3.heap.size pb ⟨a1, foldR h0 (ps.take j), ps, []⟩ (.slice sa ps.length sc) (.slice none 0 0)) ∧ Hid (Below w3.heap.size w3 wr)) (fun i _ => ps.length - (intOf i).toNat)
            case atStart => exact ⟨0, Nat.zero_le _, rfl, HS7.out, HB7.out⟩
            case round =>
              obtain ⟨j, hj, rfl, hS3, hB3⟩ := hrel
              clear HS7 HB7
              by_cases hjl : j < ps.length
              · have hdj : decide ((j : Int) < (ps.length : Int)) = true := by simp; omega
                have jq1 : (0 : Int) ≤ (j : Int) := by omega
                have jq2 : (j : Int) < (ps.length : Int) := by omega
                obtain ⟨hb, hhb⟩ : ∃ hb, hb = foldR h0 (ps.take j) := ⟨_, rfl⟩
                have hohb : OkS hb := by rw [hhb]; exact foldR_ok hoh (fun p hp => HPO.out p (List.mem_of_mem_take hp))
                obtain ⟨x, hx⟩ : ∃ x, x = ps[j] := ⟨_, rfl⟩
                have HNX : Hid (foldR h0 (ps.take (j + 1)) = recvE hb x) := by show foldR h0 (ps.take (j + 1)) = _; rw [List.take_succ_eq_append_getElem hjl, foldR_snoc, hhb, hx]
                have hxo : PcOk x := by rw [hx]; exact HPO.out _ (List.getElem_mem hjl)
                rw [← hhb] at hS3
                obtain ⟨sb1, sb2, sb3, sb4⟩ := okS_sz hohb
                obtain ⟨z, qa, qc, oa, oc, xa, xc, ya, yc, ta, tc, ka, kc, et, eb', h⟩ := SpQ.form hS3.out
                rw [← et, ← eb'] at h
                clear et eb' hhb
                obtain ⟨ao', cap', he', hp'⟩ := SlP.parcels h.th
                obtain ⟨g, off, hao, hgl, e0, e1, e2⟩ := hp' j hjl
                have hsa : sa = some ⟨g, off, none⟩ := by injection he' with h1' _ _; rw [h1', hao]
                subst hsa
                have hx' : ps[j] = x := hx.symm
                simp only [hx'] at e0 e1 e2
                clear he' hp' hao hx hx'
                obtain ⟨num, ack, s⟩ := x
                simp only at e0 e1 e2
                have HS : Hid (SpS wr w3.heap.size ⟨a1, hb, ps, []⟩ z w3.heap.size pb (.slice qa a1.q.length qc) (.slice oa a1.o.length oc) (.slice xa hb.q.length xc) (.slice ya hb.o.length yc) (.slice (some ⟨g, off, none⟩) ps.length sc) (.slice none 0 0)) := h
                clear h hS3
                have hws : w3.heap.size ≤ wr.heap.size := hB3.out.size
                obtain ⟨c0, c1, c2, c3, c4⟩ := HS.out.b.1.cells
                obtain ⟨f, hf⟩ : ∃ f, f = recvE hb (num, ack, s) := ⟨_, rfl⟩
                have HFE : Hid (f = recvE hb (num, ack, s)) := hf
                have hsz60 : s.size ≤ 60 := hxo.2
                clear hf
                go_wp2_with fail
                go_region_with (go_at_call 20; refine (receive_any (e := hb) num ack s _ (show EndR wr.drew _ hb from EndQ.r HS.out.b) sb3 sb4 sb1 sb2 (by omega)).mono ?_; rintro r w8 ⟨v, rfl, m8, hb8⟩; rw [(rcv_yes (may_ok hohb.ok hxo)).2, ← HFE.out] at m8; have X2 := EndC.below (show EndC wr.drew _ _ _ _ _ _ _ from HS.out.b.1) hb8; obtain ⟨ea, ec, eb, ed, rfl⟩ := endM_form m8; have SA := HS.out.set_b (Nat.le_refl _) ((Below.refl _ wr).drew.trans hb8) m8; obtain ⟨j0, j1, j2, j3, j4⟩ := X2.cells; have f0 := X2.frozen 0; have f1 := X2.frozen 1; have f2 := X2.frozen 2; have f3 := X2.frozen 3; have f4 := X2.frozen 4)
                all_goals
                  have HSQ : Hid (SpQ (fillE w8 pb f.nx f.ak (.slice ea f.q.length ec) f.gt (.slice eb f.o.length ed)) w3.heap.size w3.heap.size pb ⟨a1, foldR h0 (ps.take (j + 1)), ps, []⟩ (.slice (some ⟨g, off, none⟩) ps.length sc) (.slice none 0 0)) := by
                    have h := SA.1
                    show SpQ _ _ _ _ _ _ _
                    rw [HNX.out, ← HFE.out]
                    exact ⟨_, _, _, _, _, h⟩
                  have HBQ : Hid (Below w3.heap.size w3 (fillE w8 pb f.nx f.ak (.slice ea f.q.length ec) f.gt (.slice eb f.o.length ed))) := hB3.out.trans SA.2
                  clear SA m8 hb8 X2 hB3 HS c0 c1 c2 c3 c4 e0 e1 e2 j0 j1 j2 j3 j4 f0 f1 f2 f3 f4
                  go_wp2_with fail
                  go_roundw
                  case rel => exact ⟨j + 1, by omega, by go_num, HSQ.out, HBQ.out⟩
                  case measure => simp [intOf]; omega
              · have hjb : j = ps.length := by omega
                subst hjb
                clear hjl hj
                have hdj : decide ((ps.length : Int) < (ps.length : Int)) = false := by simp
                rw [List.take_length] at hS3
                rw [HFB.out] at hS3
                obtain ⟨h1, hh1⟩ : ∃ h1, h1 = hea Q (m + stepN Q m) := ⟨_, rfl⟩
                obtain ⟨a2, ha2⟩ : ∃ a2, a2 = tel Q (m + stepN Q m) := ⟨_, rfl⟩
                have hreach := (step_reach (i := k) hQl hmQ hmk.out).1
                have hoh1 : OkS h1 := by rw [hh1]; exact hea_ok hQl HQs.out hreach
                have hoa2 : OkS a2 := by rw [ha2]; exact tel_ok hQl HQs.out hreach
                have HH1 : Hid (h1 = hea Q (m + stepN Q m)) := hh1
                have HA2 : Hid (a2 = tel Q (m + stepN Q m)) := ha2
                obtain ⟨bk, hbk⟩ : ∃ bk, bk = againP h1 := ⟨_, rfl⟩
                have hbl : bk.length ≤ 4 := by rw [hbk]; exact againP_len4 hoh1.ok
                have HBO : Hid (∀ p ∈ bk, PcOk p) := by rw [hbk]; exact againP_ok hoh1.ok
                have HBE : Hid (bk = againP h1) := hbk
                have HFA2 : Hid (foldR a1 bk = a2) := by show foldR a1 bk = a2; rw [hbk, hh1, ha2]; exact HFA.out
                rw [← hh1] at hS3
                clear hh1 ha2 hbk hreach HFA HFB
                have HFA := HFA2
                clear HFA2
                obtain ⟨z, qa, qc, oa, oc, xa, xc, ya, yc, ta, tc, ka, kc, et, eb', h⟩ := SpQ.form hS3.out
                rw [← et, ← eb'] at h
                have HS : Hid (SpS wr w3.heap.size ⟨a1, h1, ps, []⟩ z w3.heap.size pb (.slice qa a1.q.length qc) (.slice oa a1.o.length oc) (.slice xa h1.q.length xc) (.slice ya h1.o.length yc) (.slice sa ps.length sc) (.slice none 0 0)) := h
                clear h hS3 et eb'
                have hws : w3.heap.size ≤ wr.heap.size := hB3.out.size
                obtain ⟨c0, c1, c2, c3, c4⟩ := HS.out.b.1.cells
                obtain ⟨v1, v2, v3, v4⟩ := okS_sz hoh1
                go_wp2_with fail
                refine (sendAgain_any (e := h1) wr (show EndM wr w3.heap.size _ h1 from EndQ.m HS.out.b) (by omega) (by omega) (by omega)).mono ?_
                rintro r w9 ⟨u9, rfl, iy9, hb9⟩
                rw [againL_ok hoh1.ok, ← HBE.out] at iy9
                have S9 := HS.out.new_k (Nat.le_refl _) iy9 hb9
                obtain ⟨ra, rc, rfl⟩ := Sl.form iy9
                have HS9 : Hid (SpQ w9 w3.heap.size w3.heap.size pb ⟨foldR a1 (bk.take 0), h1, ps, bk⟩ (.slice sa ps.length sc) (.slice ra bk.length rc)) := ⟨_, _, _, _, _, S9⟩
                have HB9 : Hid (Below w3.heap.size w3 w9) := hB3.out.trans (hb9.mono hws)
                clear S9 iy9 hb9 HS hB3 c0 c1 c2 c3 c4
                go_wp2_with fail
                go_loopw [16] (fun i wr => ∃ j : Nat, j ≤ bk.length ∧ i = .int .i64 j ∧ Hid (SpQ wr w3.heap.size w3.heap.size pb ⟨foldR a1 (bk.take j), h1, ps, bk⟩ (.slice sa ps.length sc) (.slice ra bk.length rc)) ∧ Hid (Below w3.heap.size w3 wr)) (fun i _ => bk.length - (intOf i).toNat)
                case atStart => exact ⟨0, Nat.zero_le _, rfl, HS9.out, HB9.out⟩
                case round =>
                  obtain ⟨j, hj, rfl, hS3, hB3⟩ := hrel
                  clear HS9 HB9
                  by_cases hjl : j < bk.length
                  · have hdj : decide ((j : Int) < (bk.length : Int)) = true := by simp; omega
                    have jq1 : (0 : Int) ≤ (j : Int) := by omega
                    have jq2 : (j : Int) < (bk.length : Int) := by omega
                    obtain ⟨hb, hhb⟩ : ∃ hb, hb = foldR a1 (bk.take j) := ⟨_, rfl⟩
                    have hohb : OkS hb := by rw [hhb]; exact foldR_ok hoa (fun p hp => HBO.out p (List.mem_of_mem_take hp))
                    obtain ⟨x, hx⟩ : ∃ x, x = bk[j] := ⟨_, rfl⟩
                    have HNX : Hid (foldR a1 (bk.take (j + 1)) = recvE hb x) := by show foldR a1 (bk.take (j + 1)) = _; rw [List.take_succ_eq_append_getElem hjl, foldR_snoc, hhb, hx]
                    have hxo : PcOk x := by rw [hx]; exact HBO.out _ (List.getElem_mem hjl)
                    rw [← hhb] at hS3
                    obtain ⟨sb1, sb2, sb3, sb4⟩ := okS_sz hohb
                    obtain ⟨z, qa, qc, oa, oc, xa, xc, ya, yc, ta, tc, ka, kc, et, eb', h⟩ := SpQ.form hS3.out
                    rw [← et, ← eb'] at h
                    clear et eb' hhb
                    obtain ⟨ao', cap', he', hp'⟩ := SlP.parcels h.bk
                    obtain ⟨g, off, hao, hgl, e0, e1, e2⟩ := hp' j hjl
                    have hsa : ra = some ⟨g, off, none⟩ := by injection he' with h1' _ _; rw [h1', hao]
                    subst hsa
                    have hx' : bk[j] = x := hx.symm
                    simp only [hx'] at e0 e1 e2
                    clear he' hp' hao hx hx'
                    obtain ⟨num, ack, s⟩ := x
                    simp only at e0 e1 e2
                    have HS : Hid (SpS wr w3.heap.size ⟨hb, h1, ps, bk⟩ z w3.heap.size pb (.slice qa hb.q.length qc) (.slice oa hb.o.length oc) (.slice xa h1.q.length xc) (.slice ya h1.o.length yc) (.slice sa ps.length sc) (.slice (some ⟨g, off, none⟩) bk.length rc)) := h
                    clear h hS3
                    have hws : w3.heap.size ≤ wr.heap.size := hB3.out.size
                    obtain ⟨c0, c1, c2, c3, c4⟩ := HS.out.a.1.cells
                    obtain ⟨f, hf⟩ : ∃ f, f = recvE hb (num, ack, s) := ⟨_, rfl⟩
                    have HFE : Hid (f = recvE hb (num, ack, s)) := hf
                    have hsz60 : s.size ≤ 60 := hxo.2
                    clear hf
                    go_wp2_with fail
                    go_region_with (go_at_call 20; refine (receive_any (e := hb) num ack s _ (show EndR wr.drew _ hb from EndQ.r HS.out.a) sb3 sb4 sb1 sb2 (by omega)).mono ?_; rintro r w8 ⟨v, rfl, m8, hb8⟩; rw [(rcv_yes (may_ok hohb.ok hxo)).2, ← HFE.out] at m8; have X2 := EndC.below (show EndC wr.drew _ _ _ _ _ _ _ from HS.out.a.1) hb8; obtain ⟨ea, ec, eb, ed, rfl⟩ := endM_form m8; have SA := HS.out.set_a (Nat.le_refl _) ((Below.refl _ wr).drew.trans hb8) m8; obtain ⟨j0, j1, j2, j3, j4⟩ := X2.cells; have f0 := X2.frozen 0; have f1 := X2.frozen 1; have f2 := X2.frozen 2; have f3 := X2.frozen 3; have f4 := X2.frozen 4)
                    all_goals
                      have HSQ : Hid (SpQ (fillE w8 w3.heap.size f.nx f.ak (.slice ea f.q.length ec) f.gt (.slice eb f.o.length ed)) w3.heap.size w3.heap.size pb ⟨foldR a1 (bk.take (j + 1)), h1, ps, bk⟩ (.slice sa ps.length sc) (.slice (some ⟨g, off, none⟩) bk.length rc)) := by
                        have h := SA.1
                        show SpQ _ _ _ _ _ _ _
                        rw [HNX.out, ← HFE.out]
                        exact ⟨_, _, _, _, _, h⟩
                      have HBQ : Hid (Below w3.heap.size w3 (fillE w8 w3.heap.size f.nx f.ak (.slice ea f.q.length ec) f.gt (.slice eb f.o.length ed))) := hB3.out.trans SA.2
                      clear SA m8 hb8 X2 hB3 HS c0 c1 c2 c3 c4 e0 e1 e2 j0 j1 j2 j3 j4 f0 f1 f2 f3 f4
                      go_wp2_with fail
                      go_roundw
                      case rel => exact ⟨j + 1, by omega, by go_num, HSQ.out, HBQ.out⟩
                      case measure => simp [intOf]; omega
                  · have hjb : j = bk.length := by omega
                    subst hjb
                    clear hjl hj
                    have hdj : decide ((bk.length : Int) < (bk.length : Int)) = false := by simp
                    rw [List.take_length] at hS3
                    rw [HFA.out] at hS3
                    obtain ⟨z, qa, qc, oa, oc, xa, xc, ya, yc, ta, tc, ka, kc, et, eb', h⟩ := SpQ.form hS3.out
                    have HS : Hid (SpS wr w3.heap.size ⟨a2, h1, ps, bk⟩ z w3.heap.size pb (.slice qa a2.q.length qc) (.slice oa a2.o.length oc) (.slice xa h1.q.length xc) (.slice ya h1.o.length yc) (.slice ta ps.length tc) (.slice ka bk.length kc)) := h
                    clear h hS3 et eb'
                    have hws : w3.heap.size ≤ wr.heap.size := hB3.out.size
                    obtain ⟨c0, c1, c2, c3, c4⟩ := HS.out.a.1.cells
                    obtain ⟨y1, y2, y3, y4⟩ := okS_sz hoa2
                    obtain ⟨v1, v2, v3, v4⟩ := okS_sz hoh1
                    go_wp2_with fail
                    refine (endOk_is wr (show EndR wr _ a2 from EndQ.r HS.out.a) y3 y4 (okB_true.2 hoa2.ok)).mono ?_
                    rintro r w10 ⟨rfl, hb10⟩
                    have S10 := HS.out.below hb10
                    obtain ⟨d0, d1', d2', d3, d4⟩ := S10.b.1.cells
                    go_wp2_with fail
                    refine (endOk_is w10 (show EndR w10 _ h1 from EndQ.r S10.b) v3 v4 (okB_true.2 hoh1.ok)).mono ?_
                    rintro r w11 ⟨rfl, hb11⟩
                    have S11 : Hid (SpQ w11 w3.heap.size w3.heap.size pb ⟨tel Q (m + stepN Q m), hea Q (m + stepN Q m), [], []⟩ (.slice none 0 0) (.slice none 0 0)) := by
                      have h := (S10.below hb11).nil
                      show SpQ _ _ _ _ _ _ _
                      rw [← HA2.out, ← HH1.out]
                      exact h
                    have z10 : wr.heap.size ≤ w10.heap.size := hb10.size
                    have B11 : Hid (Below w3.heap.size w3 w11) := (hB3.out.trans (hb10.mono hws)).trans (hb11.mono (by omega))
                    have hre := step_reach (i := k) hQl hmQ hmk.out
                    have HRE : Hid (min (4 * (k + 1)) Q.length ≤ m + stepN Q m) := hre.2
                    have hre1 := hre.1
                    clear hre S10 hb10 hb11 HS hB3 c0 c1 c2 c3 c4 d0 d1' d2' d3 d4
                    go_wp2_with fail
                    go_roundw
                    case rel => exact ⟨k + 1, m + stepN Q m, by omega, by go_num, hre1, HRE.out, S11.out, B11.out⟩
                    case measure => simp [intOf]; omega
          · have hmf : m = Q.length := by have := hmk.out; omega
            subst hmf
            have hd12 : decide ((k : Int) < 12) = false := by simp; omega
            obtain ⟨z, qv, ov, xv, yv, h⟩ := hS.out
            obtain ⟨qa, qc, rfl⟩ := Sl.form h.a.2.1
            obtain ⟨ya, yc, rfl⟩ := Sl.form h.b.2.2.1
            have x4 : wr.cell? ⟨pb, 4, none⟩ = some (.slice ya Q.length yc) := by
              have := h.b.1.cells.2.2.2.2
              simpa [hea] using this
            have x3 : wr.cell? ⟨pb, 3, none⟩ = some (.int .i64 (Q.length : Int)) := h.b.1.cells.2.2.2.1
            have x1 : wr.cell? ⟨w3.heap.size, 1, none⟩ = some (.int .i64 (Q.length : Int)) := h.a.1.cells.2.1
            have x2 : wr.cell? ⟨w3.heap.size, 2, none⟩ = some (.slice qa 0 qc) := by
              have := h.a.1.cells.2.2.1
              simpa [tel] using this
            have BF : Hid (Below w1.heap.size w1 wr) := B3.out.trans (hB.out.mono B3.out.size)
            clear h hS hB
            go_wp2_with fail
            go_ret
            exact ⟨rfl, BF.out⟩
end Go.Proofs.Ytohagaelenhebaa
