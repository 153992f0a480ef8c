/- The law on ends that receive. -/
import Derived.Test.YtohagaelenhebaaDV
import Derived.Deep.RegionHeld3
namespace Go.Proofs.Ytohagaelenhebaa
open Go.RowKit Pl
set_option linter.unusedVariables false

/-- what a drawn end makes of a parcel, in plain words. -/
structure RcvOk (e F : En) (p : Pc) (T A ok ok2 : Bool) : Prop where
  again : T = true → A = false
  no : ok = false → T = false
  ok2 : ok = true → ok2 = true
  out : ok = true → e.o.length ≤ F.o.length
  ack : ok = true → e.ak ≤ F.ak
  took : ok = true → (T = true ↔ F.gt = e.gt + 1)
  lq : F.q.length ≤ 31
  lo : F.o.length ≤ 14
  tq : ∀ t ∈ F.q, t.size ≤ 61
  to' : ∀ t ∈ F.o, t.size ≤ 61
theorem rcvOk {e : En} (num ack : Int) (t : ByteArray) (h : Bnd e) (ht : t.size ≤ 61) : RcvOk e (rcvF e (num, ack, t)) (num, ack, t) (rcvB e (num, ack, t)) (rcvB (rcvF e (num, ack, t)) (num, ack, t)) (okB e) (okB (rcvF e (num, ack, t))) := by
  have hq := h.q
  have ho := h.o
  by_cases hm : mayB e (num, ack, t) = true
  · have hmo := hm
    unfold mayB at hmo
    simp only [Bool.and_eq_true, decide_eq_true_eq] at hmo
    have hok : OkS e := ⟨okB_true.1 hmo.1, h.ok hmo.1⟩
    have hp : PcOk (num, ack, t) := ⟨hmo.2.1, hmo.2.2⟩
    have hF := recvE_ok hok hp
    obtain ⟨hB, hR⟩ := rcv_yes hm
    rw [hB, hR]
    have hof := okB_true.2 hF.ok
    have e1 : (ackE e ack).gt = e.gt ∧ (ackE e ack).o = e.o ∧ e.ak ≤ (ackE e ack).ak ∧ (ackE e ack).q.length ≤ e.q.length ∧ ∀ x ∈ (ackE e ack).q, x ∈ e.q := by
      unfold ackE
      split
      · rename_i hc
        exact ⟨rfl, rfl, by show e.ak ≤ ack; omega, by show (e.q.drop _).length ≤ _; rw [List.length_drop]; omega, fun x hx => List.mem_of_mem_drop hx⟩
      · exact ⟨rfl, rfl, Int.le_refl _, Nat.le_refl _, fun x hx => hx⟩
    have e2 : (recvE e (num, ack, t)).ak = (ackE e ack).ak ∧ (recvE e (num, ack, t)).q = (ackE e ack).q := by
      unfold recvE takeE
      split <;> exact ⟨rfl, rfl⟩
    have e3 : (takeB e num = true ∧ (recvE e (num, ack, t)).gt = e.gt + 1 ∧ (recvE e (num, ack, t)).o = e.o ++ [t]) ∨ (takeB e num = false ∧ (recvE e (num, ack, t)).gt = e.gt ∧ (recvE e (num, ack, t)).o = e.o) := by
      have hb : takeB (ackE e ack) num = takeB e num := by unfold takeB; rw [e1.1]
      unfold recvE takeE
      dsimp only
      rw [hb]
      cases takeB e num with
      | true => exact Or.inl ⟨rfl, by rw [if_pos rfl]; show (ackE e ack).gt + 1 = _; rw [e1.1], by rw [if_pos rfl]; show (ackE e ack).o ++ [t] = _; rw [e1.2.1]⟩
      | false => exact Or.inr ⟨rfl, e1.1, e1.2.1⟩
    have hTB : recvB e (num, ack, t) = takeB e num := rfl
    rw [hTB]
    refine ⟨fun hT => ?_, fun hn => ?_, fun _ => hof, fun _ => ?_, fun _ => by rw [e2.1]; exact e1.2.2.1, fun _ => ?_, by rw [e2.2]; omega, ?_, fun x hx => by rw [e2.2] at hx; exact h.tq x (e1.2.2.2.2 x hx), ?_⟩
    · rcases e3 with ⟨a, b, c⟩ | ⟨a, b, c⟩
      · have : rcvB (recvE e (num, ack, t)) (num, ack, t) = (mayB (recvE e (num, ack, t)) (num, ack, t) && takeB (recvE e (num, ack, t)) num) := rfl
        rw [this]
        unfold takeB at a ⊢
        simp at a
        have hne : ¬ num = (recvE e (num, ack, t)).gt + 1 := by rw [b]; omega
        simp [hne]
      · rw [hT] at a; cases a
    · rw [hmo.1] at hn; cases hn
    · rcases e3 with ⟨a, b, c⟩ | ⟨a, b, c⟩
      · rw [c, List.length_append]; omega
      · rw [c]; exact Nat.le_refl _
    · rcases e3 with ⟨a, b, c⟩ | ⟨a, b, c⟩
      · rw [a, b]; exact ⟨fun _ => rfl, fun _ => rfl⟩
      · rw [a, b]; exact ⟨(fun h => by cases h), (fun h => by omega)⟩
    · rcases e3 with ⟨a, b, c⟩ | ⟨a, b, c⟩
      · rw [c, List.length_append]; simp; omega
      · rw [c]; omega
    · rcases e3 with ⟨a, b, c⟩ | ⟨a, b, c⟩
      · rw [c]
        intro x hx
        rcases List.mem_append.1 hx with hx | hx
        · exact h.to' x hx
        · simp at hx; subst hx; exact ht
      · rw [c]; exact h.to'
  · have hm : mayB e (num, ack, t) = false := by simpa using hm
    obtain ⟨hB, hR⟩ := rcv_no hm
    rw [hB, hR, hB]
    exact ⟨(fun h => by cases h), (fun _ => rfl), (fun h => h), (fun _ => Nat.le_refl _), (fun _ => Int.le_refl _), (fun _ => ⟨(fun h => by cases h), (fun h => by omega)⟩), h.q, by omega, h.tq, h.to'⟩

set_option maxRecDepth 100000 in
set_option maxHeartbeats 8000000 in
theorem lawReceives (w : World) (n cap : Nat) (ao : Option Addr) (hk : Hid (CodeAt w w.heap.size ao n)) :
    Calls Try.prog 5 #[.slice ao n cap] w fun e w' => e = .returned (.bool true) ∧ Below w.heap.size w w' := by
  by_cases hn : 1048576 < n
  · have hd : decide (1048576 < (n : Int)) = true := decide_eq_true (by omega)
    go_enter Try.func5, Try.ntmps5
    go_wp2_with fail
    refine (big_any w n cap ao true hd).mono ?_
    rintro r w1 ⟨rfl, hw⟩
    obtain rfl := hw.symm
    go_wp2_with fail
    go_ret
    exact ⟨rfl, Below.refl _ _⟩
  have hd : decide (1048576 < (n : Int)) = false := decide_eq_false (by omega)
  go_enter Try.func5, Try.ntmps5
  go_wp2_with fail
  refine (big_any w n cap ao false hd).mono ?_
  rintro r w1 ⟨rfl, hw⟩
  obtain rfl := hw.symm
  clear hw hd
  go_wp2_with fail
  refine (drawReceive_any w n cap ao (by omega) hk).mono ?_
  rintro r w1 ⟨⟨v, e, num, ack, t, rfl, m1, bn, ht⟩, b1⟩
  obtain ⟨qa, qc, oa, oc, rfl⟩ := endM_form m1
  have RO := rcvOk num ack t bn ht
  obtain ⟨F, hF⟩ : ∃ F, F = rcvF e (num, ack, t) := ⟨_, rfl⟩
  obtain ⟨T, hT⟩ : ∃ T, T = rcvB e (num, ack, t) := ⟨_, rfl⟩
  rw [← hF, ← hT] at RO
  obtain ⟨A, hA⟩ : ∃ A, A = rcvB F (num, ack, t) := ⟨_, rfl⟩
  obtain ⟨F2, hF2⟩ : ∃ F2, F2 = rcvF F (num, ack, t) := ⟨_, rfl⟩
  obtain ⟨ok, hok⟩ : ∃ ok, ok = okB e := ⟨_, rfl⟩
  obtain ⟨ok2, hok2⟩ : ∃ ok2, ok2 = okB F := ⟨_, rfl⟩
  rw [← hA, ← hok, ← hok2] at RO
  have HRO : Hid (RcvOk e F (num, ack, t) T A ok ok2) := RO
  have EF : Hid (F = rcvF e (num, ack, t)) := hF
  have ET : Hid (T = rcvB e (num, ack, t)) := hT
  have EA : Hid (A = rcvB F (num, ack, t)) := hA
  have EF2 : Hid (F2 = rcvF F (num, ack, t)) := hF2
  have HOK : Hid (ok = okB e) := hok
  have HOK2 : Hid (ok2 = okB F) := hok2
  clear hF hT hA hF2 hok hok2
  have HBN : Hid (Bnd e) := bn
  have HB1 : Hid (Below w.heap.size w w1) := b1
  have lq := bn.q
  have lo := bn.o
  have lq2 := RO.lq
  have lo2 := RO.lo
  have hg0 := bn.g0
  have hg1 := bn.g1
  -- the boxes
  have bx : Below w1.heap.size w1 ((w1.alloc (Obj.cells #[Value.int IntKind.i64 e.nx, Value.int IntKind.i64 e.ak, Value.slice qa e.q.length qc, Value.int IntKind.i64 e.gt, Value.slice oa e.o.length oc] 32)).alloc (Obj.cells #[Value.int IntKind.i64 num, Value.int IntKind.i64 ack, Value.string t] 41)) := ((Below.refl _ _).alloc (Nat.le_refl _) _).alloc (by simp) _
  have CE : Hid (EndC ((w1.alloc (Obj.cells #[Value.int IntKind.i64 e.nx, Value.int IntKind.i64 e.ak, Value.slice qa e.q.length qc, Value.int IntKind.i64 e.gt, Value.slice oa e.o.length oc] 32)).alloc (Obj.cells #[Value.int IntKind.i64 num, Value.int IntKind.i64 ack, Value.string t] 41)) 32 w1.heap.size e.nx e.ak (.slice qa e.q.length qc) e.gt (.slice oa e.o.length oc)) := (EndC.new w1 32 _ _ _ _ _).below ((Below.refl _ _).alloc (Nat.le_refl _) _)
  have CP : Hid (PcC ((w1.alloc (Obj.cells #[Value.int IntKind.i64 e.nx, Value.int IntKind.i64 e.ak, Value.slice qa e.q.length qc, Value.int IntKind.i64 e.gt, Value.slice oa e.o.length oc] 32)).alloc (Obj.cells #[Value.int IntKind.i64 num, Value.int IntKind.i64 ack, Value.string t] 41)) 41 (w1.heap.size + 1) num ack t) := by
    have := PcC.new (w1.alloc (Obj.cells #[Value.int IntKind.i64 e.nx, Value.int IntKind.i64 e.ak, Value.slice qa e.q.length qc, Value.int IntKind.i64 e.gt, Value.slice oa e.o.length oc] 32)) 41 num ack t
    show PcC _ _ _ _ _ _
    simpa using this
  have RE : Hid (EndR ((w1.alloc (Obj.cells #[Value.int IntKind.i64 e.nx, Value.int IntKind.i64 e.ak, Value.slice qa e.q.length qc, Value.int IntKind.i64 e.gt, Value.slice oa e.o.length oc] 32)).alloc (Obj.cells #[Value.int IntKind.i64 num, Value.int IntKind.i64 ack, Value.string t] 41)) (.agg #[.int .i64 e.nx, .int .i64 e.ak, .slice qa e.q.length qc, .int .i64 e.gt, .slice oa e.o.length oc]) e) := (m1.stays bx).r
  have B2 : Hid (Below w.heap.size w ((w1.alloc (Obj.cells #[Value.int IntKind.i64 e.nx, Value.int IntKind.i64 e.ak, Value.slice qa e.q.length qc, Value.int IntKind.i64 e.gt, Value.slice oa e.o.length oc] 32)).alloc (Obj.cells #[Value.int IntKind.i64 num, Value.int IntKind.i64 ack, Value.string t] 41))) := b1.trans (bx.mono b1.size)
  clear m1 bx b1 RO bn hk
  obtain ⟨c0, c1, c2, c3, c4⟩ := CE.out.cells
  obtain ⟨p0, p1, p2⟩ := CP.out.cells
  go_wp2_with fail
  generalize (w1.alloc (Obj.cells #[Value.int IntKind.i64 e.nx, Value.int IntKind.i64 e.ak, Value.slice qa e.q.length qc, Value.int IntKind.i64 e.gt, Value.slice oa e.o.length oc] 32)).alloc (Obj.cells #[Value.int IntKind.i64 num, Value.int IntKind.i64 ack, Value.string t] 41) = W2 at *
  refine (receive_any num ack t W2 RE.out (by omega) (by omega) (fun x hx => by have := HBN.out.tq x hx; omega) (fun x hx => by have := HBN.out.to' x hx; omega) (by omega)).mono ?_
  rw [← EF.out, ← ET.out]
  rintro r w3 ⟨v3, rfl, m3, b3⟩
  obtain ⟨fa1, fa2, fa3, fa4, rfl⟩ := endM_form m3
  have bF : Below w3.heap.size w3 (w3.alloc (Obj.cells #[Value.int IntKind.i64 F.nx, Value.int IntKind.i64 F.ak, Value.slice fa1 F.q.length fa2, Value.int IntKind.i64 F.gt, Value.slice fa3 F.o.length fa4] 32)) := (Below.refl _ _).alloc (Nat.le_refl _) _
  have b4 : Below W2.heap.size W2 (w3.alloc (Obj.cells #[Value.int IntKind.i64 F.nx, Value.int IntKind.i64 F.ak, Value.slice fa1 F.q.length fa2, Value.int IntKind.i64 F.gt, Value.slice fa3 F.o.length fa4] 32)) := b3.trans (bF.mono b3.size)
  have CF : Hid (EndC (w3.alloc (Obj.cells #[Value.int IntKind.i64 F.nx, Value.int IntKind.i64 F.ak, Value.slice fa1 F.q.length fa2, Value.int IntKind.i64 F.gt, Value.slice fa3 F.o.length fa4] 32)) 32 w3.heap.size F.nx F.ak (.slice fa1 F.q.length fa2) F.gt (.slice fa3 F.o.length fa4)) := EndC.new w3 32 _ _ _ _ _
  have RF : Hid (EndR (w3.alloc (Obj.cells #[Value.int IntKind.i64 F.nx, Value.int IntKind.i64 F.ak, Value.slice fa1 F.q.length fa2, Value.int IntKind.i64 F.gt, Value.slice fa3 F.o.length fa4] 32)) (.agg #[.int .i64 F.nx, .int .i64 F.ak, .slice fa1 F.q.length fa2, .int .i64 F.gt, .slice fa3 F.o.length fa4]) F) := (m3.stays bF).r
  have CE4 : Hid (EndC (w3.alloc (Obj.cells #[Value.int IntKind.i64 F.nx, Value.int IntKind.i64 F.ak, Value.slice fa1 F.q.length fa2, Value.int IntKind.i64 F.gt, Value.slice fa3 F.o.length fa4] 32)) 32 w1.heap.size e.nx e.ak (.slice qa e.q.length qc) e.gt (.slice oa e.o.length oc)) := CE.out.below b4
  have CP4 : Hid (PcC (w3.alloc (Obj.cells #[Value.int IntKind.i64 F.nx, Value.int IntKind.i64 F.ak, Value.slice fa1 F.q.length fa2, Value.int IntKind.i64 F.gt, Value.slice fa3 F.o.length fa4] 32)) 41 (w1.heap.size + 1) num ack t) := CP.out.below b4
  have RE4 : Hid (EndR (w3.alloc (Obj.cells #[Value.int IntKind.i64 F.nx, Value.int IntKind.i64 F.ak, Value.slice fa1 F.q.length fa2, Value.int IntKind.i64 F.gt, Value.slice fa3 F.o.length fa4] 32)) (.agg #[.int .i64 e.nx, .int .i64 e.ak, .slice qa e.q.length qc, .int .i64 e.gt, .slice oa e.o.length oc]) e) := RE.out.stays b4
  have B4 : Hid (Below w.heap.size w (w3.alloc (Obj.cells #[Value.int IntKind.i64 F.nx, Value.int IntKind.i64 F.ak, Value.slice fa1 F.q.length fa2, Value.int IntKind.i64 F.gt, Value.slice fa3 F.o.length fa4] 32))) := B2.out.trans (b4.mono B2.out.size)
  obtain ⟨bf, hbf⟩ : ∃ bf, bf = w3.heap.size := ⟨_, rfl⟩
  rw [← hbf] at CF
  clear m3 b3 bF b4 CE CP RE B2 c0 c1 c2 c3 c4 p0 p1 p2
  obtain ⟨c0, c1, c2, c3, c4⟩ := CE4.out.cells
  obtain ⟨p0, p1, p2⟩ := CP4.out.cells
  have HBF : Hid (bf = w3.heap.size) := hbf
  clear hbf
  go_wp2_with fail
  rw [← HBF.out]
  clear HBF
  generalize w3.alloc (Obj.cells #[Value.int IntKind.i64 F.nx, Value.int IntKind.i64 F.ak, Value.slice fa1 F.q.length fa2, Value.int IntKind.i64 F.gt, Value.slice fa3 F.o.length fa4] 32) = W4 at *
  refine (spReceive_any num ack t W4 RE4.out (by omega) (by omega)).mono ?_
  rw [← EF.out, ← ET.out]
  rintro r w5 ⟨v5, rfl, m5, b5⟩
  obtain ⟨ga1, ga2, ga3, ga4, rfl⟩ := endM_form m5
  have bG : Below w5.heap.size w5 (w5.alloc (Obj.cells #[Value.int IntKind.i64 F.nx, Value.int IntKind.i64 F.ak, Value.slice ga1 F.q.length ga2, Value.int IntKind.i64 F.gt, Value.slice ga3 F.o.length ga4] 32)) := (Below.refl _ _).alloc (Nat.le_refl _) _
  have b6 : Below W4.heap.size W4 (w5.alloc (Obj.cells #[Value.int IntKind.i64 F.nx, Value.int IntKind.i64 F.ak, Value.slice ga1 F.q.length ga2, Value.int IntKind.i64 F.gt, Value.slice ga3 F.o.length ga4] 32)) := b5.trans (bG.mono b5.size)
  have CE6 : Hid (EndC (w5.alloc (Obj.cells #[Value.int IntKind.i64 F.nx, Value.int IntKind.i64 F.ak, Value.slice ga1 F.q.length ga2, Value.int IntKind.i64 F.gt, Value.slice ga3 F.o.length ga4] 32)) 32 w1.heap.size e.nx e.ak (.slice qa e.q.length qc) e.gt (.slice oa e.o.length oc)) := CE4.out.below b6
  have CP6 : Hid (PcC (w5.alloc (Obj.cells #[Value.int IntKind.i64 F.nx, Value.int IntKind.i64 F.ak, Value.slice ga1 F.q.length ga2, Value.int IntKind.i64 F.gt, Value.slice ga3 F.o.length ga4] 32)) 41 (w1.heap.size + 1) num ack t) := CP4.out.below b6
  have CF6 : Hid (EndC (w5.alloc (Obj.cells #[Value.int IntKind.i64 F.nx, Value.int IntKind.i64 F.ak, Value.slice ga1 F.q.length ga2, Value.int IntKind.i64 F.gt, Value.slice ga3 F.o.length ga4] 32)) 32 bf F.nx F.ak (.slice fa1 F.q.length fa2) F.gt (.slice fa3 F.o.length fa4)) := CF.out.below b6
  have RE6 : Hid (EndR (w5.alloc (Obj.cells #[Value.int IntKind.i64 F.nx, Value.int IntKind.i64 F.ak, Value.slice ga1 F.q.length ga2, Value.int IntKind.i64 F.gt, Value.slice ga3 F.o.length ga4] 32)) (.agg #[.int .i64 e.nx, .int .i64 e.ak, .slice qa e.q.length qc, .int .i64 e.gt, .slice oa e.o.length oc]) e) := RE4.out.stays b6
  have RF6 : Hid (EndR (w5.alloc (Obj.cells #[Value.int IntKind.i64 F.nx, Value.int IntKind.i64 F.ak, Value.slice ga1 F.q.length ga2, Value.int IntKind.i64 F.gt, Value.slice ga3 F.o.length ga4] 32)) (.agg #[.int .i64 F.nx, .int .i64 F.ak, .slice fa1 F.q.length fa2, .int .i64 F.gt, .slice fa3 F.o.length fa4]) F) := RF.out.stays b6
  have B6 : Hid (Below w.heap.size w (w5.alloc (Obj.cells #[Value.int IntKind.i64 F.nx, Value.int IntKind.i64 F.ak, Value.slice ga1 F.q.length ga2, Value.int IntKind.i64 F.gt, Value.slice ga3 F.o.length ga4] 32))) := B4.out.trans (b6.mono B4.out.size)
  clear m5 b5 bG b6 CE4 CP4 CF RE4 RF B4 c0 c1 c2 c3 c4 p0 p1 p2
  obtain ⟨p0, p1, p2⟩ := CP6.out.cells
  obtain ⟨f0, f1, f2, f3, f4⟩ := CF6.out.cells
  go_wp2_with fail
  generalize w5.alloc (Obj.cells #[Value.int IntKind.i64 F.nx, Value.int IntKind.i64 F.ak, Value.slice ga1 F.q.length ga2, Value.int IntKind.i64 F.gt, Value.slice ga3 F.o.length ga4] 32) = W6 at *
  refine (receive_any num ack t W6 RF6.out (by omega) (by omega) (fun x hx => by have := HRO.out.tq x hx; omega) (fun x hx => by have := HRO.out.to' x hx; omega) (by omega)).mono ?_
  rw [← EF2.out, ← EA.out]
  rintro r w7 ⟨v7, rfl, m7, b7⟩
  obtain ⟨ha1, ha2, ha3, ha4, rfl⟩ := endM_form m7
  have bH : Below w7.heap.size w7 (w7.alloc (Obj.cells #[Value.int IntKind.i64 F2.nx, Value.int IntKind.i64 F2.ak, Value.slice ha1 F2.q.length ha2, Value.int IntKind.i64 F2.gt, Value.slice ha3 F2.o.length ha4] 32)) := (Below.refl _ _).alloc (Nat.le_refl _) _
  have b8 : Below W6.heap.size W6 (w7.alloc (Obj.cells #[Value.int IntKind.i64 F2.nx, Value.int IntKind.i64 F2.ak, Value.slice ha1 F2.q.length ha2, Value.int IntKind.i64 F2.gt, Value.slice ha3 F2.o.length ha4] 32)) := b7.trans (bH.mono b7.size)
  have CE8 : Hid (EndC (w7.alloc (Obj.cells #[Value.int IntKind.i64 F2.nx, Value.int IntKind.i64 F2.ak, Value.slice ha1 F2.q.length ha2, Value.int IntKind.i64 F2.gt, Value.slice ha3 F2.o.length ha4] 32)) 32 w1.heap.size e.nx e.ak (.slice qa e.q.length qc) e.gt (.slice oa e.o.length oc)) := CE6.out.below b8
  have CF8 : Hid (EndC (w7.alloc (Obj.cells #[Value.int IntKind.i64 F2.nx, Value.int IntKind.i64 F2.ak, Value.slice ha1 F2.q.length ha2, Value.int IntKind.i64 F2.gt, Value.slice ha3 F2.o.length ha4] 32)) 32 bf F.nx F.ak (.slice fa1 F.q.length fa2) F.gt (.slice fa3 F.o.length fa4)) := CF6.out.below b8
  have RE8 : Hid (EndR (w7.alloc (Obj.cells #[Value.int IntKind.i64 F2.nx, Value.int IntKind.i64 F2.ak, Value.slice ha1 F2.q.length ha2, Value.int IntKind.i64 F2.gt, Value.slice ha3 F2.o.length ha4] 32)) (.agg #[.int .i64 e.nx, .int .i64 e.ak, .slice qa e.q.length qc, .int .i64 e.gt, .slice oa e.o.length oc]) e) := RE6.out.stays b8
  have RF8 : Hid (EndR (w7.alloc (Obj.cells #[Value.int IntKind.i64 F2.nx, Value.int IntKind.i64 F2.ak, Value.slice ha1 F2.q.length ha2, Value.int IntKind.i64 F2.gt, Value.slice ha3 F2.o.length ha4] 32)) (.agg #[.int .i64 F.nx, .int .i64 F.ak, .slice fa1 F.q.length fa2, .int .i64 F.gt, .slice fa3 F.o.length fa4]) F) := RF6.out.stays b8
  have B8 : Hid (Below w.heap.size w (w7.alloc (Obj.cells #[Value.int IntKind.i64 F2.nx, Value.int IntKind.i64 F2.ak, Value.slice ha1 F2.q.length ha2, Value.int IntKind.i64 F2.gt, Value.slice ha3 F2.o.length ha4] 32))) := B6.out.trans (b8.mono B6.out.size)
  clear m7 b7 bH b8 CE6 CP6 CF6 RE6 RF6 B6 p0 p1 p2 f0 f1 f2 f3 f4
  have h7 : T = true → A = false := HRO.out.again
  have hwg : IntKind.i64.wrap (e.gt + 1) = e.gt + 1 := by rw [IntKind.wrap_i64]; omega
  have spE : ∀ W, EndR W (.agg #[.int .i64 e.nx, .int .i64 e.ak, .slice qa e.q.length qc, .int .i64 e.gt, .slice oa e.o.length oc]) e → Calls Try.prog 24 #[(.agg #[.int .i64 e.nx, .int .i64 e.ak, .slice qa e.q.length qc, .int .i64 e.gt, .slice oa e.o.length oc])] W fun r w' => r = .returned (.bool ok) ∧ Below W.heap.size W w' := fun W h => by rw [HOK.out]; exact spEndOk_any W h (by omega) (by omega)
  have imE : ∀ W, EndR W (.agg #[.int .i64 e.nx, .int .i64 e.ak, .slice qa e.q.length qc, .int .i64 e.gt, .slice oa e.o.length oc]) e → Calls Try.prog 21 #[(.agg #[.int .i64 e.nx, .int .i64 e.ak, .slice qa e.q.length qc, .int .i64 e.gt, .slice oa e.o.length oc])] W fun r w' => r = .returned (.bool ok) ∧ Below W.heap.size W w' := fun W h => by rw [HOK.out]; exact endOk_any W h (by omega) (by omega)
  have imF : ∀ W, EndR W (.agg #[.int .i64 F.nx, .int .i64 F.ak, .slice fa1 F.q.length fa2, .int .i64 F.gt, .slice fa3 F.o.length fa4]) F → Calls Try.prog 21 #[(.agg #[.int .i64 F.nx, .int .i64 F.ak, .slice fa1 F.q.length fa2, .int .i64 F.gt, .slice fa3 F.o.length fa4])] W fun r w' => r = .returned (.bool ok2) ∧ Below W.heap.size W w' := fun W h => by rw [HOK2.out]; exact endOk_any W h (by omega) (by omega)
  have HSP : Hid _ := spE
  have HIM : Hid _ := imE
  have HIF : Hid _ := imF
  clear spE imE imF
  obtain ⟨c0, c1, c2, c3, c4⟩ := CE8.out.cells
  obtain ⟨f0, f1, f2, f3, f4⟩ := CF8.out.cells
  cases ok with
  | false =>
    have hT0 : T = false := HRO.out.no rfl
    subst hT0
    clear h7
    go_wp2_with fail
    generalize w7.alloc (Obj.cells #[Value.int IntKind.i64 F2.nx, Value.int IntKind.i64 F2.ak, Value.slice ha1 F2.q.length ha2, Value.int IntKind.i64 F2.gt, Value.slice ha3 F2.o.length ha4] 32) = W8 at *
    refine (HSP.out W8 RE8.out).mono ?_
    rintro r w9 ⟨rfl, b9⟩
    have CE9 : EndC w9 32 w1.heap.size e.nx e.ak (.slice qa e.q.length qc) e.gt (.slice oa e.o.length oc) := CE8.out.below b9
    have RE9 : Hid (EndR w9 (.agg #[.int .i64 e.nx, .int .i64 e.ak, .slice qa e.q.length qc, .int .i64 e.gt, .slice oa e.o.length oc]) e) := RE8.out.stays b9
    have B9 : Hid (Below w.heap.size w w9) := B8.out.trans (b9.mono B8.out.size)
    have hl9 := CE9.lt
    have HC9 : Hid _ := CE9
    obtain ⟨d0, d1, d2, d3, d4⟩ := CE9.cells
    clear c0 c1 c2 c3 c4 f0 f1 f2 f3 f4 b9 CE8 CF8 RE8 RF8 B8 CE9
    go_wp2_with fail
    go_region_held3 (fun w' => w'.cell? ⟨w1.heap.size, 0, none⟩ = some (.int .i64 e.nx) ∧ w'.cell? ⟨w1.heap.size, 1, none⟩ = some (.int .i64 e.ak) ∧ w'.cell? ⟨w1.heap.size, 2, none⟩ = some (.slice qa e.q.length qc) ∧ w'.cell? ⟨w1.heap.size, 3, none⟩ = some (.int .i64 e.gt) ∧ w'.cell? ⟨w1.heap.size, 4, none⟩ = some (.slice oa e.o.length oc))
      (first | exact sB | exact sA | exact ⟨d0, d1, d2, d3, d4⟩)
      (first
        | (go_at_call 21; refine (HIM.out _ (by first | exact RE9.out.stays (Below.refl _ _).drew)).mono ?_; rintro r_ wa ⟨rfl, ba⟩; have ba : Below w9.heap.size w9 wa := (Below.refl _ _).drew.trans ba; have sA := (EndC.below HC9.out ba).cells)
        | (go_at_call 24; refine (HSP.out _ (by first | exact RE9.out.stays ba)).mono ?_; rintro r_ wb ⟨rfl, bb⟩; have bb : Below w9.heap.size w9 wb := ba.trans (bb.mono ba.size); have sB := (EndC.below HC9.out bb).cells))
    all_goals
      go_wp2_with fail
      go_ret
      exact ⟨rfl, B9.out.trans (bb.mono B9.out.size)⟩
  | true =>
    have ho2 : ok2 = true := HRO.out.ok2 rfl
    subst ho2
    have hout := HRO.out.out rfl
    have hack := HRO.out.ack rfl
    have htook := HRO.out.took rfl
    cases T with
    | false =>
      have hne : (F.gt == e.gt + 1) = false := by
        have : ¬ F.gt = e.gt + 1 := fun h => by have := htook.2 h; cases this
        simp [this]
      clear htook h7
      go_wp2_with fail
      generalize w7.alloc (Obj.cells #[Value.int IntKind.i64 F2.nx, Value.int IntKind.i64 F2.ak, Value.slice ha1 F2.q.length ha2, Value.int IntKind.i64 F2.gt, Value.slice ha3 F2.o.length ha4] 32) = W8 at *
      refine (HSP.out W8 RE8.out).mono ?_
      rintro r w9 ⟨rfl, b9⟩
      have RF9 : Hid (EndR w9 (.agg #[.int .i64 F.nx, .int .i64 F.ak, .slice fa1 F.q.length fa2, .int .i64 F.gt, .slice fa3 F.o.length fa4]) F) := RF8.out.stays b9
      have B9 : Hid (Below w.heap.size w w9) := B8.out.trans (b9.mono B8.out.size)
      have CE9 : Hid (EndC w9 32 w1.heap.size e.nx e.ak (.slice qa e.q.length qc) e.gt (.slice oa e.o.length oc)) := CE8.out.below b9
      have CF9 : Hid (EndC w9 32 bf F.nx F.ak (.slice fa1 F.q.length fa2) F.gt (.slice fa3 F.o.length fa4)) := CF8.out.below b9
      clear c0 c1 c2 c3 c4 f0 f1 f2 f3 f4 b9 CE8 CF8 RE8 RF8 B8
      obtain ⟨f0, f1, f2, f3, f4⟩ := CF9.out.cells
      go_wp2_with fail
      refine (HIF.out w9 RF9.out).mono ?_
      rintro r wa ⟨rfl, ba⟩
      have Ba : Hid (Below w.heap.size w wa) := B9.out.trans (ba.mono B9.out.size)
      obtain ⟨d0, d1, d2, d3, d4⟩ := (CE9.out.below ba).cells
      obtain ⟨h0, h1, h2, h3, h4⟩ := (CF9.out.below ba).cells
      clear f0 f1 f2 f3 f4 ba B9
      have hle : (e.o.length : Int) ≤ (F.o.length : Int) := by omega
      go_wp2_with fail
      go_ret
      exact ⟨rfl, Ba.out⟩
    | true =>
      have hA0 := h7 rfl
      subst hA0
      have hne : (F.gt == e.gt + 1) = true := by
        have := htook.1 rfl
        simp [this]
      clear htook h7
      go_wp2_with fail
      generalize w7.alloc (Obj.cells #[Value.int IntKind.i64 F2.nx, Value.int IntKind.i64 F2.ak, Value.slice ha1 F2.q.length ha2, Value.int IntKind.i64 F2.gt, Value.slice ha3 F2.o.length ha4] 32) = W8 at *
      refine (HSP.out W8 RE8.out).mono ?_
      rintro r w9 ⟨rfl, b9⟩
      have RF9 : Hid (EndR w9 (.agg #[.int .i64 F.nx, .int .i64 F.ak, .slice fa1 F.q.length fa2, .int .i64 F.gt, .slice fa3 F.o.length fa4]) F) := RF8.out.stays b9
      have B9 : Hid (Below w.heap.size w w9) := B8.out.trans (b9.mono B8.out.size)
      have CE9 : Hid (EndC w9 32 w1.heap.size e.nx e.ak (.slice qa e.q.length qc) e.gt (.slice oa e.o.length oc)) := CE8.out.below b9
      have CF9 : Hid (EndC w9 32 bf F.nx F.ak (.slice fa1 F.q.length fa2) F.gt (.slice fa3 F.o.length fa4)) := CF8.out.below b9
      clear c0 c1 c2 c3 c4 f0 f1 f2 f3 f4 b9 CE8 CF8 RE8 RF8 B8
      obtain ⟨f0, f1, f2, f3, f4⟩ := CF9.out.cells
      go_wp2_with fail
      refine (HIF.out w9 RF9.out).mono ?_
      rintro r wa ⟨rfl, ba⟩
      have Ba : Hid (Below w.heap.size w wa) := B9.out.trans (ba.mono B9.out.size)
      obtain ⟨d0, d1, d2, d3, d4⟩ := (CE9.out.below ba).cells
      obtain ⟨h0, h1, h2, h3, h4⟩ := (CF9.out.below ba).cells
      clear f0 f1 f2 f3 f4 ba B9
      have hle : (e.o.length : Int) ≤ (F.o.length : Int) := by omega
      go_wp2_with fail
      go_ret
      exact ⟨rfl, Ba.out⟩
end Go.Proofs.Ytohagaelenhebaa
