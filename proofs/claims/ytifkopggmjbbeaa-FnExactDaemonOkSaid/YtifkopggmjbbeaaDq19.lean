/- Joined texts: CDkd CDke CLdk CLdo. -/
import Derived.Test.YtifkopggmjbbeaaDq18
/- DaemonOk of one that is not dead, whose Old is not its ring, by the specification. Written by gen_dk14.py. -/
namespace Go.Proofs.Ytifkopggmjbbeaa
open Go.RowKit Pl
set_option linter.unusedVariables false
set_option linter.unusedSimpArgs false

set_option maxRecDepth 100000 in
set_option maxHeartbeats 32000000 in
theorem spDaemonOkne_false (d : Dm) (w : World) (hdd : Hid (d.dead = false)) (hne : Hid ((d.old != d.m.rid) = true)) (h : Hid (DmR w d)) (hs : Hid (DmS d)) : Calls Try.prog 5 #[.agg #[.int .i64 d.id, .bool false, .int .i64 d.m.id, .int .i64 d.m.rid, .slice d.mv.ms.a d.mv.ms.n d.mv.ms.c, .slice d.mv.its.a d.mv.its.n d.mv.its.c, .slice d.mv.lv.a d.mv.lv.n d.mv.lv.c, .slice d.mv.tx.a d.mv.tx.n d.mv.tx.c, .int .i64 d.m.rd, .int .i64 d.m.se, .int .i64 d.m.li, .int .i64 d.m.he, .int .i64 d.m.la.c, .int .i64 d.m.la.r, .int .i64 d.m.la.q, .int .i64 d.m.la.a, .int .i64 d.m.la.b, .slice d.mv.ws.a d.mv.ws.n d.mv.ws.c, .int .i64 d.most, .int .i64 d.old, .int .i64 d.jid, .slice d.js.a d.js.n d.js.c, .slice d.bs.a d.bs.n d.bs.c, .slice d.ls.a d.ls.n d.ls.c]] w fun e w' => e = .returned (.bool (dmS d)) ∧ Below w.heap.size w w' := by
  obtain ⟨R, hR0⟩ : ∃ R, dmS d = R := ⟨_, rfl⟩
  rw [hR0]
  have hR : Hid (dmS d = R) := hR0
  clear hR0
  have LA : Hid (Bx (w.alloc (.cells #[.int .i64 d.id, .bool false, .int .i64 d.m.id, .int .i64 d.m.rid, .slice d.mv.ms.a d.mv.ms.n d.mv.ms.c, .slice d.mv.its.a d.mv.its.n d.mv.its.c, .slice d.mv.lv.a d.mv.lv.n d.mv.lv.c, .slice d.mv.tx.a d.mv.tx.n d.mv.tx.c, .int .i64 d.m.rd, .int .i64 d.m.se, .int .i64 d.m.li, .int .i64 d.m.he, .int .i64 d.m.la.c, .int .i64 d.m.la.r, .int .i64 d.m.la.q, .int .i64 d.m.la.a, .int .i64 d.m.la.b, .slice d.mv.ws.a d.mv.ws.n d.mv.ws.c, .int .i64 d.most, .int .i64 d.old, .int .i64 d.jid, .slice d.js.a d.js.n d.js.c, .slice d.bs.a d.bs.n d.bs.c, .slice d.ls.a d.ls.n d.ls.c] 45)) w.heap.size 45 [.int .i64 d.id, .bool false, .int .i64 d.m.id, .int .i64 d.m.rid, .slice d.mv.ms.a d.mv.ms.n d.mv.ms.c, .slice d.mv.its.a d.mv.its.n d.mv.its.c, .slice d.mv.lv.a d.mv.lv.n d.mv.lv.c, .slice d.mv.tx.a d.mv.tx.n d.mv.tx.c, .int .i64 d.m.rd, .int .i64 d.m.se, .int .i64 d.m.li, .int .i64 d.m.he, .int .i64 d.m.la.c, .int .i64 d.m.la.r, .int .i64 d.m.la.q, .int .i64 d.m.la.a, .int .i64 d.m.la.b, .slice d.mv.ws.a d.mv.ws.n d.mv.ws.c, .int .i64 d.most, .int .i64 d.old, .int .i64 d.jid, .slice d.js.a d.js.n d.js.c, .slice d.bs.a d.bs.n d.bs.c, .slice d.ls.a d.ls.n d.ls.c]) := by
    have h := Bx.new w 45 [.int .i64 d.id, .bool false, .int .i64 d.m.id, .int .i64 d.m.rid, .slice d.mv.ms.a d.mv.ms.n d.mv.ms.c, .slice d.mv.its.a d.mv.its.n d.mv.its.c, .slice d.mv.lv.a d.mv.lv.n d.mv.lv.c, .slice d.mv.tx.a d.mv.tx.n d.mv.tx.c, .int .i64 d.m.rd, .int .i64 d.m.se, .int .i64 d.m.li, .int .i64 d.m.he, .int .i64 d.m.la.c, .int .i64 d.m.la.r, .int .i64 d.m.la.q, .int .i64 d.m.la.a, .int .i64 d.m.la.b, .slice d.mv.ws.a d.mv.ws.n d.mv.ws.c, .int .i64 d.most, .int .i64 d.old, .int .i64 d.jid, .slice d.js.a d.js.n d.js.c, .slice d.bs.a d.bs.n d.bs.c, .slice d.ls.a d.ls.n d.ls.c]
    exact h
  have BW : Hid (Below w.heap.size w (w.alloc (.cells #[.int .i64 d.id, .bool false, .int .i64 d.m.id, .int .i64 d.m.rid, .slice d.mv.ms.a d.mv.ms.n d.mv.ms.c, .slice d.mv.its.a d.mv.its.n d.mv.its.c, .slice d.mv.lv.a d.mv.lv.n d.mv.lv.c, .slice d.mv.tx.a d.mv.tx.n d.mv.tx.c, .int .i64 d.m.rd, .int .i64 d.m.se, .int .i64 d.m.li, .int .i64 d.m.he, .int .i64 d.m.la.c, .int .i64 d.m.la.r, .int .i64 d.m.la.q, .int .i64 d.m.la.a, .int .i64 d.m.la.b, .slice d.mv.ws.a d.mv.ws.n d.mv.ws.c, .int .i64 d.most, .int .i64 d.old, .int .i64 d.jid, .slice d.js.a d.js.n d.js.c, .slice d.bs.a d.bs.n d.bs.c, .slice d.ls.a d.ls.n d.ls.c] 45))) := ((Below.refl _ _).alloc (by simp) _)
  have HR : Hid (DmR (w.alloc (.cells #[.int .i64 d.id, .bool false, .int .i64 d.m.id, .int .i64 d.m.rid, .slice d.mv.ms.a d.mv.ms.n d.mv.ms.c, .slice d.mv.its.a d.mv.its.n d.mv.its.c, .slice d.mv.lv.a d.mv.lv.n d.mv.lv.c, .slice d.mv.tx.a d.mv.tx.n d.mv.tx.c, .int .i64 d.m.rd, .int .i64 d.m.se, .int .i64 d.m.li, .int .i64 d.m.he, .int .i64 d.m.la.c, .int .i64 d.m.la.r, .int .i64 d.m.la.q, .int .i64 d.m.la.a, .int .i64 d.m.la.b, .slice d.mv.ws.a d.mv.ws.n d.mv.ws.c, .int .i64 d.most, .int .i64 d.old, .int .i64 d.jid, .slice d.js.a d.js.n d.js.c, .slice d.bs.a d.bs.n d.bs.c, .slice d.ls.a d.ls.n d.ls.c] 45)) d) := h.out.stays BW.out
  have HW : Hid (d.mv.ws.n = d.m.la.ws.length) := h.out.mt.ws.len
  have HJN : Hid (d.bs.n = d.bu.length) := h.out.bu.1
  clear h
  go_enter Try.func5, Try.ntmps5
  have c0 := LA.out.cell 0
  simp only [List.getElem?_cons_succ, List.getElem?_cons_zero] at c0
  go_wp2_with fail
  refine (in_b d.id 1 5 _).mono ?_
  rintro e t1 ⟨rfl, b⟩
  have LA : Hid (Bx t1 w.heap.size 45 [.int .i64 d.id, .bool false, .int .i64 d.m.id, .int .i64 d.m.rid, .slice d.mv.ms.a d.mv.ms.n d.mv.ms.c, .slice d.mv.its.a d.mv.its.n d.mv.its.c, .slice d.mv.lv.a d.mv.lv.n d.mv.lv.c, .slice d.mv.tx.a d.mv.tx.n d.mv.tx.c, .int .i64 d.m.rd, .int .i64 d.m.se, .int .i64 d.m.li, .int .i64 d.m.he, .int .i64 d.m.la.c, .int .i64 d.m.la.r, .int .i64 d.m.la.q, .int .i64 d.m.la.a, .int .i64 d.m.la.b, .slice d.mv.ws.a d.mv.ws.n d.mv.ws.c, .int .i64 d.most, .int .i64 d.old, .int .i64 d.jid, .slice d.js.a d.js.n d.js.c, .slice d.bs.a d.bs.n d.bs.c, .slice d.ls.a d.ls.n d.ls.c]) := LA.out.later b
  have BW : Hid (Below w.heap.size w t1) := bl_next BW.out b
  have HR : Hid (DmR t1 d) := HR.out.stays b
  clear b
  obtain ⟨R1, k1⟩ : ∃ R : Bool, (decide (1 ≤ d.id ∧ d.id ≤ 5)) = R := ⟨_, rfl⟩
  rw [k1]
  have K1 : Hid ((decide (1 ≤ d.id ∧ d.id ≤ 5)) = R1) := k1
  clear k1
  cases R1 with
  | false =>
    have e : dmS d = false := by
      unfold dmS idB moB jnB
      simp only [hdd.out, hne.out, K1.out, bne_self_eq_false, Bool.false_and, Bool.true_and, Bool.and_false, Bool.and_true, Bool.not_true, Bool.not_false, Bool.or_true, Bool.true_or, Bool.or_false, Bool.false_or, cond_true, cond_false]
    rw [hR.out] at e
    clear hR
    subst e
    go_wp2_with fail
    go_ret
    exact ⟨rfl, BW.out⟩
  | true =>
    have c18 := LA.out.cell 18
    simp only [List.getElem?_cons_succ, List.getElem?_cons_zero] at c18
    go_wp2_with fail
    refine (in_b d.most 0 9 _).mono ?_
    rintro e t2 ⟨rfl, b⟩
    have LA : Hid (Bx t2 w.heap.size 45 [.int .i64 d.id, .bool false, .int .i64 d.m.id, .int .i64 d.m.rid, .slice d.mv.ms.a d.mv.ms.n d.mv.ms.c, .slice d.mv.its.a d.mv.its.n d.mv.its.c, .slice d.mv.lv.a d.mv.lv.n d.mv.lv.c, .slice d.mv.tx.a d.mv.tx.n d.mv.tx.c, .int .i64 d.m.rd, .int .i64 d.m.se, .int .i64 d.m.li, .int .i64 d.m.he, .int .i64 d.m.la.c, .int .i64 d.m.la.r, .int .i64 d.m.la.q, .int .i64 d.m.la.a, .int .i64 d.m.la.b, .slice d.mv.ws.a d.mv.ws.n d.mv.ws.c, .int .i64 d.most, .int .i64 d.old, .int .i64 d.jid, .slice d.js.a d.js.n d.js.c, .slice d.bs.a d.bs.n d.bs.c, .slice d.ls.a d.ls.n d.ls.c]) := LA.out.later b
    have BW : Hid (Below w.heap.size w t2) := bl_next BW.out b
    have HR : Hid (DmR t2 d) := HR.out.stays b
    clear b
    obtain ⟨R2, k2⟩ : ∃ R : Bool, (decide (0 ≤ d.most ∧ d.most ≤ 9)) = R := ⟨_, rfl⟩
    rw [k2]
    have K2 : Hid ((decide (0 ≤ d.most ∧ d.most ≤ 9)) = R2) := k2
    clear k2
    cases R2 with
    | false =>
      have e : dmS d = false := by
        unfold dmS idB moB jnB
        simp only [hdd.out, hne.out, K1.out, K2.out, bne_self_eq_false, Bool.false_and, Bool.true_and, Bool.and_false, Bool.and_true, Bool.not_true, Bool.not_false, Bool.or_true, Bool.true_or, Bool.or_false, Bool.false_or, cond_true, cond_false]
      rw [hR.out] at e
      clear hR
      subst e
      go_wp2_with fail
      go_ret
      exact ⟨rfl, BW.out⟩
    | true =>
      have c1 := LA.out.cell 1
      simp only [List.getElem?_cons_succ, List.getElem?_cons_zero] at c1
      go_wp2_with (first | (with_reducible refine wpList_haltL 41 _ rfl ?_))
      refine Stp.go ?_
      refine wpList_ldG rfl 41 _ rfl w.heap.size 2 rfl 45 _ LA.out [.int .i64 d.m.id, .int .i64 d.m.rid, .slice d.mv.ms.a d.mv.ms.n d.mv.ms.c, .slice d.mv.its.a d.mv.its.n d.mv.its.c, .slice d.mv.lv.a d.mv.lv.n d.mv.lv.c, .slice d.mv.tx.a d.mv.tx.n d.mv.tx.c, .int .i64 d.m.rd, .int .i64 d.m.se, .int .i64 d.m.li, .int .i64 d.m.he, .int .i64 d.m.la.c, .int .i64 d.m.la.r, .int .i64 d.m.la.q, .int .i64 d.m.la.a, .int .i64 d.m.la.b, .slice d.mv.ws.a d.mv.ws.n d.mv.ws.c] rfl _ Try.underlying41 rfl Try.sizeM ?_
      go_wp2_with fail
      refine (lnoMate_any d.m d.mv _ HW.out).mono ?_
      rintro e t3 ⟨rfl, b⟩
      have LA : Hid (Bx t3 w.heap.size 45 [.int .i64 d.id, .bool false, .int .i64 d.m.id, .int .i64 d.m.rid, .slice d.mv.ms.a d.mv.ms.n d.mv.ms.c, .slice d.mv.its.a d.mv.its.n d.mv.its.c, .slice d.mv.lv.a d.mv.lv.n d.mv.lv.c, .slice d.mv.tx.a d.mv.tx.n d.mv.tx.c, .int .i64 d.m.rd, .int .i64 d.m.se, .int .i64 d.m.li, .int .i64 d.m.he, .int .i64 d.m.la.c, .int .i64 d.m.la.r, .int .i64 d.m.la.q, .int .i64 d.m.la.a, .int .i64 d.m.la.b, .slice d.mv.ws.a d.mv.ws.n d.mv.ws.c, .int .i64 d.most, .int .i64 d.old, .int .i64 d.jid, .slice d.js.a d.js.n d.js.c, .slice d.bs.a d.bs.n d.bs.c, .slice d.ls.a d.ls.n d.ls.c]) := LA.out.later b
      have BW : Hid (Below w.heap.size w t3) := bl_next BW.out b
      have HR : Hid (DmR t3 d) := HR.out.stays b
      clear b
      obtain ⟨R3, k3⟩ : ∃ R : Bool, (nmS d.m d.mv) = R := ⟨_, rfl⟩
      rw [k3]
      have K3 : Hid ((nmS d.m d.mv) = R3) := k3
      clear k3
      cases R3 with
      | false =>
        go_wp2_with (first | (with_reducible refine wpList_haltL 41 _ rfl ?_))
        refine Stp.go ?_
        refine wpList_ldG rfl 41 _ rfl w.heap.size 2 rfl 45 _ LA.out [.int .i64 d.m.id, .int .i64 d.m.rid, .slice d.mv.ms.a d.mv.ms.n d.mv.ms.c, .slice d.mv.its.a d.mv.its.n d.mv.its.c, .slice d.mv.lv.a d.mv.lv.n d.mv.lv.c, .slice d.mv.tx.a d.mv.tx.n d.mv.tx.c, .int .i64 d.m.rd, .int .i64 d.m.se, .int .i64 d.m.li, .int .i64 d.m.he, .int .i64 d.m.la.c, .int .i64 d.m.la.r, .int .i64 d.m.la.q, .int .i64 d.m.la.a, .int .i64 d.m.la.b, .slice d.mv.ws.a d.mv.ws.n d.mv.ws.c] rfl _ Try.underlying41 rfl Try.sizeM ?_
        go_wp2_with fail
        refine (spMateOk_any d.m d.mv _ HR.out.mt hs.out.mt).mono ?_
        rintro e t4 ⟨rfl, b⟩
        have LA : Hid (Bx t4 w.heap.size 45 [.int .i64 d.id, .bool false, .int .i64 d.m.id, .int .i64 d.m.rid, .slice d.mv.ms.a d.mv.ms.n d.mv.ms.c, .slice d.mv.its.a d.mv.its.n d.mv.its.c, .slice d.mv.lv.a d.mv.lv.n d.mv.lv.c, .slice d.mv.tx.a d.mv.tx.n d.mv.tx.c, .int .i64 d.m.rd, .int .i64 d.m.se, .int .i64 d.m.li, .int .i64 d.m.he, .int .i64 d.m.la.c, .int .i64 d.m.la.r, .int .i64 d.m.la.q, .int .i64 d.m.la.a, .int .i64 d.m.la.b, .slice d.mv.ws.a d.mv.ws.n d.mv.ws.c, .int .i64 d.most, .int .i64 d.old, .int .i64 d.jid, .slice d.js.a d.js.n d.js.c, .slice d.bs.a d.bs.n d.bs.c, .slice d.ls.a d.ls.n d.ls.c]) := LA.out.later b
        have BW : Hid (Below w.heap.size w t4) := bl_next BW.out b
        have HR : Hid (DmR t4 d) := HR.out.stays b
        clear b
        obtain ⟨R4, k4⟩ : ∃ R : Bool, (d.m.ok) = R := ⟨_, rfl⟩
        rw [k4]
        have K4 : Hid ((d.m.ok) = R4) := k4
        clear k4
        cases R4 with
        | false =>
          have e : dmS d = false := by
            unfold dmS idB moB jnB
            simp only [hdd.out, hne.out, K1.out, K2.out, K3.out, K4.out, bne_self_eq_false, Bool.false_and, Bool.true_and, Bool.and_false, Bool.and_true, Bool.not_true, Bool.not_false, Bool.or_true, Bool.true_or, Bool.or_false, Bool.false_or, cond_true, cond_false]
          rw [hR.out] at e
          clear hR
          subst e
          go_wp2_with fail
          go_ret
          exact ⟨rfl, BW.out⟩
        | true =>
          have c2 := LA.out.cell 2
          have c0 := LA.out.cell 0
          simp only [List.getElem?_cons_succ, List.getElem?_cons_zero] at c2 c0
          obtain ⟨R5, k5⟩ : ∃ R : Bool, (d.m.id != d.id) = R := ⟨_, rfl⟩
          have K5 : Hid ((d.m.id != d.id) = R5) := k5
          cases R5 with
          | false =>
            have c19 := LA.out.cell 19
            have c3 := LA.out.cell 3
            have c18 := LA.out.cell 18
            simp only [List.getElem?_cons_succ, List.getElem?_cons_zero] at c19 c3 c18
            have kne := hne.out
            have e : dmS d = false := by
              unfold dmS idB moB jnB
              simp only [hdd.out, hne.out, K1.out, K2.out, K3.out, K4.out, K5.out, bne_self_eq_false, Bool.false_and, Bool.true_and, Bool.and_false, Bool.and_true, Bool.not_true, Bool.not_false, Bool.or_true, Bool.true_or, Bool.or_false, Bool.false_or, cond_true, cond_false]
            rw [hR.out] at e
            clear hR
            subst e
            go_wp2_with fail
            go_ret
            exact ⟨rfl, BW.out⟩
          | true =>
            have e : dmS d = false := by
              unfold dmS idB moB jnB
              simp only [hdd.out, hne.out, K1.out, K2.out, K3.out, K4.out, K5.out, bne_self_eq_false, Bool.false_and, Bool.true_and, Bool.and_false, Bool.and_true, Bool.not_true, Bool.not_false, Bool.or_true, Bool.true_or, Bool.or_false, Bool.false_or, cond_true, cond_false]
            rw [hR.out] at e
            clear hR
            subst e
            go_wp2_with fail
            go_ret
            exact ⟨rfl, BW.out⟩
      | true =>
        have c19 := LA.out.cell 19
        have c3 := LA.out.cell 3
        have c18 := LA.out.cell 18
        simp only [List.getElem?_cons_succ, List.getElem?_cons_zero] at c19 c3 c18
        have kne := hne.out
        have e : dmS d = false := by
          unfold dmS idB moB jnB
          simp only [hdd.out, hne.out, K1.out, K2.out, K3.out, bne_self_eq_false, Bool.false_and, Bool.true_and, Bool.and_false, Bool.and_true, Bool.not_true, Bool.not_false, Bool.or_true, Bool.true_or, Bool.or_false, Bool.false_or, cond_true, cond_false]
        rw [hR.out] at e
        clear hR
        subst e
        go_wp2_with fail
        go_ret
        exact ⟨rfl, BW.out⟩
end Go.Proofs.Ytifkopggmjbbeaa


/- DaemonOk: what the program asks is what the specification asks. -/
namespace Go.Proofs.Ytifkopggmjbbeaa
open Go.RowKit Pl
set_option linter.unusedVariables false
set_option linter.unusedSimpArgs false

theorem ks_aok (d : Dm) (hb : d.bs.n = d.bu.length) : ksB d = aokB d d.bu := by
  unfold ksB aokB
  rw [hb]
  have e : ∀ l : List Bu, (((l.filter (myB d)).length : Int) == (l.length : Int)) = l.all fun b => bunB b.f b.n b.o b.ts && !(b.n != d.jid) := by
    intro l
    have hm : (fun b : Bu => bunB b.f b.n b.o b.ts && !(b.n != d.jid)) = myB d := funext fun b => by unfold myB; simp [bne]
    rw [hm, Bool.eq_iff_iff]
    simp only [beq_iff_eq, List.all_eq_true]
    rw [Int.ofNat_inj]
    exact List.length_filter_eq_length_iff
  exact e d.bu
theorem dm_same (d : Dm) (hb : d.bs.n = d.bu.length) : dmI d = dmS d := by
  have hk := ks_aok d hb
  have h1 : nmS d.m d.mv = true → d.m.rid = 0 := nm_rid
  have h2 : d.m.ok = true → 1 ≤ d.m.rid ∧ d.m.rid ≤ 9 := ok_rid
  unfold dmI dmS dmM dmJ mbB idB moB olB
  rw [hk]
  generalize nmS d.m d.mv = N at *
  generalize d.m.ok = O at *
  generalize nrB d.jid d.js.n = J at *
  generalize aokB d d.bu = K at *
  generalize ringB d.jid d.jms = G at *
  generalize inB d.jms d.id = I at *
  generalize jnB d = Y at *
  generalize ((d.bs.n : Int) == 0) = Z at *
  generalize d.m.rid = r at *
  cases d.dead <;> cases N <;> cases O <;> cases J <;> cases K <;> cases G <;> cases I <;> cases Y <;> cases Z <;> simp at h1 h2 ⊢ <;> (try (rw [Bool.eq_iff_iff]; simp)) <;> (try omega)
end Go.Proofs.Ytifkopggmjbbeaa


/- Both DaemonOk, of any daemon; what they ask is the same. Written by gen_ldo.py. -/
namespace Go.Proofs.Ytifkopggmjbbeaa
open Go.RowKit Pl
set_option linter.unusedVariables false
set_option linter.unusedSimpArgs false

theorem RI.n {w : World} {s : Sv} {xs : List Int} (h : RI w s.v xs) : s.n = xs.length := by obtain ⟨a, c, h1, _⟩ := h; simp [Sv.v] at h1; exact h1.2.1
theorem RT.n {w : World} {s : Sv} {xs : List ByteArray} (h : RT w s.v xs) : s.n = xs.length := by obtain ⟨a, c, h1, _⟩ := h; simp [Sv.v] at h1; exact h1.2.1
theorem RIt.n {w : World} {s : Sv} {xs : List It} (h : RIt w s.v xs) : s.n = xs.length := by obtain ⟨a, c, h1, _⟩ := h; simp [Sv.v] at h1; exact h1.2.1
theorem aok_pl {a b : Dm} (hj : a.jid = b.jid) (h : a.bu.map Bu.pl = b.bu.map Bu.pl) : aokB a a.bu = aokB b b.bu := by
  have e : ∀ (d : Dm), aokB d d.bu = (d.bu.map Bu.pl).all fun p => bunB p.1 p.2.1 p.2.2.1 p.2.2.2 && !(p.2.1 != d.jid) := fun d => by unfold aokB; rw [List.all_map]; rfl
  rw [e, e, h, hj]
theorem dmS_same {w w' : World} {a b : Dm} (ha : DmR w a) (hb : DmR w' b) (s : a.Same b) : dmS a = dmS b := by
  have e1 : a.js.n = b.js.n := by rw [ha.jo.n, hb.jo.n, s.jms]
  have e2 : a.bs.n = b.bs.n := by rw [ha.bu.1, hb.bu.1]; have := congrArg List.length s.bu; simpa using this
  have e3 : nmS a.m a.mv = nmS b.m b.mv := by unfold nmS; rw [ha.mt.ms.n, hb.mt.ms.n, ha.mt.its.n, hb.mt.its.n, ha.mt.lv.n, hb.mt.lv.n, ha.mt.tx.n, hb.mt.tx.n, s.m]
  have e4 := aok_pl s.jid s.bu
  unfold dmS idB moB jnB
  rw [e1, e2, e3, e4, s.id, s.dead, s.m, s.most, s.old, s.jid, s.jms]
theorem daemonOk_any (d : Dm) (w : World) (h : Hid (DmR w d)) (hs : Hid (DmS d)) : Calls Try.prog 7 #[.agg #[.int .i64 d.id, .bool d.dead, .int .i64 d.m.id, .int .i64 d.m.rid, .slice d.mv.ms.a d.mv.ms.n d.mv.ms.c, .slice d.mv.its.a d.mv.its.n d.mv.its.c, .slice d.mv.lv.a d.mv.lv.n d.mv.lv.c, .slice d.mv.tx.a d.mv.tx.n d.mv.tx.c, .int .i64 d.m.rd, .int .i64 d.m.se, .int .i64 d.m.li, .int .i64 d.m.he, .int .i64 d.m.la.c, .int .i64 d.m.la.r, .int .i64 d.m.la.q, .int .i64 d.m.la.a, .int .i64 d.m.la.b, .slice d.mv.ws.a d.mv.ws.n d.mv.ws.c, .int .i64 d.most, .int .i64 d.old, .int .i64 d.jid, .slice d.js.a d.js.n d.js.c, .slice d.bs.a d.bs.n d.bs.c, .slice d.ls.a d.ls.n d.ls.c]] w fun e w' => e = .returned (.bool (dmS d)) ∧ Below w.heap.size w w' := by
  have e := dm_same d h.out.bu.1
  rw [← e]
  cases hd : d.dead with
  | true => exact daemonOk_true d w hd h hs
  | false => exact daemonOk_false d w hd h hs
set_option maxRecDepth 100000 in
theorem spDaemonOk_any (d : Dm) (w : World) (h : Hid (DmR w d)) (hs : Hid (DmS d)) : Calls Try.prog 5 #[.agg #[.int .i64 d.id, .bool d.dead, .int .i64 d.m.id, .int .i64 d.m.rid, .slice d.mv.ms.a d.mv.ms.n d.mv.ms.c, .slice d.mv.its.a d.mv.its.n d.mv.its.c, .slice d.mv.lv.a d.mv.lv.n d.mv.lv.c, .slice d.mv.tx.a d.mv.tx.n d.mv.tx.c, .int .i64 d.m.rd, .int .i64 d.m.se, .int .i64 d.m.li, .int .i64 d.m.he, .int .i64 d.m.la.c, .int .i64 d.m.la.r, .int .i64 d.m.la.q, .int .i64 d.m.la.a, .int .i64 d.m.la.b, .slice d.mv.ws.a d.mv.ws.n d.mv.ws.c, .int .i64 d.most, .int .i64 d.old, .int .i64 d.jid, .slice d.js.a d.js.n d.js.c, .slice d.bs.a d.bs.n d.bs.c, .slice d.ls.a d.ls.n d.ls.c]] w fun e w' => e = .returned (.bool (dmS d)) ∧ Below w.heap.size w w' := by
  cases hd : d.dead with
  | true => exact spDaemonOk_true d w hd h hs
  | false =>
    by_cases ho : d.old = d.m.rid
    · have k := spDaemonOkeq_false d w hd ho h hs
      rw [ho]
      exact k
    · exact spDaemonOkne_false d w hd (show (d.old != d.m.rid) = true by simpa using ho) h hs
end Go.Proofs.Ytifkopggmjbbeaa


/- The law on DaemonOk. Written by gen_ldo.py. -/
namespace Go.Proofs.Ytifkopggmjbbeaa
open Go.RowKit Pl
set_option linter.unusedVariables false
set_option linter.unusedSimpArgs false

set_option maxRecDepth 100000 in
set_option maxHeartbeats 32000000 in
theorem lawDaemonOk (d : Dm) (w : World) (h0 : Hid (DmR w d)) (hl : Hid (DmL d)) :
    Calls Try.prog 3 #[.agg #[.int .i64 d.id, .bool d.dead, .int .i64 d.m.id, .int .i64 d.m.rid, .slice d.mv.ms.a d.mv.ms.n d.mv.ms.c, .slice d.mv.its.a d.mv.its.n d.mv.its.c, .slice d.mv.lv.a d.mv.lv.n d.mv.lv.c, .slice d.mv.tx.a d.mv.tx.n d.mv.tx.c, .int .i64 d.m.rd, .int .i64 d.m.se, .int .i64 d.m.li, .int .i64 d.m.he, .int .i64 d.m.la.c, .int .i64 d.m.la.r, .int .i64 d.m.la.q, .int .i64 d.m.la.a, .int .i64 d.m.la.b, .slice d.mv.ws.a d.mv.ws.n d.mv.ws.c, .int .i64 d.most, .int .i64 d.old, .int .i64 d.jid, .slice d.js.a d.js.n d.js.c, .slice d.bs.a d.bs.n d.bs.c, .slice d.ls.a d.ls.n d.ls.c]] w fun e w' => e = .returned (.bool true) ∧ Below w.heap.size w w' := by
  have LA : Hid (Bx (w.alloc (.cells #[.int .i64 d.id, .bool d.dead, .int .i64 d.m.id, .int .i64 d.m.rid, .slice d.mv.ms.a d.mv.ms.n d.mv.ms.c, .slice d.mv.its.a d.mv.its.n d.mv.its.c, .slice d.mv.lv.a d.mv.lv.n d.mv.lv.c, .slice d.mv.tx.a d.mv.tx.n d.mv.tx.c, .int .i64 d.m.rd, .int .i64 d.m.se, .int .i64 d.m.li, .int .i64 d.m.he, .int .i64 d.m.la.c, .int .i64 d.m.la.r, .int .i64 d.m.la.q, .int .i64 d.m.la.a, .int .i64 d.m.la.b, .slice d.mv.ws.a d.mv.ws.n d.mv.ws.c, .int .i64 d.most, .int .i64 d.old, .int .i64 d.jid, .slice d.js.a d.js.n d.js.c, .slice d.bs.a d.bs.n d.bs.c, .slice d.ls.a d.ls.n d.ls.c] 34)) w.heap.size 34 [.int .i64 d.id, .bool d.dead, .int .i64 d.m.id, .int .i64 d.m.rid, .slice d.mv.ms.a d.mv.ms.n d.mv.ms.c, .slice d.mv.its.a d.mv.its.n d.mv.its.c, .slice d.mv.lv.a d.mv.lv.n d.mv.lv.c, .slice d.mv.tx.a d.mv.tx.n d.mv.tx.c, .int .i64 d.m.rd, .int .i64 d.m.se, .int .i64 d.m.li, .int .i64 d.m.he, .int .i64 d.m.la.c, .int .i64 d.m.la.r, .int .i64 d.m.la.q, .int .i64 d.m.la.a, .int .i64 d.m.la.b, .slice d.mv.ws.a d.mv.ws.n d.mv.ws.c, .int .i64 d.most, .int .i64 d.old, .int .i64 d.jid, .slice d.js.a d.js.n d.js.c, .slice d.bs.a d.bs.n d.bs.c, .slice d.ls.a d.ls.n d.ls.c]) := by
    have h := Bx.new w 34 [.int .i64 d.id, .bool d.dead, .int .i64 d.m.id, .int .i64 d.m.rid, .slice d.mv.ms.a d.mv.ms.n d.mv.ms.c, .slice d.mv.its.a d.mv.its.n d.mv.its.c, .slice d.mv.lv.a d.mv.lv.n d.mv.lv.c, .slice d.mv.tx.a d.mv.tx.n d.mv.tx.c, .int .i64 d.m.rd, .int .i64 d.m.se, .int .i64 d.m.li, .int .i64 d.m.he, .int .i64 d.m.la.c, .int .i64 d.m.la.r, .int .i64 d.m.la.q, .int .i64 d.m.la.a, .int .i64 d.m.la.b, .slice d.mv.ws.a d.mv.ws.n d.mv.ws.c, .int .i64 d.most, .int .i64 d.old, .int .i64 d.jid, .slice d.js.a d.js.n d.js.c, .slice d.bs.a d.bs.n d.bs.c, .slice d.ls.a d.ls.n d.ls.c]
    exact h
  have BW : Hid (Below w.heap.size w (w.alloc (.cells #[.int .i64 d.id, .bool d.dead, .int .i64 d.m.id, .int .i64 d.m.rid, .slice d.mv.ms.a d.mv.ms.n d.mv.ms.c, .slice d.mv.its.a d.mv.its.n d.mv.its.c, .slice d.mv.lv.a d.mv.lv.n d.mv.lv.c, .slice d.mv.tx.a d.mv.tx.n d.mv.tx.c, .int .i64 d.m.rd, .int .i64 d.m.se, .int .i64 d.m.li, .int .i64 d.m.he, .int .i64 d.m.la.c, .int .i64 d.m.la.r, .int .i64 d.m.la.q, .int .i64 d.m.la.a, .int .i64 d.m.la.b, .slice d.mv.ws.a d.mv.ws.n d.mv.ws.c, .int .i64 d.most, .int .i64 d.old, .int .i64 d.jid, .slice d.js.a d.js.n d.js.c, .slice d.bs.a d.bs.n d.bs.c, .slice d.ls.a d.ls.n d.ls.c] 34))) := ((Below.refl _ _).alloc (by simp) _)
  have HR : Hid (DmR (w.alloc (.cells #[.int .i64 d.id, .bool d.dead, .int .i64 d.m.id, .int .i64 d.m.rid, .slice d.mv.ms.a d.mv.ms.n d.mv.ms.c, .slice d.mv.its.a d.mv.its.n d.mv.its.c, .slice d.mv.lv.a d.mv.lv.n d.mv.lv.c, .slice d.mv.tx.a d.mv.tx.n d.mv.tx.c, .int .i64 d.m.rd, .int .i64 d.m.se, .int .i64 d.m.li, .int .i64 d.m.he, .int .i64 d.m.la.c, .int .i64 d.m.la.r, .int .i64 d.m.la.q, .int .i64 d.m.la.a, .int .i64 d.m.la.b, .slice d.mv.ws.a d.mv.ws.n d.mv.ws.c, .int .i64 d.most, .int .i64 d.old, .int .i64 d.jid, .slice d.js.a d.js.n d.js.c, .slice d.bs.a d.bs.n d.bs.c, .slice d.ls.a d.ls.n d.ls.c] 34)) d) := h0.out.stays BW.out
  obtain ⟨R, hR0⟩ : ∃ R, dmS d = R := ⟨_, rfl⟩
  have HD : Hid (dmS d = R) := hR0
  clear hR0
  have dOK : (R != R) = false := by simp
  go_enter Try.func3, Try.ntmps3
  go_wp2_with (first | (refine wpList_ldG rfl 34 _ rfl w.heap.size 0 rfl 34 _ LA.out [.int .i64 d.id, .bool d.dead, .int .i64 d.m.id, .int .i64 d.m.rid, .slice d.mv.ms.a d.mv.ms.n d.mv.ms.c, .slice d.mv.its.a d.mv.its.n d.mv.its.c, .slice d.mv.lv.a d.mv.lv.n d.mv.lv.c, .slice d.mv.tx.a d.mv.tx.n d.mv.tx.c, .int .i64 d.m.rd, .int .i64 d.m.se, .int .i64 d.m.li, .int .i64 d.m.he, .int .i64 d.m.la.c, .int .i64 d.m.la.r, .int .i64 d.m.la.q, .int .i64 d.m.la.a, .int .i64 d.m.la.b, .slice d.mv.ws.a d.mv.ws.n d.mv.ws.c, .int .i64 d.most, .int .i64 d.old, .int .i64 d.jid, .slice d.js.a d.js.n d.js.c, .slice d.bs.a d.bs.n d.bs.c, .slice d.ls.a d.ls.n d.ls.c] rfl _ Try.underlying34 rfl Try.sizeLDa ?_))
  generalize (w.alloc (.cells #[.int .i64 d.id, .bool d.dead, .int .i64 d.m.id, .int .i64 d.m.rid, .slice d.mv.ms.a d.mv.ms.n d.mv.ms.c, .slice d.mv.its.a d.mv.its.n d.mv.its.c, .slice d.mv.lv.a d.mv.lv.n d.mv.lv.c, .slice d.mv.tx.a d.mv.tx.n d.mv.tx.c, .int .i64 d.m.rd, .int .i64 d.m.se, .int .i64 d.m.li, .int .i64 d.m.he, .int .i64 d.m.la.c, .int .i64 d.m.la.r, .int .i64 d.m.la.q, .int .i64 d.m.la.a, .int .i64 d.m.la.b, .slice d.mv.ws.a d.mv.ws.n d.mv.ws.c, .int .i64 d.most, .int .i64 d.old, .int .i64 d.jid, .slice d.js.a d.js.n d.js.c, .slice d.bs.a d.bs.n d.bs.c, .slice d.ls.a d.ls.n d.ls.c] 34)) = W0 at *
  refine (szDaemon_any d _ HR hl).mono ?_
  rintro e w1 ⟨rfl | ⟨z1, rfl, hz1, HS⟩, b⟩
  · go_wp2_with fail
    go_ret
    exact ⟨rfl, bl_next BW.out b⟩
  have hd1 : decide ((z1 : Int) < 0) = false := by simp
  have LA : Hid (Bx w1 w.heap.size 34 [.int .i64 d.id, .bool d.dead, .int .i64 d.m.id, .int .i64 d.m.rid, .slice d.mv.ms.a d.mv.ms.n d.mv.ms.c, .slice d.mv.its.a d.mv.its.n d.mv.its.c, .slice d.mv.lv.a d.mv.lv.n d.mv.lv.c, .slice d.mv.tx.a d.mv.tx.n d.mv.tx.c, .int .i64 d.m.rd, .int .i64 d.m.se, .int .i64 d.m.li, .int .i64 d.m.he, .int .i64 d.m.la.c, .int .i64 d.m.la.r, .int .i64 d.m.la.q, .int .i64 d.m.la.a, .int .i64 d.m.la.b, .slice d.mv.ws.a d.mv.ws.n d.mv.ws.c, .int .i64 d.most, .int .i64 d.old, .int .i64 d.jid, .slice d.js.a d.js.n d.js.c, .slice d.bs.a d.bs.n d.bs.c, .slice d.ls.a d.ls.n d.ls.c]) := LA.out.later b
  have BW : Hid (Below w.heap.size w w1) := bl_next BW.out b
  have HR : Hid (DmR w1 d) := HR.out.stays b
  clear b
  go_wp2_with (first | (refine wpList_ldG rfl 34 _ rfl w.heap.size 0 rfl 34 _ LA.out [.int .i64 d.id, .bool d.dead, .int .i64 d.m.id, .int .i64 d.m.rid, .slice d.mv.ms.a d.mv.ms.n d.mv.ms.c, .slice d.mv.its.a d.mv.its.n d.mv.its.c, .slice d.mv.lv.a d.mv.lv.n d.mv.lv.c, .slice d.mv.tx.a d.mv.tx.n d.mv.tx.c, .int .i64 d.m.rd, .int .i64 d.m.se, .int .i64 d.m.li, .int .i64 d.m.he, .int .i64 d.m.la.c, .int .i64 d.m.la.r, .int .i64 d.m.la.q, .int .i64 d.m.la.a, .int .i64 d.m.la.b, .slice d.mv.ws.a d.mv.ws.n d.mv.ws.c, .int .i64 d.most, .int .i64 d.old, .int .i64 d.jid, .slice d.js.a d.js.n d.js.c, .slice d.bs.a d.bs.n d.bs.c, .slice d.ls.a d.ls.n d.ls.c] rfl _ Try.underlying34 rfl Try.sizeLDa ?_))
  clear hd1
  refine (toDaemon_any d _ HR HS).mono ?_
  rintro e w2 ⟨d2, rfl, e2, o2, a2, b⟩
  have O2 : Hid (DmO w2 w1.heap.size d2) := o2
  have E2 : Hid (d2.Same d) := e2
  have Q2 : Hid (dmS d2 = R) := (dmS_same o2.r HR.out e2).trans HD.out
  clear o2 e2 a2
  have z_w2 : w1.heap.size ≤ w2.heap.size := b.size
  have LA : Hid (Bx w2 w.heap.size 34 [.int .i64 d.id, .bool d.dead, .int .i64 d.m.id, .int .i64 d.m.rid, .slice d.mv.ms.a d.mv.ms.n d.mv.ms.c, .slice d.mv.its.a d.mv.its.n d.mv.its.c, .slice d.mv.lv.a d.mv.lv.n d.mv.lv.c, .slice d.mv.tx.a d.mv.tx.n d.mv.tx.c, .int .i64 d.m.rd, .int .i64 d.m.se, .int .i64 d.m.li, .int .i64 d.m.he, .int .i64 d.m.la.c, .int .i64 d.m.la.r, .int .i64 d.m.la.q, .int .i64 d.m.la.a, .int .i64 d.m.la.b, .slice d.mv.ws.a d.mv.ws.n d.mv.ws.c, .int .i64 d.most, .int .i64 d.old, .int .i64 d.jid, .slice d.js.a d.js.n d.js.c, .slice d.bs.a d.bs.n d.bs.c, .slice d.ls.a d.ls.n d.ls.c]) := LA.out.later b
  have BW : Hid (Below w.heap.size w w2) := bl_next BW.out b
  have HR : Hid (DmR w2 d) := HR.out.stays b
  clear b
  go_wp2_with fail
  refine (spDaemonOk_any d2 _ (show Hid (DmR _ d2) from O2.out.r) (show Hid (DmS d2) from E2.out.small HS.out)).mono ?_
  rintro e w3 ⟨rfl, b⟩
  have z_w3 : w2.heap.size ≤ w3.heap.size := b.size
  have LA : Hid (Bx w3 w.heap.size 34 [.int .i64 d.id, .bool d.dead, .int .i64 d.m.id, .int .i64 d.m.rid, .slice d.mv.ms.a d.mv.ms.n d.mv.ms.c, .slice d.mv.its.a d.mv.its.n d.mv.its.c, .slice d.mv.lv.a d.mv.lv.n d.mv.lv.c, .slice d.mv.tx.a d.mv.tx.n d.mv.tx.c, .int .i64 d.m.rd, .int .i64 d.m.se, .int .i64 d.m.li, .int .i64 d.m.he, .int .i64 d.m.la.c, .int .i64 d.m.la.r, .int .i64 d.m.la.q, .int .i64 d.m.la.a, .int .i64 d.m.la.b, .slice d.mv.ws.a d.mv.ws.n d.mv.ws.c, .int .i64 d.most, .int .i64 d.old, .int .i64 d.jid, .slice d.js.a d.js.n d.js.c, .slice d.bs.a d.bs.n d.bs.c, .slice d.ls.a d.ls.n d.ls.c]) := LA.out.later b
  have BW : Hid (Below w.heap.size w w3) := bl_next BW.out b
  have HR : Hid (DmR w3 d) := HR.out.stays b
  have O2 : Hid (DmO w3 w1.heap.size d2) := O2.out.below b
  clear b
  simp only [Q2.out]
  clear O2 E2 Q2
  go_wp2_with (first | (refine wpList_ldG rfl 34 _ rfl w.heap.size 0 rfl 34 _ LA.out [.int .i64 d.id, .bool d.dead, .int .i64 d.m.id, .int .i64 d.m.rid, .slice d.mv.ms.a d.mv.ms.n d.mv.ms.c, .slice d.mv.its.a d.mv.its.n d.mv.its.c, .slice d.mv.lv.a d.mv.lv.n d.mv.lv.c, .slice d.mv.tx.a d.mv.tx.n d.mv.tx.c, .int .i64 d.m.rd, .int .i64 d.m.se, .int .i64 d.m.li, .int .i64 d.m.he, .int .i64 d.m.la.c, .int .i64 d.m.la.r, .int .i64 d.m.la.q, .int .i64 d.m.la.a, .int .i64 d.m.la.b, .slice d.mv.ws.a d.mv.ws.n d.mv.ws.c, .int .i64 d.most, .int .i64 d.old, .int .i64 d.jid, .slice d.js.a d.js.n d.js.c, .slice d.bs.a d.bs.n d.bs.c, .slice d.ls.a d.ls.n d.ls.c] rfl _ Try.underlying34 rfl Try.sizeLDa ?_))
  refine (toDaemon_any d _ HR HS).mono ?_
  rintro e w4 ⟨dx, rfl, ex, ox, ax, b⟩
  have XO : Hid (DmO w4 w3.heap.size dx) := ox
  have EX : Hid (dx.Same d) := ex
  have QX : Hid (dmS dx = R) := (dmS_same ox.r HR.out ex).trans HD.out
  clear ox ex ax
  have z_w4 : w3.heap.size ≤ w4.heap.size := b.size
  have LA : Hid (Bx w4 w.heap.size 34 [.int .i64 d.id, .bool d.dead, .int .i64 d.m.id, .int .i64 d.m.rid, .slice d.mv.ms.a d.mv.ms.n d.mv.ms.c, .slice d.mv.its.a d.mv.its.n d.mv.its.c, .slice d.mv.lv.a d.mv.lv.n d.mv.lv.c, .slice d.mv.tx.a d.mv.tx.n d.mv.tx.c, .int .i64 d.m.rd, .int .i64 d.m.se, .int .i64 d.m.li, .int .i64 d.m.he, .int .i64 d.m.la.c, .int .i64 d.m.la.r, .int .i64 d.m.la.q, .int .i64 d.m.la.a, .int .i64 d.m.la.b, .slice d.mv.ws.a d.mv.ws.n d.mv.ws.c, .int .i64 d.most, .int .i64 d.old, .int .i64 d.jid, .slice d.js.a d.js.n d.js.c, .slice d.bs.a d.bs.n d.bs.c, .slice d.ls.a d.ls.n d.ls.c]) := LA.out.later b
  have BW : Hid (Below w.heap.size w w4) := bl_next BW.out b
  have HR : Hid (DmR w4 d) := HR.out.stays b
  clear b
  have hz : Hid (Bx (w4.alloc (.cells #[.int .i64 0, .bool false, .int .i64 0, .int .i64 0, .slice none 0 0, .slice none 0 0, .slice none 0 0, .slice none 0 0, .int .i64 0, .int .i64 0, .int .i64 0, .int .i64 0, .int .i64 0, .int .i64 0, .int .i64 0, .int .i64 0, .int .i64 0, .slice none 0 0, .int .i64 0, .int .i64 0, .int .i64 0, .slice none 0 0, .slice none 0 0, .slice none 0 0] 45)) w4.heap.size 45 [.int .i64 0, .bool false, .int .i64 0, .int .i64 0, .slice none 0 0, .slice none 0 0, .slice none 0 0, .slice none 0 0, .int .i64 0, .int .i64 0, .int .i64 0, .int .i64 0, .int .i64 0, .int .i64 0, .int .i64 0, .int .i64 0, .int .i64 0, .slice none 0 0, .int .i64 0, .int .i64 0, .int .i64 0, .slice none 0 0, .slice none 0 0, .slice none 0 0]) := Bx.new w4 45 _
  go_wp2_with (first | (refine wpList_stB rfl 45 _ _ rfl w4.heap.size 0 rfl 45 _ hz.out [.int .i64 dx.id, .bool dx.dead, .int .i64 dx.m.id, .int .i64 dx.m.rid, .slice dx.mv.ms.a dx.mv.ms.n dx.mv.ms.c, .slice dx.mv.its.a dx.mv.its.n dx.mv.its.c, .slice dx.mv.lv.a dx.mv.lv.n dx.mv.lv.c, .slice dx.mv.tx.a dx.mv.tx.n dx.mv.tx.c, .int .i64 dx.m.rd, .int .i64 dx.m.se, .int .i64 dx.m.li, .int .i64 dx.m.he, .int .i64 dx.m.la.c, .int .i64 dx.m.la.r, .int .i64 dx.m.la.q, .int .i64 dx.m.la.a, .int .i64 dx.m.la.b, .slice dx.mv.ws.a dx.mv.ws.n dx.mv.ws.c, .int .i64 dx.most, .int .i64 dx.old, .int .i64 dx.jid, .slice dx.js.a dx.js.n dx.js.c, .slice dx.bs.a dx.bs.n dx.bs.c, .slice dx.ls.a dx.ls.n dx.ls.c] rfl (by simp) Try.sizeDa rfl [.int .i64 dx.id, .bool dx.dead, .int .i64 dx.m.id, .int .i64 dx.m.rid, .slice dx.mv.ms.a dx.mv.ms.n dx.mv.ms.c, .slice dx.mv.its.a dx.mv.its.n dx.mv.its.c, .slice dx.mv.lv.a dx.mv.lv.n dx.mv.lv.c, .slice dx.mv.tx.a dx.mv.tx.n dx.mv.tx.c, .int .i64 dx.m.rd, .int .i64 dx.m.se, .int .i64 dx.m.li, .int .i64 dx.m.he, .int .i64 dx.m.la.c, .int .i64 dx.m.la.r, .int .i64 dx.m.la.q, .int .i64 dx.m.la.a, .int .i64 dx.m.la.b, .slice dx.mv.ws.a dx.mv.ws.n dx.mv.ws.c, .int .i64 dx.most, .int .i64 dx.old, .int .i64 dx.jid, .slice dx.js.a dx.js.n dx.js.c, .slice dx.bs.a dx.bs.n dx.bs.c, .slice dx.ls.a dx.ls.n dx.ls.c] rfl ?_; intro WX OB TB; have b : Below w4.heap.size w4 WX := ((Below.refl _ _).alloc (Nat.le_refl _) _).trans (TB.below (Nat.le_refl _)); have XB : Hid (Bx WX w4.heap.size 45 [.int .i64 dx.id, .bool dx.dead, .int .i64 dx.m.id, .int .i64 dx.m.rid, .slice dx.mv.ms.a dx.mv.ms.n dx.mv.ms.c, .slice dx.mv.its.a dx.mv.its.n dx.mv.its.c, .slice dx.mv.lv.a dx.mv.lv.n dx.mv.lv.c, .slice dx.mv.tx.a dx.mv.tx.n dx.mv.tx.c, .int .i64 dx.m.rd, .int .i64 dx.m.se, .int .i64 dx.m.li, .int .i64 dx.m.he, .int .i64 dx.m.la.c, .int .i64 dx.m.la.r, .int .i64 dx.m.la.q, .int .i64 dx.m.la.a, .int .i64 dx.m.la.b, .slice dx.mv.ws.a dx.mv.ws.n dx.mv.ws.c, .int .i64 dx.most, .int .i64 dx.old, .int .i64 dx.jid, .slice dx.js.a dx.js.n dx.js.c, .slice dx.bs.a dx.bs.n dx.bs.c, .slice dx.ls.a dx.ls.n dx.ls.c]) := OB; have z_WX : w4.heap.size ≤ WX.heap.size := b.size; have LA : Hid (Bx WX w.heap.size 34 [.int .i64 d.id, .bool d.dead, .int .i64 d.m.id, .int .i64 d.m.rid, .slice d.mv.ms.a d.mv.ms.n d.mv.ms.c, .slice d.mv.its.a d.mv.its.n d.mv.its.c, .slice d.mv.lv.a d.mv.lv.n d.mv.lv.c, .slice d.mv.tx.a d.mv.tx.n d.mv.tx.c, .int .i64 d.m.rd, .int .i64 d.m.se, .int .i64 d.m.li, .int .i64 d.m.he, .int .i64 d.m.la.c, .int .i64 d.m.la.r, .int .i64 d.m.la.q, .int .i64 d.m.la.a, .int .i64 d.m.la.b, .slice d.mv.ws.a d.mv.ws.n d.mv.ws.c, .int .i64 d.most, .int .i64 d.old, .int .i64 d.jid, .slice d.js.a d.js.n d.js.c, .slice d.bs.a d.bs.n d.bs.c, .slice d.ls.a d.ls.n d.ls.c]) := LA.out.later b; have BW : Hid (Below w.heap.size w WX) := bl_next BW.out b; have HR : Hid (DmR WX d) := HR.out.stays b; have XO : Hid (DmO WX w3.heap.size dx) := XO.out.below b; clear OB TB b; refine Stp.here ?_))
  refine Stp.go ?_
  clear hz
  have zl_XB : w4.heap.size < WX.heap.size := XB.out.lt
  generalize hg_XB : w4.heap.size = gXB at *
  have SX : Hid (DmS dx) := EX.out.small HS.out
  go_wp2_with (first | (refine wpList_ldG rfl 45 _ rfl gXB 0 rfl 45 _ XB.out [.int .i64 dx.id, .bool dx.dead, .int .i64 dx.m.id, .int .i64 dx.m.rid, .slice dx.mv.ms.a dx.mv.ms.n dx.mv.ms.c, .slice dx.mv.its.a dx.mv.its.n dx.mv.its.c, .slice dx.mv.lv.a dx.mv.lv.n dx.mv.lv.c, .slice dx.mv.tx.a dx.mv.tx.n dx.mv.tx.c, .int .i64 dx.m.rd, .int .i64 dx.m.se, .int .i64 dx.m.li, .int .i64 dx.m.he, .int .i64 dx.m.la.c, .int .i64 dx.m.la.r, .int .i64 dx.m.la.q, .int .i64 dx.m.la.a, .int .i64 dx.m.la.b, .slice dx.mv.ws.a dx.mv.ws.n dx.mv.ws.c, .int .i64 dx.most, .int .i64 dx.old, .int .i64 dx.jid, .slice dx.js.a dx.js.n dx.js.c, .slice dx.bs.a dx.bs.n dx.bs.c, .slice dx.ls.a dx.ls.n dx.ls.c] rfl _ Try.underlying45 rfl Try.sizeDa ?_))
  refine (daemonOk_any dx _ (show Hid (DmR _ dx) from XO.out.r) SX).mono ?_
  rintro e w6 ⟨rfl, b⟩
  have z_w6 : WX.heap.size ≤ w6.heap.size := b.size
  have LA : Hid (Bx w6 w.heap.size 34 [.int .i64 d.id, .bool d.dead, .int .i64 d.m.id, .int .i64 d.m.rid, .slice d.mv.ms.a d.mv.ms.n d.mv.ms.c, .slice d.mv.its.a d.mv.its.n d.mv.its.c, .slice d.mv.lv.a d.mv.lv.n d.mv.lv.c, .slice d.mv.tx.a d.mv.tx.n d.mv.tx.c, .int .i64 d.m.rd, .int .i64 d.m.se, .int .i64 d.m.li, .int .i64 d.m.he, .int .i64 d.m.la.c, .int .i64 d.m.la.r, .int .i64 d.m.la.q, .int .i64 d.m.la.a, .int .i64 d.m.la.b, .slice d.mv.ws.a d.mv.ws.n d.mv.ws.c, .int .i64 d.most, .int .i64 d.old, .int .i64 d.jid, .slice d.js.a d.js.n d.js.c, .slice d.bs.a d.bs.n d.bs.c, .slice d.ls.a d.ls.n d.ls.c]) := LA.out.later b
  have BW : Hid (Below w.heap.size w w6) := bl_next BW.out b
  have HR : Hid (DmR w6 d) := HR.out.stays b
  have XO : Hid (DmO w6 w3.heap.size dx) := XO.out.below b
  have XB : Hid (Bx w6 gXB 45 [.int .i64 dx.id, .bool dx.dead, .int .i64 dx.m.id, .int .i64 dx.m.rid, .slice dx.mv.ms.a dx.mv.ms.n dx.mv.ms.c, .slice dx.mv.its.a dx.mv.its.n dx.mv.its.c, .slice dx.mv.lv.a dx.mv.lv.n dx.mv.lv.c, .slice dx.mv.tx.a dx.mv.tx.n dx.mv.tx.c, .int .i64 dx.m.rd, .int .i64 dx.m.se, .int .i64 dx.m.li, .int .i64 dx.m.he, .int .i64 dx.m.la.c, .int .i64 dx.m.la.r, .int .i64 dx.m.la.q, .int .i64 dx.m.la.a, .int .i64 dx.m.la.b, .slice dx.mv.ws.a dx.mv.ws.n dx.mv.ws.c, .int .i64 dx.most, .int .i64 dx.old, .int .i64 dx.jid, .slice dx.js.a dx.js.n dx.js.c, .slice dx.bs.a dx.bs.n dx.bs.c, .slice dx.ls.a dx.ls.n dx.ls.c]) := XB.out.later b
  clear b
  simp only [QX.out]
  go_wp2_with fail
  have c : Below w6.heap.size w6 w6.drew := (Below.refl _ _).drew
  refine wp_region_held_drew (S := fun w' => Below w6.heap.size w6 w') (by kernel_rfl) c (fun hHeld => ?_)
  refine wpAnyH_take (i := 0) (v := _) rfl (by kernel_rfl) (by kernel_rfl) (by kernel_rfl) (fun _ _ _ h => h) (ld_yield (by rfl) 45 _ rfl gXB 0 rfl 45 _ (fun w hS => XB.out.later hS) [.int .i64 dx.id, .bool dx.dead, .int .i64 dx.m.id, .int .i64 dx.m.rid, .slice dx.mv.ms.a dx.mv.ms.n dx.mv.ms.c, .slice dx.mv.its.a dx.mv.its.n dx.mv.its.c, .slice dx.mv.lv.a dx.mv.lv.n dx.mv.lv.c, .slice dx.mv.tx.a dx.mv.tx.n dx.mv.tx.c, .int .i64 dx.m.rd, .int .i64 dx.m.se, .int .i64 dx.m.li, .int .i64 dx.m.he, .int .i64 dx.m.la.c, .int .i64 dx.m.la.r, .int .i64 dx.m.la.q, .int .i64 dx.m.la.a, .int .i64 dx.m.la.b, .slice dx.mv.ws.a dx.mv.ws.n dx.mv.ws.c, .int .i64 dx.most, .int .i64 dx.old, .int .i64 dx.jid, .slice dx.js.a dx.js.n dx.js.c, .slice dx.bs.a dx.bs.n dx.bs.c, .slice dx.ls.a dx.ls.n dx.ls.c] rfl _ Try.underlying45 rfl Try.sizeDa) (by assumption) ?_
  try simp only [Act.put, List.getElem_toArray, List.getElem_cons_zero, List.getElem_cons_succ, List.setIfInBounds_toArray, List.set_cons_zero, List.set_cons_succ]
  refine wpAnyH_take (i := 1) (v := _) rfl (by kernel_rfl) (by kernel_rfl) (by kernel_rfl) (fun _ _ _ h => h) (ld_yield (by rfl) 34 _ rfl w.heap.size 0 rfl 34 _ (fun w hS => LA.out.later hS) [.int .i64 d.id, .bool d.dead, .int .i64 d.m.id, .int .i64 d.m.rid, .slice d.mv.ms.a d.mv.ms.n d.mv.ms.c, .slice d.mv.its.a d.mv.its.n d.mv.its.c, .slice d.mv.lv.a d.mv.lv.n d.mv.lv.c, .slice d.mv.tx.a d.mv.tx.n d.mv.tx.c, .int .i64 d.m.rd, .int .i64 d.m.se, .int .i64 d.m.li, .int .i64 d.m.he, .int .i64 d.m.la.c, .int .i64 d.m.la.r, .int .i64 d.m.la.q, .int .i64 d.m.la.a, .int .i64 d.m.la.b, .slice d.mv.ws.a d.mv.ws.n d.mv.ws.c, .int .i64 d.most, .int .i64 d.old, .int .i64 d.jid, .slice d.js.a d.js.n d.js.c, .slice d.bs.a d.bs.n d.bs.c, .slice d.ls.a d.ls.n d.ls.c] rfl _ Try.underlying34 rfl Try.sizeLDa) (by assumption) ?_
  try simp only [Act.put, List.getElem_toArray, List.getElem_cons_zero, List.getElem_cons_succ, List.setIfInBounds_toArray, List.set_cons_zero, List.set_cons_succ]
  refine wpAnyH_ready (rs := [2]) (by kernel_rfl) (by simp) ?_
  refine AllReadyH.cons (i := 2) rfl (fun K hK => ?_) AllReadyH.nil
  rw [if_pos (by rfl)]
  simp only [List.getElem_toArray, List.getElem_cons_zero, List.getElem_cons_succ]
  go_simp
  refine (toDaemon_any d _ (show Hid (DmR w6.drew d) from HR.out.stays c) HS).mono ?_
  rintro e y1 ⟨dt, rfl, et, ot, at_, b1⟩
  have OT : Hid (DmO y1 _ dt) := ot
  have ET : Hid (dx.Same dt) := EX.out.trans et.symm
  have c : Below w6.heap.size w6 y1 := bl_next c b1
  refine hK.out _ _ (c) (fun hHeld => ?_)
  clear hK K
  try simp only [Act.put, List.getElem_toArray, List.getElem_cons_zero, List.getElem_cons_succ, List.setIfInBounds_toArray, List.set_cons_zero, List.set_cons_succ]
  clear ot et at_ b1
  refine wpAnyH_ready (rs := [3]) (by kernel_rfl) (by simp) ?_
  refine AllReadyH.cons (i := 3) rfl (fun K hK => ?_) AllReadyH.nil
  rw [if_pos (by rfl)]
  simp only [List.getElem_toArray, List.getElem_cons_zero, List.getElem_cons_succ]
  go_simp
  refine (eqDaemon_any dx dt _ _ _ (show Hid (DmO y1 w3.heap.size dx) from XO.out.below c) OT ET SX).mono ?_
  rintro e y2 ⟨rfl, b1⟩
  have c : Below w6.heap.size w6 y2 := bl_next c b1
  refine hK.out _ _ (c) (fun hHeld => ?_)
  clear hK K
  try simp only [Act.put, List.getElem_toArray, List.getElem_cons_zero, List.getElem_cons_succ, List.setIfInBounds_toArray, List.set_cons_zero, List.set_cons_succ]
  clear b1
  refine wpAnyH_take (i := 4) (v := ?v4b3) rfl (by kernel_rfl) (by kernel_rfl) (by kernel_rfl) (fun _ _ _ h => h) (Or.inl ⟨by rfl, ?hy4b3⟩) (by assumption) ?_
  case hy4b3 => (intro w hSw; (try dsimp only at hSw); simp only [List.getElem_toArray, List.getElem_cons_zero, List.getElem_cons_succ]; go_simp; try with_reducible rfl)
  try simp only [Act.put, List.getElem_toArray, List.getElem_cons_zero, List.getElem_cons_succ, List.setIfInBounds_toArray, List.set_cons_zero, List.set_cons_succ]
  refine wpAnyH_done (by kernel_rfl) ?_ _
  have LA : Hid (Bx y2 w.heap.size 34 [.int .i64 d.id, .bool d.dead, .int .i64 d.m.id, .int .i64 d.m.rid, .slice d.mv.ms.a d.mv.ms.n d.mv.ms.c, .slice d.mv.its.a d.mv.its.n d.mv.its.c, .slice d.mv.lv.a d.mv.lv.n d.mv.lv.c, .slice d.mv.tx.a d.mv.tx.n d.mv.tx.c, .int .i64 d.m.rd, .int .i64 d.m.se, .int .i64 d.m.li, .int .i64 d.m.he, .int .i64 d.m.la.c, .int .i64 d.m.la.r, .int .i64 d.m.la.q, .int .i64 d.m.la.a, .int .i64 d.m.la.b, .slice d.mv.ws.a d.mv.ws.n d.mv.ws.c, .int .i64 d.most, .int .i64 d.old, .int .i64 d.jid, .slice d.js.a d.js.n d.js.c, .slice d.bs.a d.bs.n d.bs.c, .slice d.ls.a d.ls.n d.ls.c]) := LA.out.later c
  have BW : Hid (Below w.heap.size w y2) := bl_next BW.out c
  have HR : Hid (DmR y2 d) := HR.out.stays c
  have XO : Hid (DmO y2 w3.heap.size dx) := XO.out.below c
  have XB : Hid (Bx y2 gXB 45 [.int .i64 dx.id, .bool dx.dead, .int .i64 dx.m.id, .int .i64 dx.m.rid, .slice dx.mv.ms.a dx.mv.ms.n dx.mv.ms.c, .slice dx.mv.its.a dx.mv.its.n dx.mv.its.c, .slice dx.mv.lv.a dx.mv.lv.n dx.mv.lv.c, .slice dx.mv.tx.a dx.mv.tx.n dx.mv.tx.c, .int .i64 dx.m.rd, .int .i64 dx.m.se, .int .i64 dx.m.li, .int .i64 dx.m.he, .int .i64 dx.m.la.c, .int .i64 dx.m.la.r, .int .i64 dx.m.la.q, .int .i64 dx.m.la.a, .int .i64 dx.m.la.b, .slice dx.mv.ws.a dx.mv.ws.n dx.mv.ws.c, .int .i64 dx.most, .int .i64 dx.old, .int .i64 dx.jid, .slice dx.js.a dx.js.n dx.js.c, .slice dx.bs.a dx.bs.n dx.bs.c, .slice dx.ls.a dx.ls.n dx.ls.c]) := XB.out.later c
  clear c hHeld OT ET
  go_wp2_with fail
  go_ret
  exact ⟨rfl, BW.out⟩
end Go.Proofs.Ytifkopggmjbbeaa


