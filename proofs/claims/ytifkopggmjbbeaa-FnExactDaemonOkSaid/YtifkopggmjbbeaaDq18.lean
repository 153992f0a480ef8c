/- Joined texts: CJo14 CDh14 CDka CDkb CDkc. -/
import Derived.Test.YtifkopggmjbbeaaDq17
import Derived.Test.YtifkopggmjbbeaaDq11
import Derived.BigQuiet
/- What DaemonOk asks, by the program: the ring that it goes to; DaemonOk. Written by gen_jo.py. -/
namespace Go.Proofs.Ytifkopggmjbbeaa
open Go.RowKit Pl
set_option linter.unusedVariables false
set_option linter.unusedSimpArgs false

def jnB (d : Dm) : Bool := decide (d.old + 1 ≤ d.jid ∧ d.jid ≤ d.most)
def mbB (d : Dm) : Bool := ringB d.jid d.jms && inB d.jms d.id
def ksB (d : Dm) : Bool := ((d.bu.filter (myB d)).length : Int) == (d.bs.n : Int)
def dmJ (d : Dm) : Bool := bif nrB d.jid d.js.n then ((d.bs.n : Int) == 0) else (mbB d && (jnB d && ksB d))
set_option maxRecDepth 100000 in
set_option maxHeartbeats 16000000 in
theorem joiningOk_true (d : Dm) (w : World) (hdd : Hid (d.dead = true)) (hj : Hid (RI w d.js.v d.jms)) (hb : Hid (BusR w d.bs d.bu)) (hs : Hid (DmS d)) (ho : 0 ≤ d.old ∧ d.old ≤ 9) :
    Calls Try.prog 28 #[.agg #[.int .i64 d.id, .bool true, .int .i64 d.m.id, .int .i64 d.m.rid, .slice d.mv.ms.a d.mv.ms.n d.mv.ms.c, .slice d.mv.its.a d.mv.its.n d.mv.its.c, .slice d.mv.lv.a d.mv.lv.n d.mv.lv.c, .slice d.mv.tx.a d.mv.tx.n d.mv.tx.c, .int .i64 d.m.rd, .int .i64 d.m.se, .int .i64 d.m.li, .int .i64 d.m.he, .int .i64 d.m.la.c, .int .i64 d.m.la.r, .int .i64 d.m.la.q, .int .i64 d.m.la.a, .int .i64 d.m.la.b, .slice d.mv.ws.a d.mv.ws.n d.mv.ws.c, .int .i64 d.most, .int .i64 d.old, .int .i64 d.jid, .slice d.js.a d.js.n d.js.c, .slice d.bs.a d.bs.n d.bs.c, .slice d.ls.a d.ls.n d.ls.c]] w fun e w' => e = .returned (.bool (dmJ d)) ∧ Below w.heap.size w w' := by
  obtain ⟨R, hR0⟩ : ∃ R, dmJ d = R := ⟨_, rfl⟩
  rw [hR0]
  have hR : Hid (dmJ d = R) := hR0
  clear hR0
  have LA : Hid (Bx (w.alloc (.cells #[.int .i64 d.id, .bool true, .int .i64 d.m.id, .int .i64 d.m.rid, .slice d.mv.ms.a d.mv.ms.n d.mv.ms.c, .slice d.mv.its.a d.mv.its.n d.mv.its.c, .slice d.mv.lv.a d.mv.lv.n d.mv.lv.c, .slice d.mv.tx.a d.mv.tx.n d.mv.tx.c, .int .i64 d.m.rd, .int .i64 d.m.se, .int .i64 d.m.li, .int .i64 d.m.he, .int .i64 d.m.la.c, .int .i64 d.m.la.r, .int .i64 d.m.la.q, .int .i64 d.m.la.a, .int .i64 d.m.la.b, .slice d.mv.ws.a d.mv.ws.n d.mv.ws.c, .int .i64 d.most, .int .i64 d.old, .int .i64 d.jid, .slice d.js.a d.js.n d.js.c, .slice d.bs.a d.bs.n d.bs.c, .slice d.ls.a d.ls.n d.ls.c] 45)) w.heap.size 45 [.int .i64 d.id, .bool true, .int .i64 d.m.id, .int .i64 d.m.rid, .slice d.mv.ms.a d.mv.ms.n d.mv.ms.c, .slice d.mv.its.a d.mv.its.n d.mv.its.c, .slice d.mv.lv.a d.mv.lv.n d.mv.lv.c, .slice d.mv.tx.a d.mv.tx.n d.mv.tx.c, .int .i64 d.m.rd, .int .i64 d.m.se, .int .i64 d.m.li, .int .i64 d.m.he, .int .i64 d.m.la.c, .int .i64 d.m.la.r, .int .i64 d.m.la.q, .int .i64 d.m.la.a, .int .i64 d.m.la.b, .slice d.mv.ws.a d.mv.ws.n d.mv.ws.c, .int .i64 d.most, .int .i64 d.old, .int .i64 d.jid, .slice d.js.a d.js.n d.js.c, .slice d.bs.a d.bs.n d.bs.c, .slice d.ls.a d.ls.n d.ls.c]) := by
    have h := Bx.new w 45 [.int .i64 d.id, .bool true, .int .i64 d.m.id, .int .i64 d.m.rid, .slice d.mv.ms.a d.mv.ms.n d.mv.ms.c, .slice d.mv.its.a d.mv.its.n d.mv.its.c, .slice d.mv.lv.a d.mv.lv.n d.mv.lv.c, .slice d.mv.tx.a d.mv.tx.n d.mv.tx.c, .int .i64 d.m.rd, .int .i64 d.m.se, .int .i64 d.m.li, .int .i64 d.m.he, .int .i64 d.m.la.c, .int .i64 d.m.la.r, .int .i64 d.m.la.q, .int .i64 d.m.la.a, .int .i64 d.m.la.b, .slice d.mv.ws.a d.mv.ws.n d.mv.ws.c, .int .i64 d.most, .int .i64 d.old, .int .i64 d.jid, .slice d.js.a d.js.n d.js.c, .slice d.bs.a d.bs.n d.bs.c, .slice d.ls.a d.ls.n d.ls.c]
    exact h
  have BW : Hid (Below w.heap.size w (w.alloc (.cells #[.int .i64 d.id, .bool true, .int .i64 d.m.id, .int .i64 d.m.rid, .slice d.mv.ms.a d.mv.ms.n d.mv.ms.c, .slice d.mv.its.a d.mv.its.n d.mv.its.c, .slice d.mv.lv.a d.mv.lv.n d.mv.lv.c, .slice d.mv.tx.a d.mv.tx.n d.mv.tx.c, .int .i64 d.m.rd, .int .i64 d.m.se, .int .i64 d.m.li, .int .i64 d.m.he, .int .i64 d.m.la.c, .int .i64 d.m.la.r, .int .i64 d.m.la.q, .int .i64 d.m.la.a, .int .i64 d.m.la.b, .slice d.mv.ws.a d.mv.ws.n d.mv.ws.c, .int .i64 d.most, .int .i64 d.old, .int .i64 d.jid, .slice d.js.a d.js.n d.js.c, .slice d.bs.a d.bs.n d.bs.c, .slice d.ls.a d.ls.n d.ls.c] 45))) := ((Below.refl _ _).alloc (by simp) _)
  have HJ : Hid (RI (w.alloc (.cells #[.int .i64 d.id, .bool true, .int .i64 d.m.id, .int .i64 d.m.rid, .slice d.mv.ms.a d.mv.ms.n d.mv.ms.c, .slice d.mv.its.a d.mv.its.n d.mv.its.c, .slice d.mv.lv.a d.mv.lv.n d.mv.lv.c, .slice d.mv.tx.a d.mv.tx.n d.mv.tx.c, .int .i64 d.m.rd, .int .i64 d.m.se, .int .i64 d.m.li, .int .i64 d.m.he, .int .i64 d.m.la.c, .int .i64 d.m.la.r, .int .i64 d.m.la.q, .int .i64 d.m.la.a, .int .i64 d.m.la.b, .slice d.mv.ws.a d.mv.ws.n d.mv.ws.c, .int .i64 d.most, .int .i64 d.old, .int .i64 d.jid, .slice d.js.a d.js.n d.js.c, .slice d.bs.a d.bs.n d.bs.c, .slice d.ls.a d.ls.n d.ls.c] 45)) d.js.v d.jms) := hj.out.stays BW.out
  have HB : Hid (BusR (w.alloc (.cells #[.int .i64 d.id, .bool true, .int .i64 d.m.id, .int .i64 d.m.rid, .slice d.mv.ms.a d.mv.ms.n d.mv.ms.c, .slice d.mv.its.a d.mv.its.n d.mv.its.c, .slice d.mv.lv.a d.mv.lv.n d.mv.lv.c, .slice d.mv.tx.a d.mv.tx.n d.mv.tx.c, .int .i64 d.m.rd, .int .i64 d.m.se, .int .i64 d.m.li, .int .i64 d.m.he, .int .i64 d.m.la.c, .int .i64 d.m.la.r, .int .i64 d.m.la.q, .int .i64 d.m.la.a, .int .i64 d.m.la.b, .slice d.mv.ws.a d.mv.ws.n d.mv.ws.c, .int .i64 d.most, .int .i64 d.old, .int .i64 d.jid, .slice d.js.a d.js.n d.js.c, .slice d.bs.a d.bs.n d.bs.c, .slice d.ls.a d.ls.n d.ls.c] 45)) d.bs d.bu) := hb.out.stays BW.out
  have HO : Hid (0 ≤ d.old ∧ d.old ≤ 9) := ho
  clear hj hb ho
  go_enter Try.func28, Try.ntmps28
  go_wp2_with (first | (refine wpList_ldG rfl 37 _ rfl w.heap.size 20 rfl 45 _ LA.out [.int .i64 d.jid, .slice d.js.a d.js.n d.js.c] rfl _ Try.underlying37 rfl Try.sizeR ?_))
  refine (noRing_any d.jid d.js _).mono ?_
  rintro e t1 ⟨rfl, b⟩
  have LA : Hid (Bx t1 w.heap.size 45 [.int .i64 d.id, .bool true, .int .i64 d.m.id, .int .i64 d.m.rid, .slice d.mv.ms.a d.mv.ms.n d.mv.ms.c, .slice d.mv.its.a d.mv.its.n d.mv.its.c, .slice d.mv.lv.a d.mv.lv.n d.mv.lv.c, .slice d.mv.tx.a d.mv.tx.n d.mv.tx.c, .int .i64 d.m.rd, .int .i64 d.m.se, .int .i64 d.m.li, .int .i64 d.m.he, .int .i64 d.m.la.c, .int .i64 d.m.la.r, .int .i64 d.m.la.q, .int .i64 d.m.la.a, .int .i64 d.m.la.b, .slice d.mv.ws.a d.mv.ws.n d.mv.ws.c, .int .i64 d.most, .int .i64 d.old, .int .i64 d.jid, .slice d.js.a d.js.n d.js.c, .slice d.bs.a d.bs.n d.bs.c, .slice d.ls.a d.ls.n d.ls.c]) := LA.out.later b
  have BW : Hid (Below w.heap.size w t1) := bl_next BW.out b
  have HJ : Hid (RI t1 d.js.v d.jms) := HJ.out.stays b
  have HB : Hid (BusR t1 d.bs d.bu) := HB.out.stays b
  clear b
  obtain ⟨R1, k1⟩ : ∃ R : Bool, (nrB d.jid d.js.n) = R := ⟨_, rfl⟩
  rw [k1]
  have K1 : Hid ((nrB d.jid d.js.n) = R1) := k1
  clear k1
  cases R1 with
  | false =>
    obtain ⟨M, kM⟩ : ∃ M, mbB d = M := ⟨_, rfl⟩
    have KM : Hid (mbB d = M) := kM
    obtain ⟨J, kJ⟩ : ∃ J, jnB d = J := ⟨_, rfl⟩
    have KJ : Hid (jnB d = J) := kJ
    clear kM kJ
    have hjl := hs.out.jo
    have ho1 := HO.out
    have hwr : IntKind.i64.wrap (d.old + 1) = d.old + 1 := by simp [IntKind.wrap, IntKind.signed, IntKind.bits]; omega
    go_wp2_with fail
    cases M with
    | false =>
      have e : dmJ d = false := by
        unfold dmJ
        simp only [K1.out, KM.out, Bool.false_and, Bool.true_and, Bool.and_false, Bool.and_true, cond_true, cond_false]
      rw [hR.out] at e
      clear hR
      subst e
      refine quietC (C := fun w' => Below t1.heap.size t1 w') (by kernel_rfl) (by kernel_rfl) (Below.refl _ _).drew ?_
      go_big_quiet_want
      refine q_val (.pointer (some ⟨w.heap.size, 0, none⟩)) (fun w' hw' => by go_simp) ?_
      go_big_quiet_on
      simp only [Act.put, List.setIfInBounds_toArray, List.set_cons_zero, List.set_cons_succ]
      go_big_quiet_want
      refine q_val (.int .i64 d.id) (fun w' hw' => by have r0 : w'.cell? ⟨w.heap.size, 0, none⟩ = some (.int .i64 d.id) := (LA.out.later hw').cell 0; go_simp) ?_
      go_big_quiet_on
      simp only [Act.put, List.setIfInBounds_toArray, List.set_cons_zero, List.set_cons_succ]
      go_big_quiet_want
      refine q_val (.pointer (some ⟨w.heap.size, 20, none⟩)) (fun w' hw' => by go_simp) ?_
      go_big_quiet_on
      simp only [Act.put, List.setIfInBounds_toArray, List.set_cons_zero, List.set_cons_succ]
      go_big_quiet_want
      refine q_val (.agg #[.int .i64 d.jid, .slice d.js.a d.js.n d.js.c]) (fun w' hw' => by have r20 : w'.cell? ⟨w.heap.size, 20, none⟩ = some (.int .i64 d.jid) := (LA.out.later hw').cell 20; have r21 : w'.cell? ⟨w.heap.size, 21, none⟩ = some (.slice d.js.a d.js.n d.js.c) := (LA.out.later hw').cell 21; go_simp) ?_
      go_big_quiet_on
      simp only [Act.put, List.setIfInBounds_toArray, List.set_cons_zero, List.set_cons_succ]
      go_big_quiet_want
      refine q_callB (W := t1) (.bool false) 52 #[(.int .i64 d.id), (.agg #[.int .i64 d.jid, .slice d.js.a d.js.n d.js.c])] (fun w' hw' => by go_simp) (fun w' hw' => (isMember_any d.id d.jid d.js.v d.jms w' (show Hid (RI w' d.js.v d.jms) from HJ.out.stays hw') hjl).mono fun e w1 ⟨he, hb⟩ => ⟨by rw [he]; exact congrArg (fun b => Ending.returned (Value.bool b)) KM.out, hb⟩) ?_
      go_big_quiet_on
      simp only [Act.put, List.setIfInBounds_toArray, List.set_cons_zero, List.set_cons_succ]
      go_big_quiet_want
      refine q_val (.bool false) (fun w' hw' => by go_simp) ?_
      go_big_quiet_on
      simp only [Act.put, List.setIfInBounds_toArray, List.set_cons_zero, List.set_cons_succ]
      go_big_quiet_skip
      go_big_quiet_skip
      go_big_quiet_skip
      go_big_quiet_skip
      go_big_quiet_skip
      go_big_quiet_skip
      go_big_quiet_skip
      go_big_quiet_skip
      go_big_quiet_skip
      go_big_quiet_want
      refine q_val (.bool false) (fun w' hw' => by go_simp) ?_
      go_big_quiet_on
      simp only [Act.put, List.setIfInBounds_toArray, List.set_cons_zero, List.set_cons_succ]
      go_big_quiet_want
      refine q_val (.bool false) (fun w' hw' => by go_simp) ?_
      go_big_quiet_on
      simp only [Act.put, List.setIfInBounds_toArray, List.set_cons_zero, List.set_cons_succ]
      go_big_quiet_skip
      go_big_quiet_skip
      go_big_quiet_skip
      go_big_quiet_skip
      go_big_quiet_skip
      go_big_quiet_skip
      go_big_quiet_skip
      go_big_quiet_skip
      go_big_quiet_skip
      go_big_quiet_skip
      go_big_quiet_want
      refine q_val (.bool false) (fun w' hw' => by go_simp) ?_
      go_big_quiet_on
      simp only [Act.put, List.setIfInBounds_toArray, List.set_cons_zero, List.set_cons_succ]
      go_big_quiet_want
      refine q_val (.bool false) (fun w' hw' => by go_simp) ?_
      go_big_quiet_on
      simp only [Act.put, List.setIfInBounds_toArray, List.set_cons_zero, List.set_cons_succ]
      refine wpQuiet_nil ?_
      intro w9 h9
      have BW : Hid (Below w.heap.size w w9) := bl_next BW.out h9
      clear h9
      go_wp2_with fail
      go_ret
      exact ⟨rfl, BW.out⟩
    | true =>
      cases J with
      | false =>
        have e : dmJ d = false := by
          unfold dmJ
          simp only [K1.out, KM.out, KJ.out, Bool.false_and, Bool.true_and, Bool.and_false, Bool.and_true, cond_true, cond_false]
        rw [hR.out] at e
        clear hR
        subst e
        refine quietC (C := fun w' => Below t1.heap.size t1 w') (by kernel_rfl) (by kernel_rfl) (Below.refl _ _).drew ?_
        go_big_quiet_want
        refine q_val (.pointer (some ⟨w.heap.size, 0, none⟩)) (fun w' hw' => by go_simp) ?_
        go_big_quiet_on
        simp only [Act.put, List.setIfInBounds_toArray, List.set_cons_zero, List.set_cons_succ]
        go_big_quiet_want
        refine q_val (.int .i64 d.id) (fun w' hw' => by have r0 : w'.cell? ⟨w.heap.size, 0, none⟩ = some (.int .i64 d.id) := (LA.out.later hw').cell 0; go_simp) ?_
        go_big_quiet_on
        simp only [Act.put, List.setIfInBounds_toArray, List.set_cons_zero, List.set_cons_succ]
        go_big_quiet_want
        refine q_val (.pointer (some ⟨w.heap.size, 20, none⟩)) (fun w' hw' => by go_simp) ?_
        go_big_quiet_on
        simp only [Act.put, List.setIfInBounds_toArray, List.set_cons_zero, List.set_cons_succ]
        go_big_quiet_want
        refine q_val (.agg #[.int .i64 d.jid, .slice d.js.a d.js.n d.js.c]) (fun w' hw' => by have r20 : w'.cell? ⟨w.heap.size, 20, none⟩ = some (.int .i64 d.jid) := (LA.out.later hw').cell 20; have r21 : w'.cell? ⟨w.heap.size, 21, none⟩ = some (.slice d.js.a d.js.n d.js.c) := (LA.out.later hw').cell 21; go_simp) ?_
        go_big_quiet_on
        simp only [Act.put, List.setIfInBounds_toArray, List.set_cons_zero, List.set_cons_succ]
        go_big_quiet_want
        refine q_callB (W := t1) (.bool true) 52 #[(.int .i64 d.id), (.agg #[.int .i64 d.jid, .slice d.js.a d.js.n d.js.c])] (fun w' hw' => by go_simp) (fun w' hw' => (isMember_any d.id d.jid d.js.v d.jms w' (show Hid (RI w' d.js.v d.jms) from HJ.out.stays hw') hjl).mono fun e w1 ⟨he, hb⟩ => ⟨by rw [he]; exact congrArg (fun b => Ending.returned (Value.bool b)) KM.out, hb⟩) ?_
        go_big_quiet_on
        simp only [Act.put, List.setIfInBounds_toArray, List.set_cons_zero, List.set_cons_succ]
        go_big_quiet_want
        refine q_val (.bool true) (fun w' hw' => by go_simp) ?_
        go_big_quiet_on
        simp only [Act.put, List.setIfInBounds_toArray, List.set_cons_zero, List.set_cons_succ]
        go_big_quiet_want
        refine q_val (.pointer (some ⟨w.heap.size, 20, none⟩)) (fun w' hw' => by go_simp) ?_
        go_big_quiet_on
        simp only [Act.put, List.setIfInBounds_toArray, List.set_cons_zero, List.set_cons_succ]
        go_big_quiet_want
        refine q_val (.pointer (some ⟨w.heap.size, 20, none⟩)) (fun w' hw' => by go_simp) ?_
        go_big_quiet_on
        simp only [Act.put, List.setIfInBounds_toArray, List.set_cons_zero, List.set_cons_succ]
        go_big_quiet_want
        refine q_val (.int .i64 d.jid) (fun w' hw' => by have r20 : w'.cell? ⟨w.heap.size, 20, none⟩ = some (.int .i64 d.jid) := (LA.out.later hw').cell 20; go_simp) ?_
        go_big_quiet_on
        simp only [Act.put, List.setIfInBounds_toArray, List.set_cons_zero, List.set_cons_succ]
        go_big_quiet_want
        refine q_val (.pointer (some ⟨w.heap.size, 19, none⟩)) (fun w' hw' => by go_simp) ?_
        go_big_quiet_on
        simp only [Act.put, List.setIfInBounds_toArray, List.set_cons_zero, List.set_cons_succ]
        go_big_quiet_want
        refine q_val (.int .i64 d.old) (fun w' hw' => by have r19 : w'.cell? ⟨w.heap.size, 19, none⟩ = some (.int .i64 d.old) := (LA.out.later hw').cell 19; go_simp) ?_
        go_big_quiet_on
        simp only [Act.put, List.setIfInBounds_toArray, List.set_cons_zero, List.set_cons_succ]
        go_big_quiet_want
        refine q_val (.int .i64 ((d.old + 1))) (fun w' hw' => by go_simp) ?_
        go_big_quiet_on
        simp only [Act.put, List.setIfInBounds_toArray, List.set_cons_zero, List.set_cons_succ]
        go_big_quiet_want
        refine q_val (.pointer (some ⟨w.heap.size, 18, none⟩)) (fun w' hw' => by go_simp) ?_
        go_big_quiet_on
        simp only [Act.put, List.setIfInBounds_toArray, List.set_cons_zero, List.set_cons_succ]
        go_big_quiet_want
        refine q_val (.int .i64 d.most) (fun w' hw' => by have r18 : w'.cell? ⟨w.heap.size, 18, none⟩ = some (.int .i64 d.most) := (LA.out.later hw').cell 18; go_simp) ?_
        go_big_quiet_on
        simp only [Act.put, List.setIfInBounds_toArray, List.set_cons_zero, List.set_cons_succ]
        go_big_quiet_want
        refine q_callB (W := t1) (.bool false) 26 #[(.int .i64 d.jid), (.int .i64 ((d.old + 1))), (.int .i64 d.most)] (fun w' hw' => by go_simp) (fun w' hw' => (within_b d.jid (d.old + 1) d.most w').mono fun e w1 ⟨he, hb⟩ => ⟨by rw [he]; exact congrArg (fun b => Ending.returned (Value.bool b)) KJ.out, hb⟩) ?_
        go_big_quiet_on
        simp only [Act.put, List.setIfInBounds_toArray, List.set_cons_zero, List.set_cons_succ]
        go_big_quiet_want
        refine q_val (.bool false) (fun w' hw' => by go_simp) ?_
        go_big_quiet_on
        simp only [Act.put, List.setIfInBounds_toArray, List.set_cons_zero, List.set_cons_succ]
        go_big_quiet_want
        refine q_val (.bool false) (fun w' hw' => by go_simp) ?_
        go_big_quiet_on
        simp only [Act.put, List.setIfInBounds_toArray, List.set_cons_zero, List.set_cons_succ]
        go_big_quiet_skip
        go_big_quiet_skip
        go_big_quiet_skip
        go_big_quiet_skip
        go_big_quiet_skip
        go_big_quiet_skip
        go_big_quiet_skip
        go_big_quiet_skip
        go_big_quiet_skip
        go_big_quiet_skip
        go_big_quiet_want
        refine q_val (.bool false) (fun w' hw' => by go_simp) ?_
        go_big_quiet_on
        simp only [Act.put, List.setIfInBounds_toArray, List.set_cons_zero, List.set_cons_succ]
        go_big_quiet_want
        refine q_val (.bool false) (fun w' hw' => by go_simp) ?_
        go_big_quiet_on
        simp only [Act.put, List.setIfInBounds_toArray, List.set_cons_zero, List.set_cons_succ]
        refine wpQuiet_nil ?_
        intro w9 h9
        have BW : Hid (Below w.heap.size w w9) := bl_next BW.out h9
        clear h9
        go_wp2_with fail
        go_ret
        exact ⟨rfl, BW.out⟩
      | true =>
        have c : Below t1.heap.size t1 t1.drew := (Below.refl _ _).drew
        refine wp_region_held_drew (S := fun w' => Below t1.heap.size t1 w') (by kernel_rfl) c (fun hHeld => ?_)
        refine wpAnyH_take (i := 0) (v := ?v0b1) rfl (by kernel_rfl) (by kernel_rfl) (by kernel_rfl) (fun _ _ _ h => h) (Or.inl ⟨by rfl, ?hy0b1⟩) (by assumption) ?_
        case hy0b1 => (intro w hSw; (try dsimp only at hSw); simp only [List.getElem_toArray, List.getElem_cons_zero, List.getElem_cons_succ]; go_simp; try with_reducible rfl)
        try simp only [Act.put, List.getElem_toArray, List.getElem_cons_zero, List.getElem_cons_succ, List.setIfInBounds_toArray, List.set_cons_zero, List.set_cons_succ]
        refine wpAnyH_take (i := 1) (v := _) rfl (by kernel_rfl) (by kernel_rfl) (by kernel_rfl) (fun _ _ _ h => h) (ld1_yield (by rfl) 3 _ rfl w.heap.size 0 rfl 45 _ (fun w hS => LA.out.later hS) (.int .i64 d.id) rfl _ Try.underlying3 rfl) (by assumption) ?_
        try simp only [Act.put, List.getElem_toArray, List.getElem_cons_zero, List.getElem_cons_succ, List.setIfInBounds_toArray, List.set_cons_zero, List.set_cons_succ]
        refine wpAnyH_take (i := 2) (v := ?v2b3) rfl (by kernel_rfl) (by kernel_rfl) (by kernel_rfl) (fun _ _ _ h => h) (Or.inl ⟨by rfl, ?hy2b3⟩) (by assumption) ?_
        case hy2b3 => (intro w hSw; (try dsimp only at hSw); simp only [List.getElem_toArray, List.getElem_cons_zero, List.getElem_cons_succ]; go_simp; try with_reducible rfl)
        try simp only [Act.put, List.getElem_toArray, List.getElem_cons_zero, List.getElem_cons_succ, List.setIfInBounds_toArray, List.set_cons_zero, List.set_cons_succ]
        refine wpAnyH_take (i := 3) (v := _) rfl (by kernel_rfl) (by kernel_rfl) (by kernel_rfl) (fun _ _ _ h => h) (ld_yield (by rfl) 37 _ rfl w.heap.size 20 rfl 45 _ (fun w hS => LA.out.later hS) [.int .i64 d.jid, .slice d.js.a d.js.n d.js.c] rfl _ Try.underlying37 rfl Try.sizeR) (by assumption) ?_
        try simp only [Act.put, List.getElem_toArray, List.getElem_cons_zero, List.getElem_cons_succ, List.setIfInBounds_toArray, List.set_cons_zero, List.set_cons_succ]
        refine wpAnyH_ready (rs := [4]) (by kernel_rfl) (by simp) ?_
        refine AllReadyH.cons (i := 4) rfl (fun K hK => ?_) AllReadyH.nil
        rw [if_pos (by rfl)]
        simp only [List.getElem_toArray, List.getElem_cons_zero, List.getElem_cons_succ]
        go_simp
        refine (isMember_any d.id d.jid d.js.v d.jms _ (show Hid (RI t1.drew d.js.v d.jms) from HJ.out.stays c) hjl).mono ?_
        rintro e y1 ⟨rfl, b⟩
        rw [show (ringB d.jid d.jms && inB d.jms d.id) = true from KM.out]
        have c : Below t1.heap.size t1 y1 := bl_next c b
        refine hK.out _ _ (c) (fun hHeld => ?_)
        clear hK K
        try simp only [Act.put, List.getElem_toArray, List.getElem_cons_zero, List.getElem_cons_succ, List.setIfInBounds_toArray, List.set_cons_zero, List.set_cons_succ]
        clear b
        refine wpAnyH_take (i := 5) (v := ?v5b5) rfl (by kernel_rfl) (by kernel_rfl) (by kernel_rfl) (fun _ _ _ h => h) (Or.inl ⟨by rfl, ?hy5b5⟩) (by assumption) ?_
        case hy5b5 => (intro w hSw; (try dsimp only at hSw); simp only [List.getElem_toArray, List.getElem_cons_zero, List.getElem_cons_succ]; go_simp; try with_reducible rfl)
        try simp only [Act.put, List.getElem_toArray, List.getElem_cons_zero, List.getElem_cons_succ, List.setIfInBounds_toArray, List.set_cons_zero, List.set_cons_succ]
        refine wpAnyH_take (i := 6) (v := ?v6b6) rfl (by kernel_rfl) (by kernel_rfl) (by kernel_rfl) (fun _ _ _ h => h) (Or.inl ⟨by rfl, ?hy6b6⟩) (by assumption) ?_
        case hy6b6 => (intro w hSw; (try dsimp only at hSw); simp only [List.getElem_toArray, List.getElem_cons_zero, List.getElem_cons_succ]; go_simp; try with_reducible rfl)
        try simp only [Act.put, List.getElem_toArray, List.getElem_cons_zero, List.getElem_cons_succ, List.setIfInBounds_toArray, List.set_cons_zero, List.set_cons_succ]
        refine wpAnyH_take (i := 7) (v := ?v7b7) rfl (by kernel_rfl) (by kernel_rfl) (by kernel_rfl) (fun _ _ _ h => h) (Or.inl ⟨by rfl, ?hy7b7⟩) (by assumption) ?_
        case hy7b7 => (intro w hSw; (try dsimp only at hSw); simp only [List.getElem_toArray, List.getElem_cons_zero, List.getElem_cons_succ]; go_simp; try with_reducible rfl)
        try simp only [Act.put, List.getElem_toArray, List.getElem_cons_zero, List.getElem_cons_succ, List.setIfInBounds_toArray, List.set_cons_zero, List.set_cons_succ]
        refine wpAnyH_take (i := 8) (v := _) rfl (by kernel_rfl) (by kernel_rfl) (by kernel_rfl) (fun _ _ _ h => h) (ld1_yield (by rfl) 3 _ rfl w.heap.size 20 rfl 45 _ (fun w hS => LA.out.later hS) (.int .i64 d.jid) rfl _ Try.underlying3 rfl) (by assumption) ?_
        try simp only [Act.put, List.getElem_toArray, List.getElem_cons_zero, List.getElem_cons_succ, List.setIfInBounds_toArray, List.set_cons_zero, List.set_cons_succ]
        refine wpAnyH_take (i := 9) (v := ?v9b9) rfl (by kernel_rfl) (by kernel_rfl) (by kernel_rfl) (fun _ _ _ h => h) (Or.inl ⟨by rfl, ?hy9b9⟩) (by assumption) ?_
        case hy9b9 => (intro w hSw; (try dsimp only at hSw); simp only [List.getElem_toArray, List.getElem_cons_zero, List.getElem_cons_succ]; go_simp; try with_reducible rfl)
        try simp only [Act.put, List.getElem_toArray, List.getElem_cons_zero, List.getElem_cons_succ, List.setIfInBounds_toArray, List.set_cons_zero, List.set_cons_succ]
        refine wpAnyH_take (i := 10) (v := _) rfl (by kernel_rfl) (by kernel_rfl) (by kernel_rfl) (fun _ _ _ h => h) (ld1_yield (by rfl) 3 _ rfl w.heap.size 19 rfl 45 _ (fun w hS => LA.out.later hS) (.int .i64 d.old) rfl _ Try.underlying3 rfl) (by assumption) ?_
        try simp only [Act.put, List.getElem_toArray, List.getElem_cons_zero, List.getElem_cons_succ, List.setIfInBounds_toArray, List.set_cons_zero, List.set_cons_succ]
        refine wpAnyH_take (i := 11) (v := ?v11b11) rfl (by kernel_rfl) (by kernel_rfl) (by kernel_rfl) (fun _ _ _ h => h) (Or.inl ⟨by rfl, ?hy11b11⟩) (by assumption) ?_
        case hy11b11 => (intro w hSw; (try dsimp only at hSw); simp only [List.getElem_toArray, List.getElem_cons_zero, List.getElem_cons_succ]; go_simp; try with_reducible rfl)
        try simp only [Act.put, List.getElem_toArray, List.getElem_cons_zero, List.getElem_cons_succ, List.setIfInBounds_toArray, List.set_cons_zero, List.set_cons_succ]
        refine wpAnyH_take (i := 12) (v := ?v12b12) rfl (by kernel_rfl) (by kernel_rfl) (by kernel_rfl) (fun _ _ _ h => h) (Or.inl ⟨by rfl, ?hy12b12⟩) (by assumption) ?_
        case hy12b12 => (intro w hSw; (try dsimp only at hSw); simp only [List.getElem_toArray, List.getElem_cons_zero, List.getElem_cons_succ]; go_simp; try with_reducible rfl)
        try simp only [Act.put, List.getElem_toArray, List.getElem_cons_zero, List.getElem_cons_succ, List.setIfInBounds_toArray, List.set_cons_zero, List.set_cons_succ]
        refine wpAnyH_take (i := 13) (v := _) rfl (by kernel_rfl) (by kernel_rfl) (by kernel_rfl) (fun _ _ _ h => h) (ld1_yield (by rfl) 3 _ rfl w.heap.size 18 rfl 45 _ (fun w hS => LA.out.later hS) (.int .i64 d.most) rfl _ Try.underlying3 rfl) (by assumption) ?_
        try simp only [Act.put, List.getElem_toArray, List.getElem_cons_zero, List.getElem_cons_succ, List.setIfInBounds_toArray, List.set_cons_zero, List.set_cons_succ]
        refine wpAnyH_ready (rs := [14]) (by kernel_rfl) (by simp) ?_
        refine AllReadyH.cons (i := 14) rfl (fun K hK => ?_) AllReadyH.nil
        rw [if_pos (by rfl)]
        simp only [List.getElem_toArray, List.getElem_cons_zero, List.getElem_cons_succ]
        go_simp
        refine (within_b d.jid (d.old + 1) d.most _).mono ?_
        rintro e y2 ⟨rfl, b⟩
        rw [show decide (d.old + 1 ≤ d.jid ∧ d.jid ≤ d.most) = true from KJ.out]
        have c : Below t1.heap.size t1 y2 := bl_next c b
        refine hK.out _ _ (c) (fun hHeld => ?_)
        clear hK K
        try simp only [Act.put, List.getElem_toArray, List.getElem_cons_zero, List.getElem_cons_succ, List.setIfInBounds_toArray, List.set_cons_zero, List.set_cons_succ]
        clear b
        refine wpAnyH_take (i := 15) (v := ?v15b14) rfl (by kernel_rfl) (by kernel_rfl) (by kernel_rfl) (fun _ _ _ h => h) (Or.inl ⟨by rfl, ?hy15b14⟩) (by assumption) ?_
        case hy15b14 => (intro w hSw; (try dsimp only at hSw); simp only [List.getElem_toArray, List.getElem_cons_zero, List.getElem_cons_succ]; go_simp; try with_reducible rfl)
        try simp only [Act.put, List.getElem_toArray, List.getElem_cons_zero, List.getElem_cons_succ, List.setIfInBounds_toArray, List.set_cons_zero, List.set_cons_succ]
        refine wpAnyH_take (i := 16) (v := ?v16b15) rfl (by kernel_rfl) (by kernel_rfl) (by kernel_rfl) (fun _ _ _ h => h) (Or.inl ⟨by rfl, ?hy16b15⟩) (by assumption) ?_
        case hy16b15 => (intro w hSw; (try dsimp only at hSw); simp only [List.getElem_toArray, List.getElem_cons_zero, List.getElem_cons_succ]; go_simp; try with_reducible rfl)
        try simp only [Act.put, List.getElem_toArray, List.getElem_cons_zero, List.getElem_cons_succ, List.setIfInBounds_toArray, List.set_cons_zero, List.set_cons_succ]
        refine wpAnyH_take (i := 17) (v := ?v17b16) rfl (by kernel_rfl) (by kernel_rfl) (by kernel_rfl) (fun _ _ _ h => h) (Or.inl ⟨by rfl, ?hy17b16⟩) (by assumption) ?_
        case hy17b16 => (intro w hSw; (try dsimp only at hSw); simp only [List.getElem_toArray, List.getElem_cons_zero, List.getElem_cons_succ]; go_simp; try with_reducible rfl)
        try simp only [Act.put, List.getElem_toArray, List.getElem_cons_zero, List.getElem_cons_succ, List.setIfInBounds_toArray, List.set_cons_zero, List.set_cons_succ]
        refine wpAnyH_take (i := 18) (v := _) rfl (by kernel_rfl) (by kernel_rfl) (by kernel_rfl) (fun _ _ _ h => h) (ld1_yield (by rfl) 42 _ rfl w.heap.size 22 rfl 45 _ (fun w hS => LA.out.later hS) (.slice d.bs.a d.bs.n d.bs.c) rfl _ Try.underlying42 rfl) (by assumption) ?_
        try simp only [Act.put, List.getElem_toArray, List.getElem_cons_zero, List.getElem_cons_succ, List.setIfInBounds_toArray, List.set_cons_zero, List.set_cons_succ]
        refine wpAnyH_take (i := 19) (v := _) rfl (by kernel_rfl) (by kernel_rfl) (by kernel_rfl) (fun _ _ _ h => h) (ld_yield (by rfl) 45 _ rfl w.heap.size 0 rfl 45 _ (fun w hS => LA.out.later hS) [.int .i64 d.id, .bool true, .int .i64 d.m.id, .int .i64 d.m.rid, .slice d.mv.ms.a d.mv.ms.n d.mv.ms.c, .slice d.mv.its.a d.mv.its.n d.mv.its.c, .slice d.mv.lv.a d.mv.lv.n d.mv.lv.c, .slice d.mv.tx.a d.mv.tx.n d.mv.tx.c, .int .i64 d.m.rd, .int .i64 d.m.se, .int .i64 d.m.li, .int .i64 d.m.he, .int .i64 d.m.la.c, .int .i64 d.m.la.r, .int .i64 d.m.la.q, .int .i64 d.m.la.a, .int .i64 d.m.la.b, .slice d.mv.ws.a d.mv.ws.n d.mv.ws.c, .int .i64 d.most, .int .i64 d.old, .int .i64 d.jid, .slice d.js.a d.js.n d.js.c, .slice d.bs.a d.bs.n d.bs.c, .slice d.ls.a d.ls.n d.ls.c] rfl _ Try.underlying45 rfl Try.sizeDa) (by assumption) ?_
        try simp only [Act.put, List.getElem_toArray, List.getElem_cons_zero, List.getElem_cons_succ, List.setIfInBounds_toArray, List.set_cons_zero, List.set_cons_succ]
        refine wpAnyH_take (i := 20) (v := ?v20b19) rfl (by kernel_rfl) (by kernel_rfl) (by kernel_rfl) (fun _ _ _ h => h) (Or.inl ⟨by rfl, ?hy20b19⟩) (by assumption) ?_
        case hy20b19 => (intro w hSw; (try dsimp only at hSw); simp only [List.getElem_toArray, List.getElem_cons_zero, List.getElem_cons_succ]; go_simp; try with_reducible rfl)
        try simp only [Act.put, List.getElem_toArray, List.getElem_cons_zero, List.getElem_cons_succ, List.setIfInBounds_toArray, List.set_cons_zero, List.set_cons_succ]
        refine wpAnyH_take (i := 23) (v := ?v23b20) rfl (by kernel_rfl) (by kernel_rfl) (by kernel_rfl) (fun _ _ _ h => h) (Or.inl ⟨by rfl, ?hy23b20⟩) (by assumption) ?_
        case hy23b20 => (intro w hSw; (try dsimp only at hSw); simp only [List.getElem_toArray, List.getElem_cons_zero, List.getElem_cons_succ]; go_simp; try with_reducible rfl)
        try simp only [Act.put, List.getElem_toArray, List.getElem_cons_zero, List.getElem_cons_succ, List.setIfInBounds_toArray, List.set_cons_zero, List.set_cons_succ]
        refine wpAnyH_take (i := 24) (v := _) rfl (by kernel_rfl) (by kernel_rfl) (by kernel_rfl) (fun _ _ _ h => h) (ld1_yield (by rfl) 42 _ rfl w.heap.size 22 rfl 45 _ (fun w hS => LA.out.later hS) (.slice d.bs.a d.bs.n d.bs.c) rfl _ Try.underlying42 rfl) (by assumption) ?_
        try simp only [Act.put, List.getElem_toArray, List.getElem_cons_zero, List.getElem_cons_succ, List.setIfInBounds_toArray, List.set_cons_zero, List.set_cons_succ]
        refine wpAnyH_take (i := 25) (v := ?v25b22) rfl (by kernel_rfl) (by kernel_rfl) (by kernel_rfl) (fun _ _ _ h => h) (Or.inl ⟨by rfl, ?hy25b22⟩) (by assumption) ?_
        case hy25b22 => (intro w hSw; (try dsimp only at hSw); simp only [List.getElem_toArray, List.getElem_cons_zero, List.getElem_cons_succ]; go_simp; try with_reducible rfl)
        try simp only [Act.put, List.getElem_toArray, List.getElem_cons_zero, List.getElem_cons_succ, List.setIfInBounds_toArray, List.set_cons_zero, List.set_cons_succ]
        refine wpAnyH_ready (rs := [21]) (by kernel_rfl) (by simp) ?_
        refine AllReadyH.cons (i := 21) rfl (fun K hK => ?_) AllReadyH.nil
        rw [if_pos (by rfl)]
        simp only [List.getElem_toArray, List.getElem_cons_zero, List.getElem_cons_succ]
        go_simp
        have hk := keptM_any d d.bs d.bu y2 (show Hid (BusR y2 d.bs d.bu) from HB.out.stays c) hs.out.bus.1 hs.out.bus.2
        rw [hdd.out] at hk
        refine hk.mono ?_
        clear hk
        rintro e y3 ⟨u, rfl, hu, b⟩
        have HU : Hid (u.n = (d.bu.filter (myB d)).length) := hu
        have c : Below t1.heap.size t1 y3 := bl_next c b
        refine hK.out _ _ (c) (fun hHeld => ?_)
        clear hK K
        try simp only [Act.put, List.getElem_toArray, List.getElem_cons_zero, List.getElem_cons_succ, List.setIfInBounds_toArray, List.set_cons_zero, List.set_cons_succ]
        clear b hu
        refine wpAnyH_take (i := 22) (v := ?v22b23) rfl (by kernel_rfl) (by kernel_rfl) (by kernel_rfl) (fun _ _ _ h => h) (Or.inl ⟨by rfl, ?hy22b23⟩) (by assumption) ?_
        case hy22b23 => (intro w hSw; (try dsimp only at hSw); simp only [List.getElem_toArray, List.getElem_cons_zero, List.getElem_cons_succ]; go_simp; try with_reducible rfl)
        try simp only [Act.put, List.getElem_toArray, List.getElem_cons_zero, List.getElem_cons_succ, List.setIfInBounds_toArray, List.set_cons_zero, List.set_cons_succ]
        refine wpAnyH_take (i := 26) (v := ?v26b24) rfl (by kernel_rfl) (by kernel_rfl) (by kernel_rfl) (fun _ _ _ h => h) (Or.inl ⟨by rfl, ?hy26b24⟩) (by assumption) ?_
        case hy26b24 => (intro w hSw; (try dsimp only at hSw); simp only [List.getElem_toArray, List.getElem_cons_zero, List.getElem_cons_succ]; go_simp; try with_reducible rfl)
        try simp only [Act.put, List.getElem_toArray, List.getElem_cons_zero, List.getElem_cons_succ, List.setIfInBounds_toArray, List.set_cons_zero, List.set_cons_succ]
        refine wpAnyH_take (i := 27) (v := ?v27b25) rfl (by kernel_rfl) (by kernel_rfl) (by kernel_rfl) (fun _ _ _ h => h) (Or.inl ⟨by rfl, ?hy27b25⟩) (by assumption) ?_
        case hy27b25 => (intro w hSw; (try dsimp only at hSw); simp only [List.getElem_toArray, List.getElem_cons_zero, List.getElem_cons_succ]; go_simp; try with_reducible rfl)
        try simp only [Act.put, List.getElem_toArray, List.getElem_cons_zero, List.getElem_cons_succ, List.setIfInBounds_toArray, List.set_cons_zero, List.set_cons_succ]
        refine wpAnyH_take (i := 28) (v := ?v28b26) rfl (by kernel_rfl) (by kernel_rfl) (by kernel_rfl) (fun _ _ _ h => h) (Or.inl ⟨by rfl, ?hy28b26⟩) (by assumption) ?_
        case hy28b26 => (intro w hSw; (try dsimp only at hSw); simp only [List.getElem_toArray, List.getElem_cons_zero, List.getElem_cons_succ]; go_simp; try with_reducible rfl)
        try simp only [Act.put, List.getElem_toArray, List.getElem_cons_zero, List.getElem_cons_succ, List.setIfInBounds_toArray, List.set_cons_zero, List.set_cons_succ]
        refine wpAnyH_done (by kernel_rfl) ?_ _
        have BW : Hid (Below w.heap.size w y3) := bl_next BW.out c
        have e : dmJ d = ((u.n : Int) == (d.bs.n : Int)) := by
          unfold dmJ
          simp only [K1.out, KM.out, KJ.out, Bool.true_and, cond_true, cond_false]
          unfold ksB
          rw [HU.out]
        rw [hR.out] at e
        clear hR c hHeld
        subst e
        go_wp2_with fail
        go_ret
        exact ⟨rfl, BW.out⟩
  | true =>
    have c22 := LA.out.cell 22
    simp only [List.getElem?_cons_succ, List.getElem?_cons_zero] at c22
    obtain ⟨R2, k2⟩ : ∃ R : Bool, ((d.bs.n : Int) == 0) = R := ⟨_, rfl⟩
    have K2 : Hid (((d.bs.n : Int) == 0) = R2) := k2
    cases R2 with
    | false =>
      have e : dmJ d = false := by
        unfold dmJ
        simp only [K1.out, K2.out, Bool.false_and, Bool.true_and, Bool.and_false, Bool.and_true, Bool.not_true, Bool.not_false, Bool.or_true, Bool.true_or, Bool.or_false, Bool.false_or, cond_true, cond_false]
      rw [hR.out] at e
      clear hR
      subst e
      go_wp2_with fail
      go_ret
      exact ⟨rfl, BW.out⟩
    | true =>
      have e : dmJ d = true := by
        unfold dmJ
        simp only [K1.out, K2.out, Bool.false_and, Bool.true_and, Bool.and_false, Bool.and_true, Bool.not_true, Bool.not_false, Bool.or_true, Bool.true_or, Bool.or_false, Bool.false_or, cond_true, cond_false]
      rw [hR.out] at e
      clear hR
      subst e
      go_wp2_with fail
      go_ret
      exact ⟨rfl, BW.out⟩
set_option maxRecDepth 100000 in
set_option maxHeartbeats 16000000 in
theorem joiningOk_false (d : Dm) (w : World) (hdd : Hid (d.dead = false)) (hj : Hid (RI w d.js.v d.jms)) (hb : Hid (BusR w d.bs d.bu)) (hs : Hid (DmS d)) (ho : 0 ≤ d.old ∧ d.old ≤ 9) :
    Calls Try.prog 28 #[.agg #[.int .i64 d.id, .bool false, .int .i64 d.m.id, .int .i64 d.m.rid, .slice d.mv.ms.a d.mv.ms.n d.mv.ms.c, .slice d.mv.its.a d.mv.its.n d.mv.its.c, .slice d.mv.lv.a d.mv.lv.n d.mv.lv.c, .slice d.mv.tx.a d.mv.tx.n d.mv.tx.c, .int .i64 d.m.rd, .int .i64 d.m.se, .int .i64 d.m.li, .int .i64 d.m.he, .int .i64 d.m.la.c, .int .i64 d.m.la.r, .int .i64 d.m.la.q, .int .i64 d.m.la.a, .int .i64 d.m.la.b, .slice d.mv.ws.a d.mv.ws.n d.mv.ws.c, .int .i64 d.most, .int .i64 d.old, .int .i64 d.jid, .slice d.js.a d.js.n d.js.c, .slice d.bs.a d.bs.n d.bs.c, .slice d.ls.a d.ls.n d.ls.c]] w fun e w' => e = .returned (.bool (dmJ d)) ∧ Below w.heap.size w w' := by
  obtain ⟨R, hR0⟩ : ∃ R, dmJ d = R := ⟨_, rfl⟩
  rw [hR0]
  have hR : Hid (dmJ d = R) := hR0
  clear hR0
  have LA : Hid (Bx (w.alloc (.cells #[.int .i64 d.id, .bool false, .int .i64 d.m.id, .int .i64 d.m.rid, .slice d.mv.ms.a d.mv.ms.n d.mv.ms.c, .slice d.mv.its.a d.mv.its.n d.mv.its.c, .slice d.mv.lv.a d.mv.lv.n d.mv.lv.c, .slice d.mv.tx.a d.mv.tx.n d.mv.tx.c, .int .i64 d.m.rd, .int .i64 d.m.se, .int .i64 d.m.li, .int .i64 d.m.he, .int .i64 d.m.la.c, .int .i64 d.m.la.r, .int .i64 d.m.la.q, .int .i64 d.m.la.a, .int .i64 d.m.la.b, .slice d.mv.ws.a d.mv.ws.n d.mv.ws.c, .int .i64 d.most, .int .i64 d.old, .int .i64 d.jid, .slice d.js.a d.js.n d.js.c, .slice d.bs.a d.bs.n d.bs.c, .slice d.ls.a d.ls.n d.ls.c] 45)) w.heap.size 45 [.int .i64 d.id, .bool false, .int .i64 d.m.id, .int .i64 d.m.rid, .slice d.mv.ms.a d.mv.ms.n d.mv.ms.c, .slice d.mv.its.a d.mv.its.n d.mv.its.c, .slice d.mv.lv.a d.mv.lv.n d.mv.lv.c, .slice d.mv.tx.a d.mv.tx.n d.mv.tx.c, .int .i64 d.m.rd, .int .i64 d.m.se, .int .i64 d.m.li, .int .i64 d.m.he, .int .i64 d.m.la.c, .int .i64 d.m.la.r, .int .i64 d.m.la.q, .int .i64 d.m.la.a, .int .i64 d.m.la.b, .slice d.mv.ws.a d.mv.ws.n d.mv.ws.c, .int .i64 d.most, .int .i64 d.old, .int .i64 d.jid, .slice d.js.a d.js.n d.js.c, .slice d.bs.a d.bs.n d.bs.c, .slice d.ls.a d.ls.n d.ls.c]) := by
    have h := Bx.new w 45 [.int .i64 d.id, .bool false, .int .i64 d.m.id, .int .i64 d.m.rid, .slice d.mv.ms.a d.mv.ms.n d.mv.ms.c, .slice d.mv.its.a d.mv.its.n d.mv.its.c, .slice d.mv.lv.a d.mv.lv.n d.mv.lv.c, .slice d.mv.tx.a d.mv.tx.n d.mv.tx.c, .int .i64 d.m.rd, .int .i64 d.m.se, .int .i64 d.m.li, .int .i64 d.m.he, .int .i64 d.m.la.c, .int .i64 d.m.la.r, .int .i64 d.m.la.q, .int .i64 d.m.la.a, .int .i64 d.m.la.b, .slice d.mv.ws.a d.mv.ws.n d.mv.ws.c, .int .i64 d.most, .int .i64 d.old, .int .i64 d.jid, .slice d.js.a d.js.n d.js.c, .slice d.bs.a d.bs.n d.bs.c, .slice d.ls.a d.ls.n d.ls.c]
    exact h
  have BW : Hid (Below w.heap.size w (w.alloc (.cells #[.int .i64 d.id, .bool false, .int .i64 d.m.id, .int .i64 d.m.rid, .slice d.mv.ms.a d.mv.ms.n d.mv.ms.c, .slice d.mv.its.a d.mv.its.n d.mv.its.c, .slice d.mv.lv.a d.mv.lv.n d.mv.lv.c, .slice d.mv.tx.a d.mv.tx.n d.mv.tx.c, .int .i64 d.m.rd, .int .i64 d.m.se, .int .i64 d.m.li, .int .i64 d.m.he, .int .i64 d.m.la.c, .int .i64 d.m.la.r, .int .i64 d.m.la.q, .int .i64 d.m.la.a, .int .i64 d.m.la.b, .slice d.mv.ws.a d.mv.ws.n d.mv.ws.c, .int .i64 d.most, .int .i64 d.old, .int .i64 d.jid, .slice d.js.a d.js.n d.js.c, .slice d.bs.a d.bs.n d.bs.c, .slice d.ls.a d.ls.n d.ls.c] 45))) := ((Below.refl _ _).alloc (by simp) _)
  have HJ : Hid (RI (w.alloc (.cells #[.int .i64 d.id, .bool false, .int .i64 d.m.id, .int .i64 d.m.rid, .slice d.mv.ms.a d.mv.ms.n d.mv.ms.c, .slice d.mv.its.a d.mv.its.n d.mv.its.c, .slice d.mv.lv.a d.mv.lv.n d.mv.lv.c, .slice d.mv.tx.a d.mv.tx.n d.mv.tx.c, .int .i64 d.m.rd, .int .i64 d.m.se, .int .i64 d.m.li, .int .i64 d.m.he, .int .i64 d.m.la.c, .int .i64 d.m.la.r, .int .i64 d.m.la.q, .int .i64 d.m.la.a, .int .i64 d.m.la.b, .slice d.mv.ws.a d.mv.ws.n d.mv.ws.c, .int .i64 d.most, .int .i64 d.old, .int .i64 d.jid, .slice d.js.a d.js.n d.js.c, .slice d.bs.a d.bs.n d.bs.c, .slice d.ls.a d.ls.n d.ls.c] 45)) d.js.v d.jms) := hj.out.stays BW.out
  have HB : Hid (BusR (w.alloc (.cells #[.int .i64 d.id, .bool false, .int .i64 d.m.id, .int .i64 d.m.rid, .slice d.mv.ms.a d.mv.ms.n d.mv.ms.c, .slice d.mv.its.a d.mv.its.n d.mv.its.c, .slice d.mv.lv.a d.mv.lv.n d.mv.lv.c, .slice d.mv.tx.a d.mv.tx.n d.mv.tx.c, .int .i64 d.m.rd, .int .i64 d.m.se, .int .i64 d.m.li, .int .i64 d.m.he, .int .i64 d.m.la.c, .int .i64 d.m.la.r, .int .i64 d.m.la.q, .int .i64 d.m.la.a, .int .i64 d.m.la.b, .slice d.mv.ws.a d.mv.ws.n d.mv.ws.c, .int .i64 d.most, .int .i64 d.old, .int .i64 d.jid, .slice d.js.a d.js.n d.js.c, .slice d.bs.a d.bs.n d.bs.c, .slice d.ls.a d.ls.n d.ls.c] 45)) d.bs d.bu) := hb.out.stays BW.out
  have HO : Hid (0 ≤ d.old ∧ d.old ≤ 9) := ho
  clear hj hb ho
  go_enter Try.func28, Try.ntmps28
  go_wp2_with (first | (refine wpList_ldG rfl 37 _ rfl w.heap.size 20 rfl 45 _ LA.out [.int .i64 d.jid, .slice d.js.a d.js.n d.js.c] rfl _ Try.underlying37 rfl Try.sizeR ?_))
  refine (noRing_any d.jid d.js _).mono ?_
  rintro e t1 ⟨rfl, b⟩
  have LA : Hid (Bx t1 w.heap.size 45 [.int .i64 d.id, .bool false, .int .i64 d.m.id, .int .i64 d.m.rid, .slice d.mv.ms.a d.mv.ms.n d.mv.ms.c, .slice d.mv.its.a d.mv.its.n d.mv.its.c, .slice d.mv.lv.a d.mv.lv.n d.mv.lv.c, .slice d.mv.tx.a d.mv.tx.n d.mv.tx.c, .int .i64 d.m.rd, .int .i64 d.m.se, .int .i64 d.m.li, .int .i64 d.m.he, .int .i64 d.m.la.c, .int .i64 d.m.la.r, .int .i64 d.m.la.q, .int .i64 d.m.la.a, .int .i64 d.m.la.b, .slice d.mv.ws.a d.mv.ws.n d.mv.ws.c, .int .i64 d.most, .int .i64 d.old, .int .i64 d.jid, .slice d.js.a d.js.n d.js.c, .slice d.bs.a d.bs.n d.bs.c, .slice d.ls.a d.ls.n d.ls.c]) := LA.out.later b
  have BW : Hid (Below w.heap.size w t1) := bl_next BW.out b
  have HJ : Hid (RI t1 d.js.v d.jms) := HJ.out.stays b
  have HB : Hid (BusR t1 d.bs d.bu) := HB.out.stays b
  clear b
  obtain ⟨R1, k1⟩ : ∃ R : Bool, (nrB d.jid d.js.n) = R := ⟨_, rfl⟩
  rw [k1]
  have K1 : Hid ((nrB d.jid d.js.n) = R1) := k1
  clear k1
  cases R1 with
  | false =>
    obtain ⟨M, kM⟩ : ∃ M, mbB d = M := ⟨_, rfl⟩
    have KM : Hid (mbB d = M) := kM
    obtain ⟨J, kJ⟩ : ∃ J, jnB d = J := ⟨_, rfl⟩
    have KJ : Hid (jnB d = J) := kJ
    clear kM kJ
    have hjl := hs.out.jo
    have ho1 := HO.out
    have hwr : IntKind.i64.wrap (d.old + 1) = d.old + 1 := by simp [IntKind.wrap, IntKind.signed, IntKind.bits]; omega
    go_wp2_with fail
    cases M with
    | false =>
      have e : dmJ d = false := by
        unfold dmJ
        simp only [K1.out, KM.out, Bool.false_and, Bool.true_and, Bool.and_false, Bool.and_true, cond_true, cond_false]
      rw [hR.out] at e
      clear hR
      subst e
      refine quietC (C := fun w' => Below t1.heap.size t1 w') (by kernel_rfl) (by kernel_rfl) (Below.refl _ _).drew ?_
      go_big_quiet_want
      refine q_val (.pointer (some ⟨w.heap.size, 0, none⟩)) (fun w' hw' => by go_simp) ?_
      go_big_quiet_on
      simp only [Act.put, List.setIfInBounds_toArray, List.set_cons_zero, List.set_cons_succ]
      go_big_quiet_want
      refine q_val (.int .i64 d.id) (fun w' hw' => by have r0 : w'.cell? ⟨w.heap.size, 0, none⟩ = some (.int .i64 d.id) := (LA.out.later hw').cell 0; go_simp) ?_
      go_big_quiet_on
      simp only [Act.put, List.setIfInBounds_toArray, List.set_cons_zero, List.set_cons_succ]
      go_big_quiet_want
      refine q_val (.pointer (some ⟨w.heap.size, 20, none⟩)) (fun w' hw' => by go_simp) ?_
      go_big_quiet_on
      simp only [Act.put, List.setIfInBounds_toArray, List.set_cons_zero, List.set_cons_succ]
      go_big_quiet_want
      refine q_val (.agg #[.int .i64 d.jid, .slice d.js.a d.js.n d.js.c]) (fun w' hw' => by have r20 : w'.cell? ⟨w.heap.size, 20, none⟩ = some (.int .i64 d.jid) := (LA.out.later hw').cell 20; have r21 : w'.cell? ⟨w.heap.size, 21, none⟩ = some (.slice d.js.a d.js.n d.js.c) := (LA.out.later hw').cell 21; go_simp) ?_
      go_big_quiet_on
      simp only [Act.put, List.setIfInBounds_toArray, List.set_cons_zero, List.set_cons_succ]
      go_big_quiet_want
      refine q_callB (W := t1) (.bool false) 52 #[(.int .i64 d.id), (.agg #[.int .i64 d.jid, .slice d.js.a d.js.n d.js.c])] (fun w' hw' => by go_simp) (fun w' hw' => (isMember_any d.id d.jid d.js.v d.jms w' (show Hid (RI w' d.js.v d.jms) from HJ.out.stays hw') hjl).mono fun e w1 ⟨he, hb⟩ => ⟨by rw [he]; exact congrArg (fun b => Ending.returned (Value.bool b)) KM.out, hb⟩) ?_
      go_big_quiet_on
      simp only [Act.put, List.setIfInBounds_toArray, List.set_cons_zero, List.set_cons_succ]
      go_big_quiet_want
      refine q_val (.bool false) (fun w' hw' => by go_simp) ?_
      go_big_quiet_on
      simp only [Act.put, List.setIfInBounds_toArray, List.set_cons_zero, List.set_cons_succ]
      go_big_quiet_skip
      go_big_quiet_skip
      go_big_quiet_skip
      go_big_quiet_skip
      go_big_quiet_skip
      go_big_quiet_skip
      go_big_quiet_skip
      go_big_quiet_skip
      go_big_quiet_skip
      go_big_quiet_want
      refine q_val (.bool false) (fun w' hw' => by go_simp) ?_
      go_big_quiet_on
      simp only [Act.put, List.setIfInBounds_toArray, List.set_cons_zero, List.set_cons_succ]
      go_big_quiet_want
      refine q_val (.bool false) (fun w' hw' => by go_simp) ?_
      go_big_quiet_on
      simp only [Act.put, List.setIfInBounds_toArray, List.set_cons_zero, List.set_cons_succ]
      go_big_quiet_skip
      go_big_quiet_skip
      go_big_quiet_skip
      go_big_quiet_skip
      go_big_quiet_skip
      go_big_quiet_skip
      go_big_quiet_skip
      go_big_quiet_skip
      go_big_quiet_skip
      go_big_quiet_skip
      go_big_quiet_want
      refine q_val (.bool false) (fun w' hw' => by go_simp) ?_
      go_big_quiet_on
      simp only [Act.put, List.setIfInBounds_toArray, List.set_cons_zero, List.set_cons_succ]
      go_big_quiet_want
      refine q_val (.bool false) (fun w' hw' => by go_simp) ?_
      go_big_quiet_on
      simp only [Act.put, List.setIfInBounds_toArray, List.set_cons_zero, List.set_cons_succ]
      refine wpQuiet_nil ?_
      intro w9 h9
      have BW : Hid (Below w.heap.size w w9) := bl_next BW.out h9
      clear h9
      go_wp2_with fail
      go_ret
      exact ⟨rfl, BW.out⟩
    | true =>
      cases J with
      | false =>
        have e : dmJ d = false := by
          unfold dmJ
          simp only [K1.out, KM.out, KJ.out, Bool.false_and, Bool.true_and, Bool.and_false, Bool.and_true, cond_true, cond_false]
        rw [hR.out] at e
        clear hR
        subst e
        refine quietC (C := fun w' => Below t1.heap.size t1 w') (by kernel_rfl) (by kernel_rfl) (Below.refl _ _).drew ?_
        go_big_quiet_want
        refine q_val (.pointer (some ⟨w.heap.size, 0, none⟩)) (fun w' hw' => by go_simp) ?_
        go_big_quiet_on
        simp only [Act.put, List.setIfInBounds_toArray, List.set_cons_zero, List.set_cons_succ]
        go_big_quiet_want
        refine q_val (.int .i64 d.id) (fun w' hw' => by have r0 : w'.cell? ⟨w.heap.size, 0, none⟩ = some (.int .i64 d.id) := (LA.out.later hw').cell 0; go_simp) ?_
        go_big_quiet_on
        simp only [Act.put, List.setIfInBounds_toArray, List.set_cons_zero, List.set_cons_succ]
        go_big_quiet_want
        refine q_val (.pointer (some ⟨w.heap.size, 20, none⟩)) (fun w' hw' => by go_simp) ?_
        go_big_quiet_on
        simp only [Act.put, List.setIfInBounds_toArray, List.set_cons_zero, List.set_cons_succ]
        go_big_quiet_want
        refine q_val (.agg #[.int .i64 d.jid, .slice d.js.a d.js.n d.js.c]) (fun w' hw' => by have r20 : w'.cell? ⟨w.heap.size, 20, none⟩ = some (.int .i64 d.jid) := (LA.out.later hw').cell 20; have r21 : w'.cell? ⟨w.heap.size, 21, none⟩ = some (.slice d.js.a d.js.n d.js.c) := (LA.out.later hw').cell 21; go_simp) ?_
        go_big_quiet_on
        simp only [Act.put, List.setIfInBounds_toArray, List.set_cons_zero, List.set_cons_succ]
        go_big_quiet_want
        refine q_callB (W := t1) (.bool true) 52 #[(.int .i64 d.id), (.agg #[.int .i64 d.jid, .slice d.js.a d.js.n d.js.c])] (fun w' hw' => by go_simp) (fun w' hw' => (isMember_any d.id d.jid d.js.v d.jms w' (show Hid (RI w' d.js.v d.jms) from HJ.out.stays hw') hjl).mono fun e w1 ⟨he, hb⟩ => ⟨by rw [he]; exact congrArg (fun b => Ending.returned (Value.bool b)) KM.out, hb⟩) ?_
        go_big_quiet_on
        simp only [Act.put, List.setIfInBounds_toArray, List.set_cons_zero, List.set_cons_succ]
        go_big_quiet_want
        refine q_val (.bool true) (fun w' hw' => by go_simp) ?_
        go_big_quiet_on
        simp only [Act.put, List.setIfInBounds_toArray, List.set_cons_zero, List.set_cons_succ]
        go_big_quiet_want
        refine q_val (.pointer (some ⟨w.heap.size, 20, none⟩)) (fun w' hw' => by go_simp) ?_
        go_big_quiet_on
        simp only [Act.put, List.setIfInBounds_toArray, List.set_cons_zero, List.set_cons_succ]
        go_big_quiet_want
        refine q_val (.pointer (some ⟨w.heap.size, 20, none⟩)) (fun w' hw' => by go_simp) ?_
        go_big_quiet_on
        simp only [Act.put, List.setIfInBounds_toArray, List.set_cons_zero, List.set_cons_succ]
        go_big_quiet_want
        refine q_val (.int .i64 d.jid) (fun w' hw' => by have r20 : w'.cell? ⟨w.heap.size, 20, none⟩ = some (.int .i64 d.jid) := (LA.out.later hw').cell 20; go_simp) ?_
        go_big_quiet_on
        simp only [Act.put, List.setIfInBounds_toArray, List.set_cons_zero, List.set_cons_succ]
        go_big_quiet_want
        refine q_val (.pointer (some ⟨w.heap.size, 19, none⟩)) (fun w' hw' => by go_simp) ?_
        go_big_quiet_on
        simp only [Act.put, List.setIfInBounds_toArray, List.set_cons_zero, List.set_cons_succ]
        go_big_quiet_want
        refine q_val (.int .i64 d.old) (fun w' hw' => by have r19 : w'.cell? ⟨w.heap.size, 19, none⟩ = some (.int .i64 d.old) := (LA.out.later hw').cell 19; go_simp) ?_
        go_big_quiet_on
        simp only [Act.put, List.setIfInBounds_toArray, List.set_cons_zero, List.set_cons_succ]
        go_big_quiet_want
        refine q_val (.int .i64 ((d.old + 1))) (fun w' hw' => by go_simp) ?_
        go_big_quiet_on
        simp only [Act.put, List.setIfInBounds_toArray, List.set_cons_zero, List.set_cons_succ]
        go_big_quiet_want
        refine q_val (.pointer (some ⟨w.heap.size, 18, none⟩)) (fun w' hw' => by go_simp) ?_
        go_big_quiet_on
        simp only [Act.put, List.setIfInBounds_toArray, List.set_cons_zero, List.set_cons_succ]
        go_big_quiet_want
        refine q_val (.int .i64 d.most) (fun w' hw' => by have r18 : w'.cell? ⟨w.heap.size, 18, none⟩ = some (.int .i64 d.most) := (LA.out.later hw').cell 18; go_simp) ?_
        go_big_quiet_on
        simp only [Act.put, List.setIfInBounds_toArray, List.set_cons_zero, List.set_cons_succ]
        go_big_quiet_want
        refine q_callB (W := t1) (.bool false) 26 #[(.int .i64 d.jid), (.int .i64 ((d.old + 1))), (.int .i64 d.most)] (fun w' hw' => by go_simp) (fun w' hw' => (within_b d.jid (d.old + 1) d.most w').mono fun e w1 ⟨he, hb⟩ => ⟨by rw [he]; exact congrArg (fun b => Ending.returned (Value.bool b)) KJ.out, hb⟩) ?_
        go_big_quiet_on
        simp only [Act.put, List.setIfInBounds_toArray, List.set_cons_zero, List.set_cons_succ]
        go_big_quiet_want
        refine q_val (.bool false) (fun w' hw' => by go_simp) ?_
        go_big_quiet_on
        simp only [Act.put, List.setIfInBounds_toArray, List.set_cons_zero, List.set_cons_succ]
        go_big_quiet_want
        refine q_val (.bool false) (fun w' hw' => by go_simp) ?_
        go_big_quiet_on
        simp only [Act.put, List.setIfInBounds_toArray, List.set_cons_zero, List.set_cons_succ]
        go_big_quiet_skip
        go_big_quiet_skip
        go_big_quiet_skip
        go_big_quiet_skip
        go_big_quiet_skip
        go_big_quiet_skip
        go_big_quiet_skip
        go_big_quiet_skip
        go_big_quiet_skip
        go_big_quiet_skip
        go_big_quiet_want
        refine q_val (.bool false) (fun w' hw' => by go_simp) ?_
        go_big_quiet_on
        simp only [Act.put, List.setIfInBounds_toArray, List.set_cons_zero, List.set_cons_succ]
        go_big_quiet_want
        refine q_val (.bool false) (fun w' hw' => by go_simp) ?_
        go_big_quiet_on
        simp only [Act.put, List.setIfInBounds_toArray, List.set_cons_zero, List.set_cons_succ]
        refine wpQuiet_nil ?_
        intro w9 h9
        have BW : Hid (Below w.heap.size w w9) := bl_next BW.out h9
        clear h9
        go_wp2_with fail
        go_ret
        exact ⟨rfl, BW.out⟩
      | true =>
        have c : Below t1.heap.size t1 t1.drew := (Below.refl _ _).drew
        refine wp_region_held_drew (S := fun w' => Below t1.heap.size t1 w') (by kernel_rfl) c (fun hHeld => ?_)
        refine wpAnyH_take (i := 0) (v := ?v0b27) rfl (by kernel_rfl) (by kernel_rfl) (by kernel_rfl) (fun _ _ _ h => h) (Or.inl ⟨by rfl, ?hy0b27⟩) (by assumption) ?_
        case hy0b27 => (intro w hSw; (try dsimp only at hSw); simp only [List.getElem_toArray, List.getElem_cons_zero, List.getElem_cons_succ]; go_simp; try with_reducible rfl)
        try simp only [Act.put, List.getElem_toArray, List.getElem_cons_zero, List.getElem_cons_succ, List.setIfInBounds_toArray, List.set_cons_zero, List.set_cons_succ]
        refine wpAnyH_take (i := 1) (v := _) rfl (by kernel_rfl) (by kernel_rfl) (by kernel_rfl) (fun _ _ _ h => h) (ld1_yield (by rfl) 3 _ rfl w.heap.size 0 rfl 45 _ (fun w hS => LA.out.later hS) (.int .i64 d.id) rfl _ Try.underlying3 rfl) (by assumption) ?_
        try simp only [Act.put, List.getElem_toArray, List.getElem_cons_zero, List.getElem_cons_succ, List.setIfInBounds_toArray, List.set_cons_zero, List.set_cons_succ]
        refine wpAnyH_take (i := 2) (v := ?v2b29) rfl (by kernel_rfl) (by kernel_rfl) (by kernel_rfl) (fun _ _ _ h => h) (Or.inl ⟨by rfl, ?hy2b29⟩) (by assumption) ?_
        case hy2b29 => (intro w hSw; (try dsimp only at hSw); simp only [List.getElem_toArray, List.getElem_cons_zero, List.getElem_cons_succ]; go_simp; try with_reducible rfl)
        try simp only [Act.put, List.getElem_toArray, List.getElem_cons_zero, List.getElem_cons_succ, List.setIfInBounds_toArray, List.set_cons_zero, List.set_cons_succ]
        refine wpAnyH_take (i := 3) (v := _) rfl (by kernel_rfl) (by kernel_rfl) (by kernel_rfl) (fun _ _ _ h => h) (ld_yield (by rfl) 37 _ rfl w.heap.size 20 rfl 45 _ (fun w hS => LA.out.later hS) [.int .i64 d.jid, .slice d.js.a d.js.n d.js.c] rfl _ Try.underlying37 rfl Try.sizeR) (by assumption) ?_
        try simp only [Act.put, List.getElem_toArray, List.getElem_cons_zero, List.getElem_cons_succ, List.setIfInBounds_toArray, List.set_cons_zero, List.set_cons_succ]
        refine wpAnyH_ready (rs := [4]) (by kernel_rfl) (by simp) ?_
        refine AllReadyH.cons (i := 4) rfl (fun K hK => ?_) AllReadyH.nil
        rw [if_pos (by rfl)]
        simp only [List.getElem_toArray, List.getElem_cons_zero, List.getElem_cons_succ]
        go_simp
        refine (isMember_any d.id d.jid d.js.v d.jms _ (show Hid (RI t1.drew d.js.v d.jms) from HJ.out.stays c) hjl).mono ?_
        rintro e y1 ⟨rfl, b⟩
        rw [show (ringB d.jid d.jms && inB d.jms d.id) = true from KM.out]
        have c : Below t1.heap.size t1 y1 := bl_next c b
        refine hK.out _ _ (c) (fun hHeld => ?_)
        clear hK K
        try simp only [Act.put, List.getElem_toArray, List.getElem_cons_zero, List.getElem_cons_succ, List.setIfInBounds_toArray, List.set_cons_zero, List.set_cons_succ]
        clear b
        refine wpAnyH_take (i := 5) (v := ?v5b31) rfl (by kernel_rfl) (by kernel_rfl) (by kernel_rfl) (fun _ _ _ h => h) (Or.inl ⟨by rfl, ?hy5b31⟩) (by assumption) ?_
        case hy5b31 => (intro w hSw; (try dsimp only at hSw); simp only [List.getElem_toArray, List.getElem_cons_zero, List.getElem_cons_succ]; go_simp; try with_reducible rfl)
        try simp only [Act.put, List.getElem_toArray, List.getElem_cons_zero, List.getElem_cons_succ, List.setIfInBounds_toArray, List.set_cons_zero, List.set_cons_succ]
        refine wpAnyH_take (i := 6) (v := ?v6b32) rfl (by kernel_rfl) (by kernel_rfl) (by kernel_rfl) (fun _ _ _ h => h) (Or.inl ⟨by rfl, ?hy6b32⟩) (by assumption) ?_
        case hy6b32 => (intro w hSw; (try dsimp only at hSw); simp only [List.getElem_toArray, List.getElem_cons_zero, List.getElem_cons_succ]; go_simp; try with_reducible rfl)
        try simp only [Act.put, List.getElem_toArray, List.getElem_cons_zero, List.getElem_cons_succ, List.setIfInBounds_toArray, List.set_cons_zero, List.set_cons_succ]
        refine wpAnyH_take (i := 7) (v := ?v7b33) rfl (by kernel_rfl) (by kernel_rfl) (by kernel_rfl) (fun _ _ _ h => h) (Or.inl ⟨by rfl, ?hy7b33⟩) (by assumption) ?_
        case hy7b33 => (intro w hSw; (try dsimp only at hSw); simp only [List.getElem_toArray, List.getElem_cons_zero, List.getElem_cons_succ]; go_simp; try with_reducible rfl)
        try simp only [Act.put, List.getElem_toArray, List.getElem_cons_zero, List.getElem_cons_succ, List.setIfInBounds_toArray, List.set_cons_zero, List.set_cons_succ]
        refine wpAnyH_take (i := 8) (v := _) rfl (by kernel_rfl) (by kernel_rfl) (by kernel_rfl) (fun _ _ _ h => h) (ld1_yield (by rfl) 3 _ rfl w.heap.size 20 rfl 45 _ (fun w hS => LA.out.later hS) (.int .i64 d.jid) rfl _ Try.underlying3 rfl) (by assumption) ?_
        try simp only [Act.put, List.getElem_toArray, List.getElem_cons_zero, List.getElem_cons_succ, List.setIfInBounds_toArray, List.set_cons_zero, List.set_cons_succ]
        refine wpAnyH_take (i := 9) (v := ?v9b35) rfl (by kernel_rfl) (by kernel_rfl) (by kernel_rfl) (fun _ _ _ h => h) (Or.inl ⟨by rfl, ?hy9b35⟩) (by assumption) ?_
        case hy9b35 => (intro w hSw; (try dsimp only at hSw); simp only [List.getElem_toArray, List.getElem_cons_zero, List.getElem_cons_succ]; go_simp; try with_reducible rfl)
        try simp only [Act.put, List.getElem_toArray, List.getElem_cons_zero, List.getElem_cons_succ, List.setIfInBounds_toArray, List.set_cons_zero, List.set_cons_succ]
        refine wpAnyH_take (i := 10) (v := _) rfl (by kernel_rfl) (by kernel_rfl) (by kernel_rfl) (fun _ _ _ h => h) (ld1_yield (by rfl) 3 _ rfl w.heap.size 19 rfl 45 _ (fun w hS => LA.out.later hS) (.int .i64 d.old) rfl _ Try.underlying3 rfl) (by assumption) ?_
        try simp only [Act.put, List.getElem_toArray, List.getElem_cons_zero, List.getElem_cons_succ, List.setIfInBounds_toArray, List.set_cons_zero, List.set_cons_succ]
        refine wpAnyH_take (i := 11) (v := ?v11b37) rfl (by kernel_rfl) (by kernel_rfl) (by kernel_rfl) (fun _ _ _ h => h) (Or.inl ⟨by rfl, ?hy11b37⟩) (by assumption) ?_
        case hy11b37 => (intro w hSw; (try dsimp only at hSw); simp only [List.getElem_toArray, List.getElem_cons_zero, List.getElem_cons_succ]; go_simp; try with_reducible rfl)
        try simp only [Act.put, List.getElem_toArray, List.getElem_cons_zero, List.getElem_cons_succ, List.setIfInBounds_toArray, List.set_cons_zero, List.set_cons_succ]
        refine wpAnyH_take (i := 12) (v := ?v12b38) rfl (by kernel_rfl) (by kernel_rfl) (by kernel_rfl) (fun _ _ _ h => h) (Or.inl ⟨by rfl, ?hy12b38⟩) (by assumption) ?_
        case hy12b38 => (intro w hSw; (try dsimp only at hSw); simp only [List.getElem_toArray, List.getElem_cons_zero, List.getElem_cons_succ]; go_simp; try with_reducible rfl)
        try simp only [Act.put, List.getElem_toArray, List.getElem_cons_zero, List.getElem_cons_succ, List.setIfInBounds_toArray, List.set_cons_zero, List.set_cons_succ]
        refine wpAnyH_take (i := 13) (v := _) rfl (by kernel_rfl) (by kernel_rfl) (by kernel_rfl) (fun _ _ _ h => h) (ld1_yield (by rfl) 3 _ rfl w.heap.size 18 rfl 45 _ (fun w hS => LA.out.later hS) (.int .i64 d.most) rfl _ Try.underlying3 rfl) (by assumption) ?_
        try simp only [Act.put, List.getElem_toArray, List.getElem_cons_zero, List.getElem_cons_succ, List.setIfInBounds_toArray, List.set_cons_zero, List.set_cons_succ]
        refine wpAnyH_ready (rs := [14]) (by kernel_rfl) (by simp) ?_
        refine AllReadyH.cons (i := 14) rfl (fun K hK => ?_) AllReadyH.nil
        rw [if_pos (by rfl)]
        simp only [List.getElem_toArray, List.getElem_cons_zero, List.getElem_cons_succ]
        go_simp
        refine (within_b d.jid (d.old + 1) d.most _).mono ?_
        rintro e y2 ⟨rfl, b⟩
        rw [show decide (d.old + 1 ≤ d.jid ∧ d.jid ≤ d.most) = true from KJ.out]
        have c : Below t1.heap.size t1 y2 := bl_next c b
        refine hK.out _ _ (c) (fun hHeld => ?_)
        clear hK K
        try simp only [Act.put, List.getElem_toArray, List.getElem_cons_zero, List.getElem_cons_succ, List.setIfInBounds_toArray, List.set_cons_zero, List.set_cons_succ]
        clear b
        refine wpAnyH_take (i := 15) (v := ?v15b40) rfl (by kernel_rfl) (by kernel_rfl) (by kernel_rfl) (fun _ _ _ h => h) (Or.inl ⟨by rfl, ?hy15b40⟩) (by assumption) ?_
        case hy15b40 => (intro w hSw; (try dsimp only at hSw); simp only [List.getElem_toArray, List.getElem_cons_zero, List.getElem_cons_succ]; go_simp; try with_reducible rfl)
        try simp only [Act.put, List.getElem_toArray, List.getElem_cons_zero, List.getElem_cons_succ, List.setIfInBounds_toArray, List.set_cons_zero, List.set_cons_succ]
        refine wpAnyH_take (i := 16) (v := ?v16b41) rfl (by kernel_rfl) (by kernel_rfl) (by kernel_rfl) (fun _ _ _ h => h) (Or.inl ⟨by rfl, ?hy16b41⟩) (by assumption) ?_
        case hy16b41 => (intro w hSw; (try dsimp only at hSw); simp only [List.getElem_toArray, List.getElem_cons_zero, List.getElem_cons_succ]; go_simp; try with_reducible rfl)
        try simp only [Act.put, List.getElem_toArray, List.getElem_cons_zero, List.getElem_cons_succ, List.setIfInBounds_toArray, List.set_cons_zero, List.set_cons_succ]
        refine wpAnyH_take (i := 17) (v := ?v17b42) rfl (by kernel_rfl) (by kernel_rfl) (by kernel_rfl) (fun _ _ _ h => h) (Or.inl ⟨by rfl, ?hy17b42⟩) (by assumption) ?_
        case hy17b42 => (intro w hSw; (try dsimp only at hSw); simp only [List.getElem_toArray, List.getElem_cons_zero, List.getElem_cons_succ]; go_simp; try with_reducible rfl)
        try simp only [Act.put, List.getElem_toArray, List.getElem_cons_zero, List.getElem_cons_succ, List.setIfInBounds_toArray, List.set_cons_zero, List.set_cons_succ]
        refine wpAnyH_take (i := 18) (v := _) rfl (by kernel_rfl) (by kernel_rfl) (by kernel_rfl) (fun _ _ _ h => h) (ld1_yield (by rfl) 42 _ rfl w.heap.size 22 rfl 45 _ (fun w hS => LA.out.later hS) (.slice d.bs.a d.bs.n d.bs.c) rfl _ Try.underlying42 rfl) (by assumption) ?_
        try simp only [Act.put, List.getElem_toArray, List.getElem_cons_zero, List.getElem_cons_succ, List.setIfInBounds_toArray, List.set_cons_zero, List.set_cons_succ]
        refine wpAnyH_take (i := 19) (v := _) rfl (by kernel_rfl) (by kernel_rfl) (by kernel_rfl) (fun _ _ _ h => h) (ld_yield (by rfl) 45 _ rfl w.heap.size 0 rfl 45 _ (fun w hS => LA.out.later hS) [.int .i64 d.id, .bool false, .int .i64 d.m.id, .int .i64 d.m.rid, .slice d.mv.ms.a d.mv.ms.n d.mv.ms.c, .slice d.mv.its.a d.mv.its.n d.mv.its.c, .slice d.mv.lv.a d.mv.lv.n d.mv.lv.c, .slice d.mv.tx.a d.mv.tx.n d.mv.tx.c, .int .i64 d.m.rd, .int .i64 d.m.se, .int .i64 d.m.li, .int .i64 d.m.he, .int .i64 d.m.la.c, .int .i64 d.m.la.r, .int .i64 d.m.la.q, .int .i64 d.m.la.a, .int .i64 d.m.la.b, .slice d.mv.ws.a d.mv.ws.n d.mv.ws.c, .int .i64 d.most, .int .i64 d.old, .int .i64 d.jid, .slice d.js.a d.js.n d.js.c, .slice d.bs.a d.bs.n d.bs.c, .slice d.ls.a d.ls.n d.ls.c] rfl _ Try.underlying45 rfl Try.sizeDa) (by assumption) ?_
        try simp only [Act.put, List.getElem_toArray, List.getElem_cons_zero, List.getElem_cons_succ, List.setIfInBounds_toArray, List.set_cons_zero, List.set_cons_succ]
        refine wpAnyH_take (i := 20) (v := ?v20b45) rfl (by kernel_rfl) (by kernel_rfl) (by kernel_rfl) (fun _ _ _ h => h) (Or.inl ⟨by rfl, ?hy20b45⟩) (by assumption) ?_
        case hy20b45 => (intro w hSw; (try dsimp only at hSw); simp only [List.getElem_toArray, List.getElem_cons_zero, List.getElem_cons_succ]; go_simp; try with_reducible rfl)
        try simp only [Act.put, List.getElem_toArray, List.getElem_cons_zero, List.getElem_cons_succ, List.setIfInBounds_toArray, List.set_cons_zero, List.set_cons_succ]
        refine wpAnyH_take (i := 23) (v := ?v23b46) rfl (by kernel_rfl) (by kernel_rfl) (by kernel_rfl) (fun _ _ _ h => h) (Or.inl ⟨by rfl, ?hy23b46⟩) (by assumption) ?_
        case hy23b46 => (intro w hSw; (try dsimp only at hSw); simp only [List.getElem_toArray, List.getElem_cons_zero, List.getElem_cons_succ]; go_simp; try with_reducible rfl)
        try simp only [Act.put, List.getElem_toArray, List.getElem_cons_zero, List.getElem_cons_succ, List.setIfInBounds_toArray, List.set_cons_zero, List.set_cons_succ]
        refine wpAnyH_take (i := 24) (v := _) rfl (by kernel_rfl) (by kernel_rfl) (by kernel_rfl) (fun _ _ _ h => h) (ld1_yield (by rfl) 42 _ rfl w.heap.size 22 rfl 45 _ (fun w hS => LA.out.later hS) (.slice d.bs.a d.bs.n d.bs.c) rfl _ Try.underlying42 rfl) (by assumption) ?_
        try simp only [Act.put, List.getElem_toArray, List.getElem_cons_zero, List.getElem_cons_succ, List.setIfInBounds_toArray, List.set_cons_zero, List.set_cons_succ]
        refine wpAnyH_take (i := 25) (v := ?v25b48) rfl (by kernel_rfl) (by kernel_rfl) (by kernel_rfl) (fun _ _ _ h => h) (Or.inl ⟨by rfl, ?hy25b48⟩) (by assumption) ?_
        case hy25b48 => (intro w hSw; (try dsimp only at hSw); simp only [List.getElem_toArray, List.getElem_cons_zero, List.getElem_cons_succ]; go_simp; try with_reducible rfl)
        try simp only [Act.put, List.getElem_toArray, List.getElem_cons_zero, List.getElem_cons_succ, List.setIfInBounds_toArray, List.set_cons_zero, List.set_cons_succ]
        refine wpAnyH_ready (rs := [21]) (by kernel_rfl) (by simp) ?_
        refine AllReadyH.cons (i := 21) rfl (fun K hK => ?_) AllReadyH.nil
        rw [if_pos (by rfl)]
        simp only [List.getElem_toArray, List.getElem_cons_zero, List.getElem_cons_succ]
        go_simp
        have hk := keptM_any d d.bs d.bu y2 (show Hid (BusR y2 d.bs d.bu) from HB.out.stays c) hs.out.bus.1 hs.out.bus.2
        rw [hdd.out] at hk
        refine hk.mono ?_
        clear hk
        rintro e y3 ⟨u, rfl, hu, b⟩
        have HU : Hid (u.n = (d.bu.filter (myB d)).length) := hu
        have c : Below t1.heap.size t1 y3 := bl_next c b
        refine hK.out _ _ (c) (fun hHeld => ?_)
        clear hK K
        try simp only [Act.put, List.getElem_toArray, List.getElem_cons_zero, List.getElem_cons_succ, List.setIfInBounds_toArray, List.set_cons_zero, List.set_cons_succ]
        clear b hu
        refine wpAnyH_take (i := 22) (v := ?v22b49) rfl (by kernel_rfl) (by kernel_rfl) (by kernel_rfl) (fun _ _ _ h => h) (Or.inl ⟨by rfl, ?hy22b49⟩) (by assumption) ?_
        case hy22b49 => (intro w hSw; (try dsimp only at hSw); simp only [List.getElem_toArray, List.getElem_cons_zero, List.getElem_cons_succ]; go_simp; try with_reducible rfl)
        try simp only [Act.put, List.getElem_toArray, List.getElem_cons_zero, List.getElem_cons_succ, List.setIfInBounds_toArray, List.set_cons_zero, List.set_cons_succ]
        refine wpAnyH_take (i := 26) (v := ?v26b50) rfl (by kernel_rfl) (by kernel_rfl) (by kernel_rfl) (fun _ _ _ h => h) (Or.inl ⟨by rfl, ?hy26b50⟩) (by assumption) ?_
        case hy26b50 => (intro w hSw; (try dsimp only at hSw); simp only [List.getElem_toArray, List.getElem_cons_zero, List.getElem_cons_succ]; go_simp; try with_reducible rfl)
        try simp only [Act.put, List.getElem_toArray, List.getElem_cons_zero, List.getElem_cons_succ, List.setIfInBounds_toArray, List.set_cons_zero, List.set_cons_succ]
        refine wpAnyH_take (i := 27) (v := ?v27b51) rfl (by kernel_rfl) (by kernel_rfl) (by kernel_rfl) (fun _ _ _ h => h) (Or.inl ⟨by rfl, ?hy27b51⟩) (by assumption) ?_
        case hy27b51 => (intro w hSw; (try dsimp only at hSw); simp only [List.getElem_toArray, List.getElem_cons_zero, List.getElem_cons_succ]; go_simp; try with_reducible rfl)
        try simp only [Act.put, List.getElem_toArray, List.getElem_cons_zero, List.getElem_cons_succ, List.setIfInBounds_toArray, List.set_cons_zero, List.set_cons_succ]
        refine wpAnyH_take (i := 28) (v := ?v28b52) rfl (by kernel_rfl) (by kernel_rfl) (by kernel_rfl) (fun _ _ _ h => h) (Or.inl ⟨by rfl, ?hy28b52⟩) (by assumption) ?_
        case hy28b52 => (intro w hSw; (try dsimp only at hSw); simp only [List.getElem_toArray, List.getElem_cons_zero, List.getElem_cons_succ]; go_simp; try with_reducible rfl)
        try simp only [Act.put, List.getElem_toArray, List.getElem_cons_zero, List.getElem_cons_succ, List.setIfInBounds_toArray, List.set_cons_zero, List.set_cons_succ]
        refine wpAnyH_done (by kernel_rfl) ?_ _
        have BW : Hid (Below w.heap.size w y3) := bl_next BW.out c
        have e : dmJ d = ((u.n : Int) == (d.bs.n : Int)) := by
          unfold dmJ
          simp only [K1.out, KM.out, KJ.out, Bool.true_and, cond_true, cond_false]
          unfold ksB
          rw [HU.out]
        rw [hR.out] at e
        clear hR c hHeld
        subst e
        go_wp2_with fail
        go_ret
        exact ⟨rfl, BW.out⟩
  | true =>
    have c22 := LA.out.cell 22
    simp only [List.getElem?_cons_succ, List.getElem?_cons_zero] at c22
    obtain ⟨R2, k2⟩ : ∃ R : Bool, ((d.bs.n : Int) == 0) = R := ⟨_, rfl⟩
    have K2 : Hid (((d.bs.n : Int) == 0) = R2) := k2
    cases R2 with
    | false =>
      have e : dmJ d = false := by
        unfold dmJ
        simp only [K1.out, K2.out, Bool.false_and, Bool.true_and, Bool.and_false, Bool.and_true, Bool.not_true, Bool.not_false, Bool.or_true, Bool.true_or, Bool.or_false, Bool.false_or, cond_true, cond_false]
      rw [hR.out] at e
      clear hR
      subst e
      go_wp2_with fail
      go_ret
      exact ⟨rfl, BW.out⟩
    | true =>
      have e : dmJ d = true := by
        unfold dmJ
        simp only [K1.out, K2.out, Bool.false_and, Bool.true_and, Bool.and_false, Bool.and_true, Bool.not_true, Bool.not_false, Bool.or_true, Bool.true_or, Bool.or_false, Bool.false_or, cond_true, cond_false]
      rw [hR.out] at e
      clear hR
      subst e
      go_wp2_with fail
      go_ret
      exact ⟨rfl, BW.out⟩
end Go.Proofs.Ytifkopggmjbbeaa


/- Both DaemonOk. Written by gen_dk14.py. -/
namespace Go.Proofs.Ytifkopggmjbbeaa
open Go.RowKit Pl
set_option linter.unusedVariables false
set_option linter.unusedSimpArgs false

theorem wpList_haltL {P : Program} {w : World} {ops : Array Oper} {rest : List Oper} {o : Oper} {a : Act} {Q : Exit → Act → World → Prop} (t : TypeId) (x : Operand) (ho : o.op = .load t x) (h : Stp (wpList P ops Q (o :: rest) a w)) : wpList P ops Q (o :: rest) a w := h.out
def idB (d : Dm) : Bool := decide (1 ≤ d.id ∧ d.id ≤ 5)
def moB (d : Dm) : Bool := decide (0 ≤ d.most ∧ d.most ≤ 9)
def olB (d : Dm) : Bool := decide (0 ≤ d.old ∧ d.old ≤ d.most)
def dmI (d : Dm) : Bool := idB d && (moB d && (olB d && (((nmS d.m d.mv && nrB d.jid d.js.n) || !d.dead) && (dmM d && dmJ d))))
def aokB (d : Dm) (bs : List Bu) : Bool := bs.all fun b => bunB b.f b.n b.o b.ts && !(b.n != d.jid)
def dmS (d : Dm) : Bool := bif idB d && moB d then (bif d.dead then (nmS d.m d.mv && ((d.old == 0) && (nrB d.jid d.js.n && ((d.bs.n : Int) == 0)))) else (bif (nmS d.m d.mv || (d.m.ok && !(d.m.id != d.id))) && (!(d.old != d.m.rid) && !(decide (d.most < d.old))) then (bif nrB d.jid d.js.n then ((d.bs.n : Int) == 0) else (ringB d.jid d.jms && (inB d.jms d.id && (jnB d && aokB d d.bu)))) else false)) else false
theorem dmateOk_b (d : Dm) (b : Bool) (w : World) (hdd : Hid (d.dead = b)) (h : Hid (MtR w d.m d.mv)) (hs : Hid (MtS d.m)) : Calls Try.prog 27 #[.agg #[.int .i64 d.id, .bool b, .int .i64 d.m.id, .int .i64 d.m.rid, .slice d.mv.ms.a d.mv.ms.n d.mv.ms.c, .slice d.mv.its.a d.mv.its.n d.mv.its.c, .slice d.mv.lv.a d.mv.lv.n d.mv.lv.c, .slice d.mv.tx.a d.mv.tx.n d.mv.tx.c, .int .i64 d.m.rd, .int .i64 d.m.se, .int .i64 d.m.li, .int .i64 d.m.he, .int .i64 d.m.la.c, .int .i64 d.m.la.r, .int .i64 d.m.la.q, .int .i64 d.m.la.a, .int .i64 d.m.la.b, .slice d.mv.ws.a d.mv.ws.n d.mv.ws.c, .int .i64 d.most, .int .i64 d.old, .int .i64 d.jid, .slice d.js.a d.js.n d.js.c, .slice d.bs.a d.bs.n d.bs.c, .slice d.ls.a d.ls.n d.ls.c]] w fun e w' => e = .returned (.bool (dmM d)) ∧ Below w.heap.size w w' := by
  have k := dmateOk_any d w h hs
  rw [hdd.out] at k
  exact k
theorem nm_rid {m : Mt} {v : Mv} (h : nmS m v = true) : m.rid = 0 := by
  simp [nmS, nrB] at h
  exact h.2.1.1
theorem ok_rid {m : Mt} (h : m.ok = true) : 1 ≤ m.rid ∧ m.rid ≤ 9 := by
  have h1 : ringB m.rid m.ms = true := by unfold Mt.ok at h; simp only [Bool.and_eq_true] at h; exact h.1
  unfold ringB at h1
  simp only [Bool.and_eq_true, decide_eq_true_eq] at h1
  exact h1.1
theorem rid_rng {d : Dm} (h : nmS d.m d.mv = true ∨ d.m.ok = true) : 0 ≤ d.m.rid ∧ d.m.rid ≤ 9 := by
  rcases h with h | h
  · rw [nm_rid h]; omega
  · have := ok_rid h; omega
end Go.Proofs.Ytifkopggmjbbeaa


/- DaemonOk, by the program. Written by gen_dk14.py. -/
namespace Go.Proofs.Ytifkopggmjbbeaa
open Go.RowKit Pl
set_option linter.unusedVariables false
set_option linter.unusedSimpArgs false

set_option maxRecDepth 100000 in
set_option maxHeartbeats 32000000 in
theorem daemonOk_true (d : Dm) (w : World) (hdd : Hid (d.dead = true)) (h : Hid (DmR w d)) (hs : Hid (DmS d)) : Calls Try.prog 7 #[.agg #[.int .i64 d.id, .bool true, .int .i64 d.m.id, .int .i64 d.m.rid, .slice d.mv.ms.a d.mv.ms.n d.mv.ms.c, .slice d.mv.its.a d.mv.its.n d.mv.its.c, .slice d.mv.lv.a d.mv.lv.n d.mv.lv.c, .slice d.mv.tx.a d.mv.tx.n d.mv.tx.c, .int .i64 d.m.rd, .int .i64 d.m.se, .int .i64 d.m.li, .int .i64 d.m.he, .int .i64 d.m.la.c, .int .i64 d.m.la.r, .int .i64 d.m.la.q, .int .i64 d.m.la.a, .int .i64 d.m.la.b, .slice d.mv.ws.a d.mv.ws.n d.mv.ws.c, .int .i64 d.most, .int .i64 d.old, .int .i64 d.jid, .slice d.js.a d.js.n d.js.c, .slice d.bs.a d.bs.n d.bs.c, .slice d.ls.a d.ls.n d.ls.c]] w fun e w' => e = .returned (.bool (dmI d)) ∧ Below w.heap.size w w' := by
  obtain ⟨R, hR0⟩ : ∃ R, dmI d = R := ⟨_, rfl⟩
  rw [hR0]
  have hR : Hid (dmI d = R) := hR0
  clear hR0
  have LA : Hid (Bx (w.alloc (.cells #[.int .i64 d.id, .bool true, .int .i64 d.m.id, .int .i64 d.m.rid, .slice d.mv.ms.a d.mv.ms.n d.mv.ms.c, .slice d.mv.its.a d.mv.its.n d.mv.its.c, .slice d.mv.lv.a d.mv.lv.n d.mv.lv.c, .slice d.mv.tx.a d.mv.tx.n d.mv.tx.c, .int .i64 d.m.rd, .int .i64 d.m.se, .int .i64 d.m.li, .int .i64 d.m.he, .int .i64 d.m.la.c, .int .i64 d.m.la.r, .int .i64 d.m.la.q, .int .i64 d.m.la.a, .int .i64 d.m.la.b, .slice d.mv.ws.a d.mv.ws.n d.mv.ws.c, .int .i64 d.most, .int .i64 d.old, .int .i64 d.jid, .slice d.js.a d.js.n d.js.c, .slice d.bs.a d.bs.n d.bs.c, .slice d.ls.a d.ls.n d.ls.c] 45)) w.heap.size 45 [.int .i64 d.id, .bool true, .int .i64 d.m.id, .int .i64 d.m.rid, .slice d.mv.ms.a d.mv.ms.n d.mv.ms.c, .slice d.mv.its.a d.mv.its.n d.mv.its.c, .slice d.mv.lv.a d.mv.lv.n d.mv.lv.c, .slice d.mv.tx.a d.mv.tx.n d.mv.tx.c, .int .i64 d.m.rd, .int .i64 d.m.se, .int .i64 d.m.li, .int .i64 d.m.he, .int .i64 d.m.la.c, .int .i64 d.m.la.r, .int .i64 d.m.la.q, .int .i64 d.m.la.a, .int .i64 d.m.la.b, .slice d.mv.ws.a d.mv.ws.n d.mv.ws.c, .int .i64 d.most, .int .i64 d.old, .int .i64 d.jid, .slice d.js.a d.js.n d.js.c, .slice d.bs.a d.bs.n d.bs.c, .slice d.ls.a d.ls.n d.ls.c]) := by
    have h := Bx.new w 45 [.int .i64 d.id, .bool true, .int .i64 d.m.id, .int .i64 d.m.rid, .slice d.mv.ms.a d.mv.ms.n d.mv.ms.c, .slice d.mv.its.a d.mv.its.n d.mv.its.c, .slice d.mv.lv.a d.mv.lv.n d.mv.lv.c, .slice d.mv.tx.a d.mv.tx.n d.mv.tx.c, .int .i64 d.m.rd, .int .i64 d.m.se, .int .i64 d.m.li, .int .i64 d.m.he, .int .i64 d.m.la.c, .int .i64 d.m.la.r, .int .i64 d.m.la.q, .int .i64 d.m.la.a, .int .i64 d.m.la.b, .slice d.mv.ws.a d.mv.ws.n d.mv.ws.c, .int .i64 d.most, .int .i64 d.old, .int .i64 d.jid, .slice d.js.a d.js.n d.js.c, .slice d.bs.a d.bs.n d.bs.c, .slice d.ls.a d.ls.n d.ls.c]
    exact h
  have BW : Hid (Below w.heap.size w (w.alloc (.cells #[.int .i64 d.id, .bool true, .int .i64 d.m.id, .int .i64 d.m.rid, .slice d.mv.ms.a d.mv.ms.n d.mv.ms.c, .slice d.mv.its.a d.mv.its.n d.mv.its.c, .slice d.mv.lv.a d.mv.lv.n d.mv.lv.c, .slice d.mv.tx.a d.mv.tx.n d.mv.tx.c, .int .i64 d.m.rd, .int .i64 d.m.se, .int .i64 d.m.li, .int .i64 d.m.he, .int .i64 d.m.la.c, .int .i64 d.m.la.r, .int .i64 d.m.la.q, .int .i64 d.m.la.a, .int .i64 d.m.la.b, .slice d.mv.ws.a d.mv.ws.n d.mv.ws.c, .int .i64 d.most, .int .i64 d.old, .int .i64 d.jid, .slice d.js.a d.js.n d.js.c, .slice d.bs.a d.bs.n d.bs.c, .slice d.ls.a d.ls.n d.ls.c] 45))) := ((Below.refl _ _).alloc (by simp) _)
  have HR : Hid (DmR (w.alloc (.cells #[.int .i64 d.id, .bool true, .int .i64 d.m.id, .int .i64 d.m.rid, .slice d.mv.ms.a d.mv.ms.n d.mv.ms.c, .slice d.mv.its.a d.mv.its.n d.mv.its.c, .slice d.mv.lv.a d.mv.lv.n d.mv.lv.c, .slice d.mv.tx.a d.mv.tx.n d.mv.tx.c, .int .i64 d.m.rd, .int .i64 d.m.se, .int .i64 d.m.li, .int .i64 d.m.he, .int .i64 d.m.la.c, .int .i64 d.m.la.r, .int .i64 d.m.la.q, .int .i64 d.m.la.a, .int .i64 d.m.la.b, .slice d.mv.ws.a d.mv.ws.n d.mv.ws.c, .int .i64 d.most, .int .i64 d.old, .int .i64 d.jid, .slice d.js.a d.js.n d.js.c, .slice d.bs.a d.bs.n d.bs.c, .slice d.ls.a d.ls.n d.ls.c] 45)) d) := h.out.stays BW.out
  have HW : Hid (d.mv.ws.n = d.m.la.ws.length) := h.out.mt.ws.len
  have HJN : Hid (d.bs.n = d.bu.length) := h.out.bu.1
  clear h
  go_enter Try.func7, Try.ntmps7
  go_wp2_with (first | (with_reducible refine wpList_haltL 41 _ rfl ?_))
  refine Stp.go ?_
  refine wpList_ldG rfl 41 _ rfl w.heap.size 2 rfl 45 _ LA.out [.int .i64 d.m.id, .int .i64 d.m.rid, .slice d.mv.ms.a d.mv.ms.n d.mv.ms.c, .slice d.mv.its.a d.mv.its.n d.mv.its.c, .slice d.mv.lv.a d.mv.lv.n d.mv.lv.c, .slice d.mv.tx.a d.mv.tx.n d.mv.tx.c, .int .i64 d.m.rd, .int .i64 d.m.se, .int .i64 d.m.li, .int .i64 d.m.he, .int .i64 d.m.la.c, .int .i64 d.m.la.r, .int .i64 d.m.la.q, .int .i64 d.m.la.a, .int .i64 d.m.la.b, .slice d.mv.ws.a d.mv.ws.n d.mv.ws.c] rfl _ Try.underlying41 rfl Try.sizeM ?_
  go_wp2_with fail
  refine (noMate_any d.m d.mv _ HW.out).mono ?_
  rintro e t1 ⟨rfl, b⟩
  have LA : Hid (Bx t1 w.heap.size 45 [.int .i64 d.id, .bool true, .int .i64 d.m.id, .int .i64 d.m.rid, .slice d.mv.ms.a d.mv.ms.n d.mv.ms.c, .slice d.mv.its.a d.mv.its.n d.mv.its.c, .slice d.mv.lv.a d.mv.lv.n d.mv.lv.c, .slice d.mv.tx.a d.mv.tx.n d.mv.tx.c, .int .i64 d.m.rd, .int .i64 d.m.se, .int .i64 d.m.li, .int .i64 d.m.he, .int .i64 d.m.la.c, .int .i64 d.m.la.r, .int .i64 d.m.la.q, .int .i64 d.m.la.a, .int .i64 d.m.la.b, .slice d.mv.ws.a d.mv.ws.n d.mv.ws.c, .int .i64 d.most, .int .i64 d.old, .int .i64 d.jid, .slice d.js.a d.js.n d.js.c, .slice d.bs.a d.bs.n d.bs.c, .slice d.ls.a d.ls.n d.ls.c]) := LA.out.later b
  have BW : Hid (Below w.heap.size w t1) := bl_next BW.out b
  have HR : Hid (DmR t1 d) := HR.out.stays b
  clear b
  obtain ⟨R1, k1⟩ : ∃ R : Bool, (nmS d.m d.mv) = R := ⟨_, rfl⟩
  rw [k1]
  have K1 : Hid ((nmS d.m d.mv) = R1) := k1
  clear k1
  cases R1 with
  | false =>
    have c0 := LA.out.cell 0
    simp only [List.getElem?_cons_succ, List.getElem?_cons_zero] at c0
    go_wp2_with fail
    refine (within_b d.id 1 5 _).mono ?_
    rintro e t2 ⟨rfl, b⟩
    have LA : Hid (Bx t2 w.heap.size 45 [.int .i64 d.id, .bool true, .int .i64 d.m.id, .int .i64 d.m.rid, .slice d.mv.ms.a d.mv.ms.n d.mv.ms.c, .slice d.mv.its.a d.mv.its.n d.mv.its.c, .slice d.mv.lv.a d.mv.lv.n d.mv.lv.c, .slice d.mv.tx.a d.mv.tx.n d.mv.tx.c, .int .i64 d.m.rd, .int .i64 d.m.se, .int .i64 d.m.li, .int .i64 d.m.he, .int .i64 d.m.la.c, .int .i64 d.m.la.r, .int .i64 d.m.la.q, .int .i64 d.m.la.a, .int .i64 d.m.la.b, .slice d.mv.ws.a d.mv.ws.n d.mv.ws.c, .int .i64 d.most, .int .i64 d.old, .int .i64 d.jid, .slice d.js.a d.js.n d.js.c, .slice d.bs.a d.bs.n d.bs.c, .slice d.ls.a d.ls.n d.ls.c]) := LA.out.later b
    have BW : Hid (Below w.heap.size w t2) := bl_next BW.out b
    have HR : Hid (DmR t2 d) := HR.out.stays b
    clear b
    obtain ⟨R2, k2⟩ : ∃ R : Bool, (decide (1 ≤ d.id ∧ d.id ≤ 5)) = R := ⟨_, rfl⟩
    rw [k2]
    have K2 : Hid ((decide (1 ≤ d.id ∧ d.id ≤ 5)) = R2) := k2
    clear k2
    cases R2 with
    | false =>
      have e : dmI d = false := by
        unfold dmI idB moB olB
        simp only [hdd.out, K1.out, K2.out, bne_self_eq_false, Bool.false_and, Bool.true_and, Bool.and_false, Bool.and_true, Bool.not_true, Bool.not_false, Bool.or_true, Bool.true_or, Bool.or_false, Bool.false_or, cond_true, cond_false]
      rw [hR.out] at e
      clear hR
      subst e
      go_wp2_with fail
      go_ret
      exact ⟨rfl, BW.out⟩
    | true =>
      have c18 := LA.out.cell 18
      simp only [List.getElem?_cons_succ, List.getElem?_cons_zero] at c18
      go_wp2_with fail
      refine (within_b d.most 0 9 _).mono ?_
      rintro e t3 ⟨rfl, b⟩
      have LA : Hid (Bx t3 w.heap.size 45 [.int .i64 d.id, .bool true, .int .i64 d.m.id, .int .i64 d.m.rid, .slice d.mv.ms.a d.mv.ms.n d.mv.ms.c, .slice d.mv.its.a d.mv.its.n d.mv.its.c, .slice d.mv.lv.a d.mv.lv.n d.mv.lv.c, .slice d.mv.tx.a d.mv.tx.n d.mv.tx.c, .int .i64 d.m.rd, .int .i64 d.m.se, .int .i64 d.m.li, .int .i64 d.m.he, .int .i64 d.m.la.c, .int .i64 d.m.la.r, .int .i64 d.m.la.q, .int .i64 d.m.la.a, .int .i64 d.m.la.b, .slice d.mv.ws.a d.mv.ws.n d.mv.ws.c, .int .i64 d.most, .int .i64 d.old, .int .i64 d.jid, .slice d.js.a d.js.n d.js.c, .slice d.bs.a d.bs.n d.bs.c, .slice d.ls.a d.ls.n d.ls.c]) := LA.out.later b
      have BW : Hid (Below w.heap.size w t3) := bl_next BW.out b
      have HR : Hid (DmR t3 d) := HR.out.stays b
      clear b
      obtain ⟨R3, k3⟩ : ∃ R : Bool, (decide (0 ≤ d.most ∧ d.most ≤ 9)) = R := ⟨_, rfl⟩
      rw [k3]
      have K3 : Hid ((decide (0 ≤ d.most ∧ d.most ≤ 9)) = R3) := k3
      clear k3
      cases R3 with
      | false =>
        have e : dmI d = false := by
          unfold dmI idB moB olB
          simp only [hdd.out, K1.out, K2.out, K3.out, bne_self_eq_false, Bool.false_and, Bool.true_and, Bool.and_false, Bool.and_true, Bool.not_true, Bool.not_false, Bool.or_true, Bool.true_or, Bool.or_false, Bool.false_or, cond_true, cond_false]
        rw [hR.out] at e
        clear hR
        subst e
        go_wp2_with fail
        go_ret
        exact ⟨rfl, BW.out⟩
      | true =>
        have c19 := LA.out.cell 19
        have c18 := LA.out.cell 18
        simp only [List.getElem?_cons_succ, List.getElem?_cons_zero] at c19 c18
        go_wp2_with fail
        refine (within_b d.old 0 d.most _).mono ?_
        rintro e t4 ⟨rfl, b⟩
        have LA : Hid (Bx t4 w.heap.size 45 [.int .i64 d.id, .bool true, .int .i64 d.m.id, .int .i64 d.m.rid, .slice d.mv.ms.a d.mv.ms.n d.mv.ms.c, .slice d.mv.its.a d.mv.its.n d.mv.its.c, .slice d.mv.lv.a d.mv.lv.n d.mv.lv.c, .slice d.mv.tx.a d.mv.tx.n d.mv.tx.c, .int .i64 d.m.rd, .int .i64 d.m.se, .int .i64 d.m.li, .int .i64 d.m.he, .int .i64 d.m.la.c, .int .i64 d.m.la.r, .int .i64 d.m.la.q, .int .i64 d.m.la.a, .int .i64 d.m.la.b, .slice d.mv.ws.a d.mv.ws.n d.mv.ws.c, .int .i64 d.most, .int .i64 d.old, .int .i64 d.jid, .slice d.js.a d.js.n d.js.c, .slice d.bs.a d.bs.n d.bs.c, .slice d.ls.a d.ls.n d.ls.c]) := LA.out.later b
        have BW : Hid (Below w.heap.size w t4) := bl_next BW.out b
        have HR : Hid (DmR t4 d) := HR.out.stays b
        clear b
        obtain ⟨R4, k4⟩ : ∃ R : Bool, (decide (0 ≤ d.old ∧ d.old ≤ d.most)) = R := ⟨_, rfl⟩
        rw [k4]
        have K4 : Hid ((decide (0 ≤ d.old ∧ d.old ≤ d.most)) = R4) := k4
        clear k4
        cases R4 with
        | false =>
          have e : dmI d = false := by
            unfold dmI idB moB olB
            simp only [hdd.out, K1.out, K2.out, K3.out, K4.out, bne_self_eq_false, Bool.false_and, Bool.true_and, Bool.and_false, Bool.and_true, Bool.not_true, Bool.not_false, Bool.or_true, Bool.true_or, Bool.or_false, Bool.false_or, cond_true, cond_false]
          rw [hR.out] at e
          clear hR
          subst e
          go_wp2_with fail
          go_ret
          exact ⟨rfl, BW.out⟩
        | true =>
          have c1 := LA.out.cell 1
          simp only [List.getElem?_cons_succ, List.getElem?_cons_zero] at c1
          have e : dmI d = false := by
            unfold dmI idB moB olB
            simp only [hdd.out, K1.out, K2.out, K3.out, K4.out, bne_self_eq_false, Bool.false_and, Bool.true_and, Bool.and_false, Bool.and_true, Bool.not_true, Bool.not_false, Bool.or_true, Bool.true_or, Bool.or_false, Bool.false_or, cond_true, cond_false]
          rw [hR.out] at e
          clear hR
          subst e
          go_wp2_with fail
          go_ret
          exact ⟨rfl, BW.out⟩
  | true =>
    go_wp2_with (first | (with_reducible refine wpList_haltL 37 _ rfl ?_))
    refine Stp.go ?_
    refine wpList_ldG rfl 37 _ rfl w.heap.size 20 rfl 45 _ LA.out [.int .i64 d.jid, .slice d.js.a d.js.n d.js.c] rfl _ Try.underlying37 rfl Try.sizeR ?_
    go_wp2_with fail
    refine (noRing_any d.jid d.js _).mono ?_
    rintro e t5 ⟨rfl, b⟩
    have LA : Hid (Bx t5 w.heap.size 45 [.int .i64 d.id, .bool true, .int .i64 d.m.id, .int .i64 d.m.rid, .slice d.mv.ms.a d.mv.ms.n d.mv.ms.c, .slice d.mv.its.a d.mv.its.n d.mv.its.c, .slice d.mv.lv.a d.mv.lv.n d.mv.lv.c, .slice d.mv.tx.a d.mv.tx.n d.mv.tx.c, .int .i64 d.m.rd, .int .i64 d.m.se, .int .i64 d.m.li, .int .i64 d.m.he, .int .i64 d.m.la.c, .int .i64 d.m.la.r, .int .i64 d.m.la.q, .int .i64 d.m.la.a, .int .i64 d.m.la.b, .slice d.mv.ws.a d.mv.ws.n d.mv.ws.c, .int .i64 d.most, .int .i64 d.old, .int .i64 d.jid, .slice d.js.a d.js.n d.js.c, .slice d.bs.a d.bs.n d.bs.c, .slice d.ls.a d.ls.n d.ls.c]) := LA.out.later b
    have BW : Hid (Below w.heap.size w t5) := bl_next BW.out b
    have HR : Hid (DmR t5 d) := HR.out.stays b
    clear b
    obtain ⟨R5, k5⟩ : ∃ R : Bool, (nrB d.jid d.js.n) = R := ⟨_, rfl⟩
    rw [k5]
    have K5 : Hid ((nrB d.jid d.js.n) = R5) := k5
    clear k5
    cases R5 with
    | false =>
      have c0 := LA.out.cell 0
      simp only [List.getElem?_cons_succ, List.getElem?_cons_zero] at c0
      go_wp2_with fail
      refine (within_b d.id 1 5 _).mono ?_
      rintro e t6 ⟨rfl, b⟩
      have LA : Hid (Bx t6 w.heap.size 45 [.int .i64 d.id, .bool true, .int .i64 d.m.id, .int .i64 d.m.rid, .slice d.mv.ms.a d.mv.ms.n d.mv.ms.c, .slice d.mv.its.a d.mv.its.n d.mv.its.c, .slice d.mv.lv.a d.mv.lv.n d.mv.lv.c, .slice d.mv.tx.a d.mv.tx.n d.mv.tx.c, .int .i64 d.m.rd, .int .i64 d.m.se, .int .i64 d.m.li, .int .i64 d.m.he, .int .i64 d.m.la.c, .int .i64 d.m.la.r, .int .i64 d.m.la.q, .int .i64 d.m.la.a, .int .i64 d.m.la.b, .slice d.mv.ws.a d.mv.ws.n d.mv.ws.c, .int .i64 d.most, .int .i64 d.old, .int .i64 d.jid, .slice d.js.a d.js.n d.js.c, .slice d.bs.a d.bs.n d.bs.c, .slice d.ls.a d.ls.n d.ls.c]) := LA.out.later b
      have BW : Hid (Below w.heap.size w t6) := bl_next BW.out b
      have HR : Hid (DmR t6 d) := HR.out.stays b
      clear b
      obtain ⟨R6, k6⟩ : ∃ R : Bool, (decide (1 ≤ d.id ∧ d.id ≤ 5)) = R := ⟨_, rfl⟩
      rw [k6]
      have K6 : Hid ((decide (1 ≤ d.id ∧ d.id ≤ 5)) = R6) := k6
      clear k6
      cases R6 with
      | false =>
        have e : dmI d = false := by
          unfold dmI idB moB olB
          simp only [hdd.out, K1.out, K5.out, K6.out, bne_self_eq_false, Bool.false_and, Bool.true_and, Bool.and_false, Bool.and_true, Bool.not_true, Bool.not_false, Bool.or_true, Bool.true_or, Bool.or_false, Bool.false_or, cond_true, cond_false]
        rw [hR.out] at e
        clear hR
        subst e
        go_wp2_with fail
        go_ret
        exact ⟨rfl, BW.out⟩
      | true =>
        have c18 := LA.out.cell 18
        simp only [List.getElem?_cons_succ, List.getElem?_cons_zero] at c18
        go_wp2_with fail
        refine (within_b d.most 0 9 _).mono ?_
        rintro e t7 ⟨rfl, b⟩
        have LA : Hid (Bx t7 w.heap.size 45 [.int .i64 d.id, .bool true, .int .i64 d.m.id, .int .i64 d.m.rid, .slice d.mv.ms.a d.mv.ms.n d.mv.ms.c, .slice d.mv.its.a d.mv.its.n d.mv.its.c, .slice d.mv.lv.a d.mv.lv.n d.mv.lv.c, .slice d.mv.tx.a d.mv.tx.n d.mv.tx.c, .int .i64 d.m.rd, .int .i64 d.m.se, .int .i64 d.m.li, .int .i64 d.m.he, .int .i64 d.m.la.c, .int .i64 d.m.la.r, .int .i64 d.m.la.q, .int .i64 d.m.la.a, .int .i64 d.m.la.b, .slice d.mv.ws.a d.mv.ws.n d.mv.ws.c, .int .i64 d.most, .int .i64 d.old, .int .i64 d.jid, .slice d.js.a d.js.n d.js.c, .slice d.bs.a d.bs.n d.bs.c, .slice d.ls.a d.ls.n d.ls.c]) := LA.out.later b
        have BW : Hid (Below w.heap.size w t7) := bl_next BW.out b
        have HR : Hid (DmR t7 d) := HR.out.stays b
        clear b
        obtain ⟨R7, k7⟩ : ∃ R : Bool, (decide (0 ≤ d.most ∧ d.most ≤ 9)) = R := ⟨_, rfl⟩
        rw [k7]
        have K7 : Hid ((decide (0 ≤ d.most ∧ d.most ≤ 9)) = R7) := k7
        clear k7
        cases R7 with
        | false =>
          have e : dmI d = false := by
            unfold dmI idB moB olB
            simp only [hdd.out, K1.out, K5.out, K6.out, K7.out, bne_self_eq_false, Bool.false_and, Bool.true_and, Bool.and_false, Bool.and_true, Bool.not_true, Bool.not_false, Bool.or_true, Bool.true_or, Bool.or_false, Bool.false_or, cond_true, cond_false]
          rw [hR.out] at e
          clear hR
          subst e
          go_wp2_with fail
          go_ret
          exact ⟨rfl, BW.out⟩
        | true =>
          have c19 := LA.out.cell 19
          have c18 := LA.out.cell 18
          simp only [List.getElem?_cons_succ, List.getElem?_cons_zero] at c19 c18
          go_wp2_with fail
          refine (within_b d.old 0 d.most _).mono ?_
          rintro e t8 ⟨rfl, b⟩
          have LA : Hid (Bx t8 w.heap.size 45 [.int .i64 d.id, .bool true, .int .i64 d.m.id, .int .i64 d.m.rid, .slice d.mv.ms.a d.mv.ms.n d.mv.ms.c, .slice d.mv.its.a d.mv.its.n d.mv.its.c, .slice d.mv.lv.a d.mv.lv.n d.mv.lv.c, .slice d.mv.tx.a d.mv.tx.n d.mv.tx.c, .int .i64 d.m.rd, .int .i64 d.m.se, .int .i64 d.m.li, .int .i64 d.m.he, .int .i64 d.m.la.c, .int .i64 d.m.la.r, .int .i64 d.m.la.q, .int .i64 d.m.la.a, .int .i64 d.m.la.b, .slice d.mv.ws.a d.mv.ws.n d.mv.ws.c, .int .i64 d.most, .int .i64 d.old, .int .i64 d.jid, .slice d.js.a d.js.n d.js.c, .slice d.bs.a d.bs.n d.bs.c, .slice d.ls.a d.ls.n d.ls.c]) := LA.out.later b
          have BW : Hid (Below w.heap.size w t8) := bl_next BW.out b
          have HR : Hid (DmR t8 d) := HR.out.stays b
          clear b
          obtain ⟨R8, k8⟩ : ∃ R : Bool, (decide (0 ≤ d.old ∧ d.old ≤ d.most)) = R := ⟨_, rfl⟩
          rw [k8]
          have K8 : Hid ((decide (0 ≤ d.old ∧ d.old ≤ d.most)) = R8) := k8
          clear k8
          cases R8 with
          | false =>
            have e : dmI d = false := by
              unfold dmI idB moB olB
              simp only [hdd.out, K1.out, K5.out, K6.out, K7.out, K8.out, bne_self_eq_false, Bool.false_and, Bool.true_and, Bool.and_false, Bool.and_true, Bool.not_true, Bool.not_false, Bool.or_true, Bool.true_or, Bool.or_false, Bool.false_or, cond_true, cond_false]
            rw [hR.out] at e
            clear hR
            subst e
            go_wp2_with fail
            go_ret
            exact ⟨rfl, BW.out⟩
          | true =>
            have c1 := LA.out.cell 1
            simp only [List.getElem?_cons_succ, List.getElem?_cons_zero] at c1
            have e : dmI d = false := by
              unfold dmI idB moB olB
              simp only [hdd.out, K1.out, K5.out, K6.out, K7.out, K8.out, bne_self_eq_false, Bool.false_and, Bool.true_and, Bool.and_false, Bool.and_true, Bool.not_true, Bool.not_false, Bool.or_true, Bool.true_or, Bool.or_false, Bool.false_or, cond_true, cond_false]
            rw [hR.out] at e
            clear hR
            subst e
            go_wp2_with fail
            go_ret
            exact ⟨rfl, BW.out⟩
    | true =>
      have c0 := LA.out.cell 0
      simp only [List.getElem?_cons_succ, List.getElem?_cons_zero] at c0
      go_wp2_with fail
      refine (within_b d.id 1 5 _).mono ?_
      rintro e t9 ⟨rfl, b⟩
      have LA : Hid (Bx t9 w.heap.size 45 [.int .i64 d.id, .bool true, .int .i64 d.m.id, .int .i64 d.m.rid, .slice d.mv.ms.a d.mv.ms.n d.mv.ms.c, .slice d.mv.its.a d.mv.its.n d.mv.its.c, .slice d.mv.lv.a d.mv.lv.n d.mv.lv.c, .slice d.mv.tx.a d.mv.tx.n d.mv.tx.c, .int .i64 d.m.rd, .int .i64 d.m.se, .int .i64 d.m.li, .int .i64 d.m.he, .int .i64 d.m.la.c, .int .i64 d.m.la.r, .int .i64 d.m.la.q, .int .i64 d.m.la.a, .int .i64 d.m.la.b, .slice d.mv.ws.a d.mv.ws.n d.mv.ws.c, .int .i64 d.most, .int .i64 d.old, .int .i64 d.jid, .slice d.js.a d.js.n d.js.c, .slice d.bs.a d.bs.n d.bs.c, .slice d.ls.a d.ls.n d.ls.c]) := LA.out.later b
      have BW : Hid (Below w.heap.size w t9) := bl_next BW.out b
      have HR : Hid (DmR t9 d) := HR.out.stays b
      clear b
      obtain ⟨R9, k9⟩ : ∃ R : Bool, (decide (1 ≤ d.id ∧ d.id ≤ 5)) = R := ⟨_, rfl⟩
      rw [k9]
      have K9 : Hid ((decide (1 ≤ d.id ∧ d.id ≤ 5)) = R9) := k9
      clear k9
      cases R9 with
      | false =>
        have e : dmI d = false := by
          unfold dmI idB moB olB
          simp only [hdd.out, K1.out, K5.out, K9.out, bne_self_eq_false, Bool.false_and, Bool.true_and, Bool.and_false, Bool.and_true, Bool.not_true, Bool.not_false, Bool.or_true, Bool.true_or, Bool.or_false, Bool.false_or, cond_true, cond_false]
        rw [hR.out] at e
        clear hR
        subst e
        go_wp2_with fail
        go_ret
        exact ⟨rfl, BW.out⟩
      | true =>
        have c18 := LA.out.cell 18
        simp only [List.getElem?_cons_succ, List.getElem?_cons_zero] at c18
        go_wp2_with fail
        refine (within_b d.most 0 9 _).mono ?_
        rintro e t10 ⟨rfl, b⟩
        have LA : Hid (Bx t10 w.heap.size 45 [.int .i64 d.id, .bool true, .int .i64 d.m.id, .int .i64 d.m.rid, .slice d.mv.ms.a d.mv.ms.n d.mv.ms.c, .slice d.mv.its.a d.mv.its.n d.mv.its.c, .slice d.mv.lv.a d.mv.lv.n d.mv.lv.c, .slice d.mv.tx.a d.mv.tx.n d.mv.tx.c, .int .i64 d.m.rd, .int .i64 d.m.se, .int .i64 d.m.li, .int .i64 d.m.he, .int .i64 d.m.la.c, .int .i64 d.m.la.r, .int .i64 d.m.la.q, .int .i64 d.m.la.a, .int .i64 d.m.la.b, .slice d.mv.ws.a d.mv.ws.n d.mv.ws.c, .int .i64 d.most, .int .i64 d.old, .int .i64 d.jid, .slice d.js.a d.js.n d.js.c, .slice d.bs.a d.bs.n d.bs.c, .slice d.ls.a d.ls.n d.ls.c]) := LA.out.later b
        have BW : Hid (Below w.heap.size w t10) := bl_next BW.out b
        have HR : Hid (DmR t10 d) := HR.out.stays b
        clear b
        obtain ⟨R10, k10⟩ : ∃ R : Bool, (decide (0 ≤ d.most ∧ d.most ≤ 9)) = R := ⟨_, rfl⟩
        rw [k10]
        have K10 : Hid ((decide (0 ≤ d.most ∧ d.most ≤ 9)) = R10) := k10
        clear k10
        cases R10 with
        | false =>
          have e : dmI d = false := by
            unfold dmI idB moB olB
            simp only [hdd.out, K1.out, K5.out, K9.out, K10.out, bne_self_eq_false, Bool.false_and, Bool.true_and, Bool.and_false, Bool.and_true, Bool.not_true, Bool.not_false, Bool.or_true, Bool.true_or, Bool.or_false, Bool.false_or, cond_true, cond_false]
          rw [hR.out] at e
          clear hR
          subst e
          go_wp2_with fail
          go_ret
          exact ⟨rfl, BW.out⟩
        | true =>
          have c19 := LA.out.cell 19
          have c18 := LA.out.cell 18
          simp only [List.getElem?_cons_succ, List.getElem?_cons_zero] at c19 c18
          go_wp2_with fail
          refine (within_b d.old 0 d.most _).mono ?_
          rintro e t11 ⟨rfl, b⟩
          have LA : Hid (Bx t11 w.heap.size 45 [.int .i64 d.id, .bool true, .int .i64 d.m.id, .int .i64 d.m.rid, .slice d.mv.ms.a d.mv.ms.n d.mv.ms.c, .slice d.mv.its.a d.mv.its.n d.mv.its.c, .slice d.mv.lv.a d.mv.lv.n d.mv.lv.c, .slice d.mv.tx.a d.mv.tx.n d.mv.tx.c, .int .i64 d.m.rd, .int .i64 d.m.se, .int .i64 d.m.li, .int .i64 d.m.he, .int .i64 d.m.la.c, .int .i64 d.m.la.r, .int .i64 d.m.la.q, .int .i64 d.m.la.a, .int .i64 d.m.la.b, .slice d.mv.ws.a d.mv.ws.n d.mv.ws.c, .int .i64 d.most, .int .i64 d.old, .int .i64 d.jid, .slice d.js.a d.js.n d.js.c, .slice d.bs.a d.bs.n d.bs.c, .slice d.ls.a d.ls.n d.ls.c]) := LA.out.later b
          have BW : Hid (Below w.heap.size w t11) := bl_next BW.out b
          have HR : Hid (DmR t11 d) := HR.out.stays b
          clear b
          obtain ⟨R11, k11⟩ : ∃ R : Bool, (decide (0 ≤ d.old ∧ d.old ≤ d.most)) = R := ⟨_, rfl⟩
          rw [k11]
          have K11 : Hid ((decide (0 ≤ d.old ∧ d.old ≤ d.most)) = R11) := k11
          clear k11
          cases R11 with
          | false =>
            have e : dmI d = false := by
              unfold dmI idB moB olB
              simp only [hdd.out, K1.out, K5.out, K9.out, K10.out, K11.out, bne_self_eq_false, Bool.false_and, Bool.true_and, Bool.and_false, Bool.and_true, Bool.not_true, Bool.not_false, Bool.or_true, Bool.true_or, Bool.or_false, Bool.false_or, cond_true, cond_false]
            rw [hR.out] at e
            clear hR
            subst e
            go_wp2_with fail
            go_ret
            exact ⟨rfl, BW.out⟩
          | true =>
            have c1 := LA.out.cell 1
            simp only [List.getElem?_cons_succ, List.getElem?_cons_zero] at c1
            go_wp2_with (first | (with_reducible refine wpList_haltL 45 _ rfl ?_))
            refine Stp.go ?_
            refine wpList_ldG rfl 45 _ rfl w.heap.size 0 rfl 45 _ LA.out [.int .i64 d.id, .bool true, .int .i64 d.m.id, .int .i64 d.m.rid, .slice d.mv.ms.a d.mv.ms.n d.mv.ms.c, .slice d.mv.its.a d.mv.its.n d.mv.its.c, .slice d.mv.lv.a d.mv.lv.n d.mv.lv.c, .slice d.mv.tx.a d.mv.tx.n d.mv.tx.c, .int .i64 d.m.rd, .int .i64 d.m.se, .int .i64 d.m.li, .int .i64 d.m.he, .int .i64 d.m.la.c, .int .i64 d.m.la.r, .int .i64 d.m.la.q, .int .i64 d.m.la.a, .int .i64 d.m.la.b, .slice d.mv.ws.a d.mv.ws.n d.mv.ws.c, .int .i64 d.most, .int .i64 d.old, .int .i64 d.jid, .slice d.js.a d.js.n d.js.c, .slice d.bs.a d.bs.n d.bs.c, .slice d.ls.a d.ls.n d.ls.c] rfl _ Try.underlying45 rfl Try.sizeDa ?_
            go_wp2_with fail
            refine (dmateOk_b d true _ hdd HR.out.mt hs.out.mt).mono ?_
            rintro e t12 ⟨rfl, b⟩
            have LA : Hid (Bx t12 w.heap.size 45 [.int .i64 d.id, .bool true, .int .i64 d.m.id, .int .i64 d.m.rid, .slice d.mv.ms.a d.mv.ms.n d.mv.ms.c, .slice d.mv.its.a d.mv.its.n d.mv.its.c, .slice d.mv.lv.a d.mv.lv.n d.mv.lv.c, .slice d.mv.tx.a d.mv.tx.n d.mv.tx.c, .int .i64 d.m.rd, .int .i64 d.m.se, .int .i64 d.m.li, .int .i64 d.m.he, .int .i64 d.m.la.c, .int .i64 d.m.la.r, .int .i64 d.m.la.q, .int .i64 d.m.la.a, .int .i64 d.m.la.b, .slice d.mv.ws.a d.mv.ws.n d.mv.ws.c, .int .i64 d.most, .int .i64 d.old, .int .i64 d.jid, .slice d.js.a d.js.n d.js.c, .slice d.bs.a d.bs.n d.bs.c, .slice d.ls.a d.ls.n d.ls.c]) := LA.out.later b
            have BW : Hid (Below w.heap.size w t12) := bl_next BW.out b
            have HR : Hid (DmR t12 d) := HR.out.stays b
            clear b
            obtain ⟨R12, k12⟩ : ∃ R : Bool, (dmM d) = R := ⟨_, rfl⟩
            rw [k12]
            have K12 : Hid ((dmM d) = R12) := k12
            clear k12
            cases R12 with
            | false =>
              have e : dmI d = false := by
                unfold dmI idB moB olB
                simp only [hdd.out, K1.out, K5.out, K9.out, K10.out, K11.out, K12.out, bne_self_eq_false, Bool.false_and, Bool.true_and, Bool.and_false, Bool.and_true, Bool.not_true, Bool.not_false, Bool.or_true, Bool.true_or, Bool.or_false, Bool.false_or, cond_true, cond_false]
              rw [hR.out] at e
              clear hR
              subst e
              go_wp2_with fail
              go_ret
              exact ⟨rfl, BW.out⟩
            | true =>
              go_wp2_with (first | (with_reducible refine wpList_haltL 45 _ rfl ?_))
              refine Stp.go ?_
              refine wpList_ldG rfl 45 _ rfl w.heap.size 0 rfl 45 _ LA.out [.int .i64 d.id, .bool true, .int .i64 d.m.id, .int .i64 d.m.rid, .slice d.mv.ms.a d.mv.ms.n d.mv.ms.c, .slice d.mv.its.a d.mv.its.n d.mv.its.c, .slice d.mv.lv.a d.mv.lv.n d.mv.lv.c, .slice d.mv.tx.a d.mv.tx.n d.mv.tx.c, .int .i64 d.m.rd, .int .i64 d.m.se, .int .i64 d.m.li, .int .i64 d.m.he, .int .i64 d.m.la.c, .int .i64 d.m.la.r, .int .i64 d.m.la.q, .int .i64 d.m.la.a, .int .i64 d.m.la.b, .slice d.mv.ws.a d.mv.ws.n d.mv.ws.c, .int .i64 d.most, .int .i64 d.old, .int .i64 d.jid, .slice d.js.a d.js.n d.js.c, .slice d.bs.a d.bs.n d.bs.c, .slice d.ls.a d.ls.n d.ls.c] rfl _ Try.underlying45 rfl Try.sizeDa ?_
              go_wp2_with fail
              refine (joiningOk_true d _ hdd HR.out.jo HR.out.bu hs ⟨(of_decide_eq_true (show decide (0 ≤ d.old ∧ d.old ≤ d.most) = true from K11.out)).1, by have h1 := (of_decide_eq_true (show decide (0 ≤ d.old ∧ d.old ≤ d.most) = true from K11.out)).2; have h2 := (of_decide_eq_true (show decide (0 ≤ d.most ∧ d.most ≤ 9) = true from K10.out)).2; omega⟩).mono ?_
              rintro e t13 ⟨rfl, b⟩
              have LA : Hid (Bx t13 w.heap.size 45 [.int .i64 d.id, .bool true, .int .i64 d.m.id, .int .i64 d.m.rid, .slice d.mv.ms.a d.mv.ms.n d.mv.ms.c, .slice d.mv.its.a d.mv.its.n d.mv.its.c, .slice d.mv.lv.a d.mv.lv.n d.mv.lv.c, .slice d.mv.tx.a d.mv.tx.n d.mv.tx.c, .int .i64 d.m.rd, .int .i64 d.m.se, .int .i64 d.m.li, .int .i64 d.m.he, .int .i64 d.m.la.c, .int .i64 d.m.la.r, .int .i64 d.m.la.q, .int .i64 d.m.la.a, .int .i64 d.m.la.b, .slice d.mv.ws.a d.mv.ws.n d.mv.ws.c, .int .i64 d.most, .int .i64 d.old, .int .i64 d.jid, .slice d.js.a d.js.n d.js.c, .slice d.bs.a d.bs.n d.bs.c, .slice d.ls.a d.ls.n d.ls.c]) := LA.out.later b
              have BW : Hid (Below w.heap.size w t13) := bl_next BW.out b
              have HR : Hid (DmR t13 d) := HR.out.stays b
              clear b
              obtain ⟨R13, k13⟩ : ∃ R : Bool, (dmJ d) = R := ⟨_, rfl⟩
              rw [k13]
              have K13 : Hid ((dmJ d) = R13) := k13
              clear k13
              cases R13 with
              | false =>
                have e : dmI d = false := by
                  unfold dmI idB moB olB
                  simp only [hdd.out, K1.out, K5.out, K9.out, K10.out, K11.out, K12.out, K13.out, bne_self_eq_false, Bool.false_and, Bool.true_and, Bool.and_false, Bool.and_true, Bool.not_true, Bool.not_false, Bool.or_true, Bool.true_or, Bool.or_false, Bool.false_or, cond_true, cond_false]
                rw [hR.out] at e
                clear hR
                subst e
                go_wp2_with fail
                go_ret
                exact ⟨rfl, BW.out⟩
              | true =>
                have e : dmI d = true := by
                  unfold dmI idB moB olB
                  simp only [hdd.out, K1.out, K5.out, K9.out, K10.out, K11.out, K12.out, K13.out, bne_self_eq_false, Bool.false_and, Bool.true_and, Bool.and_false, Bool.and_true, Bool.not_true, Bool.not_false, Bool.or_true, Bool.true_or, Bool.or_false, Bool.false_or, cond_true, cond_false]
                rw [hR.out] at e
                clear hR
                subst e
                go_wp2_with fail
                go_ret
                exact ⟨rfl, BW.out⟩
set_option maxRecDepth 100000 in
set_option maxHeartbeats 32000000 in
theorem daemonOk_false (d : Dm) (w : World) (hdd : Hid (d.dead = false)) (h : Hid (DmR w d)) (hs : Hid (DmS d)) : Calls Try.prog 7 #[.agg #[.int .i64 d.id, .bool false, .int .i64 d.m.id, .int .i64 d.m.rid, .slice d.mv.ms.a d.mv.ms.n d.mv.ms.c, .slice d.mv.its.a d.mv.its.n d.mv.its.c, .slice d.mv.lv.a d.mv.lv.n d.mv.lv.c, .slice d.mv.tx.a d.mv.tx.n d.mv.tx.c, .int .i64 d.m.rd, .int .i64 d.m.se, .int .i64 d.m.li, .int .i64 d.m.he, .int .i64 d.m.la.c, .int .i64 d.m.la.r, .int .i64 d.m.la.q, .int .i64 d.m.la.a, .int .i64 d.m.la.b, .slice d.mv.ws.a d.mv.ws.n d.mv.ws.c, .int .i64 d.most, .int .i64 d.old, .int .i64 d.jid, .slice d.js.a d.js.n d.js.c, .slice d.bs.a d.bs.n d.bs.c, .slice d.ls.a d.ls.n d.ls.c]] w fun e w' => e = .returned (.bool (dmI d)) ∧ Below w.heap.size w w' := by
  obtain ⟨R, hR0⟩ : ∃ R, dmI d = R := ⟨_, rfl⟩
  rw [hR0]
  have hR : Hid (dmI d = R) := hR0
  clear hR0
  have LA : Hid (Bx (w.alloc (.cells #[.int .i64 d.id, .bool false, .int .i64 d.m.id, .int .i64 d.m.rid, .slice d.mv.ms.a d.mv.ms.n d.mv.ms.c, .slice d.mv.its.a d.mv.its.n d.mv.its.c, .slice d.mv.lv.a d.mv.lv.n d.mv.lv.c, .slice d.mv.tx.a d.mv.tx.n d.mv.tx.c, .int .i64 d.m.rd, .int .i64 d.m.se, .int .i64 d.m.li, .int .i64 d.m.he, .int .i64 d.m.la.c, .int .i64 d.m.la.r, .int .i64 d.m.la.q, .int .i64 d.m.la.a, .int .i64 d.m.la.b, .slice d.mv.ws.a d.mv.ws.n d.mv.ws.c, .int .i64 d.most, .int .i64 d.old, .int .i64 d.jid, .slice d.js.a d.js.n d.js.c, .slice d.bs.a d.bs.n d.bs.c, .slice d.ls.a d.ls.n d.ls.c] 45)) w.heap.size 45 [.int .i64 d.id, .bool false, .int .i64 d.m.id, .int .i64 d.m.rid, .slice d.mv.ms.a d.mv.ms.n d.mv.ms.c, .slice d.mv.its.a d.mv.its.n d.mv.its.c, .slice d.mv.lv.a d.mv.lv.n d.mv.lv.c, .slice d.mv.tx.a d.mv.tx.n d.mv.tx.c, .int .i64 d.m.rd, .int .i64 d.m.se, .int .i64 d.m.li, .int .i64 d.m.he, .int .i64 d.m.la.c, .int .i64 d.m.la.r, .int .i64 d.m.la.q, .int .i64 d.m.la.a, .int .i64 d.m.la.b, .slice d.mv.ws.a d.mv.ws.n d.mv.ws.c, .int .i64 d.most, .int .i64 d.old, .int .i64 d.jid, .slice d.js.a d.js.n d.js.c, .slice d.bs.a d.bs.n d.bs.c, .slice d.ls.a d.ls.n d.ls.c]) := by
    have h := Bx.new w 45 [.int .i64 d.id, .bool false, .int .i64 d.m.id, .int .i64 d.m.rid, .slice d.mv.ms.a d.mv.ms.n d.mv.ms.c, .slice d.mv.its.a d.mv.its.n d.mv.its.c, .slice d.mv.lv.a d.mv.lv.n d.mv.lv.c, .slice d.mv.tx.a d.mv.tx.n d.mv.tx.c, .int .i64 d.m.rd, .int .i64 d.m.se, .int .i64 d.m.li, .int .i64 d.m.he, .int .i64 d.m.la.c, .int .i64 d.m.la.r, .int .i64 d.m.la.q, .int .i64 d.m.la.a, .int .i64 d.m.la.b, .slice d.mv.ws.a d.mv.ws.n d.mv.ws.c, .int .i64 d.most, .int .i64 d.old, .int .i64 d.jid, .slice d.js.a d.js.n d.js.c, .slice d.bs.a d.bs.n d.bs.c, .slice d.ls.a d.ls.n d.ls.c]
    exact h
  have BW : Hid (Below w.heap.size w (w.alloc (.cells #[.int .i64 d.id, .bool false, .int .i64 d.m.id, .int .i64 d.m.rid, .slice d.mv.ms.a d.mv.ms.n d.mv.ms.c, .slice d.mv.its.a d.mv.its.n d.mv.its.c, .slice d.mv.lv.a d.mv.lv.n d.mv.lv.c, .slice d.mv.tx.a d.mv.tx.n d.mv.tx.c, .int .i64 d.m.rd, .int .i64 d.m.se, .int .i64 d.m.li, .int .i64 d.m.he, .int .i64 d.m.la.c, .int .i64 d.m.la.r, .int .i64 d.m.la.q, .int .i64 d.m.la.a, .int .i64 d.m.la.b, .slice d.mv.ws.a d.mv.ws.n d.mv.ws.c, .int .i64 d.most, .int .i64 d.old, .int .i64 d.jid, .slice d.js.a d.js.n d.js.c, .slice d.bs.a d.bs.n d.bs.c, .slice d.ls.a d.ls.n d.ls.c] 45))) := ((Below.refl _ _).alloc (by simp) _)
  have HR : Hid (DmR (w.alloc (.cells #[.int .i64 d.id, .bool false, .int .i64 d.m.id, .int .i64 d.m.rid, .slice d.mv.ms.a d.mv.ms.n d.mv.ms.c, .slice d.mv.its.a d.mv.its.n d.mv.its.c, .slice d.mv.lv.a d.mv.lv.n d.mv.lv.c, .slice d.mv.tx.a d.mv.tx.n d.mv.tx.c, .int .i64 d.m.rd, .int .i64 d.m.se, .int .i64 d.m.li, .int .i64 d.m.he, .int .i64 d.m.la.c, .int .i64 d.m.la.r, .int .i64 d.m.la.q, .int .i64 d.m.la.a, .int .i64 d.m.la.b, .slice d.mv.ws.a d.mv.ws.n d.mv.ws.c, .int .i64 d.most, .int .i64 d.old, .int .i64 d.jid, .slice d.js.a d.js.n d.js.c, .slice d.bs.a d.bs.n d.bs.c, .slice d.ls.a d.ls.n d.ls.c] 45)) d) := h.out.stays BW.out
  have HW : Hid (d.mv.ws.n = d.m.la.ws.length) := h.out.mt.ws.len
  have HJN : Hid (d.bs.n = d.bu.length) := h.out.bu.1
  clear h
  go_enter Try.func7, Try.ntmps7
  go_wp2_with (first | (with_reducible refine wpList_haltL 41 _ rfl ?_))
  refine Stp.go ?_
  refine wpList_ldG rfl 41 _ rfl w.heap.size 2 rfl 45 _ LA.out [.int .i64 d.m.id, .int .i64 d.m.rid, .slice d.mv.ms.a d.mv.ms.n d.mv.ms.c, .slice d.mv.its.a d.mv.its.n d.mv.its.c, .slice d.mv.lv.a d.mv.lv.n d.mv.lv.c, .slice d.mv.tx.a d.mv.tx.n d.mv.tx.c, .int .i64 d.m.rd, .int .i64 d.m.se, .int .i64 d.m.li, .int .i64 d.m.he, .int .i64 d.m.la.c, .int .i64 d.m.la.r, .int .i64 d.m.la.q, .int .i64 d.m.la.a, .int .i64 d.m.la.b, .slice d.mv.ws.a d.mv.ws.n d.mv.ws.c] rfl _ Try.underlying41 rfl Try.sizeM ?_
  go_wp2_with fail
  refine (noMate_any d.m d.mv _ HW.out).mono ?_
  rintro e t1 ⟨rfl, b⟩
  have LA : Hid (Bx t1 w.heap.size 45 [.int .i64 d.id, .bool false, .int .i64 d.m.id, .int .i64 d.m.rid, .slice d.mv.ms.a d.mv.ms.n d.mv.ms.c, .slice d.mv.its.a d.mv.its.n d.mv.its.c, .slice d.mv.lv.a d.mv.lv.n d.mv.lv.c, .slice d.mv.tx.a d.mv.tx.n d.mv.tx.c, .int .i64 d.m.rd, .int .i64 d.m.se, .int .i64 d.m.li, .int .i64 d.m.he, .int .i64 d.m.la.c, .int .i64 d.m.la.r, .int .i64 d.m.la.q, .int .i64 d.m.la.a, .int .i64 d.m.la.b, .slice d.mv.ws.a d.mv.ws.n d.mv.ws.c, .int .i64 d.most, .int .i64 d.old, .int .i64 d.jid, .slice d.js.a d.js.n d.js.c, .slice d.bs.a d.bs.n d.bs.c, .slice d.ls.a d.ls.n d.ls.c]) := LA.out.later b
  have BW : Hid (Below w.heap.size w t1) := bl_next BW.out b
  have HR : Hid (DmR t1 d) := HR.out.stays b
  clear b
  obtain ⟨R1, k1⟩ : ∃ R : Bool, (nmS d.m d.mv) = R := ⟨_, rfl⟩
  rw [k1]
  have K1 : Hid ((nmS d.m d.mv) = R1) := k1
  clear k1
  cases R1 with
  | false =>
    have c0 := LA.out.cell 0
    simp only [List.getElem?_cons_succ, List.getElem?_cons_zero] at c0
    go_wp2_with fail
    refine (within_b d.id 1 5 _).mono ?_
    rintro e t2 ⟨rfl, b⟩
    have LA : Hid (Bx t2 w.heap.size 45 [.int .i64 d.id, .bool false, .int .i64 d.m.id, .int .i64 d.m.rid, .slice d.mv.ms.a d.mv.ms.n d.mv.ms.c, .slice d.mv.its.a d.mv.its.n d.mv.its.c, .slice d.mv.lv.a d.mv.lv.n d.mv.lv.c, .slice d.mv.tx.a d.mv.tx.n d.mv.tx.c, .int .i64 d.m.rd, .int .i64 d.m.se, .int .i64 d.m.li, .int .i64 d.m.he, .int .i64 d.m.la.c, .int .i64 d.m.la.r, .int .i64 d.m.la.q, .int .i64 d.m.la.a, .int .i64 d.m.la.b, .slice d.mv.ws.a d.mv.ws.n d.mv.ws.c, .int .i64 d.most, .int .i64 d.old, .int .i64 d.jid, .slice d.js.a d.js.n d.js.c, .slice d.bs.a d.bs.n d.bs.c, .slice d.ls.a d.ls.n d.ls.c]) := LA.out.later b
    have BW : Hid (Below w.heap.size w t2) := bl_next BW.out b
    have HR : Hid (DmR t2 d) := HR.out.stays b
    clear b
    obtain ⟨R2, k2⟩ : ∃ R : Bool, (decide (1 ≤ d.id ∧ d.id ≤ 5)) = R := ⟨_, rfl⟩
    rw [k2]
    have K2 : Hid ((decide (1 ≤ d.id ∧ d.id ≤ 5)) = R2) := k2
    clear k2
    cases R2 with
    | false =>
      have e : dmI d = false := by
        unfold dmI idB moB olB
        simp only [hdd.out, K1.out, K2.out, bne_self_eq_false, Bool.false_and, Bool.true_and, Bool.and_false, Bool.and_true, Bool.not_true, Bool.not_false, Bool.or_true, Bool.true_or, Bool.or_false, Bool.false_or, cond_true, cond_false]
      rw [hR.out] at e
      clear hR
      subst e
      go_wp2_with fail
      go_ret
      exact ⟨rfl, BW.out⟩
    | true =>
      have c18 := LA.out.cell 18
      simp only [List.getElem?_cons_succ, List.getElem?_cons_zero] at c18
      go_wp2_with fail
      refine (within_b d.most 0 9 _).mono ?_
      rintro e t3 ⟨rfl, b⟩
      have LA : Hid (Bx t3 w.heap.size 45 [.int .i64 d.id, .bool false, .int .i64 d.m.id, .int .i64 d.m.rid, .slice d.mv.ms.a d.mv.ms.n d.mv.ms.c, .slice d.mv.its.a d.mv.its.n d.mv.its.c, .slice d.mv.lv.a d.mv.lv.n d.mv.lv.c, .slice d.mv.tx.a d.mv.tx.n d.mv.tx.c, .int .i64 d.m.rd, .int .i64 d.m.se, .int .i64 d.m.li, .int .i64 d.m.he, .int .i64 d.m.la.c, .int .i64 d.m.la.r, .int .i64 d.m.la.q, .int .i64 d.m.la.a, .int .i64 d.m.la.b, .slice d.mv.ws.a d.mv.ws.n d.mv.ws.c, .int .i64 d.most, .int .i64 d.old, .int .i64 d.jid, .slice d.js.a d.js.n d.js.c, .slice d.bs.a d.bs.n d.bs.c, .slice d.ls.a d.ls.n d.ls.c]) := LA.out.later b
      have BW : Hid (Below w.heap.size w t3) := bl_next BW.out b
      have HR : Hid (DmR t3 d) := HR.out.stays b
      clear b
      obtain ⟨R3, k3⟩ : ∃ R : Bool, (decide (0 ≤ d.most ∧ d.most ≤ 9)) = R := ⟨_, rfl⟩
      rw [k3]
      have K3 : Hid ((decide (0 ≤ d.most ∧ d.most ≤ 9)) = R3) := k3
      clear k3
      cases R3 with
      | false =>
        have e : dmI d = false := by
          unfold dmI idB moB olB
          simp only [hdd.out, K1.out, K2.out, K3.out, bne_self_eq_false, Bool.false_and, Bool.true_and, Bool.and_false, Bool.and_true, Bool.not_true, Bool.not_false, Bool.or_true, Bool.true_or, Bool.or_false, Bool.false_or, cond_true, cond_false]
        rw [hR.out] at e
        clear hR
        subst e
        go_wp2_with fail
        go_ret
        exact ⟨rfl, BW.out⟩
      | true =>
        have c19 := LA.out.cell 19
        have c18 := LA.out.cell 18
        simp only [List.getElem?_cons_succ, List.getElem?_cons_zero] at c19 c18
        go_wp2_with fail
        refine (within_b d.old 0 d.most _).mono ?_
        rintro e t4 ⟨rfl, b⟩
        have LA : Hid (Bx t4 w.heap.size 45 [.int .i64 d.id, .bool false, .int .i64 d.m.id, .int .i64 d.m.rid, .slice d.mv.ms.a d.mv.ms.n d.mv.ms.c, .slice d.mv.its.a d.mv.its.n d.mv.its.c, .slice d.mv.lv.a d.mv.lv.n d.mv.lv.c, .slice d.mv.tx.a d.mv.tx.n d.mv.tx.c, .int .i64 d.m.rd, .int .i64 d.m.se, .int .i64 d.m.li, .int .i64 d.m.he, .int .i64 d.m.la.c, .int .i64 d.m.la.r, .int .i64 d.m.la.q, .int .i64 d.m.la.a, .int .i64 d.m.la.b, .slice d.mv.ws.a d.mv.ws.n d.mv.ws.c, .int .i64 d.most, .int .i64 d.old, .int .i64 d.jid, .slice d.js.a d.js.n d.js.c, .slice d.bs.a d.bs.n d.bs.c, .slice d.ls.a d.ls.n d.ls.c]) := LA.out.later b
        have BW : Hid (Below w.heap.size w t4) := bl_next BW.out b
        have HR : Hid (DmR t4 d) := HR.out.stays b
        clear b
        obtain ⟨R4, k4⟩ : ∃ R : Bool, (decide (0 ≤ d.old ∧ d.old ≤ d.most)) = R := ⟨_, rfl⟩
        rw [k4]
        have K4 : Hid ((decide (0 ≤ d.old ∧ d.old ≤ d.most)) = R4) := k4
        clear k4
        cases R4 with
        | false =>
          have e : dmI d = false := by
            unfold dmI idB moB olB
            simp only [hdd.out, K1.out, K2.out, K3.out, K4.out, bne_self_eq_false, Bool.false_and, Bool.true_and, Bool.and_false, Bool.and_true, Bool.not_true, Bool.not_false, Bool.or_true, Bool.true_or, Bool.or_false, Bool.false_or, cond_true, cond_false]
          rw [hR.out] at e
          clear hR
          subst e
          go_wp2_with fail
          go_ret
          exact ⟨rfl, BW.out⟩
        | true =>
          have c1 := LA.out.cell 1
          simp only [List.getElem?_cons_succ, List.getElem?_cons_zero] at c1
          go_wp2_with (first | (with_reducible refine wpList_haltL 45 _ rfl ?_))
          refine Stp.go ?_
          refine wpList_ldG rfl 45 _ rfl w.heap.size 0 rfl 45 _ LA.out [.int .i64 d.id, .bool false, .int .i64 d.m.id, .int .i64 d.m.rid, .slice d.mv.ms.a d.mv.ms.n d.mv.ms.c, .slice d.mv.its.a d.mv.its.n d.mv.its.c, .slice d.mv.lv.a d.mv.lv.n d.mv.lv.c, .slice d.mv.tx.a d.mv.tx.n d.mv.tx.c, .int .i64 d.m.rd, .int .i64 d.m.se, .int .i64 d.m.li, .int .i64 d.m.he, .int .i64 d.m.la.c, .int .i64 d.m.la.r, .int .i64 d.m.la.q, .int .i64 d.m.la.a, .int .i64 d.m.la.b, .slice d.mv.ws.a d.mv.ws.n d.mv.ws.c, .int .i64 d.most, .int .i64 d.old, .int .i64 d.jid, .slice d.js.a d.js.n d.js.c, .slice d.bs.a d.bs.n d.bs.c, .slice d.ls.a d.ls.n d.ls.c] rfl _ Try.underlying45 rfl Try.sizeDa ?_
          go_wp2_with fail
          refine (dmateOk_b d false _ hdd HR.out.mt hs.out.mt).mono ?_
          rintro e t5 ⟨rfl, b⟩
          have LA : Hid (Bx t5 w.heap.size 45 [.int .i64 d.id, .bool false, .int .i64 d.m.id, .int .i64 d.m.rid, .slice d.mv.ms.a d.mv.ms.n d.mv.ms.c, .slice d.mv.its.a d.mv.its.n d.mv.its.c, .slice d.mv.lv.a d.mv.lv.n d.mv.lv.c, .slice d.mv.tx.a d.mv.tx.n d.mv.tx.c, .int .i64 d.m.rd, .int .i64 d.m.se, .int .i64 d.m.li, .int .i64 d.m.he, .int .i64 d.m.la.c, .int .i64 d.m.la.r, .int .i64 d.m.la.q, .int .i64 d.m.la.a, .int .i64 d.m.la.b, .slice d.mv.ws.a d.mv.ws.n d.mv.ws.c, .int .i64 d.most, .int .i64 d.old, .int .i64 d.jid, .slice d.js.a d.js.n d.js.c, .slice d.bs.a d.bs.n d.bs.c, .slice d.ls.a d.ls.n d.ls.c]) := LA.out.later b
          have BW : Hid (Below w.heap.size w t5) := bl_next BW.out b
          have HR : Hid (DmR t5 d) := HR.out.stays b
          clear b
          obtain ⟨R5, k5⟩ : ∃ R : Bool, (dmM d) = R := ⟨_, rfl⟩
          rw [k5]
          have K5 : Hid ((dmM d) = R5) := k5
          clear k5
          cases R5 with
          | false =>
            have e : dmI d = false := by
              unfold dmI idB moB olB
              simp only [hdd.out, K1.out, K2.out, K3.out, K4.out, K5.out, bne_self_eq_false, Bool.false_and, Bool.true_and, Bool.and_false, Bool.and_true, Bool.not_true, Bool.not_false, Bool.or_true, Bool.true_or, Bool.or_false, Bool.false_or, cond_true, cond_false]
            rw [hR.out] at e
            clear hR
            subst e
            go_wp2_with fail
            go_ret
            exact ⟨rfl, BW.out⟩
          | true =>
            go_wp2_with (first | (with_reducible refine wpList_haltL 45 _ rfl ?_))
            refine Stp.go ?_
            refine wpList_ldG rfl 45 _ rfl w.heap.size 0 rfl 45 _ LA.out [.int .i64 d.id, .bool false, .int .i64 d.m.id, .int .i64 d.m.rid, .slice d.mv.ms.a d.mv.ms.n d.mv.ms.c, .slice d.mv.its.a d.mv.its.n d.mv.its.c, .slice d.mv.lv.a d.mv.lv.n d.mv.lv.c, .slice d.mv.tx.a d.mv.tx.n d.mv.tx.c, .int .i64 d.m.rd, .int .i64 d.m.se, .int .i64 d.m.li, .int .i64 d.m.he, .int .i64 d.m.la.c, .int .i64 d.m.la.r, .int .i64 d.m.la.q, .int .i64 d.m.la.a, .int .i64 d.m.la.b, .slice d.mv.ws.a d.mv.ws.n d.mv.ws.c, .int .i64 d.most, .int .i64 d.old, .int .i64 d.jid, .slice d.js.a d.js.n d.js.c, .slice d.bs.a d.bs.n d.bs.c, .slice d.ls.a d.ls.n d.ls.c] rfl _ Try.underlying45 rfl Try.sizeDa ?_
            go_wp2_with fail
            refine (joiningOk_false d _ hdd HR.out.jo HR.out.bu hs ⟨(of_decide_eq_true (show decide (0 ≤ d.old ∧ d.old ≤ d.most) = true from K4.out)).1, by have h1 := (of_decide_eq_true (show decide (0 ≤ d.old ∧ d.old ≤ d.most) = true from K4.out)).2; have h2 := (of_decide_eq_true (show decide (0 ≤ d.most ∧ d.most ≤ 9) = true from K3.out)).2; omega⟩).mono ?_
            rintro e t6 ⟨rfl, b⟩
            have LA : Hid (Bx t6 w.heap.size 45 [.int .i64 d.id, .bool false, .int .i64 d.m.id, .int .i64 d.m.rid, .slice d.mv.ms.a d.mv.ms.n d.mv.ms.c, .slice d.mv.its.a d.mv.its.n d.mv.its.c, .slice d.mv.lv.a d.mv.lv.n d.mv.lv.c, .slice d.mv.tx.a d.mv.tx.n d.mv.tx.c, .int .i64 d.m.rd, .int .i64 d.m.se, .int .i64 d.m.li, .int .i64 d.m.he, .int .i64 d.m.la.c, .int .i64 d.m.la.r, .int .i64 d.m.la.q, .int .i64 d.m.la.a, .int .i64 d.m.la.b, .slice d.mv.ws.a d.mv.ws.n d.mv.ws.c, .int .i64 d.most, .int .i64 d.old, .int .i64 d.jid, .slice d.js.a d.js.n d.js.c, .slice d.bs.a d.bs.n d.bs.c, .slice d.ls.a d.ls.n d.ls.c]) := LA.out.later b
            have BW : Hid (Below w.heap.size w t6) := bl_next BW.out b
            have HR : Hid (DmR t6 d) := HR.out.stays b
            clear b
            obtain ⟨R6, k6⟩ : ∃ R : Bool, (dmJ d) = R := ⟨_, rfl⟩
            rw [k6]
            have K6 : Hid ((dmJ d) = R6) := k6
            clear k6
            cases R6 with
            | false =>
              have e : dmI d = false := by
                unfold dmI idB moB olB
                simp only [hdd.out, K1.out, K2.out, K3.out, K4.out, K5.out, K6.out, bne_self_eq_false, Bool.false_and, Bool.true_and, Bool.and_false, Bool.and_true, Bool.not_true, Bool.not_false, Bool.or_true, Bool.true_or, Bool.or_false, Bool.false_or, cond_true, cond_false]
              rw [hR.out] at e
              clear hR
              subst e
              go_wp2_with fail
              go_ret
              exact ⟨rfl, BW.out⟩
            | true =>
              have e : dmI d = true := by
                unfold dmI idB moB olB
                simp only [hdd.out, K1.out, K2.out, K3.out, K4.out, K5.out, K6.out, bne_self_eq_false, Bool.false_and, Bool.true_and, Bool.and_false, Bool.and_true, Bool.not_true, Bool.not_false, Bool.or_true, Bool.true_or, Bool.or_false, Bool.false_or, cond_true, cond_false]
              rw [hR.out] at e
              clear hR
              subst e
              go_wp2_with fail
              go_ret
              exact ⟨rfl, BW.out⟩
  | true =>
    go_wp2_with (first | (with_reducible refine wpList_haltL 37 _ rfl ?_))
    refine Stp.go ?_
    refine wpList_ldG rfl 37 _ rfl w.heap.size 20 rfl 45 _ LA.out [.int .i64 d.jid, .slice d.js.a d.js.n d.js.c] rfl _ Try.underlying37 rfl Try.sizeR ?_
    go_wp2_with fail
    refine (noRing_any d.jid d.js _).mono ?_
    rintro e t7 ⟨rfl, b⟩
    have LA : Hid (Bx t7 w.heap.size 45 [.int .i64 d.id, .bool false, .int .i64 d.m.id, .int .i64 d.m.rid, .slice d.mv.ms.a d.mv.ms.n d.mv.ms.c, .slice d.mv.its.a d.mv.its.n d.mv.its.c, .slice d.mv.lv.a d.mv.lv.n d.mv.lv.c, .slice d.mv.tx.a d.mv.tx.n d.mv.tx.c, .int .i64 d.m.rd, .int .i64 d.m.se, .int .i64 d.m.li, .int .i64 d.m.he, .int .i64 d.m.la.c, .int .i64 d.m.la.r, .int .i64 d.m.la.q, .int .i64 d.m.la.a, .int .i64 d.m.la.b, .slice d.mv.ws.a d.mv.ws.n d.mv.ws.c, .int .i64 d.most, .int .i64 d.old, .int .i64 d.jid, .slice d.js.a d.js.n d.js.c, .slice d.bs.a d.bs.n d.bs.c, .slice d.ls.a d.ls.n d.ls.c]) := LA.out.later b
    have BW : Hid (Below w.heap.size w t7) := bl_next BW.out b
    have HR : Hid (DmR t7 d) := HR.out.stays b
    clear b
    obtain ⟨R7, k7⟩ : ∃ R : Bool, (nrB d.jid d.js.n) = R := ⟨_, rfl⟩
    rw [k7]
    have K7 : Hid ((nrB d.jid d.js.n) = R7) := k7
    clear k7
    cases R7 with
    | false =>
      have c0 := LA.out.cell 0
      simp only [List.getElem?_cons_succ, List.getElem?_cons_zero] at c0
      go_wp2_with fail
      refine (within_b d.id 1 5 _).mono ?_
      rintro e t8 ⟨rfl, b⟩
      have LA : Hid (Bx t8 w.heap.size 45 [.int .i64 d.id, .bool false, .int .i64 d.m.id, .int .i64 d.m.rid, .slice d.mv.ms.a d.mv.ms.n d.mv.ms.c, .slice d.mv.its.a d.mv.its.n d.mv.its.c, .slice d.mv.lv.a d.mv.lv.n d.mv.lv.c, .slice d.mv.tx.a d.mv.tx.n d.mv.tx.c, .int .i64 d.m.rd, .int .i64 d.m.se, .int .i64 d.m.li, .int .i64 d.m.he, .int .i64 d.m.la.c, .int .i64 d.m.la.r, .int .i64 d.m.la.q, .int .i64 d.m.la.a, .int .i64 d.m.la.b, .slice d.mv.ws.a d.mv.ws.n d.mv.ws.c, .int .i64 d.most, .int .i64 d.old, .int .i64 d.jid, .slice d.js.a d.js.n d.js.c, .slice d.bs.a d.bs.n d.bs.c, .slice d.ls.a d.ls.n d.ls.c]) := LA.out.later b
      have BW : Hid (Below w.heap.size w t8) := bl_next BW.out b
      have HR : Hid (DmR t8 d) := HR.out.stays b
      clear b
      obtain ⟨R8, k8⟩ : ∃ R : Bool, (decide (1 ≤ d.id ∧ d.id ≤ 5)) = R := ⟨_, rfl⟩
      rw [k8]
      have K8 : Hid ((decide (1 ≤ d.id ∧ d.id ≤ 5)) = R8) := k8
      clear k8
      cases R8 with
      | false =>
        have e : dmI d = false := by
          unfold dmI idB moB olB
          simp only [hdd.out, K1.out, K7.out, K8.out, bne_self_eq_false, Bool.false_and, Bool.true_and, Bool.and_false, Bool.and_true, Bool.not_true, Bool.not_false, Bool.or_true, Bool.true_or, Bool.or_false, Bool.false_or, cond_true, cond_false]
        rw [hR.out] at e
        clear hR
        subst e
        go_wp2_with fail
        go_ret
        exact ⟨rfl, BW.out⟩
      | true =>
        have c18 := LA.out.cell 18
        simp only [List.getElem?_cons_succ, List.getElem?_cons_zero] at c18
        go_wp2_with fail
        refine (within_b d.most 0 9 _).mono ?_
        rintro e t9 ⟨rfl, b⟩
        have LA : Hid (Bx t9 w.heap.size 45 [.int .i64 d.id, .bool false, .int .i64 d.m.id, .int .i64 d.m.rid, .slice d.mv.ms.a d.mv.ms.n d.mv.ms.c, .slice d.mv.its.a d.mv.its.n d.mv.its.c, .slice d.mv.lv.a d.mv.lv.n d.mv.lv.c, .slice d.mv.tx.a d.mv.tx.n d.mv.tx.c, .int .i64 d.m.rd, .int .i64 d.m.se, .int .i64 d.m.li, .int .i64 d.m.he, .int .i64 d.m.la.c, .int .i64 d.m.la.r, .int .i64 d.m.la.q, .int .i64 d.m.la.a, .int .i64 d.m.la.b, .slice d.mv.ws.a d.mv.ws.n d.mv.ws.c, .int .i64 d.most, .int .i64 d.old, .int .i64 d.jid, .slice d.js.a d.js.n d.js.c, .slice d.bs.a d.bs.n d.bs.c, .slice d.ls.a d.ls.n d.ls.c]) := LA.out.later b
        have BW : Hid (Below w.heap.size w t9) := bl_next BW.out b
        have HR : Hid (DmR t9 d) := HR.out.stays b
        clear b
        obtain ⟨R9, k9⟩ : ∃ R : Bool, (decide (0 ≤ d.most ∧ d.most ≤ 9)) = R := ⟨_, rfl⟩
        rw [k9]
        have K9 : Hid ((decide (0 ≤ d.most ∧ d.most ≤ 9)) = R9) := k9
        clear k9
        cases R9 with
        | false =>
          have e : dmI d = false := by
            unfold dmI idB moB olB
            simp only [hdd.out, K1.out, K7.out, K8.out, K9.out, bne_self_eq_false, Bool.false_and, Bool.true_and, Bool.and_false, Bool.and_true, Bool.not_true, Bool.not_false, Bool.or_true, Bool.true_or, Bool.or_false, Bool.false_or, cond_true, cond_false]
          rw [hR.out] at e
          clear hR
          subst e
          go_wp2_with fail
          go_ret
          exact ⟨rfl, BW.out⟩
        | true =>
          have c19 := LA.out.cell 19
          have c18 := LA.out.cell 18
          simp only [List.getElem?_cons_succ, List.getElem?_cons_zero] at c19 c18
          go_wp2_with fail
          refine (within_b d.old 0 d.most _).mono ?_
          rintro e t10 ⟨rfl, b⟩
          have LA : Hid (Bx t10 w.heap.size 45 [.int .i64 d.id, .bool false, .int .i64 d.m.id, .int .i64 d.m.rid, .slice d.mv.ms.a d.mv.ms.n d.mv.ms.c, .slice d.mv.its.a d.mv.its.n d.mv.its.c, .slice d.mv.lv.a d.mv.lv.n d.mv.lv.c, .slice d.mv.tx.a d.mv.tx.n d.mv.tx.c, .int .i64 d.m.rd, .int .i64 d.m.se, .int .i64 d.m.li, .int .i64 d.m.he, .int .i64 d.m.la.c, .int .i64 d.m.la.r, .int .i64 d.m.la.q, .int .i64 d.m.la.a, .int .i64 d.m.la.b, .slice d.mv.ws.a d.mv.ws.n d.mv.ws.c, .int .i64 d.most, .int .i64 d.old, .int .i64 d.jid, .slice d.js.a d.js.n d.js.c, .slice d.bs.a d.bs.n d.bs.c, .slice d.ls.a d.ls.n d.ls.c]) := LA.out.later b
          have BW : Hid (Below w.heap.size w t10) := bl_next BW.out b
          have HR : Hid (DmR t10 d) := HR.out.stays b
          clear b
          obtain ⟨R10, k10⟩ : ∃ R : Bool, (decide (0 ≤ d.old ∧ d.old ≤ d.most)) = R := ⟨_, rfl⟩
          rw [k10]
          have K10 : Hid ((decide (0 ≤ d.old ∧ d.old ≤ d.most)) = R10) := k10
          clear k10
          cases R10 with
          | false =>
            have e : dmI d = false := by
              unfold dmI idB moB olB
              simp only [hdd.out, K1.out, K7.out, K8.out, K9.out, K10.out, bne_self_eq_false, Bool.false_and, Bool.true_and, Bool.and_false, Bool.and_true, Bool.not_true, Bool.not_false, Bool.or_true, Bool.true_or, Bool.or_false, Bool.false_or, cond_true, cond_false]
            rw [hR.out] at e
            clear hR
            subst e
            go_wp2_with fail
            go_ret
            exact ⟨rfl, BW.out⟩
          | true =>
            have c1 := LA.out.cell 1
            simp only [List.getElem?_cons_succ, List.getElem?_cons_zero] at c1
            go_wp2_with (first | (with_reducible refine wpList_haltL 45 _ rfl ?_))
            refine Stp.go ?_
            refine wpList_ldG rfl 45 _ rfl w.heap.size 0 rfl 45 _ LA.out [.int .i64 d.id, .bool false, .int .i64 d.m.id, .int .i64 d.m.rid, .slice d.mv.ms.a d.mv.ms.n d.mv.ms.c, .slice d.mv.its.a d.mv.its.n d.mv.its.c, .slice d.mv.lv.a d.mv.lv.n d.mv.lv.c, .slice d.mv.tx.a d.mv.tx.n d.mv.tx.c, .int .i64 d.m.rd, .int .i64 d.m.se, .int .i64 d.m.li, .int .i64 d.m.he, .int .i64 d.m.la.c, .int .i64 d.m.la.r, .int .i64 d.m.la.q, .int .i64 d.m.la.a, .int .i64 d.m.la.b, .slice d.mv.ws.a d.mv.ws.n d.mv.ws.c, .int .i64 d.most, .int .i64 d.old, .int .i64 d.jid, .slice d.js.a d.js.n d.js.c, .slice d.bs.a d.bs.n d.bs.c, .slice d.ls.a d.ls.n d.ls.c] rfl _ Try.underlying45 rfl Try.sizeDa ?_
            go_wp2_with fail
            refine (dmateOk_b d false _ hdd HR.out.mt hs.out.mt).mono ?_
            rintro e t11 ⟨rfl, b⟩
            have LA : Hid (Bx t11 w.heap.size 45 [.int .i64 d.id, .bool false, .int .i64 d.m.id, .int .i64 d.m.rid, .slice d.mv.ms.a d.mv.ms.n d.mv.ms.c, .slice d.mv.its.a d.mv.its.n d.mv.its.c, .slice d.mv.lv.a d.mv.lv.n d.mv.lv.c, .slice d.mv.tx.a d.mv.tx.n d.mv.tx.c, .int .i64 d.m.rd, .int .i64 d.m.se, .int .i64 d.m.li, .int .i64 d.m.he, .int .i64 d.m.la.c, .int .i64 d.m.la.r, .int .i64 d.m.la.q, .int .i64 d.m.la.a, .int .i64 d.m.la.b, .slice d.mv.ws.a d.mv.ws.n d.mv.ws.c, .int .i64 d.most, .int .i64 d.old, .int .i64 d.jid, .slice d.js.a d.js.n d.js.c, .slice d.bs.a d.bs.n d.bs.c, .slice d.ls.a d.ls.n d.ls.c]) := LA.out.later b
            have BW : Hid (Below w.heap.size w t11) := bl_next BW.out b
            have HR : Hid (DmR t11 d) := HR.out.stays b
            clear b
            obtain ⟨R11, k11⟩ : ∃ R : Bool, (dmM d) = R := ⟨_, rfl⟩
            rw [k11]
            have K11 : Hid ((dmM d) = R11) := k11
            clear k11
            cases R11 with
            | false =>
              have e : dmI d = false := by
                unfold dmI idB moB olB
                simp only [hdd.out, K1.out, K7.out, K8.out, K9.out, K10.out, K11.out, bne_self_eq_false, Bool.false_and, Bool.true_and, Bool.and_false, Bool.and_true, Bool.not_true, Bool.not_false, Bool.or_true, Bool.true_or, Bool.or_false, Bool.false_or, cond_true, cond_false]
              rw [hR.out] at e
              clear hR
              subst e
              go_wp2_with fail
              go_ret
              exact ⟨rfl, BW.out⟩
            | true =>
              go_wp2_with (first | (with_reducible refine wpList_haltL 45 _ rfl ?_))
              refine Stp.go ?_
              refine wpList_ldG rfl 45 _ rfl w.heap.size 0 rfl 45 _ LA.out [.int .i64 d.id, .bool false, .int .i64 d.m.id, .int .i64 d.m.rid, .slice d.mv.ms.a d.mv.ms.n d.mv.ms.c, .slice d.mv.its.a d.mv.its.n d.mv.its.c, .slice d.mv.lv.a d.mv.lv.n d.mv.lv.c, .slice d.mv.tx.a d.mv.tx.n d.mv.tx.c, .int .i64 d.m.rd, .int .i64 d.m.se, .int .i64 d.m.li, .int .i64 d.m.he, .int .i64 d.m.la.c, .int .i64 d.m.la.r, .int .i64 d.m.la.q, .int .i64 d.m.la.a, .int .i64 d.m.la.b, .slice d.mv.ws.a d.mv.ws.n d.mv.ws.c, .int .i64 d.most, .int .i64 d.old, .int .i64 d.jid, .slice d.js.a d.js.n d.js.c, .slice d.bs.a d.bs.n d.bs.c, .slice d.ls.a d.ls.n d.ls.c] rfl _ Try.underlying45 rfl Try.sizeDa ?_
              go_wp2_with fail
              refine (joiningOk_false d _ hdd HR.out.jo HR.out.bu hs ⟨(of_decide_eq_true (show decide (0 ≤ d.old ∧ d.old ≤ d.most) = true from K10.out)).1, by have h1 := (of_decide_eq_true (show decide (0 ≤ d.old ∧ d.old ≤ d.most) = true from K10.out)).2; have h2 := (of_decide_eq_true (show decide (0 ≤ d.most ∧ d.most ≤ 9) = true from K9.out)).2; omega⟩).mono ?_
              rintro e t12 ⟨rfl, b⟩
              have LA : Hid (Bx t12 w.heap.size 45 [.int .i64 d.id, .bool false, .int .i64 d.m.id, .int .i64 d.m.rid, .slice d.mv.ms.a d.mv.ms.n d.mv.ms.c, .slice d.mv.its.a d.mv.its.n d.mv.its.c, .slice d.mv.lv.a d.mv.lv.n d.mv.lv.c, .slice d.mv.tx.a d.mv.tx.n d.mv.tx.c, .int .i64 d.m.rd, .int .i64 d.m.se, .int .i64 d.m.li, .int .i64 d.m.he, .int .i64 d.m.la.c, .int .i64 d.m.la.r, .int .i64 d.m.la.q, .int .i64 d.m.la.a, .int .i64 d.m.la.b, .slice d.mv.ws.a d.mv.ws.n d.mv.ws.c, .int .i64 d.most, .int .i64 d.old, .int .i64 d.jid, .slice d.js.a d.js.n d.js.c, .slice d.bs.a d.bs.n d.bs.c, .slice d.ls.a d.ls.n d.ls.c]) := LA.out.later b
              have BW : Hid (Below w.heap.size w t12) := bl_next BW.out b
              have HR : Hid (DmR t12 d) := HR.out.stays b
              clear b
              obtain ⟨R12, k12⟩ : ∃ R : Bool, (dmJ d) = R := ⟨_, rfl⟩
              rw [k12]
              have K12 : Hid ((dmJ d) = R12) := k12
              clear k12
              cases R12 with
              | false =>
                have e : dmI d = false := by
                  unfold dmI idB moB olB
                  simp only [hdd.out, K1.out, K7.out, K8.out, K9.out, K10.out, K11.out, K12.out, bne_self_eq_false, Bool.false_and, Bool.true_and, Bool.and_false, Bool.and_true, Bool.not_true, Bool.not_false, Bool.or_true, Bool.true_or, Bool.or_false, Bool.false_or, cond_true, cond_false]
                rw [hR.out] at e
                clear hR
                subst e
                go_wp2_with fail
                go_ret
                exact ⟨rfl, BW.out⟩
              | true =>
                have e : dmI d = true := by
                  unfold dmI idB moB olB
                  simp only [hdd.out, K1.out, K7.out, K8.out, K9.out, K10.out, K11.out, K12.out, bne_self_eq_false, Bool.false_and, Bool.true_and, Bool.and_false, Bool.and_true, Bool.not_true, Bool.not_false, Bool.or_true, Bool.true_or, Bool.or_false, Bool.false_or, cond_true, cond_false]
                rw [hR.out] at e
                clear hR
                subst e
                go_wp2_with fail
                go_ret
                exact ⟨rfl, BW.out⟩
    | true =>
      have c0 := LA.out.cell 0
      simp only [List.getElem?_cons_succ, List.getElem?_cons_zero] at c0
      go_wp2_with fail
      refine (within_b d.id 1 5 _).mono ?_
      rintro e t13 ⟨rfl, b⟩
      have LA : Hid (Bx t13 w.heap.size 45 [.int .i64 d.id, .bool false, .int .i64 d.m.id, .int .i64 d.m.rid, .slice d.mv.ms.a d.mv.ms.n d.mv.ms.c, .slice d.mv.its.a d.mv.its.n d.mv.its.c, .slice d.mv.lv.a d.mv.lv.n d.mv.lv.c, .slice d.mv.tx.a d.mv.tx.n d.mv.tx.c, .int .i64 d.m.rd, .int .i64 d.m.se, .int .i64 d.m.li, .int .i64 d.m.he, .int .i64 d.m.la.c, .int .i64 d.m.la.r, .int .i64 d.m.la.q, .int .i64 d.m.la.a, .int .i64 d.m.la.b, .slice d.mv.ws.a d.mv.ws.n d.mv.ws.c, .int .i64 d.most, .int .i64 d.old, .int .i64 d.jid, .slice d.js.a d.js.n d.js.c, .slice d.bs.a d.bs.n d.bs.c, .slice d.ls.a d.ls.n d.ls.c]) := LA.out.later b
      have BW : Hid (Below w.heap.size w t13) := bl_next BW.out b
      have HR : Hid (DmR t13 d) := HR.out.stays b
      clear b
      obtain ⟨R13, k13⟩ : ∃ R : Bool, (decide (1 ≤ d.id ∧ d.id ≤ 5)) = R := ⟨_, rfl⟩
      rw [k13]
      have K13 : Hid ((decide (1 ≤ d.id ∧ d.id ≤ 5)) = R13) := k13
      clear k13
      cases R13 with
      | false =>
        have e : dmI d = false := by
          unfold dmI idB moB olB
          simp only [hdd.out, K1.out, K7.out, K13.out, bne_self_eq_false, Bool.false_and, Bool.true_and, Bool.and_false, Bool.and_true, Bool.not_true, Bool.not_false, Bool.or_true, Bool.true_or, Bool.or_false, Bool.false_or, cond_true, cond_false]
        rw [hR.out] at e
        clear hR
        subst e
        go_wp2_with fail
        go_ret
        exact ⟨rfl, BW.out⟩
      | true =>
        have c18 := LA.out.cell 18
        simp only [List.getElem?_cons_succ, List.getElem?_cons_zero] at c18
        go_wp2_with fail
        refine (within_b d.most 0 9 _).mono ?_
        rintro e t14 ⟨rfl, b⟩
        have LA : Hid (Bx t14 w.heap.size 45 [.int .i64 d.id, .bool false, .int .i64 d.m.id, .int .i64 d.m.rid, .slice d.mv.ms.a d.mv.ms.n d.mv.ms.c, .slice d.mv.its.a d.mv.its.n d.mv.its.c, .slice d.mv.lv.a d.mv.lv.n d.mv.lv.c, .slice d.mv.tx.a d.mv.tx.n d.mv.tx.c, .int .i64 d.m.rd, .int .i64 d.m.se, .int .i64 d.m.li, .int .i64 d.m.he, .int .i64 d.m.la.c, .int .i64 d.m.la.r, .int .i64 d.m.la.q, .int .i64 d.m.la.a, .int .i64 d.m.la.b, .slice d.mv.ws.a d.mv.ws.n d.mv.ws.c, .int .i64 d.most, .int .i64 d.old, .int .i64 d.jid, .slice d.js.a d.js.n d.js.c, .slice d.bs.a d.bs.n d.bs.c, .slice d.ls.a d.ls.n d.ls.c]) := LA.out.later b
        have BW : Hid (Below w.heap.size w t14) := bl_next BW.out b
        have HR : Hid (DmR t14 d) := HR.out.stays b
        clear b
        obtain ⟨R14, k14⟩ : ∃ R : Bool, (decide (0 ≤ d.most ∧ d.most ≤ 9)) = R := ⟨_, rfl⟩
        rw [k14]
        have K14 : Hid ((decide (0 ≤ d.most ∧ d.most ≤ 9)) = R14) := k14
        clear k14
        cases R14 with
        | false =>
          have e : dmI d = false := by
            unfold dmI idB moB olB
            simp only [hdd.out, K1.out, K7.out, K13.out, K14.out, bne_self_eq_false, Bool.false_and, Bool.true_and, Bool.and_false, Bool.and_true, Bool.not_true, Bool.not_false, Bool.or_true, Bool.true_or, Bool.or_false, Bool.false_or, cond_true, cond_false]
          rw [hR.out] at e
          clear hR
          subst e
          go_wp2_with fail
          go_ret
          exact ⟨rfl, BW.out⟩
        | true =>
          have c19 := LA.out.cell 19
          have c18 := LA.out.cell 18
          simp only [List.getElem?_cons_succ, List.getElem?_cons_zero] at c19 c18
          go_wp2_with fail
          refine (within_b d.old 0 d.most _).mono ?_
          rintro e t15 ⟨rfl, b⟩
          have LA : Hid (Bx t15 w.heap.size 45 [.int .i64 d.id, .bool false, .int .i64 d.m.id, .int .i64 d.m.rid, .slice d.mv.ms.a d.mv.ms.n d.mv.ms.c, .slice d.mv.its.a d.mv.its.n d.mv.its.c, .slice d.mv.lv.a d.mv.lv.n d.mv.lv.c, .slice d.mv.tx.a d.mv.tx.n d.mv.tx.c, .int .i64 d.m.rd, .int .i64 d.m.se, .int .i64 d.m.li, .int .i64 d.m.he, .int .i64 d.m.la.c, .int .i64 d.m.la.r, .int .i64 d.m.la.q, .int .i64 d.m.la.a, .int .i64 d.m.la.b, .slice d.mv.ws.a d.mv.ws.n d.mv.ws.c, .int .i64 d.most, .int .i64 d.old, .int .i64 d.jid, .slice d.js.a d.js.n d.js.c, .slice d.bs.a d.bs.n d.bs.c, .slice d.ls.a d.ls.n d.ls.c]) := LA.out.later b
          have BW : Hid (Below w.heap.size w t15) := bl_next BW.out b
          have HR : Hid (DmR t15 d) := HR.out.stays b
          clear b
          obtain ⟨R15, k15⟩ : ∃ R : Bool, (decide (0 ≤ d.old ∧ d.old ≤ d.most)) = R := ⟨_, rfl⟩
          rw [k15]
          have K15 : Hid ((decide (0 ≤ d.old ∧ d.old ≤ d.most)) = R15) := k15
          clear k15
          cases R15 with
          | false =>
            have e : dmI d = false := by
              unfold dmI idB moB olB
              simp only [hdd.out, K1.out, K7.out, K13.out, K14.out, K15.out, bne_self_eq_false, Bool.false_and, Bool.true_and, Bool.and_false, Bool.and_true, Bool.not_true, Bool.not_false, Bool.or_true, Bool.true_or, Bool.or_false, Bool.false_or, cond_true, cond_false]
            rw [hR.out] at e
            clear hR
            subst e
            go_wp2_with fail
            go_ret
            exact ⟨rfl, BW.out⟩
          | true =>
            have c1 := LA.out.cell 1
            simp only [List.getElem?_cons_succ, List.getElem?_cons_zero] at c1
            go_wp2_with (first | (with_reducible refine wpList_haltL 45 _ rfl ?_))
            refine Stp.go ?_
            refine wpList_ldG rfl 45 _ rfl w.heap.size 0 rfl 45 _ LA.out [.int .i64 d.id, .bool false, .int .i64 d.m.id, .int .i64 d.m.rid, .slice d.mv.ms.a d.mv.ms.n d.mv.ms.c, .slice d.mv.its.a d.mv.its.n d.mv.its.c, .slice d.mv.lv.a d.mv.lv.n d.mv.lv.c, .slice d.mv.tx.a d.mv.tx.n d.mv.tx.c, .int .i64 d.m.rd, .int .i64 d.m.se, .int .i64 d.m.li, .int .i64 d.m.he, .int .i64 d.m.la.c, .int .i64 d.m.la.r, .int .i64 d.m.la.q, .int .i64 d.m.la.a, .int .i64 d.m.la.b, .slice d.mv.ws.a d.mv.ws.n d.mv.ws.c, .int .i64 d.most, .int .i64 d.old, .int .i64 d.jid, .slice d.js.a d.js.n d.js.c, .slice d.bs.a d.bs.n d.bs.c, .slice d.ls.a d.ls.n d.ls.c] rfl _ Try.underlying45 rfl Try.sizeDa ?_
            go_wp2_with fail
            refine (dmateOk_b d false _ hdd HR.out.mt hs.out.mt).mono ?_
            rintro e t16 ⟨rfl, b⟩
            have LA : Hid (Bx t16 w.heap.size 45 [.int .i64 d.id, .bool false, .int .i64 d.m.id, .int .i64 d.m.rid, .slice d.mv.ms.a d.mv.ms.n d.mv.ms.c, .slice d.mv.its.a d.mv.its.n d.mv.its.c, .slice d.mv.lv.a d.mv.lv.n d.mv.lv.c, .slice d.mv.tx.a d.mv.tx.n d.mv.tx.c, .int .i64 d.m.rd, .int .i64 d.m.se, .int .i64 d.m.li, .int .i64 d.m.he, .int .i64 d.m.la.c, .int .i64 d.m.la.r, .int .i64 d.m.la.q, .int .i64 d.m.la.a, .int .i64 d.m.la.b, .slice d.mv.ws.a d.mv.ws.n d.mv.ws.c, .int .i64 d.most, .int .i64 d.old, .int .i64 d.jid, .slice d.js.a d.js.n d.js.c, .slice d.bs.a d.bs.n d.bs.c, .slice d.ls.a d.ls.n d.ls.c]) := LA.out.later b
            have BW : Hid (Below w.heap.size w t16) := bl_next BW.out b
            have HR : Hid (DmR t16 d) := HR.out.stays b
            clear b
            obtain ⟨R16, k16⟩ : ∃ R : Bool, (dmM d) = R := ⟨_, rfl⟩
            rw [k16]
            have K16 : Hid ((dmM d) = R16) := k16
            clear k16
            cases R16 with
            | false =>
              have e : dmI d = false := by
                unfold dmI idB moB olB
                simp only [hdd.out, K1.out, K7.out, K13.out, K14.out, K15.out, K16.out, bne_self_eq_false, Bool.false_and, Bool.true_and, Bool.and_false, Bool.and_true, Bool.not_true, Bool.not_false, Bool.or_true, Bool.true_or, Bool.or_false, Bool.false_or, cond_true, cond_false]
              rw [hR.out] at e
              clear hR
              subst e
              go_wp2_with fail
              go_ret
              exact ⟨rfl, BW.out⟩
            | true =>
              go_wp2_with (first | (with_reducible refine wpList_haltL 45 _ rfl ?_))
              refine Stp.go ?_
              refine wpList_ldG rfl 45 _ rfl w.heap.size 0 rfl 45 _ LA.out [.int .i64 d.id, .bool false, .int .i64 d.m.id, .int .i64 d.m.rid, .slice d.mv.ms.a d.mv.ms.n d.mv.ms.c, .slice d.mv.its.a d.mv.its.n d.mv.its.c, .slice d.mv.lv.a d.mv.lv.n d.mv.lv.c, .slice d.mv.tx.a d.mv.tx.n d.mv.tx.c, .int .i64 d.m.rd, .int .i64 d.m.se, .int .i64 d.m.li, .int .i64 d.m.he, .int .i64 d.m.la.c, .int .i64 d.m.la.r, .int .i64 d.m.la.q, .int .i64 d.m.la.a, .int .i64 d.m.la.b, .slice d.mv.ws.a d.mv.ws.n d.mv.ws.c, .int .i64 d.most, .int .i64 d.old, .int .i64 d.jid, .slice d.js.a d.js.n d.js.c, .slice d.bs.a d.bs.n d.bs.c, .slice d.ls.a d.ls.n d.ls.c] rfl _ Try.underlying45 rfl Try.sizeDa ?_
              go_wp2_with fail
              refine (joiningOk_false d _ hdd HR.out.jo HR.out.bu hs ⟨(of_decide_eq_true (show decide (0 ≤ d.old ∧ d.old ≤ d.most) = true from K15.out)).1, by have h1 := (of_decide_eq_true (show decide (0 ≤ d.old ∧ d.old ≤ d.most) = true from K15.out)).2; have h2 := (of_decide_eq_true (show decide (0 ≤ d.most ∧ d.most ≤ 9) = true from K14.out)).2; omega⟩).mono ?_
              rintro e t17 ⟨rfl, b⟩
              have LA : Hid (Bx t17 w.heap.size 45 [.int .i64 d.id, .bool false, .int .i64 d.m.id, .int .i64 d.m.rid, .slice d.mv.ms.a d.mv.ms.n d.mv.ms.c, .slice d.mv.its.a d.mv.its.n d.mv.its.c, .slice d.mv.lv.a d.mv.lv.n d.mv.lv.c, .slice d.mv.tx.a d.mv.tx.n d.mv.tx.c, .int .i64 d.m.rd, .int .i64 d.m.se, .int .i64 d.m.li, .int .i64 d.m.he, .int .i64 d.m.la.c, .int .i64 d.m.la.r, .int .i64 d.m.la.q, .int .i64 d.m.la.a, .int .i64 d.m.la.b, .slice d.mv.ws.a d.mv.ws.n d.mv.ws.c, .int .i64 d.most, .int .i64 d.old, .int .i64 d.jid, .slice d.js.a d.js.n d.js.c, .slice d.bs.a d.bs.n d.bs.c, .slice d.ls.a d.ls.n d.ls.c]) := LA.out.later b
              have BW : Hid (Below w.heap.size w t17) := bl_next BW.out b
              have HR : Hid (DmR t17 d) := HR.out.stays b
              clear b
              obtain ⟨R17, k17⟩ : ∃ R : Bool, (dmJ d) = R := ⟨_, rfl⟩
              rw [k17]
              have K17 : Hid ((dmJ d) = R17) := k17
              clear k17
              cases R17 with
              | false =>
                have e : dmI d = false := by
                  unfold dmI idB moB olB
                  simp only [hdd.out, K1.out, K7.out, K13.out, K14.out, K15.out, K16.out, K17.out, bne_self_eq_false, Bool.false_and, Bool.true_and, Bool.and_false, Bool.and_true, Bool.not_true, Bool.not_false, Bool.or_true, Bool.true_or, Bool.or_false, Bool.false_or, cond_true, cond_false]
                rw [hR.out] at e
                clear hR
                subst e
                go_wp2_with fail
                go_ret
                exact ⟨rfl, BW.out⟩
              | true =>
                have e : dmI d = true := by
                  unfold dmI idB moB olB
                  simp only [hdd.out, K1.out, K7.out, K13.out, K14.out, K15.out, K16.out, K17.out, bne_self_eq_false, Bool.false_and, Bool.true_and, Bool.and_false, Bool.and_true, Bool.not_true, Bool.not_false, Bool.or_true, Bool.true_or, Bool.or_false, Bool.false_or, cond_true, cond_false]
                rw [hR.out] at e
                clear hR
                subst e
                go_wp2_with fail
                go_ret
                exact ⟨rfl, BW.out⟩
end Go.Proofs.Ytifkopggmjbbeaa


/- DaemonOk of a dead one, by the specification. Written by gen_dk14.py. -/
namespace Go.Proofs.Ytifkopggmjbbeaa
open Go.RowKit Pl
set_option linter.unusedVariables false
set_option linter.unusedSimpArgs false

set_option maxRecDepth 100000 in
set_option maxHeartbeats 32000000 in
theorem spDaemonOk_true (d : Dm) (w : World) (hdd : Hid (d.dead = true)) (h : Hid (DmR w d)) (hs : Hid (DmS d)) : Calls Try.prog 5 #[.agg #[.int .i64 d.id, .bool true, .int .i64 d.m.id, .int .i64 d.m.rid, .slice d.mv.ms.a d.mv.ms.n d.mv.ms.c, .slice d.mv.its.a d.mv.its.n d.mv.its.c, .slice d.mv.lv.a d.mv.lv.n d.mv.lv.c, .slice d.mv.tx.a d.mv.tx.n d.mv.tx.c, .int .i64 d.m.rd, .int .i64 d.m.se, .int .i64 d.m.li, .int .i64 d.m.he, .int .i64 d.m.la.c, .int .i64 d.m.la.r, .int .i64 d.m.la.q, .int .i64 d.m.la.a, .int .i64 d.m.la.b, .slice d.mv.ws.a d.mv.ws.n d.mv.ws.c, .int .i64 d.most, .int .i64 d.old, .int .i64 d.jid, .slice d.js.a d.js.n d.js.c, .slice d.bs.a d.bs.n d.bs.c, .slice d.ls.a d.ls.n d.ls.c]] w fun e w' => e = .returned (.bool (dmS d)) ∧ Below w.heap.size w w' := by
  obtain ⟨R, hR0⟩ : ∃ R, dmS d = R := ⟨_, rfl⟩
  rw [hR0]
  have hR : Hid (dmS d = R) := hR0
  clear hR0
  have LA : Hid (Bx (w.alloc (.cells #[.int .i64 d.id, .bool true, .int .i64 d.m.id, .int .i64 d.m.rid, .slice d.mv.ms.a d.mv.ms.n d.mv.ms.c, .slice d.mv.its.a d.mv.its.n d.mv.its.c, .slice d.mv.lv.a d.mv.lv.n d.mv.lv.c, .slice d.mv.tx.a d.mv.tx.n d.mv.tx.c, .int .i64 d.m.rd, .int .i64 d.m.se, .int .i64 d.m.li, .int .i64 d.m.he, .int .i64 d.m.la.c, .int .i64 d.m.la.r, .int .i64 d.m.la.q, .int .i64 d.m.la.a, .int .i64 d.m.la.b, .slice d.mv.ws.a d.mv.ws.n d.mv.ws.c, .int .i64 d.most, .int .i64 d.old, .int .i64 d.jid, .slice d.js.a d.js.n d.js.c, .slice d.bs.a d.bs.n d.bs.c, .slice d.ls.a d.ls.n d.ls.c] 45)) w.heap.size 45 [.int .i64 d.id, .bool true, .int .i64 d.m.id, .int .i64 d.m.rid, .slice d.mv.ms.a d.mv.ms.n d.mv.ms.c, .slice d.mv.its.a d.mv.its.n d.mv.its.c, .slice d.mv.lv.a d.mv.lv.n d.mv.lv.c, .slice d.mv.tx.a d.mv.tx.n d.mv.tx.c, .int .i64 d.m.rd, .int .i64 d.m.se, .int .i64 d.m.li, .int .i64 d.m.he, .int .i64 d.m.la.c, .int .i64 d.m.la.r, .int .i64 d.m.la.q, .int .i64 d.m.la.a, .int .i64 d.m.la.b, .slice d.mv.ws.a d.mv.ws.n d.mv.ws.c, .int .i64 d.most, .int .i64 d.old, .int .i64 d.jid, .slice d.js.a d.js.n d.js.c, .slice d.bs.a d.bs.n d.bs.c, .slice d.ls.a d.ls.n d.ls.c]) := by
    have h := Bx.new w 45 [.int .i64 d.id, .bool true, .int .i64 d.m.id, .int .i64 d.m.rid, .slice d.mv.ms.a d.mv.ms.n d.mv.ms.c, .slice d.mv.its.a d.mv.its.n d.mv.its.c, .slice d.mv.lv.a d.mv.lv.n d.mv.lv.c, .slice d.mv.tx.a d.mv.tx.n d.mv.tx.c, .int .i64 d.m.rd, .int .i64 d.m.se, .int .i64 d.m.li, .int .i64 d.m.he, .int .i64 d.m.la.c, .int .i64 d.m.la.r, .int .i64 d.m.la.q, .int .i64 d.m.la.a, .int .i64 d.m.la.b, .slice d.mv.ws.a d.mv.ws.n d.mv.ws.c, .int .i64 d.most, .int .i64 d.old, .int .i64 d.jid, .slice d.js.a d.js.n d.js.c, .slice d.bs.a d.bs.n d.bs.c, .slice d.ls.a d.ls.n d.ls.c]
    exact h
  have BW : Hid (Below w.heap.size w (w.alloc (.cells #[.int .i64 d.id, .bool true, .int .i64 d.m.id, .int .i64 d.m.rid, .slice d.mv.ms.a d.mv.ms.n d.mv.ms.c, .slice d.mv.its.a d.mv.its.n d.mv.its.c, .slice d.mv.lv.a d.mv.lv.n d.mv.lv.c, .slice d.mv.tx.a d.mv.tx.n d.mv.tx.c, .int .i64 d.m.rd, .int .i64 d.m.se, .int .i64 d.m.li, .int .i64 d.m.he, .int .i64 d.m.la.c, .int .i64 d.m.la.r, .int .i64 d.m.la.q, .int .i64 d.m.la.a, .int .i64 d.m.la.b, .slice d.mv.ws.a d.mv.ws.n d.mv.ws.c, .int .i64 d.most, .int .i64 d.old, .int .i64 d.jid, .slice d.js.a d.js.n d.js.c, .slice d.bs.a d.bs.n d.bs.c, .slice d.ls.a d.ls.n d.ls.c] 45))) := ((Below.refl _ _).alloc (by simp) _)
  have HR : Hid (DmR (w.alloc (.cells #[.int .i64 d.id, .bool true, .int .i64 d.m.id, .int .i64 d.m.rid, .slice d.mv.ms.a d.mv.ms.n d.mv.ms.c, .slice d.mv.its.a d.mv.its.n d.mv.its.c, .slice d.mv.lv.a d.mv.lv.n d.mv.lv.c, .slice d.mv.tx.a d.mv.tx.n d.mv.tx.c, .int .i64 d.m.rd, .int .i64 d.m.se, .int .i64 d.m.li, .int .i64 d.m.he, .int .i64 d.m.la.c, .int .i64 d.m.la.r, .int .i64 d.m.la.q, .int .i64 d.m.la.a, .int .i64 d.m.la.b, .slice d.mv.ws.a d.mv.ws.n d.mv.ws.c, .int .i64 d.most, .int .i64 d.old, .int .i64 d.jid, .slice d.js.a d.js.n d.js.c, .slice d.bs.a d.bs.n d.bs.c, .slice d.ls.a d.ls.n d.ls.c] 45)) d) := h.out.stays BW.out
  have HW : Hid (d.mv.ws.n = d.m.la.ws.length) := h.out.mt.ws.len
  have HJN : Hid (d.bs.n = d.bu.length) := h.out.bu.1
  clear h
  go_enter Try.func5, Try.ntmps5
  have c0 := LA.out.cell 0
  simp only [List.getElem?_cons_succ, List.getElem?_cons_zero] at c0
  go_wp2_with fail
  refine (in_b d.id 1 5 _).mono ?_
  rintro e t1 ⟨rfl, b⟩
  have LA : Hid (Bx t1 w.heap.size 45 [.int .i64 d.id, .bool true, .int .i64 d.m.id, .int .i64 d.m.rid, .slice d.mv.ms.a d.mv.ms.n d.mv.ms.c, .slice d.mv.its.a d.mv.its.n d.mv.its.c, .slice d.mv.lv.a d.mv.lv.n d.mv.lv.c, .slice d.mv.tx.a d.mv.tx.n d.mv.tx.c, .int .i64 d.m.rd, .int .i64 d.m.se, .int .i64 d.m.li, .int .i64 d.m.he, .int .i64 d.m.la.c, .int .i64 d.m.la.r, .int .i64 d.m.la.q, .int .i64 d.m.la.a, .int .i64 d.m.la.b, .slice d.mv.ws.a d.mv.ws.n d.mv.ws.c, .int .i64 d.most, .int .i64 d.old, .int .i64 d.jid, .slice d.js.a d.js.n d.js.c, .slice d.bs.a d.bs.n d.bs.c, .slice d.ls.a d.ls.n d.ls.c]) := LA.out.later b
  have BW : Hid (Below w.heap.size w t1) := bl_next BW.out b
  have HR : Hid (DmR t1 d) := HR.out.stays b
  clear b
  obtain ⟨R1, k1⟩ : ∃ R : Bool, (decide (1 ≤ d.id ∧ d.id ≤ 5)) = R := ⟨_, rfl⟩
  rw [k1]
  have K1 : Hid ((decide (1 ≤ d.id ∧ d.id ≤ 5)) = R1) := k1
  clear k1
  cases R1 with
  | false =>
    have e : dmS d = false := by
      unfold dmS idB moB jnB
      simp only [hdd.out, K1.out, bne_self_eq_false, Bool.false_and, Bool.true_and, Bool.and_false, Bool.and_true, Bool.not_true, Bool.not_false, Bool.or_true, Bool.true_or, Bool.or_false, Bool.false_or, cond_true, cond_false]
    rw [hR.out] at e
    clear hR
    subst e
    go_wp2_with fail
    go_ret
    exact ⟨rfl, BW.out⟩
  | true =>
    have c18 := LA.out.cell 18
    simp only [List.getElem?_cons_succ, List.getElem?_cons_zero] at c18
    go_wp2_with fail
    refine (in_b d.most 0 9 _).mono ?_
    rintro e t2 ⟨rfl, b⟩
    have LA : Hid (Bx t2 w.heap.size 45 [.int .i64 d.id, .bool true, .int .i64 d.m.id, .int .i64 d.m.rid, .slice d.mv.ms.a d.mv.ms.n d.mv.ms.c, .slice d.mv.its.a d.mv.its.n d.mv.its.c, .slice d.mv.lv.a d.mv.lv.n d.mv.lv.c, .slice d.mv.tx.a d.mv.tx.n d.mv.tx.c, .int .i64 d.m.rd, .int .i64 d.m.se, .int .i64 d.m.li, .int .i64 d.m.he, .int .i64 d.m.la.c, .int .i64 d.m.la.r, .int .i64 d.m.la.q, .int .i64 d.m.la.a, .int .i64 d.m.la.b, .slice d.mv.ws.a d.mv.ws.n d.mv.ws.c, .int .i64 d.most, .int .i64 d.old, .int .i64 d.jid, .slice d.js.a d.js.n d.js.c, .slice d.bs.a d.bs.n d.bs.c, .slice d.ls.a d.ls.n d.ls.c]) := LA.out.later b
    have BW : Hid (Below w.heap.size w t2) := bl_next BW.out b
    have HR : Hid (DmR t2 d) := HR.out.stays b
    clear b
    obtain ⟨R2, k2⟩ : ∃ R : Bool, (decide (0 ≤ d.most ∧ d.most ≤ 9)) = R := ⟨_, rfl⟩
    rw [k2]
    have K2 : Hid ((decide (0 ≤ d.most ∧ d.most ≤ 9)) = R2) := k2
    clear k2
    cases R2 with
    | false =>
      have e : dmS d = false := by
        unfold dmS idB moB jnB
        simp only [hdd.out, K1.out, K2.out, bne_self_eq_false, Bool.false_and, Bool.true_and, Bool.and_false, Bool.and_true, Bool.not_true, Bool.not_false, Bool.or_true, Bool.true_or, Bool.or_false, Bool.false_or, cond_true, cond_false]
      rw [hR.out] at e
      clear hR
      subst e
      go_wp2_with fail
      go_ret
      exact ⟨rfl, BW.out⟩
    | true =>
      have c1 := LA.out.cell 1
      simp only [List.getElem?_cons_succ, List.getElem?_cons_zero] at c1
      go_wp2_with (first | (with_reducible refine wpList_haltL 41 _ rfl ?_))
      refine Stp.go ?_
      refine wpList_ldG rfl 41 _ rfl w.heap.size 2 rfl 45 _ LA.out [.int .i64 d.m.id, .int .i64 d.m.rid, .slice d.mv.ms.a d.mv.ms.n d.mv.ms.c, .slice d.mv.its.a d.mv.its.n d.mv.its.c, .slice d.mv.lv.a d.mv.lv.n d.mv.lv.c, .slice d.mv.tx.a d.mv.tx.n d.mv.tx.c, .int .i64 d.m.rd, .int .i64 d.m.se, .int .i64 d.m.li, .int .i64 d.m.he, .int .i64 d.m.la.c, .int .i64 d.m.la.r, .int .i64 d.m.la.q, .int .i64 d.m.la.a, .int .i64 d.m.la.b, .slice d.mv.ws.a d.mv.ws.n d.mv.ws.c] rfl _ Try.underlying41 rfl Try.sizeM ?_
      go_wp2_with fail
      refine (lnoMate_any d.m d.mv _ HW.out).mono ?_
      rintro e t3 ⟨rfl, b⟩
      have LA : Hid (Bx t3 w.heap.size 45 [.int .i64 d.id, .bool true, .int .i64 d.m.id, .int .i64 d.m.rid, .slice d.mv.ms.a d.mv.ms.n d.mv.ms.c, .slice d.mv.its.a d.mv.its.n d.mv.its.c, .slice d.mv.lv.a d.mv.lv.n d.mv.lv.c, .slice d.mv.tx.a d.mv.tx.n d.mv.tx.c, .int .i64 d.m.rd, .int .i64 d.m.se, .int .i64 d.m.li, .int .i64 d.m.he, .int .i64 d.m.la.c, .int .i64 d.m.la.r, .int .i64 d.m.la.q, .int .i64 d.m.la.a, .int .i64 d.m.la.b, .slice d.mv.ws.a d.mv.ws.n d.mv.ws.c, .int .i64 d.most, .int .i64 d.old, .int .i64 d.jid, .slice d.js.a d.js.n d.js.c, .slice d.bs.a d.bs.n d.bs.c, .slice d.ls.a d.ls.n d.ls.c]) := LA.out.later b
      have BW : Hid (Below w.heap.size w t3) := bl_next BW.out b
      have HR : Hid (DmR t3 d) := HR.out.stays b
      clear b
      obtain ⟨R3, k3⟩ : ∃ R : Bool, (nmS d.m d.mv) = R := ⟨_, rfl⟩
      rw [k3]
      have K3 : Hid ((nmS d.m d.mv) = R3) := k3
      clear k3
      cases R3 with
      | false =>
        have e : dmS d = false := by
          unfold dmS idB moB jnB
          simp only [hdd.out, K1.out, K2.out, K3.out, bne_self_eq_false, Bool.false_and, Bool.true_and, Bool.and_false, Bool.and_true, Bool.not_true, Bool.not_false, Bool.or_true, Bool.true_or, Bool.or_false, Bool.false_or, cond_true, cond_false]
        rw [hR.out] at e
        clear hR
        subst e
        go_wp2_with fail
        go_ret
        exact ⟨rfl, BW.out⟩
      | true =>
        have c19 := LA.out.cell 19
        simp only [List.getElem?_cons_succ, List.getElem?_cons_zero] at c19
        obtain ⟨R4, k4⟩ : ∃ R : Bool, (d.old == 0) = R := ⟨_, rfl⟩
        have K4 : Hid ((d.old == 0) = R4) := k4
        cases R4 with
        | false =>
          have e : dmS d = false := by
            unfold dmS idB moB jnB
            simp only [hdd.out, K1.out, K2.out, K3.out, K4.out, bne_self_eq_false, Bool.false_and, Bool.true_and, Bool.and_false, Bool.and_true, Bool.not_true, Bool.not_false, Bool.or_true, Bool.true_or, Bool.or_false, Bool.false_or, cond_true, cond_false]
          rw [hR.out] at e
          clear hR
          subst e
          go_wp2_with fail
          go_ret
          exact ⟨rfl, BW.out⟩
        | true =>
          go_wp2_with (first | (with_reducible refine wpList_haltL 37 _ rfl ?_))
          refine Stp.go ?_
          refine wpList_ldG rfl 37 _ rfl w.heap.size 20 rfl 45 _ LA.out [.int .i64 d.jid, .slice d.js.a d.js.n d.js.c] rfl _ Try.underlying37 rfl Try.sizeR ?_
          go_wp2_with fail
          refine (lnoRing_any d.jid d.js _).mono ?_
          rintro e t5 ⟨rfl, b⟩
          have LA : Hid (Bx t5 w.heap.size 45 [.int .i64 d.id, .bool true, .int .i64 d.m.id, .int .i64 d.m.rid, .slice d.mv.ms.a d.mv.ms.n d.mv.ms.c, .slice d.mv.its.a d.mv.its.n d.mv.its.c, .slice d.mv.lv.a d.mv.lv.n d.mv.lv.c, .slice d.mv.tx.a d.mv.tx.n d.mv.tx.c, .int .i64 d.m.rd, .int .i64 d.m.se, .int .i64 d.m.li, .int .i64 d.m.he, .int .i64 d.m.la.c, .int .i64 d.m.la.r, .int .i64 d.m.la.q, .int .i64 d.m.la.a, .int .i64 d.m.la.b, .slice d.mv.ws.a d.mv.ws.n d.mv.ws.c, .int .i64 d.most, .int .i64 d.old, .int .i64 d.jid, .slice d.js.a d.js.n d.js.c, .slice d.bs.a d.bs.n d.bs.c, .slice d.ls.a d.ls.n d.ls.c]) := LA.out.later b
          have BW : Hid (Below w.heap.size w t5) := bl_next BW.out b
          have HR : Hid (DmR t5 d) := HR.out.stays b
          clear b
          obtain ⟨R5, k5⟩ : ∃ R : Bool, (nrB d.jid d.js.n) = R := ⟨_, rfl⟩
          rw [k5]
          have K5 : Hid ((nrB d.jid d.js.n) = R5) := k5
          clear k5
          cases R5 with
          | false =>
            have e : dmS d = false := by
              unfold dmS idB moB jnB
              simp only [hdd.out, K1.out, K2.out, K3.out, K4.out, K5.out, bne_self_eq_false, Bool.false_and, Bool.true_and, Bool.and_false, Bool.and_true, Bool.not_true, Bool.not_false, Bool.or_true, Bool.true_or, Bool.or_false, Bool.false_or, cond_true, cond_false]
            rw [hR.out] at e
            clear hR
            subst e
            go_wp2_with fail
            go_ret
            exact ⟨rfl, BW.out⟩
          | true =>
            have c22 := LA.out.cell 22
            simp only [List.getElem?_cons_succ, List.getElem?_cons_zero] at c22
            obtain ⟨R6, k6⟩ : ∃ R : Bool, ((d.bs.n : Int) == 0) = R := ⟨_, rfl⟩
            have K6 : Hid (((d.bs.n : Int) == 0) = R6) := k6
            cases R6 with
            | false =>
              have e : dmS d = false := by
                unfold dmS idB moB jnB
                simp only [hdd.out, K1.out, K2.out, K3.out, K4.out, K5.out, K6.out, bne_self_eq_false, Bool.false_and, Bool.true_and, Bool.and_false, Bool.and_true, Bool.not_true, Bool.not_false, Bool.or_true, Bool.true_or, Bool.or_false, Bool.false_or, cond_true, cond_false]
              rw [hR.out] at e
              clear hR
              subst e
              go_wp2_with fail
              go_ret
              exact ⟨rfl, BW.out⟩
            | true =>
              have e : dmS d = true := by
                unfold dmS idB moB jnB
                simp only [hdd.out, K1.out, K2.out, K3.out, K4.out, K5.out, K6.out, bne_self_eq_false, Bool.false_and, Bool.true_and, Bool.and_false, Bool.and_true, Bool.not_true, Bool.not_false, Bool.or_true, Bool.true_or, Bool.or_false, Bool.false_or, cond_true, cond_false]
              rw [hR.out] at e
              clear hR
              subst e
              go_wp2_with fail
              go_ret
              exact ⟨rfl, BW.out⟩
end Go.Proofs.Ytifkopggmjbbeaa


/- DaemonOk of one that is not dead, by the specification. Written by gen_dk14.py. -/
namespace Go.Proofs.Ytifkopggmjbbeaa
open Go.RowKit Pl
set_option linter.unusedVariables false
set_option linter.unusedSimpArgs false

set_option maxRecDepth 100000 in
set_option maxHeartbeats 32000000 in
theorem spDaemonOkeq_false (d : Dm) (w : World) (hdd : Hid (d.dead = false)) (hor : Hid (d.old = d.m.rid)) (h : Hid (DmR w d)) (hs : Hid (DmS d)) : Calls Try.prog 5 #[.agg #[.int .i64 d.id, .bool false, .int .i64 d.m.id, .int .i64 d.m.rid, .slice d.mv.ms.a d.mv.ms.n d.mv.ms.c, .slice d.mv.its.a d.mv.its.n d.mv.its.c, .slice d.mv.lv.a d.mv.lv.n d.mv.lv.c, .slice d.mv.tx.a d.mv.tx.n d.mv.tx.c, .int .i64 d.m.rd, .int .i64 d.m.se, .int .i64 d.m.li, .int .i64 d.m.he, .int .i64 d.m.la.c, .int .i64 d.m.la.r, .int .i64 d.m.la.q, .int .i64 d.m.la.a, .int .i64 d.m.la.b, .slice d.mv.ws.a d.mv.ws.n d.mv.ws.c, .int .i64 d.most, .int .i64 d.m.rid, .int .i64 d.jid, .slice d.js.a d.js.n d.js.c, .slice d.bs.a d.bs.n d.bs.c, .slice d.ls.a d.ls.n d.ls.c]] w fun e w' => e = .returned (.bool (dmS d)) ∧ Below w.heap.size w w' := by
  obtain ⟨R, hR0⟩ : ∃ R, dmS d = R := ⟨_, rfl⟩
  rw [hR0]
  have hR : Hid (dmS d = R) := hR0
  clear hR0
  have LA : Hid (Bx (w.alloc (.cells #[.int .i64 d.id, .bool false, .int .i64 d.m.id, .int .i64 d.m.rid, .slice d.mv.ms.a d.mv.ms.n d.mv.ms.c, .slice d.mv.its.a d.mv.its.n d.mv.its.c, .slice d.mv.lv.a d.mv.lv.n d.mv.lv.c, .slice d.mv.tx.a d.mv.tx.n d.mv.tx.c, .int .i64 d.m.rd, .int .i64 d.m.se, .int .i64 d.m.li, .int .i64 d.m.he, .int .i64 d.m.la.c, .int .i64 d.m.la.r, .int .i64 d.m.la.q, .int .i64 d.m.la.a, .int .i64 d.m.la.b, .slice d.mv.ws.a d.mv.ws.n d.mv.ws.c, .int .i64 d.most, .int .i64 d.m.rid, .int .i64 d.jid, .slice d.js.a d.js.n d.js.c, .slice d.bs.a d.bs.n d.bs.c, .slice d.ls.a d.ls.n d.ls.c] 45)) w.heap.size 45 [.int .i64 d.id, .bool false, .int .i64 d.m.id, .int .i64 d.m.rid, .slice d.mv.ms.a d.mv.ms.n d.mv.ms.c, .slice d.mv.its.a d.mv.its.n d.mv.its.c, .slice d.mv.lv.a d.mv.lv.n d.mv.lv.c, .slice d.mv.tx.a d.mv.tx.n d.mv.tx.c, .int .i64 d.m.rd, .int .i64 d.m.se, .int .i64 d.m.li, .int .i64 d.m.he, .int .i64 d.m.la.c, .int .i64 d.m.la.r, .int .i64 d.m.la.q, .int .i64 d.m.la.a, .int .i64 d.m.la.b, .slice d.mv.ws.a d.mv.ws.n d.mv.ws.c, .int .i64 d.most, .int .i64 d.m.rid, .int .i64 d.jid, .slice d.js.a d.js.n d.js.c, .slice d.bs.a d.bs.n d.bs.c, .slice d.ls.a d.ls.n d.ls.c]) := by
    have h := Bx.new w 45 [.int .i64 d.id, .bool false, .int .i64 d.m.id, .int .i64 d.m.rid, .slice d.mv.ms.a d.mv.ms.n d.mv.ms.c, .slice d.mv.its.a d.mv.its.n d.mv.its.c, .slice d.mv.lv.a d.mv.lv.n d.mv.lv.c, .slice d.mv.tx.a d.mv.tx.n d.mv.tx.c, .int .i64 d.m.rd, .int .i64 d.m.se, .int .i64 d.m.li, .int .i64 d.m.he, .int .i64 d.m.la.c, .int .i64 d.m.la.r, .int .i64 d.m.la.q, .int .i64 d.m.la.a, .int .i64 d.m.la.b, .slice d.mv.ws.a d.mv.ws.n d.mv.ws.c, .int .i64 d.most, .int .i64 d.m.rid, .int .i64 d.jid, .slice d.js.a d.js.n d.js.c, .slice d.bs.a d.bs.n d.bs.c, .slice d.ls.a d.ls.n d.ls.c]
    exact h
  have BW : Hid (Below w.heap.size w (w.alloc (.cells #[.int .i64 d.id, .bool false, .int .i64 d.m.id, .int .i64 d.m.rid, .slice d.mv.ms.a d.mv.ms.n d.mv.ms.c, .slice d.mv.its.a d.mv.its.n d.mv.its.c, .slice d.mv.lv.a d.mv.lv.n d.mv.lv.c, .slice d.mv.tx.a d.mv.tx.n d.mv.tx.c, .int .i64 d.m.rd, .int .i64 d.m.se, .int .i64 d.m.li, .int .i64 d.m.he, .int .i64 d.m.la.c, .int .i64 d.m.la.r, .int .i64 d.m.la.q, .int .i64 d.m.la.a, .int .i64 d.m.la.b, .slice d.mv.ws.a d.mv.ws.n d.mv.ws.c, .int .i64 d.most, .int .i64 d.m.rid, .int .i64 d.jid, .slice d.js.a d.js.n d.js.c, .slice d.bs.a d.bs.n d.bs.c, .slice d.ls.a d.ls.n d.ls.c] 45))) := ((Below.refl _ _).alloc (by simp) _)
  have HR : Hid (DmR (w.alloc (.cells #[.int .i64 d.id, .bool false, .int .i64 d.m.id, .int .i64 d.m.rid, .slice d.mv.ms.a d.mv.ms.n d.mv.ms.c, .slice d.mv.its.a d.mv.its.n d.mv.its.c, .slice d.mv.lv.a d.mv.lv.n d.mv.lv.c, .slice d.mv.tx.a d.mv.tx.n d.mv.tx.c, .int .i64 d.m.rd, .int .i64 d.m.se, .int .i64 d.m.li, .int .i64 d.m.he, .int .i64 d.m.la.c, .int .i64 d.m.la.r, .int .i64 d.m.la.q, .int .i64 d.m.la.a, .int .i64 d.m.la.b, .slice d.mv.ws.a d.mv.ws.n d.mv.ws.c, .int .i64 d.most, .int .i64 d.m.rid, .int .i64 d.jid, .slice d.js.a d.js.n d.js.c, .slice d.bs.a d.bs.n d.bs.c, .slice d.ls.a d.ls.n d.ls.c] 45)) d) := h.out.stays BW.out
  have HW : Hid (d.mv.ws.n = d.m.la.ws.length) := h.out.mt.ws.len
  have HJN : Hid (d.bs.n = d.bu.length) := h.out.bu.1
  clear h
  go_enter Try.func5, Try.ntmps5
  have dbne : (d.m.rid != d.m.rid) = false := by simp
  have c0 := LA.out.cell 0
  simp only [List.getElem?_cons_succ, List.getElem?_cons_zero] at c0
  go_wp2_with fail
  refine (in_b d.id 1 5 _).mono ?_
  rintro e t1 ⟨rfl, b⟩
  have LA : Hid (Bx t1 w.heap.size 45 [.int .i64 d.id, .bool false, .int .i64 d.m.id, .int .i64 d.m.rid, .slice d.mv.ms.a d.mv.ms.n d.mv.ms.c, .slice d.mv.its.a d.mv.its.n d.mv.its.c, .slice d.mv.lv.a d.mv.lv.n d.mv.lv.c, .slice d.mv.tx.a d.mv.tx.n d.mv.tx.c, .int .i64 d.m.rd, .int .i64 d.m.se, .int .i64 d.m.li, .int .i64 d.m.he, .int .i64 d.m.la.c, .int .i64 d.m.la.r, .int .i64 d.m.la.q, .int .i64 d.m.la.a, .int .i64 d.m.la.b, .slice d.mv.ws.a d.mv.ws.n d.mv.ws.c, .int .i64 d.most, .int .i64 d.m.rid, .int .i64 d.jid, .slice d.js.a d.js.n d.js.c, .slice d.bs.a d.bs.n d.bs.c, .slice d.ls.a d.ls.n d.ls.c]) := LA.out.later b
  have BW : Hid (Below w.heap.size w t1) := bl_next BW.out b
  have HR : Hid (DmR t1 d) := HR.out.stays b
  clear b
  obtain ⟨R1, k1⟩ : ∃ R : Bool, (decide (1 ≤ d.id ∧ d.id ≤ 5)) = R := ⟨_, rfl⟩
  rw [k1]
  have K1 : Hid ((decide (1 ≤ d.id ∧ d.id ≤ 5)) = R1) := k1
  clear k1
  cases R1 with
  | false =>
    have e : dmS d = false := by
      unfold dmS idB moB jnB
      simp only [hdd.out, hor.out, K1.out, bne_self_eq_false, Bool.false_and, Bool.true_and, Bool.and_false, Bool.and_true, Bool.not_true, Bool.not_false, Bool.or_true, Bool.true_or, Bool.or_false, Bool.false_or, cond_true, cond_false]
    rw [hR.out] at e
    clear hR
    subst e
    go_wp2_with fail
    go_ret
    exact ⟨rfl, BW.out⟩
  | true =>
    have c18 := LA.out.cell 18
    simp only [List.getElem?_cons_succ, List.getElem?_cons_zero] at c18
    go_wp2_with fail
    refine (in_b d.most 0 9 _).mono ?_
    rintro e t2 ⟨rfl, b⟩
    have LA : Hid (Bx t2 w.heap.size 45 [.int .i64 d.id, .bool false, .int .i64 d.m.id, .int .i64 d.m.rid, .slice d.mv.ms.a d.mv.ms.n d.mv.ms.c, .slice d.mv.its.a d.mv.its.n d.mv.its.c, .slice d.mv.lv.a d.mv.lv.n d.mv.lv.c, .slice d.mv.tx.a d.mv.tx.n d.mv.tx.c, .int .i64 d.m.rd, .int .i64 d.m.se, .int .i64 d.m.li, .int .i64 d.m.he, .int .i64 d.m.la.c, .int .i64 d.m.la.r, .int .i64 d.m.la.q, .int .i64 d.m.la.a, .int .i64 d.m.la.b, .slice d.mv.ws.a d.mv.ws.n d.mv.ws.c, .int .i64 d.most, .int .i64 d.m.rid, .int .i64 d.jid, .slice d.js.a d.js.n d.js.c, .slice d.bs.a d.bs.n d.bs.c, .slice d.ls.a d.ls.n d.ls.c]) := LA.out.later b
    have BW : Hid (Below w.heap.size w t2) := bl_next BW.out b
    have HR : Hid (DmR t2 d) := HR.out.stays b
    clear b
    obtain ⟨R2, k2⟩ : ∃ R : Bool, (decide (0 ≤ d.most ∧ d.most ≤ 9)) = R := ⟨_, rfl⟩
    rw [k2]
    have K2 : Hid ((decide (0 ≤ d.most ∧ d.most ≤ 9)) = R2) := k2
    clear k2
    cases R2 with
    | false =>
      have e : dmS d = false := by
        unfold dmS idB moB jnB
        simp only [hdd.out, hor.out, K1.out, K2.out, bne_self_eq_false, Bool.false_and, Bool.true_and, Bool.and_false, Bool.and_true, Bool.not_true, Bool.not_false, Bool.or_true, Bool.true_or, Bool.or_false, Bool.false_or, cond_true, cond_false]
      rw [hR.out] at e
      clear hR
      subst e
      go_wp2_with fail
      go_ret
      exact ⟨rfl, BW.out⟩
    | true =>
      have c1 := LA.out.cell 1
      simp only [List.getElem?_cons_succ, List.getElem?_cons_zero] at c1
      go_wp2_with (first | (with_reducible refine wpList_haltL 41 _ rfl ?_))
      refine Stp.go ?_
      refine wpList_ldG rfl 41 _ rfl w.heap.size 2 rfl 45 _ LA.out [.int .i64 d.m.id, .int .i64 d.m.rid, .slice d.mv.ms.a d.mv.ms.n d.mv.ms.c, .slice d.mv.its.a d.mv.its.n d.mv.its.c, .slice d.mv.lv.a d.mv.lv.n d.mv.lv.c, .slice d.mv.tx.a d.mv.tx.n d.mv.tx.c, .int .i64 d.m.rd, .int .i64 d.m.se, .int .i64 d.m.li, .int .i64 d.m.he, .int .i64 d.m.la.c, .int .i64 d.m.la.r, .int .i64 d.m.la.q, .int .i64 d.m.la.a, .int .i64 d.m.la.b, .slice d.mv.ws.a d.mv.ws.n d.mv.ws.c] rfl _ Try.underlying41 rfl Try.sizeM ?_
      go_wp2_with fail
      refine (lnoMate_any d.m d.mv _ HW.out).mono ?_
      rintro e t3 ⟨rfl, b⟩
      have LA : Hid (Bx t3 w.heap.size 45 [.int .i64 d.id, .bool false, .int .i64 d.m.id, .int .i64 d.m.rid, .slice d.mv.ms.a d.mv.ms.n d.mv.ms.c, .slice d.mv.its.a d.mv.its.n d.mv.its.c, .slice d.mv.lv.a d.mv.lv.n d.mv.lv.c, .slice d.mv.tx.a d.mv.tx.n d.mv.tx.c, .int .i64 d.m.rd, .int .i64 d.m.se, .int .i64 d.m.li, .int .i64 d.m.he, .int .i64 d.m.la.c, .int .i64 d.m.la.r, .int .i64 d.m.la.q, .int .i64 d.m.la.a, .int .i64 d.m.la.b, .slice d.mv.ws.a d.mv.ws.n d.mv.ws.c, .int .i64 d.most, .int .i64 d.m.rid, .int .i64 d.jid, .slice d.js.a d.js.n d.js.c, .slice d.bs.a d.bs.n d.bs.c, .slice d.ls.a d.ls.n d.ls.c]) := LA.out.later b
      have BW : Hid (Below w.heap.size w t3) := bl_next BW.out b
      have HR : Hid (DmR t3 d) := HR.out.stays b
      clear b
      obtain ⟨R3, k3⟩ : ∃ R : Bool, (nmS d.m d.mv) = R := ⟨_, rfl⟩
      rw [k3]
      have K3 : Hid ((nmS d.m d.mv) = R3) := k3
      clear k3
      cases R3 with
      | false =>
        go_wp2_with (first | (with_reducible refine wpList_haltL 41 _ rfl ?_))
        refine Stp.go ?_
        refine wpList_ldG rfl 41 _ rfl w.heap.size 2 rfl 45 _ LA.out [.int .i64 d.m.id, .int .i64 d.m.rid, .slice d.mv.ms.a d.mv.ms.n d.mv.ms.c, .slice d.mv.its.a d.mv.its.n d.mv.its.c, .slice d.mv.lv.a d.mv.lv.n d.mv.lv.c, .slice d.mv.tx.a d.mv.tx.n d.mv.tx.c, .int .i64 d.m.rd, .int .i64 d.m.se, .int .i64 d.m.li, .int .i64 d.m.he, .int .i64 d.m.la.c, .int .i64 d.m.la.r, .int .i64 d.m.la.q, .int .i64 d.m.la.a, .int .i64 d.m.la.b, .slice d.mv.ws.a d.mv.ws.n d.mv.ws.c] rfl _ Try.underlying41 rfl Try.sizeM ?_
        go_wp2_with fail
        refine (spMateOk_any d.m d.mv _ HR.out.mt hs.out.mt).mono ?_
        rintro e t4 ⟨rfl, b⟩
        have LA : Hid (Bx t4 w.heap.size 45 [.int .i64 d.id, .bool false, .int .i64 d.m.id, .int .i64 d.m.rid, .slice d.mv.ms.a d.mv.ms.n d.mv.ms.c, .slice d.mv.its.a d.mv.its.n d.mv.its.c, .slice d.mv.lv.a d.mv.lv.n d.mv.lv.c, .slice d.mv.tx.a d.mv.tx.n d.mv.tx.c, .int .i64 d.m.rd, .int .i64 d.m.se, .int .i64 d.m.li, .int .i64 d.m.he, .int .i64 d.m.la.c, .int .i64 d.m.la.r, .int .i64 d.m.la.q, .int .i64 d.m.la.a, .int .i64 d.m.la.b, .slice d.mv.ws.a d.mv.ws.n d.mv.ws.c, .int .i64 d.most, .int .i64 d.m.rid, .int .i64 d.jid, .slice d.js.a d.js.n d.js.c, .slice d.bs.a d.bs.n d.bs.c, .slice d.ls.a d.ls.n d.ls.c]) := LA.out.later b
        have BW : Hid (Below w.heap.size w t4) := bl_next BW.out b
        have HR : Hid (DmR t4 d) := HR.out.stays b
        clear b
        obtain ⟨R4, k4⟩ : ∃ R : Bool, (d.m.ok) = R := ⟨_, rfl⟩
        rw [k4]
        have K4 : Hid ((d.m.ok) = R4) := k4
        clear k4
        cases R4 with
        | false =>
          have e : dmS d = false := by
            unfold dmS idB moB jnB
            simp only [hdd.out, hor.out, K1.out, K2.out, K3.out, K4.out, bne_self_eq_false, Bool.false_and, Bool.true_and, Bool.and_false, Bool.and_true, Bool.not_true, Bool.not_false, Bool.or_true, Bool.true_or, Bool.or_false, Bool.false_or, cond_true, cond_false]
          rw [hR.out] at e
          clear hR
          subst e
          go_wp2_with fail
          go_ret
          exact ⟨rfl, BW.out⟩
        | true =>
          have c2 := LA.out.cell 2
          have c0 := LA.out.cell 0
          simp only [List.getElem?_cons_succ, List.getElem?_cons_zero] at c2 c0
          obtain ⟨R5, k5⟩ : ∃ R : Bool, (d.m.id != d.id) = R := ⟨_, rfl⟩
          have K5 : Hid ((d.m.id != d.id) = R5) := k5
          cases R5 with
          | false =>
            have c19 := LA.out.cell 19
            have c3 := LA.out.cell 3
            have c18 := LA.out.cell 18
            simp only [List.getElem?_cons_succ, List.getElem?_cons_zero] at c19 c3 c18
            obtain ⟨R6, k6⟩ : ∃ R : Bool, (decide (d.most < d.m.rid)) = R := ⟨_, rfl⟩
            have K6 : Hid ((decide (d.most < d.m.rid)) = R6) := k6
            cases R6 with
            | false =>
              go_wp2_with (first | (with_reducible refine wpList_haltL 37 _ rfl ?_))
              refine Stp.go ?_
              refine wpList_ldG rfl 37 _ rfl w.heap.size 20 rfl 45 _ LA.out [.int .i64 d.jid, .slice d.js.a d.js.n d.js.c] rfl _ Try.underlying37 rfl Try.sizeR ?_
              go_wp2_with fail
              refine (lnoRing_any d.jid d.js _).mono ?_
              rintro e t7 ⟨rfl, b⟩
              have LA : Hid (Bx t7 w.heap.size 45 [.int .i64 d.id, .bool false, .int .i64 d.m.id, .int .i64 d.m.rid, .slice d.mv.ms.a d.mv.ms.n d.mv.ms.c, .slice d.mv.its.a d.mv.its.n d.mv.its.c, .slice d.mv.lv.a d.mv.lv.n d.mv.lv.c, .slice d.mv.tx.a d.mv.tx.n d.mv.tx.c, .int .i64 d.m.rd, .int .i64 d.m.se, .int .i64 d.m.li, .int .i64 d.m.he, .int .i64 d.m.la.c, .int .i64 d.m.la.r, .int .i64 d.m.la.q, .int .i64 d.m.la.a, .int .i64 d.m.la.b, .slice d.mv.ws.a d.mv.ws.n d.mv.ws.c, .int .i64 d.most, .int .i64 d.m.rid, .int .i64 d.jid, .slice d.js.a d.js.n d.js.c, .slice d.bs.a d.bs.n d.bs.c, .slice d.ls.a d.ls.n d.ls.c]) := LA.out.later b
              have BW : Hid (Below w.heap.size w t7) := bl_next BW.out b
              have HR : Hid (DmR t7 d) := HR.out.stays b
              clear b
              obtain ⟨R7, k7⟩ : ∃ R : Bool, (nrB d.jid d.js.n) = R := ⟨_, rfl⟩
              rw [k7]
              have K7 : Hid ((nrB d.jid d.js.n) = R7) := k7
              clear k7
              cases R7 with
              | false =>
                go_wp2_with (first | (with_reducible refine wpList_haltL 37 _ rfl ?_))
                refine Stp.go ?_
                refine wpList_ldG rfl 37 _ rfl w.heap.size 20 rfl 45 _ LA.out [.int .i64 d.jid, .slice d.js.a d.js.n d.js.c] rfl _ Try.underlying37 rfl Try.sizeR ?_
                go_wp2_with fail
                refine (spRingOk_r d.jid d.jms (show Hid (RI _ (.slice d.js.a d.js.n d.js.c) d.jms) from HR.out.jo) hs.out.jo).mono ?_
                rintro e t8 ⟨rfl, b⟩
                have LA : Hid (Bx t8 w.heap.size 45 [.int .i64 d.id, .bool false, .int .i64 d.m.id, .int .i64 d.m.rid, .slice d.mv.ms.a d.mv.ms.n d.mv.ms.c, .slice d.mv.its.a d.mv.its.n d.mv.its.c, .slice d.mv.lv.a d.mv.lv.n d.mv.lv.c, .slice d.mv.tx.a d.mv.tx.n d.mv.tx.c, .int .i64 d.m.rd, .int .i64 d.m.se, .int .i64 d.m.li, .int .i64 d.m.he, .int .i64 d.m.la.c, .int .i64 d.m.la.r, .int .i64 d.m.la.q, .int .i64 d.m.la.a, .int .i64 d.m.la.b, .slice d.mv.ws.a d.mv.ws.n d.mv.ws.c, .int .i64 d.most, .int .i64 d.m.rid, .int .i64 d.jid, .slice d.js.a d.js.n d.js.c, .slice d.bs.a d.bs.n d.bs.c, .slice d.ls.a d.ls.n d.ls.c]) := LA.out.later b
                have BW : Hid (Below w.heap.size w t8) := bl_next BW.out b
                have HR : Hid (DmR t8 d) := HR.out.stays b
                clear b
                obtain ⟨R8, k8⟩ : ∃ R : Bool, (ringB d.jid d.jms) = R := ⟨_, rfl⟩
                rw [k8]
                have K8 : Hid ((ringB d.jid d.jms) = R8) := k8
                clear k8
                cases R8 with
                | false =>
                  have e : dmS d = false := by
                    unfold dmS idB moB jnB
                    simp only [hdd.out, hor.out, K1.out, K2.out, K3.out, K4.out, K5.out, K6.out, K7.out, K8.out, bne_self_eq_false, Bool.false_and, Bool.true_and, Bool.and_false, Bool.and_true, Bool.not_true, Bool.not_false, Bool.or_true, Bool.true_or, Bool.or_false, Bool.false_or, cond_true, cond_false]
                  rw [hR.out] at e
                  clear hR
                  subst e
                  go_wp2_with fail
                  go_ret
                  exact ⟨rfl, BW.out⟩
                | true =>
                  have c21 := LA.out.cell 21
                  have c0 := LA.out.cell 0
                  simp only [List.getElem?_cons_succ, List.getElem?_cons_zero] at c21 c0
                  go_wp2_with fail
                  refine (lin_r d.jms d.id (show Hid (RI _ (.slice d.js.a d.js.n d.js.c) d.jms) from HR.out.jo) hs.out.jo).mono ?_
                  rintro e t9 ⟨rfl, b⟩
                  have LA : Hid (Bx t9 w.heap.size 45 [.int .i64 d.id, .bool false, .int .i64 d.m.id, .int .i64 d.m.rid, .slice d.mv.ms.a d.mv.ms.n d.mv.ms.c, .slice d.mv.its.a d.mv.its.n d.mv.its.c, .slice d.mv.lv.a d.mv.lv.n d.mv.lv.c, .slice d.mv.tx.a d.mv.tx.n d.mv.tx.c, .int .i64 d.m.rd, .int .i64 d.m.se, .int .i64 d.m.li, .int .i64 d.m.he, .int .i64 d.m.la.c, .int .i64 d.m.la.r, .int .i64 d.m.la.q, .int .i64 d.m.la.a, .int .i64 d.m.la.b, .slice d.mv.ws.a d.mv.ws.n d.mv.ws.c, .int .i64 d.most, .int .i64 d.m.rid, .int .i64 d.jid, .slice d.js.a d.js.n d.js.c, .slice d.bs.a d.bs.n d.bs.c, .slice d.ls.a d.ls.n d.ls.c]) := LA.out.later b
                  have BW : Hid (Below w.heap.size w t9) := bl_next BW.out b
                  have HR : Hid (DmR t9 d) := HR.out.stays b
                  clear b
                  obtain ⟨R9, k9⟩ : ∃ R : Bool, (inB d.jms d.id) = R := ⟨_, rfl⟩
                  rw [k9]
                  have K9 : Hid ((inB d.jms d.id) = R9) := k9
                  clear k9
                  cases R9 with
                  | false =>
                    have e : dmS d = false := by
                      unfold dmS idB moB jnB
                      simp only [hdd.out, hor.out, K1.out, K2.out, K3.out, K4.out, K5.out, K6.out, K7.out, K8.out, K9.out, bne_self_eq_false, Bool.false_and, Bool.true_and, Bool.and_false, Bool.and_true, Bool.not_true, Bool.not_false, Bool.or_true, Bool.true_or, Bool.or_false, Bool.false_or, cond_true, cond_false]
                    rw [hR.out] at e
                    clear hR
                    subst e
                    go_wp2_with fail
                    go_ret
                    exact ⟨rfl, BW.out⟩
                  | true =>
                    have hrg : 0 ≤ d.m.rid ∧ d.m.rid ≤ 9 := rid_rng (Or.inr K4.out)
                    have hwr : IntKind.i64.wrap (d.m.rid + 1) = d.m.rid + 1 := by simp [IntKind.wrap, IntKind.signed, IntKind.bits]; omega
                    have hrg1 := hrg.1
                    have hrg2 := hrg.2
                    clear hrg
                    have c20 := LA.out.cell 20
                    have c19 := LA.out.cell 19
                    have c18 := LA.out.cell 18
                    simp only [List.getElem?_cons_succ, List.getElem?_cons_zero] at c20 c19 c18
                    go_wp2_with fail
                    refine (in_b d.jid (d.m.rid + 1) d.most _).mono ?_
                    rintro e t10 ⟨rfl, b⟩
                    have LA : Hid (Bx t10 w.heap.size 45 [.int .i64 d.id, .bool false, .int .i64 d.m.id, .int .i64 d.m.rid, .slice d.mv.ms.a d.mv.ms.n d.mv.ms.c, .slice d.mv.its.a d.mv.its.n d.mv.its.c, .slice d.mv.lv.a d.mv.lv.n d.mv.lv.c, .slice d.mv.tx.a d.mv.tx.n d.mv.tx.c, .int .i64 d.m.rd, .int .i64 d.m.se, .int .i64 d.m.li, .int .i64 d.m.he, .int .i64 d.m.la.c, .int .i64 d.m.la.r, .int .i64 d.m.la.q, .int .i64 d.m.la.a, .int .i64 d.m.la.b, .slice d.mv.ws.a d.mv.ws.n d.mv.ws.c, .int .i64 d.most, .int .i64 d.m.rid, .int .i64 d.jid, .slice d.js.a d.js.n d.js.c, .slice d.bs.a d.bs.n d.bs.c, .slice d.ls.a d.ls.n d.ls.c]) := LA.out.later b
                    have BW : Hid (Below w.heap.size w t10) := bl_next BW.out b
                    have HR : Hid (DmR t10 d) := HR.out.stays b
                    clear b
                    obtain ⟨R10, k10⟩ : ∃ R : Bool, (decide (d.m.rid + 1 ≤ d.jid ∧ d.jid ≤ d.most)) = R := ⟨_, rfl⟩
                    rw [k10]
                    have K10 : Hid ((decide (d.m.rid + 1 ≤ d.jid ∧ d.jid ≤ d.most)) = R10) := k10
                    clear k10
                    cases R10 with
                    | false =>
                      have e : dmS d = false := by
                        unfold dmS idB moB jnB
                        simp only [hdd.out, hor.out, K1.out, K2.out, K3.out, K4.out, K5.out, K6.out, K7.out, K8.out, K9.out, K10.out, bne_self_eq_false, Bool.false_and, Bool.true_and, Bool.and_false, Bool.and_true, Bool.not_true, Bool.not_false, Bool.or_true, Bool.true_or, Bool.or_false, Bool.false_or, cond_true, cond_false]
                      rw [hR.out] at e
                      clear hR
                      subst e
                      go_wp2_with fail
                      go_ret
                      exact ⟨rfl, BW.out⟩
                    | true =>
                      have hdm : dmS d = aokB d d.bu := by
                        unfold dmS idB moB jnB
                        simp only [hdd.out, hor.out, K1.out, K2.out, K3.out, K4.out, K5.out, K6.out, K7.out, K8.out, K9.out, K10.out, bne_self_eq_false, Bool.false_and, Bool.true_and, Bool.and_false, Bool.and_true, Bool.not_true, Bool.not_false, Bool.or_true, Bool.true_or, Bool.or_false, Bool.false_or, cond_true, cond_false]
                      rw [hR.out] at hdm
                      have HDM : Hid (R = aokB d d.bu) := hdm
                      clear hdm
                      go_wp2_with fail
                      go_loopw [3] (fun i wr => ∃ (j : Nat), j ≤ d.bs.n ∧ i = .int .i64 j ∧ Hid (aokB d (d.bu.take j) = true) ∧ Hid (Below t10.heap.size t10 wr)) (fun i _ => d.bs.n - (intOf i).toNat)
                      case atStart => exact ⟨0, Nat.zero_le _, rfl, rfl, Below.refl _ _⟩
                      case round =>
                        obtain ⟨j, hj, rfl, hal, hb⟩ := hrel
                        have LAr : Hid (Bx wr w.heap.size 45 [.int .i64 d.id, .bool false, .int .i64 d.m.id, .int .i64 d.m.rid, .slice d.mv.ms.a d.mv.ms.n d.mv.ms.c, .slice d.mv.its.a d.mv.its.n d.mv.its.c, .slice d.mv.lv.a d.mv.lv.n d.mv.lv.c, .slice d.mv.tx.a d.mv.tx.n d.mv.tx.c, .int .i64 d.m.rd, .int .i64 d.m.se, .int .i64 d.m.li, .int .i64 d.m.he, .int .i64 d.m.la.c, .int .i64 d.m.la.r, .int .i64 d.m.la.q, .int .i64 d.m.la.a, .int .i64 d.m.la.b, .slice d.mv.ws.a d.mv.ws.n d.mv.ws.c, .int .i64 d.most, .int .i64 d.m.rid, .int .i64 d.jid, .slice d.js.a d.js.n d.js.c, .slice d.bs.a d.bs.n d.bs.c, .slice d.ls.a d.ls.n d.ls.c]) := LA.out.later hb.out
                        have HRr : Hid (DmR wr d) := HR.out.stays hb.out
                        have BWr : Hid (Below w.heap.size w wr) := bl_next BW.out hb.out
                        have c22 := LAr.out.cell 22
                        simp only [List.getElem?_cons_succ, List.getElem?_cons_zero] at c22
                        by_cases hlt : j < d.bs.n
                        · skip
                          have hlt2 : j < d.bu.length := by have := HJN.out; omega
                          have hj9 : j < 1048576 := by have := hs.out.bus.1; omega
                          obtain ⟨g, off, ha, hg, _, hr⟩ := HRr.out.bu.2.1 j (by simpa using hlt2)
                          obtain ⟨b, he⟩ : ∃ b, b = d.bu[j] := ⟨_, rfl⟩
                          have hr2 : wr.rangeAt g (off + j * 4) b.row := by rw [he]; simpa using hr
                          have HG : Hid (g < wr.heap.size) := hg
                          have p0 : Hid (wr.cell? ⟨g, off + j * 4, none⟩ = some (.int .i64 b.f)) := hr2 0 _ rfl
                          have p1 : Hid (wr.cell? ⟨g, off + j * 4 + 1, none⟩ = some (.int .i64 b.n)) := hr2 1 _ rfl
                          have p2 : Hid (wr.cell? ⟨g, off + j * 4 + 2, none⟩ = some (.int .i64 b.o)) := hr2 2 _ rfl
                          have p3 : Hid (wr.cell? ⟨g, off + j * 4 + 3, none⟩ = some (.slice b.s.a b.s.n b.s.c)) := hr2 3 _ rfl
                          have HE : Hid (b = d.bu[j]) := he
                          have RR : Hid (b.R wr) := by rw [he]; exact HRr.out.bu.2.2 _ (List.getElem_mem hlt2)
                          have hq1 : b.ts.length ≤ 1048576 := by rw [he]; exact hs.out.bus.2 _ (List.getElem_mem hlt2)
                          have HA : Hid (d.bs.a = some ⟨g, off, none⟩) := ha
                          have i0 : (0 : Int) ≤ (j : Int) := by omega
                          have i1 : (j : Int) < (d.bs.n : Int) := by omega
                          have c22 : wr.cell? ⟨w.heap.size, 22, none⟩ = some (.slice (some ⟨g, off, none⟩) d.bs.n d.bs.c) := by rw [← ha]; exact c22
                          have LS : Hid (Bx wr w.heap.size 45 [.int .i64 d.id, .bool false, .int .i64 d.m.id, .int .i64 d.m.rid, .slice d.mv.ms.a d.mv.ms.n d.mv.ms.c, .slice d.mv.its.a d.mv.its.n d.mv.its.c, .slice d.mv.lv.a d.mv.lv.n d.mv.lv.c, .slice d.mv.tx.a d.mv.tx.n d.mv.tx.c, .int .i64 d.m.rd, .int .i64 d.m.se, .int .i64 d.m.li, .int .i64 d.m.he, .int .i64 d.m.la.c, .int .i64 d.m.la.r, .int .i64 d.m.la.q, .int .i64 d.m.la.a, .int .i64 d.m.la.b, .slice d.mv.ws.a d.mv.ws.n d.mv.ws.c, .int .i64 d.most, .int .i64 d.m.rid, .int .i64 d.jid, .slice d.js.a d.js.n d.js.c, .slice (some ⟨g, off, none⟩) d.bs.n d.bs.c, .slice d.ls.a d.ls.n d.ls.c]) := (by have e := LAr.out; rw [ha] at e; exact e : Bx _ _ _ _)
                          clear hr hr2 he hg ha
                          go_wp2_with fail
                          obtain ⟨Q1, kq1⟩ : ∃ q, bunB b.f b.n b.o b.ts = q := ⟨_, rfl⟩
                          have KQ1 : Hid (bunB b.f b.n b.o b.ts = Q1) := kq1
                          obtain ⟨Q2, kq2⟩ : ∃ q, (b.n != d.jid) = q := ⟨_, rfl⟩
                          have KQ2 : Hid ((b.n != d.jid) = Q2) := kq2
                          cases Q1 with
                          | false =>
                            clear kq1 kq2
                            refine quietC (C := fun w' => Below wr.heap.size wr w') (by kernel_rfl) (by kernel_rfl) (Below.refl _ _).drew ?_
                            go_big_quiet_want
                            refine q_val (.pointer (some ⟨w.heap.size, 22, none⟩)) (fun w' hw' => by go_simp) ?_
                            go_big_quiet_on
                            simp only [Act.put, List.setIfInBounds_toArray, List.set_cons_zero, List.set_cons_succ]
                            go_big_quiet_want
                            refine q_val (.slice (some ⟨g, off, none⟩) d.bs.n d.bs.c) (fun w' hw' => by have r : w'.cell? ⟨w.heap.size, 22, none⟩ = some (.slice (some ⟨g, off, none⟩) d.bs.n d.bs.c) := (LS.out.later hw').cell 22; go_simp) ?_
                            go_big_quiet_on
                            simp only [Act.put, List.setIfInBounds_toArray, List.set_cons_zero, List.set_cons_succ]
                            go_big_quiet_want
                            refine q_val (.int .i64 ((j : Int))) (fun w' hw' => by go_simp) ?_
                            go_big_quiet_on
                            simp only [Act.put, List.setIfInBounds_toArray, List.set_cons_zero, List.set_cons_succ]
                            go_big_quiet_want
                            refine q_val (.pointer (some ⟨g, off + j * 4, none⟩)) (fun w' hw' => by go_simp) ?_
                            go_big_quiet_on
                            simp only [Act.put, List.setIfInBounds_toArray, List.set_cons_zero, List.set_cons_succ]
                            go_big_quiet_want
                            refine q_val (.agg #[.int .i64 b.f, .int .i64 b.n, .int .i64 b.o, .slice b.s.a b.s.n b.s.c]) (fun w' hw' => by have r0 : w'.cell? ⟨g, off + j * 4, none⟩ = some (.int .i64 b.f) := (hw'.cell (p := ⟨g, off + j * 4, none⟩) HG.out).trans p0.out; have r1 : w'.cell? ⟨g, off + j * 4 + 1, none⟩ = some (.int .i64 b.n) := (hw'.cell (p := ⟨g, off + j * 4 + 1, none⟩) HG.out).trans p1.out; have r2 : w'.cell? ⟨g, off + j * 4 + 2, none⟩ = some (.int .i64 b.o) := (hw'.cell (p := ⟨g, off + j * 4 + 2, none⟩) HG.out).trans p2.out; have r3 : w'.cell? ⟨g, off + j * 4 + 3, none⟩ = some (.slice b.s.a b.s.n b.s.c) := (hw'.cell (p := ⟨g, off + j * 4 + 3, none⟩) HG.out).trans p3.out; go_simp) ?_
                            go_big_quiet_on
                            simp only [Act.put, List.setIfInBounds_toArray, List.set_cons_zero, List.set_cons_succ]
                            go_big_quiet_want
                            refine q_callB (W := wr) (.bool false) 19 #[(.agg #[.int .i64 b.f, .int .i64 b.n, .int .i64 b.o, .slice b.s.a b.s.n b.s.c])] (fun w' hw' => by go_simp) (fun w' hw' => (spBundleOk_r b.f b.n b.o b.s b.ts w' (show Hid (RSt w' b.s b.ts) from RSt.stays RR.out hw') hq1).mono fun e w1 ⟨he, hb⟩ => ⟨by rw [he]; exact congrArg (fun b => Ending.returned (Value.bool b)) KQ1.out, hb⟩) ?_
                            go_big_quiet_on
                            simp only [Act.put, List.setIfInBounds_toArray, List.set_cons_zero, List.set_cons_succ]
                            go_big_quiet_want
                            refine q_val (.bool true) (fun w' hw' => by go_simp) ?_
                            go_big_quiet_on
                            simp only [Act.put, List.setIfInBounds_toArray, List.set_cons_zero, List.set_cons_succ]
                            go_big_quiet_want
                            refine q_val (.bool true) (fun w' hw' => by go_simp) ?_
                            go_big_quiet_on
                            simp only [Act.put, List.setIfInBounds_toArray, List.set_cons_zero, List.set_cons_succ]
                            go_big_quiet_skip
                            go_big_quiet_skip
                            go_big_quiet_skip
                            go_big_quiet_skip
                            go_big_quiet_skip
                            go_big_quiet_skip
                            go_big_quiet_skip
                            go_big_quiet_skip
                            go_big_quiet_skip
                            go_big_quiet_skip
                            go_big_quiet_want
                            refine q_val (.bool true) (fun w' hw' => by go_simp) ?_
                            go_big_quiet_on
                            simp only [Act.put, List.setIfInBounds_toArray, List.set_cons_zero, List.set_cons_succ]
                            refine wpQuiet_nil ?_
                            intro w9 h9
                            have BW9 : Hid (Below w.heap.size w w9) := bl_next BWr.out h9
                            have e : R = false := by
                              rw [HDM.out]
                              unfold aokB
                              rw [List.all_eq_false]
                              exact ⟨d.bu[j], List.getElem_mem hlt2, by rw [← HE.out]; simp only [KQ1.out]; simp⟩
                            subst e
                            clear h9
                            go_wp2_with fail
                            go_ret
                            exact ⟨rfl, BW9.out⟩
                          | true =>
                            cases Q2 with
                            | true =>
                              refine quietC (C := fun w' => Below wr.heap.size wr w') (by kernel_rfl) (by kernel_rfl) (Below.refl _ _).drew ?_
                              go_big_quiet_want
                              refine q_val (.pointer (some ⟨w.heap.size, 22, none⟩)) (fun w' hw' => by go_simp) ?_
                              go_big_quiet_on
                              simp only [Act.put, List.setIfInBounds_toArray, List.set_cons_zero, List.set_cons_succ]
                              go_big_quiet_want
                              refine q_val (.slice (some ⟨g, off, none⟩) d.bs.n d.bs.c) (fun w' hw' => by have r : w'.cell? ⟨w.heap.size, 22, none⟩ = some (.slice (some ⟨g, off, none⟩) d.bs.n d.bs.c) := (LS.out.later hw').cell 22; go_simp) ?_
                              go_big_quiet_on
                              simp only [Act.put, List.setIfInBounds_toArray, List.set_cons_zero, List.set_cons_succ]
                              go_big_quiet_want
                              refine q_val (.int .i64 ((j : Int))) (fun w' hw' => by go_simp) ?_
                              go_big_quiet_on
                              simp only [Act.put, List.setIfInBounds_toArray, List.set_cons_zero, List.set_cons_succ]
                              go_big_quiet_want
                              refine q_val (.pointer (some ⟨g, off + j * 4, none⟩)) (fun w' hw' => by go_simp) ?_
                              go_big_quiet_on
                              simp only [Act.put, List.setIfInBounds_toArray, List.set_cons_zero, List.set_cons_succ]
                              go_big_quiet_want
                              refine q_val (.agg #[.int .i64 b.f, .int .i64 b.n, .int .i64 b.o, .slice b.s.a b.s.n b.s.c]) (fun w' hw' => by have r0 : w'.cell? ⟨g, off + j * 4, none⟩ = some (.int .i64 b.f) := (hw'.cell (p := ⟨g, off + j * 4, none⟩) HG.out).trans p0.out; have r1 : w'.cell? ⟨g, off + j * 4 + 1, none⟩ = some (.int .i64 b.n) := (hw'.cell (p := ⟨g, off + j * 4 + 1, none⟩) HG.out).trans p1.out; have r2 : w'.cell? ⟨g, off + j * 4 + 2, none⟩ = some (.int .i64 b.o) := (hw'.cell (p := ⟨g, off + j * 4 + 2, none⟩) HG.out).trans p2.out; have r3 : w'.cell? ⟨g, off + j * 4 + 3, none⟩ = some (.slice b.s.a b.s.n b.s.c) := (hw'.cell (p := ⟨g, off + j * 4 + 3, none⟩) HG.out).trans p3.out; go_simp) ?_
                              go_big_quiet_on
                              simp only [Act.put, List.setIfInBounds_toArray, List.set_cons_zero, List.set_cons_succ]
                              go_big_quiet_want
                              refine q_callB (W := wr) (.bool true) 19 #[(.agg #[.int .i64 b.f, .int .i64 b.n, .int .i64 b.o, .slice b.s.a b.s.n b.s.c])] (fun w' hw' => by go_simp) (fun w' hw' => (spBundleOk_r b.f b.n b.o b.s b.ts w' (show Hid (RSt w' b.s b.ts) from RSt.stays RR.out hw') hq1).mono fun e w1 ⟨he, hb⟩ => ⟨by rw [he]; exact congrArg (fun b => Ending.returned (Value.bool b)) KQ1.out, hb⟩) ?_
                              go_big_quiet_on
                              simp only [Act.put, List.setIfInBounds_toArray, List.set_cons_zero, List.set_cons_succ]
                              go_big_quiet_want
                              refine q_val (.bool false) (fun w' hw' => by go_simp) ?_
                              go_big_quiet_on
                              simp only [Act.put, List.setIfInBounds_toArray, List.set_cons_zero, List.set_cons_succ]
                              go_big_quiet_want
                              refine q_val (.bool false) (fun w' hw' => by go_simp) ?_
                              go_big_quiet_on
                              simp only [Act.put, List.setIfInBounds_toArray, List.set_cons_zero, List.set_cons_succ]
                              go_big_quiet_want
                              refine q_val (.pointer (some ⟨w.heap.size, 22, none⟩)) (fun w' hw' => by go_simp) ?_
                              go_big_quiet_on
                              simp only [Act.put, List.setIfInBounds_toArray, List.set_cons_zero, List.set_cons_succ]
                              go_big_quiet_want
                              refine q_val (.slice (some ⟨g, off, none⟩) d.bs.n d.bs.c) (fun w' hw' => by have r : w'.cell? ⟨w.heap.size, 22, none⟩ = some (.slice (some ⟨g, off, none⟩) d.bs.n d.bs.c) := (LS.out.later hw').cell 22; go_simp) ?_
                              go_big_quiet_on
                              simp only [Act.put, List.setIfInBounds_toArray, List.set_cons_zero, List.set_cons_succ]
                              go_big_quiet_want
                              refine q_val (.int .i64 ((j : Int))) (fun w' hw' => by go_simp) ?_
                              go_big_quiet_on
                              simp only [Act.put, List.setIfInBounds_toArray, List.set_cons_zero, List.set_cons_succ]
                              go_big_quiet_want
                              refine q_val (.pointer (some ⟨g, off + j * 4, none⟩)) (fun w' hw' => by go_simp) ?_
                              go_big_quiet_on
                              simp only [Act.put, List.setIfInBounds_toArray, List.set_cons_zero, List.set_cons_succ]
                              go_big_quiet_want
                              refine q_val (.pointer (some ⟨g, off + j * 4 + 1, none⟩)) (fun w' hw' => by go_simp) ?_
                              go_big_quiet_on
                              simp only [Act.put, List.setIfInBounds_toArray, List.set_cons_zero, List.set_cons_succ]
                              go_big_quiet_want
                              refine q_val (.int .i64 b.n) (fun w' hw' => by have r1 : w'.cell? ⟨g, off + j * 4 + 1, none⟩ = some (.int .i64 b.n) := (hw'.cell (p := ⟨g, off + j * 4 + 1, none⟩) HG.out).trans p1.out; go_simp) ?_
                              go_big_quiet_on
                              simp only [Act.put, List.setIfInBounds_toArray, List.set_cons_zero, List.set_cons_succ]
                              go_big_quiet_want
                              refine q_val (.pointer (some ⟨w.heap.size, 20, none⟩)) (fun w' hw' => by go_simp) ?_
                              go_big_quiet_on
                              simp only [Act.put, List.setIfInBounds_toArray, List.set_cons_zero, List.set_cons_succ]
                              go_big_quiet_want
                              refine q_val (.pointer (some ⟨w.heap.size, 20, none⟩)) (fun w' hw' => by go_simp) ?_
                              go_big_quiet_on
                              simp only [Act.put, List.setIfInBounds_toArray, List.set_cons_zero, List.set_cons_succ]
                              go_big_quiet_want
                              refine q_val (.int .i64 d.jid) (fun w' hw' => by have r : w'.cell? ⟨w.heap.size, 20, none⟩ = some (.int .i64 d.jid) := (LS.out.later hw').cell 20; go_simp) ?_
                              go_big_quiet_on
                              simp only [Act.put, List.setIfInBounds_toArray, List.set_cons_zero, List.set_cons_succ]
                              go_big_quiet_want
                              refine q_val (.bool true) (fun w' hw' => by go_simp) ?_
                              go_big_quiet_on
                              simp only [Act.put, List.setIfInBounds_toArray, List.set_cons_zero, List.set_cons_succ]
                              go_big_quiet_want
                              refine q_val (.bool true) (fun w' hw' => by go_simp) ?_
                              go_big_quiet_on
                              simp only [Act.put, List.setIfInBounds_toArray, List.set_cons_zero, List.set_cons_succ]
                              refine wpQuiet_nil ?_
                              intro w9 h9
                              have BW9 : Hid (Below w.heap.size w w9) := bl_next BWr.out h9
                              have e : R = false := by
                                rw [HDM.out]
                                unfold aokB
                                rw [List.all_eq_false]
                                exact ⟨d.bu[j], List.getElem_mem hlt2, by rw [← HE.out]; simp only [KQ1.out, KQ2.out]; simp⟩
                              subst e
                              clear h9
                              go_wp2_with fail
                              go_ret
                              exact ⟨rfl, BW9.out⟩
                            | false =>
                              refine quietC (C := fun w' => Below wr.heap.size wr w') (by kernel_rfl) (by kernel_rfl) (Below.refl _ _).drew ?_
                              go_big_quiet_want
                              refine q_val (.pointer (some ⟨w.heap.size, 22, none⟩)) (fun w' hw' => by go_simp) ?_
                              go_big_quiet_on
                              simp only [Act.put, List.setIfInBounds_toArray, List.set_cons_zero, List.set_cons_succ]
                              go_big_quiet_want
                              refine q_val (.slice (some ⟨g, off, none⟩) d.bs.n d.bs.c) (fun w' hw' => by have r : w'.cell? ⟨w.heap.size, 22, none⟩ = some (.slice (some ⟨g, off, none⟩) d.bs.n d.bs.c) := (LS.out.later hw').cell 22; go_simp) ?_
                              go_big_quiet_on
                              simp only [Act.put, List.setIfInBounds_toArray, List.set_cons_zero, List.set_cons_succ]
                              go_big_quiet_want
                              refine q_val (.int .i64 ((j : Int))) (fun w' hw' => by go_simp) ?_
                              go_big_quiet_on
                              simp only [Act.put, List.setIfInBounds_toArray, List.set_cons_zero, List.set_cons_succ]
                              go_big_quiet_want
                              refine q_val (.pointer (some ⟨g, off + j * 4, none⟩)) (fun w' hw' => by go_simp) ?_
                              go_big_quiet_on
                              simp only [Act.put, List.setIfInBounds_toArray, List.set_cons_zero, List.set_cons_succ]
                              go_big_quiet_want
                              refine q_val (.agg #[.int .i64 b.f, .int .i64 b.n, .int .i64 b.o, .slice b.s.a b.s.n b.s.c]) (fun w' hw' => by have r0 : w'.cell? ⟨g, off + j * 4, none⟩ = some (.int .i64 b.f) := (hw'.cell (p := ⟨g, off + j * 4, none⟩) HG.out).trans p0.out; have r1 : w'.cell? ⟨g, off + j * 4 + 1, none⟩ = some (.int .i64 b.n) := (hw'.cell (p := ⟨g, off + j * 4 + 1, none⟩) HG.out).trans p1.out; have r2 : w'.cell? ⟨g, off + j * 4 + 2, none⟩ = some (.int .i64 b.o) := (hw'.cell (p := ⟨g, off + j * 4 + 2, none⟩) HG.out).trans p2.out; have r3 : w'.cell? ⟨g, off + j * 4 + 3, none⟩ = some (.slice b.s.a b.s.n b.s.c) := (hw'.cell (p := ⟨g, off + j * 4 + 3, none⟩) HG.out).trans p3.out; go_simp) ?_
                              go_big_quiet_on
                              simp only [Act.put, List.setIfInBounds_toArray, List.set_cons_zero, List.set_cons_succ]
                              go_big_quiet_want
                              refine q_callB (W := wr) (.bool true) 19 #[(.agg #[.int .i64 b.f, .int .i64 b.n, .int .i64 b.o, .slice b.s.a b.s.n b.s.c])] (fun w' hw' => by go_simp) (fun w' hw' => (spBundleOk_r b.f b.n b.o b.s b.ts w' (show Hid (RSt w' b.s b.ts) from RSt.stays RR.out hw') hq1).mono fun e w1 ⟨he, hb⟩ => ⟨by rw [he]; exact congrArg (fun b => Ending.returned (Value.bool b)) KQ1.out, hb⟩) ?_
                              go_big_quiet_on
                              simp only [Act.put, List.setIfInBounds_toArray, List.set_cons_zero, List.set_cons_succ]
                              go_big_quiet_want
                              refine q_val (.bool false) (fun w' hw' => by go_simp) ?_
                              go_big_quiet_on
                              simp only [Act.put, List.setIfInBounds_toArray, List.set_cons_zero, List.set_cons_succ]
                              go_big_quiet_want
                              refine q_val (.bool false) (fun w' hw' => by go_simp) ?_
                              go_big_quiet_on
                              simp only [Act.put, List.setIfInBounds_toArray, List.set_cons_zero, List.set_cons_succ]
                              go_big_quiet_want
                              refine q_val (.pointer (some ⟨w.heap.size, 22, none⟩)) (fun w' hw' => by go_simp) ?_
                              go_big_quiet_on
                              simp only [Act.put, List.setIfInBounds_toArray, List.set_cons_zero, List.set_cons_succ]
                              go_big_quiet_want
                              refine q_val (.slice (some ⟨g, off, none⟩) d.bs.n d.bs.c) (fun w' hw' => by have r : w'.cell? ⟨w.heap.size, 22, none⟩ = some (.slice (some ⟨g, off, none⟩) d.bs.n d.bs.c) := (LS.out.later hw').cell 22; go_simp) ?_
                              go_big_quiet_on
                              simp only [Act.put, List.setIfInBounds_toArray, List.set_cons_zero, List.set_cons_succ]
                              go_big_quiet_want
                              refine q_val (.int .i64 ((j : Int))) (fun w' hw' => by go_simp) ?_
                              go_big_quiet_on
                              simp only [Act.put, List.setIfInBounds_toArray, List.set_cons_zero, List.set_cons_succ]
                              go_big_quiet_want
                              refine q_val (.pointer (some ⟨g, off + j * 4, none⟩)) (fun w' hw' => by go_simp) ?_
                              go_big_quiet_on
                              simp only [Act.put, List.setIfInBounds_toArray, List.set_cons_zero, List.set_cons_succ]
                              go_big_quiet_want
                              refine q_val (.pointer (some ⟨g, off + j * 4 + 1, none⟩)) (fun w' hw' => by go_simp) ?_
                              go_big_quiet_on
                              simp only [Act.put, List.setIfInBounds_toArray, List.set_cons_zero, List.set_cons_succ]
                              go_big_quiet_want
                              refine q_val (.int .i64 b.n) (fun w' hw' => by have r1 : w'.cell? ⟨g, off + j * 4 + 1, none⟩ = some (.int .i64 b.n) := (hw'.cell (p := ⟨g, off + j * 4 + 1, none⟩) HG.out).trans p1.out; go_simp) ?_
                              go_big_quiet_on
                              simp only [Act.put, List.setIfInBounds_toArray, List.set_cons_zero, List.set_cons_succ]
                              go_big_quiet_want
                              refine q_val (.pointer (some ⟨w.heap.size, 20, none⟩)) (fun w' hw' => by go_simp) ?_
                              go_big_quiet_on
                              simp only [Act.put, List.setIfInBounds_toArray, List.set_cons_zero, List.set_cons_succ]
                              go_big_quiet_want
                              refine q_val (.pointer (some ⟨w.heap.size, 20, none⟩)) (fun w' hw' => by go_simp) ?_
                              go_big_quiet_on
                              simp only [Act.put, List.setIfInBounds_toArray, List.set_cons_zero, List.set_cons_succ]
                              go_big_quiet_want
                              refine q_val (.int .i64 d.jid) (fun w' hw' => by have r : w'.cell? ⟨w.heap.size, 20, none⟩ = some (.int .i64 d.jid) := (LS.out.later hw').cell 20; go_simp) ?_
                              go_big_quiet_on
                              simp only [Act.put, List.setIfInBounds_toArray, List.set_cons_zero, List.set_cons_succ]
                              go_big_quiet_want
                              refine q_val (.bool false) (fun w' hw' => by go_simp) ?_
                              go_big_quiet_on
                              simp only [Act.put, List.setIfInBounds_toArray, List.set_cons_zero, List.set_cons_succ]
                              go_big_quiet_want
                              refine q_val (.bool false) (fun w' hw' => by go_simp) ?_
                              go_big_quiet_on
                              simp only [Act.put, List.setIfInBounds_toArray, List.set_cons_zero, List.set_cons_succ]
                              refine wpQuiet_nil ?_
                              intro w9 h9
                              have B9 : Hid (Below t10.heap.size t10 w9) := bl_next hb.out h9
                              have AL : Hid (aokB d (d.bu.take (j + 1)) = true) := by
                                show _ = _
                                have h1 := hal.out
                                unfold aokB at h1 ⊢
                                rw [List.take_succ_eq_append_getElem hlt2, List.all_append, h1, ← HE.out]
                                simp only [List.all_cons, List.all_nil, KQ1.out, KQ2.out]
                                rfl
                              clear h9 kq1 kq2
                              go_wp2_with fail
                              go_roundw
                              case rel => exact ⟨j + 1, by have h1 := HJN.out; have h2 := hlt2; omega, by go_num, AL, B9⟩
                              case measure => (have h1 := HJN.out; have h2 := hlt2; simp [intOf]; omega)
                        · skip
                          have e : R = true := by
                            rw [HDM.out]
                            have h1 := hal.out
                            rwa [List.take_of_length_le (by have := HJN.out; omega)] at h1
                          subst e
                          have hjn : ¬ j < d.bs.n := hlt
                          go_wp2_with fail
                          go_ret
                          exact ⟨rfl, BWr.out⟩
              | true =>
                have c22 := LA.out.cell 22
                simp only [List.getElem?_cons_succ, List.getElem?_cons_zero] at c22
                obtain ⟨R11, k11⟩ : ∃ R : Bool, ((d.bs.n : Int) == 0) = R := ⟨_, rfl⟩
                have K11 : Hid (((d.bs.n : Int) == 0) = R11) := k11
                cases R11 with
                | false =>
                  have e : dmS d = false := by
                    unfold dmS idB moB jnB
                    simp only [hdd.out, hor.out, K1.out, K2.out, K3.out, K4.out, K5.out, K6.out, K7.out, K11.out, bne_self_eq_false, Bool.false_and, Bool.true_and, Bool.and_false, Bool.and_true, Bool.not_true, Bool.not_false, Bool.or_true, Bool.true_or, Bool.or_false, Bool.false_or, cond_true, cond_false]
                  rw [hR.out] at e
                  clear hR
                  subst e
                  go_wp2_with fail
                  go_ret
                  exact ⟨rfl, BW.out⟩
                | true =>
                  have e : dmS d = true := by
                    unfold dmS idB moB jnB
                    simp only [hdd.out, hor.out, K1.out, K2.out, K3.out, K4.out, K5.out, K6.out, K7.out, K11.out, bne_self_eq_false, Bool.false_and, Bool.true_and, Bool.and_false, Bool.and_true, Bool.not_true, Bool.not_false, Bool.or_true, Bool.true_or, Bool.or_false, Bool.false_or, cond_true, cond_false]
                  rw [hR.out] at e
                  clear hR
                  subst e
                  go_wp2_with fail
                  go_ret
                  exact ⟨rfl, BW.out⟩
            | true =>
              have e : dmS d = false := by
                unfold dmS idB moB jnB
                simp only [hdd.out, hor.out, K1.out, K2.out, K3.out, K4.out, K5.out, K6.out, bne_self_eq_false, Bool.false_and, Bool.true_and, Bool.and_false, Bool.and_true, Bool.not_true, Bool.not_false, Bool.or_true, Bool.true_or, Bool.or_false, Bool.false_or, cond_true, cond_false]
              rw [hR.out] at e
              clear hR
              subst e
              go_wp2_with fail
              go_ret
              exact ⟨rfl, BW.out⟩
          | true =>
            have e : dmS d = false := by
              unfold dmS idB moB jnB
              simp only [hdd.out, hor.out, K1.out, K2.out, K3.out, K4.out, K5.out, bne_self_eq_false, Bool.false_and, Bool.true_and, Bool.and_false, Bool.and_true, Bool.not_true, Bool.not_false, Bool.or_true, Bool.true_or, Bool.or_false, Bool.false_or, cond_true, cond_false]
            rw [hR.out] at e
            clear hR
            subst e
            go_wp2_with fail
            go_ret
            exact ⟨rfl, BW.out⟩
      | true =>
        have c19 := LA.out.cell 19
        have c3 := LA.out.cell 3
        have c18 := LA.out.cell 18
        simp only [List.getElem?_cons_succ, List.getElem?_cons_zero] at c19 c3 c18
        obtain ⟨R12, k12⟩ : ∃ R : Bool, (decide (d.most < d.m.rid)) = R := ⟨_, rfl⟩
        have K12 : Hid ((decide (d.most < d.m.rid)) = R12) := k12
        cases R12 with
        | false =>
          go_wp2_with (first | (with_reducible refine wpList_haltL 37 _ rfl ?_))
          refine Stp.go ?_
          refine wpList_ldG rfl 37 _ rfl w.heap.size 20 rfl 45 _ LA.out [.int .i64 d.jid, .slice d.js.a d.js.n d.js.c] rfl _ Try.underlying37 rfl Try.sizeR ?_
          go_wp2_with fail
          refine (lnoRing_any d.jid d.js _).mono ?_
          rintro e t13 ⟨rfl, b⟩
          have LA : Hid (Bx t13 w.heap.size 45 [.int .i64 d.id, .bool false, .int .i64 d.m.id, .int .i64 d.m.rid, .slice d.mv.ms.a d.mv.ms.n d.mv.ms.c, .slice d.mv.its.a d.mv.its.n d.mv.its.c, .slice d.mv.lv.a d.mv.lv.n d.mv.lv.c, .slice d.mv.tx.a d.mv.tx.n d.mv.tx.c, .int .i64 d.m.rd, .int .i64 d.m.se, .int .i64 d.m.li, .int .i64 d.m.he, .int .i64 d.m.la.c, .int .i64 d.m.la.r, .int .i64 d.m.la.q, .int .i64 d.m.la.a, .int .i64 d.m.la.b, .slice d.mv.ws.a d.mv.ws.n d.mv.ws.c, .int .i64 d.most, .int .i64 d.m.rid, .int .i64 d.jid, .slice d.js.a d.js.n d.js.c, .slice d.bs.a d.bs.n d.bs.c, .slice d.ls.a d.ls.n d.ls.c]) := LA.out.later b
          have BW : Hid (Below w.heap.size w t13) := bl_next BW.out b
          have HR : Hid (DmR t13 d) := HR.out.stays b
          clear b
          obtain ⟨R13, k13⟩ : ∃ R : Bool, (nrB d.jid d.js.n) = R := ⟨_, rfl⟩
          rw [k13]
          have K13 : Hid ((nrB d.jid d.js.n) = R13) := k13
          clear k13
          cases R13 with
          | false =>
            go_wp2_with (first | (with_reducible refine wpList_haltL 37 _ rfl ?_))
            refine Stp.go ?_
            refine wpList_ldG rfl 37 _ rfl w.heap.size 20 rfl 45 _ LA.out [.int .i64 d.jid, .slice d.js.a d.js.n d.js.c] rfl _ Try.underlying37 rfl Try.sizeR ?_
            go_wp2_with fail
            refine (spRingOk_r d.jid d.jms (show Hid (RI _ (.slice d.js.a d.js.n d.js.c) d.jms) from HR.out.jo) hs.out.jo).mono ?_
            rintro e t14 ⟨rfl, b⟩
            have LA : Hid (Bx t14 w.heap.size 45 [.int .i64 d.id, .bool false, .int .i64 d.m.id, .int .i64 d.m.rid, .slice d.mv.ms.a d.mv.ms.n d.mv.ms.c, .slice d.mv.its.a d.mv.its.n d.mv.its.c, .slice d.mv.lv.a d.mv.lv.n d.mv.lv.c, .slice d.mv.tx.a d.mv.tx.n d.mv.tx.c, .int .i64 d.m.rd, .int .i64 d.m.se, .int .i64 d.m.li, .int .i64 d.m.he, .int .i64 d.m.la.c, .int .i64 d.m.la.r, .int .i64 d.m.la.q, .int .i64 d.m.la.a, .int .i64 d.m.la.b, .slice d.mv.ws.a d.mv.ws.n d.mv.ws.c, .int .i64 d.most, .int .i64 d.m.rid, .int .i64 d.jid, .slice d.js.a d.js.n d.js.c, .slice d.bs.a d.bs.n d.bs.c, .slice d.ls.a d.ls.n d.ls.c]) := LA.out.later b
            have BW : Hid (Below w.heap.size w t14) := bl_next BW.out b
            have HR : Hid (DmR t14 d) := HR.out.stays b
            clear b
            obtain ⟨R14, k14⟩ : ∃ R : Bool, (ringB d.jid d.jms) = R := ⟨_, rfl⟩
            rw [k14]
            have K14 : Hid ((ringB d.jid d.jms) = R14) := k14
            clear k14
            cases R14 with
            | false =>
              have e : dmS d = false := by
                unfold dmS idB moB jnB
                simp only [hdd.out, hor.out, K1.out, K2.out, K3.out, K12.out, K13.out, K14.out, bne_self_eq_false, Bool.false_and, Bool.true_and, Bool.and_false, Bool.and_true, Bool.not_true, Bool.not_false, Bool.or_true, Bool.true_or, Bool.or_false, Bool.false_or, cond_true, cond_false]
              rw [hR.out] at e
              clear hR
              subst e
              go_wp2_with fail
              go_ret
              exact ⟨rfl, BW.out⟩
            | true =>
              have c21 := LA.out.cell 21
              have c0 := LA.out.cell 0
              simp only [List.getElem?_cons_succ, List.getElem?_cons_zero] at c21 c0
              go_wp2_with fail
              refine (lin_r d.jms d.id (show Hid (RI _ (.slice d.js.a d.js.n d.js.c) d.jms) from HR.out.jo) hs.out.jo).mono ?_
              rintro e t15 ⟨rfl, b⟩
              have LA : Hid (Bx t15 w.heap.size 45 [.int .i64 d.id, .bool false, .int .i64 d.m.id, .int .i64 d.m.rid, .slice d.mv.ms.a d.mv.ms.n d.mv.ms.c, .slice d.mv.its.a d.mv.its.n d.mv.its.c, .slice d.mv.lv.a d.mv.lv.n d.mv.lv.c, .slice d.mv.tx.a d.mv.tx.n d.mv.tx.c, .int .i64 d.m.rd, .int .i64 d.m.se, .int .i64 d.m.li, .int .i64 d.m.he, .int .i64 d.m.la.c, .int .i64 d.m.la.r, .int .i64 d.m.la.q, .int .i64 d.m.la.a, .int .i64 d.m.la.b, .slice d.mv.ws.a d.mv.ws.n d.mv.ws.c, .int .i64 d.most, .int .i64 d.m.rid, .int .i64 d.jid, .slice d.js.a d.js.n d.js.c, .slice d.bs.a d.bs.n d.bs.c, .slice d.ls.a d.ls.n d.ls.c]) := LA.out.later b
              have BW : Hid (Below w.heap.size w t15) := bl_next BW.out b
              have HR : Hid (DmR t15 d) := HR.out.stays b
              clear b
              obtain ⟨R15, k15⟩ : ∃ R : Bool, (inB d.jms d.id) = R := ⟨_, rfl⟩
              rw [k15]
              have K15 : Hid ((inB d.jms d.id) = R15) := k15
              clear k15
              cases R15 with
              | false =>
                have e : dmS d = false := by
                  unfold dmS idB moB jnB
                  simp only [hdd.out, hor.out, K1.out, K2.out, K3.out, K12.out, K13.out, K14.out, K15.out, bne_self_eq_false, Bool.false_and, Bool.true_and, Bool.and_false, Bool.and_true, Bool.not_true, Bool.not_false, Bool.or_true, Bool.true_or, Bool.or_false, Bool.false_or, cond_true, cond_false]
                rw [hR.out] at e
                clear hR
                subst e
                go_wp2_with fail
                go_ret
                exact ⟨rfl, BW.out⟩
              | true =>
                have hrg : 0 ≤ d.m.rid ∧ d.m.rid ≤ 9 := rid_rng (Or.inl K3.out)
                have hwr : IntKind.i64.wrap (d.m.rid + 1) = d.m.rid + 1 := by simp [IntKind.wrap, IntKind.signed, IntKind.bits]; omega
                have hrg1 := hrg.1
                have hrg2 := hrg.2
                clear hrg
                have c20 := LA.out.cell 20
                have c19 := LA.out.cell 19
                have c18 := LA.out.cell 18
                simp only [List.getElem?_cons_succ, List.getElem?_cons_zero] at c20 c19 c18
                go_wp2_with fail
                refine (in_b d.jid (d.m.rid + 1) d.most _).mono ?_
                rintro e t16 ⟨rfl, b⟩
                have LA : Hid (Bx t16 w.heap.size 45 [.int .i64 d.id, .bool false, .int .i64 d.m.id, .int .i64 d.m.rid, .slice d.mv.ms.a d.mv.ms.n d.mv.ms.c, .slice d.mv.its.a d.mv.its.n d.mv.its.c, .slice d.mv.lv.a d.mv.lv.n d.mv.lv.c, .slice d.mv.tx.a d.mv.tx.n d.mv.tx.c, .int .i64 d.m.rd, .int .i64 d.m.se, .int .i64 d.m.li, .int .i64 d.m.he, .int .i64 d.m.la.c, .int .i64 d.m.la.r, .int .i64 d.m.la.q, .int .i64 d.m.la.a, .int .i64 d.m.la.b, .slice d.mv.ws.a d.mv.ws.n d.mv.ws.c, .int .i64 d.most, .int .i64 d.m.rid, .int .i64 d.jid, .slice d.js.a d.js.n d.js.c, .slice d.bs.a d.bs.n d.bs.c, .slice d.ls.a d.ls.n d.ls.c]) := LA.out.later b
                have BW : Hid (Below w.heap.size w t16) := bl_next BW.out b
                have HR : Hid (DmR t16 d) := HR.out.stays b
                clear b
                obtain ⟨R16, k16⟩ : ∃ R : Bool, (decide (d.m.rid + 1 ≤ d.jid ∧ d.jid ≤ d.most)) = R := ⟨_, rfl⟩
                rw [k16]
                have K16 : Hid ((decide (d.m.rid + 1 ≤ d.jid ∧ d.jid ≤ d.most)) = R16) := k16
                clear k16
                cases R16 with
                | false =>
                  have e : dmS d = false := by
                    unfold dmS idB moB jnB
                    simp only [hdd.out, hor.out, K1.out, K2.out, K3.out, K12.out, K13.out, K14.out, K15.out, K16.out, bne_self_eq_false, Bool.false_and, Bool.true_and, Bool.and_false, Bool.and_true, Bool.not_true, Bool.not_false, Bool.or_true, Bool.true_or, Bool.or_false, Bool.false_or, cond_true, cond_false]
                  rw [hR.out] at e
                  clear hR
                  subst e
                  go_wp2_with fail
                  go_ret
                  exact ⟨rfl, BW.out⟩
                | true =>
                  have hdm : dmS d = aokB d d.bu := by
                    unfold dmS idB moB jnB
                    simp only [hdd.out, hor.out, K1.out, K2.out, K3.out, K12.out, K13.out, K14.out, K15.out, K16.out, bne_self_eq_false, Bool.false_and, Bool.true_and, Bool.and_false, Bool.and_true, Bool.not_true, Bool.not_false, Bool.or_true, Bool.true_or, Bool.or_false, Bool.false_or, cond_true, cond_false]
                  rw [hR.out] at hdm
                  have HDM : Hid (R = aokB d d.bu) := hdm
                  clear hdm
                  go_wp2_with fail
                  go_loopw [3] (fun i wr => ∃ (j : Nat), j ≤ d.bs.n ∧ i = .int .i64 j ∧ Hid (aokB d (d.bu.take j) = true) ∧ Hid (Below t16.heap.size t16 wr)) (fun i _ => d.bs.n - (intOf i).toNat)
                  case atStart => exact ⟨0, Nat.zero_le _, rfl, rfl, Below.refl _ _⟩
                  case round =>
                    obtain ⟨j, hj, rfl, hal, hb⟩ := hrel
                    have LAr : Hid (Bx wr w.heap.size 45 [.int .i64 d.id, .bool false, .int .i64 d.m.id, .int .i64 d.m.rid, .slice d.mv.ms.a d.mv.ms.n d.mv.ms.c, .slice d.mv.its.a d.mv.its.n d.mv.its.c, .slice d.mv.lv.a d.mv.lv.n d.mv.lv.c, .slice d.mv.tx.a d.mv.tx.n d.mv.tx.c, .int .i64 d.m.rd, .int .i64 d.m.se, .int .i64 d.m.li, .int .i64 d.m.he, .int .i64 d.m.la.c, .int .i64 d.m.la.r, .int .i64 d.m.la.q, .int .i64 d.m.la.a, .int .i64 d.m.la.b, .slice d.mv.ws.a d.mv.ws.n d.mv.ws.c, .int .i64 d.most, .int .i64 d.m.rid, .int .i64 d.jid, .slice d.js.a d.js.n d.js.c, .slice d.bs.a d.bs.n d.bs.c, .slice d.ls.a d.ls.n d.ls.c]) := LA.out.later hb.out
                    have HRr : Hid (DmR wr d) := HR.out.stays hb.out
                    have BWr : Hid (Below w.heap.size w wr) := bl_next BW.out hb.out
                    have c22 := LAr.out.cell 22
                    simp only [List.getElem?_cons_succ, List.getElem?_cons_zero] at c22
                    by_cases hlt : j < d.bs.n
                    · skip
                      have hlt2 : j < d.bu.length := by have := HJN.out; omega
                      have hj9 : j < 1048576 := by have := hs.out.bus.1; omega
                      obtain ⟨g, off, ha, hg, _, hr⟩ := HRr.out.bu.2.1 j (by simpa using hlt2)
                      obtain ⟨b, he⟩ : ∃ b, b = d.bu[j] := ⟨_, rfl⟩
                      have hr2 : wr.rangeAt g (off + j * 4) b.row := by rw [he]; simpa using hr
                      have HG : Hid (g < wr.heap.size) := hg
                      have p0 : Hid (wr.cell? ⟨g, off + j * 4, none⟩ = some (.int .i64 b.f)) := hr2 0 _ rfl
                      have p1 : Hid (wr.cell? ⟨g, off + j * 4 + 1, none⟩ = some (.int .i64 b.n)) := hr2 1 _ rfl
                      have p2 : Hid (wr.cell? ⟨g, off + j * 4 + 2, none⟩ = some (.int .i64 b.o)) := hr2 2 _ rfl
                      have p3 : Hid (wr.cell? ⟨g, off + j * 4 + 3, none⟩ = some (.slice b.s.a b.s.n b.s.c)) := hr2 3 _ rfl
                      have HE : Hid (b = d.bu[j]) := he
                      have RR : Hid (b.R wr) := by rw [he]; exact HRr.out.bu.2.2 _ (List.getElem_mem hlt2)
                      have hq1 : b.ts.length ≤ 1048576 := by rw [he]; exact hs.out.bus.2 _ (List.getElem_mem hlt2)
                      have HA : Hid (d.bs.a = some ⟨g, off, none⟩) := ha
                      have i0 : (0 : Int) ≤ (j : Int) := by omega
                      have i1 : (j : Int) < (d.bs.n : Int) := by omega
                      have c22 : wr.cell? ⟨w.heap.size, 22, none⟩ = some (.slice (some ⟨g, off, none⟩) d.bs.n d.bs.c) := by rw [← ha]; exact c22
                      have LS : Hid (Bx wr w.heap.size 45 [.int .i64 d.id, .bool false, .int .i64 d.m.id, .int .i64 d.m.rid, .slice d.mv.ms.a d.mv.ms.n d.mv.ms.c, .slice d.mv.its.a d.mv.its.n d.mv.its.c, .slice d.mv.lv.a d.mv.lv.n d.mv.lv.c, .slice d.mv.tx.a d.mv.tx.n d.mv.tx.c, .int .i64 d.m.rd, .int .i64 d.m.se, .int .i64 d.m.li, .int .i64 d.m.he, .int .i64 d.m.la.c, .int .i64 d.m.la.r, .int .i64 d.m.la.q, .int .i64 d.m.la.a, .int .i64 d.m.la.b, .slice d.mv.ws.a d.mv.ws.n d.mv.ws.c, .int .i64 d.most, .int .i64 d.m.rid, .int .i64 d.jid, .slice d.js.a d.js.n d.js.c, .slice (some ⟨g, off, none⟩) d.bs.n d.bs.c, .slice d.ls.a d.ls.n d.ls.c]) := (by have e := LAr.out; rw [ha] at e; exact e : Bx _ _ _ _)
                      clear hr hr2 he hg ha
                      go_wp2_with fail
                      obtain ⟨Q1, kq1⟩ : ∃ q, bunB b.f b.n b.o b.ts = q := ⟨_, rfl⟩
                      have KQ1 : Hid (bunB b.f b.n b.o b.ts = Q1) := kq1
                      obtain ⟨Q2, kq2⟩ : ∃ q, (b.n != d.jid) = q := ⟨_, rfl⟩
                      have KQ2 : Hid ((b.n != d.jid) = Q2) := kq2
                      cases Q1 with
                      | false =>
                        clear kq1 kq2
                        refine quietC (C := fun w' => Below wr.heap.size wr w') (by kernel_rfl) (by kernel_rfl) (Below.refl _ _).drew ?_
                        go_big_quiet_want
                        refine q_val (.pointer (some ⟨w.heap.size, 22, none⟩)) (fun w' hw' => by go_simp) ?_
                        go_big_quiet_on
                        simp only [Act.put, List.setIfInBounds_toArray, List.set_cons_zero, List.set_cons_succ]
                        go_big_quiet_want
                        refine q_val (.slice (some ⟨g, off, none⟩) d.bs.n d.bs.c) (fun w' hw' => by have r : w'.cell? ⟨w.heap.size, 22, none⟩ = some (.slice (some ⟨g, off, none⟩) d.bs.n d.bs.c) := (LS.out.later hw').cell 22; go_simp) ?_
                        go_big_quiet_on
                        simp only [Act.put, List.setIfInBounds_toArray, List.set_cons_zero, List.set_cons_succ]
                        go_big_quiet_want
                        refine q_val (.int .i64 ((j : Int))) (fun w' hw' => by go_simp) ?_
                        go_big_quiet_on
                        simp only [Act.put, List.setIfInBounds_toArray, List.set_cons_zero, List.set_cons_succ]
                        go_big_quiet_want
                        refine q_val (.pointer (some ⟨g, off + j * 4, none⟩)) (fun w' hw' => by go_simp) ?_
                        go_big_quiet_on
                        simp only [Act.put, List.setIfInBounds_toArray, List.set_cons_zero, List.set_cons_succ]
                        go_big_quiet_want
                        refine q_val (.agg #[.int .i64 b.f, .int .i64 b.n, .int .i64 b.o, .slice b.s.a b.s.n b.s.c]) (fun w' hw' => by have r0 : w'.cell? ⟨g, off + j * 4, none⟩ = some (.int .i64 b.f) := (hw'.cell (p := ⟨g, off + j * 4, none⟩) HG.out).trans p0.out; have r1 : w'.cell? ⟨g, off + j * 4 + 1, none⟩ = some (.int .i64 b.n) := (hw'.cell (p := ⟨g, off + j * 4 + 1, none⟩) HG.out).trans p1.out; have r2 : w'.cell? ⟨g, off + j * 4 + 2, none⟩ = some (.int .i64 b.o) := (hw'.cell (p := ⟨g, off + j * 4 + 2, none⟩) HG.out).trans p2.out; have r3 : w'.cell? ⟨g, off + j * 4 + 3, none⟩ = some (.slice b.s.a b.s.n b.s.c) := (hw'.cell (p := ⟨g, off + j * 4 + 3, none⟩) HG.out).trans p3.out; go_simp) ?_
                        go_big_quiet_on
                        simp only [Act.put, List.setIfInBounds_toArray, List.set_cons_zero, List.set_cons_succ]
                        go_big_quiet_want
                        refine q_callB (W := wr) (.bool false) 19 #[(.agg #[.int .i64 b.f, .int .i64 b.n, .int .i64 b.o, .slice b.s.a b.s.n b.s.c])] (fun w' hw' => by go_simp) (fun w' hw' => (spBundleOk_r b.f b.n b.o b.s b.ts w' (show Hid (RSt w' b.s b.ts) from RSt.stays RR.out hw') hq1).mono fun e w1 ⟨he, hb⟩ => ⟨by rw [he]; exact congrArg (fun b => Ending.returned (Value.bool b)) KQ1.out, hb⟩) ?_
                        go_big_quiet_on
                        simp only [Act.put, List.setIfInBounds_toArray, List.set_cons_zero, List.set_cons_succ]
                        go_big_quiet_want
                        refine q_val (.bool true) (fun w' hw' => by go_simp) ?_
                        go_big_quiet_on
                        simp only [Act.put, List.setIfInBounds_toArray, List.set_cons_zero, List.set_cons_succ]
                        go_big_quiet_want
                        refine q_val (.bool true) (fun w' hw' => by go_simp) ?_
                        go_big_quiet_on
                        simp only [Act.put, List.setIfInBounds_toArray, List.set_cons_zero, List.set_cons_succ]
                        go_big_quiet_skip
                        go_big_quiet_skip
                        go_big_quiet_skip
                        go_big_quiet_skip
                        go_big_quiet_skip
                        go_big_quiet_skip
                        go_big_quiet_skip
                        go_big_quiet_skip
                        go_big_quiet_skip
                        go_big_quiet_skip
                        go_big_quiet_want
                        refine q_val (.bool true) (fun w' hw' => by go_simp) ?_
                        go_big_quiet_on
                        simp only [Act.put, List.setIfInBounds_toArray, List.set_cons_zero, List.set_cons_succ]
                        refine wpQuiet_nil ?_
                        intro w9 h9
                        have BW9 : Hid (Below w.heap.size w w9) := bl_next BWr.out h9
                        have e : R = false := by
                          rw [HDM.out]
                          unfold aokB
                          rw [List.all_eq_false]
                          exact ⟨d.bu[j], List.getElem_mem hlt2, by rw [← HE.out]; simp only [KQ1.out]; simp⟩
                        subst e
                        clear h9
                        go_wp2_with fail
                        go_ret
                        exact ⟨rfl, BW9.out⟩
                      | true =>
                        cases Q2 with
                        | true =>
                          refine quietC (C := fun w' => Below wr.heap.size wr w') (by kernel_rfl) (by kernel_rfl) (Below.refl _ _).drew ?_
                          go_big_quiet_want
                          refine q_val (.pointer (some ⟨w.heap.size, 22, none⟩)) (fun w' hw' => by go_simp) ?_
                          go_big_quiet_on
                          simp only [Act.put, List.setIfInBounds_toArray, List.set_cons_zero, List.set_cons_succ]
                          go_big_quiet_want
                          refine q_val (.slice (some ⟨g, off, none⟩) d.bs.n d.bs.c) (fun w' hw' => by have r : w'.cell? ⟨w.heap.size, 22, none⟩ = some (.slice (some ⟨g, off, none⟩) d.bs.n d.bs.c) := (LS.out.later hw').cell 22; go_simp) ?_
                          go_big_quiet_on
                          simp only [Act.put, List.setIfInBounds_toArray, List.set_cons_zero, List.set_cons_succ]
                          go_big_quiet_want
                          refine q_val (.int .i64 ((j : Int))) (fun w' hw' => by go_simp) ?_
                          go_big_quiet_on
                          simp only [Act.put, List.setIfInBounds_toArray, List.set_cons_zero, List.set_cons_succ]
                          go_big_quiet_want
                          refine q_val (.pointer (some ⟨g, off + j * 4, none⟩)) (fun w' hw' => by go_simp) ?_
                          go_big_quiet_on
                          simp only [Act.put, List.setIfInBounds_toArray, List.set_cons_zero, List.set_cons_succ]
                          go_big_quiet_want
                          refine q_val (.agg #[.int .i64 b.f, .int .i64 b.n, .int .i64 b.o, .slice b.s.a b.s.n b.s.c]) (fun w' hw' => by have r0 : w'.cell? ⟨g, off + j * 4, none⟩ = some (.int .i64 b.f) := (hw'.cell (p := ⟨g, off + j * 4, none⟩) HG.out).trans p0.out; have r1 : w'.cell? ⟨g, off + j * 4 + 1, none⟩ = some (.int .i64 b.n) := (hw'.cell (p := ⟨g, off + j * 4 + 1, none⟩) HG.out).trans p1.out; have r2 : w'.cell? ⟨g, off + j * 4 + 2, none⟩ = some (.int .i64 b.o) := (hw'.cell (p := ⟨g, off + j * 4 + 2, none⟩) HG.out).trans p2.out; have r3 : w'.cell? ⟨g, off + j * 4 + 3, none⟩ = some (.slice b.s.a b.s.n b.s.c) := (hw'.cell (p := ⟨g, off + j * 4 + 3, none⟩) HG.out).trans p3.out; go_simp) ?_
                          go_big_quiet_on
                          simp only [Act.put, List.setIfInBounds_toArray, List.set_cons_zero, List.set_cons_succ]
                          go_big_quiet_want
                          refine q_callB (W := wr) (.bool true) 19 #[(.agg #[.int .i64 b.f, .int .i64 b.n, .int .i64 b.o, .slice b.s.a b.s.n b.s.c])] (fun w' hw' => by go_simp) (fun w' hw' => (spBundleOk_r b.f b.n b.o b.s b.ts w' (show Hid (RSt w' b.s b.ts) from RSt.stays RR.out hw') hq1).mono fun e w1 ⟨he, hb⟩ => ⟨by rw [he]; exact congrArg (fun b => Ending.returned (Value.bool b)) KQ1.out, hb⟩) ?_
                          go_big_quiet_on
                          simp only [Act.put, List.setIfInBounds_toArray, List.set_cons_zero, List.set_cons_succ]
                          go_big_quiet_want
                          refine q_val (.bool false) (fun w' hw' => by go_simp) ?_
                          go_big_quiet_on
                          simp only [Act.put, List.setIfInBounds_toArray, List.set_cons_zero, List.set_cons_succ]
                          go_big_quiet_want
                          refine q_val (.bool false) (fun w' hw' => by go_simp) ?_
                          go_big_quiet_on
                          simp only [Act.put, List.setIfInBounds_toArray, List.set_cons_zero, List.set_cons_succ]
                          go_big_quiet_want
                          refine q_val (.pointer (some ⟨w.heap.size, 22, none⟩)) (fun w' hw' => by go_simp) ?_
                          go_big_quiet_on
                          simp only [Act.put, List.setIfInBounds_toArray, List.set_cons_zero, List.set_cons_succ]
                          go_big_quiet_want
                          refine q_val (.slice (some ⟨g, off, none⟩) d.bs.n d.bs.c) (fun w' hw' => by have r : w'.cell? ⟨w.heap.size, 22, none⟩ = some (.slice (some ⟨g, off, none⟩) d.bs.n d.bs.c) := (LS.out.later hw').cell 22; go_simp) ?_
                          go_big_quiet_on
                          simp only [Act.put, List.setIfInBounds_toArray, List.set_cons_zero, List.set_cons_succ]
                          go_big_quiet_want
                          refine q_val (.int .i64 ((j : Int))) (fun w' hw' => by go_simp) ?_
                          go_big_quiet_on
                          simp only [Act.put, List.setIfInBounds_toArray, List.set_cons_zero, List.set_cons_succ]
                          go_big_quiet_want
                          refine q_val (.pointer (some ⟨g, off + j * 4, none⟩)) (fun w' hw' => by go_simp) ?_
                          go_big_quiet_on
                          simp only [Act.put, List.setIfInBounds_toArray, List.set_cons_zero, List.set_cons_succ]
                          go_big_quiet_want
                          refine q_val (.pointer (some ⟨g, off + j * 4 + 1, none⟩)) (fun w' hw' => by go_simp) ?_
                          go_big_quiet_on
                          simp only [Act.put, List.setIfInBounds_toArray, List.set_cons_zero, List.set_cons_succ]
                          go_big_quiet_want
                          refine q_val (.int .i64 b.n) (fun w' hw' => by have r1 : w'.cell? ⟨g, off + j * 4 + 1, none⟩ = some (.int .i64 b.n) := (hw'.cell (p := ⟨g, off + j * 4 + 1, none⟩) HG.out).trans p1.out; go_simp) ?_
                          go_big_quiet_on
                          simp only [Act.put, List.setIfInBounds_toArray, List.set_cons_zero, List.set_cons_succ]
                          go_big_quiet_want
                          refine q_val (.pointer (some ⟨w.heap.size, 20, none⟩)) (fun w' hw' => by go_simp) ?_
                          go_big_quiet_on
                          simp only [Act.put, List.setIfInBounds_toArray, List.set_cons_zero, List.set_cons_succ]
                          go_big_quiet_want
                          refine q_val (.pointer (some ⟨w.heap.size, 20, none⟩)) (fun w' hw' => by go_simp) ?_
                          go_big_quiet_on
                          simp only [Act.put, List.setIfInBounds_toArray, List.set_cons_zero, List.set_cons_succ]
                          go_big_quiet_want
                          refine q_val (.int .i64 d.jid) (fun w' hw' => by have r : w'.cell? ⟨w.heap.size, 20, none⟩ = some (.int .i64 d.jid) := (LS.out.later hw').cell 20; go_simp) ?_
                          go_big_quiet_on
                          simp only [Act.put, List.setIfInBounds_toArray, List.set_cons_zero, List.set_cons_succ]
                          go_big_quiet_want
                          refine q_val (.bool true) (fun w' hw' => by go_simp) ?_
                          go_big_quiet_on
                          simp only [Act.put, List.setIfInBounds_toArray, List.set_cons_zero, List.set_cons_succ]
                          go_big_quiet_want
                          refine q_val (.bool true) (fun w' hw' => by go_simp) ?_
                          go_big_quiet_on
                          simp only [Act.put, List.setIfInBounds_toArray, List.set_cons_zero, List.set_cons_succ]
                          refine wpQuiet_nil ?_
                          intro w9 h9
                          have BW9 : Hid (Below w.heap.size w w9) := bl_next BWr.out h9
                          have e : R = false := by
                            rw [HDM.out]
                            unfold aokB
                            rw [List.all_eq_false]
                            exact ⟨d.bu[j], List.getElem_mem hlt2, by rw [← HE.out]; simp only [KQ1.out, KQ2.out]; simp⟩
                          subst e
                          clear h9
                          go_wp2_with fail
                          go_ret
                          exact ⟨rfl, BW9.out⟩
                        | false =>
                          refine quietC (C := fun w' => Below wr.heap.size wr w') (by kernel_rfl) (by kernel_rfl) (Below.refl _ _).drew ?_
                          go_big_quiet_want
                          refine q_val (.pointer (some ⟨w.heap.size, 22, none⟩)) (fun w' hw' => by go_simp) ?_
                          go_big_quiet_on
                          simp only [Act.put, List.setIfInBounds_toArray, List.set_cons_zero, List.set_cons_succ]
                          go_big_quiet_want
                          refine q_val (.slice (some ⟨g, off, none⟩) d.bs.n d.bs.c) (fun w' hw' => by have r : w'.cell? ⟨w.heap.size, 22, none⟩ = some (.slice (some ⟨g, off, none⟩) d.bs.n d.bs.c) := (LS.out.later hw').cell 22; go_simp) ?_
                          go_big_quiet_on
                          simp only [Act.put, List.setIfInBounds_toArray, List.set_cons_zero, List.set_cons_succ]
                          go_big_quiet_want
                          refine q_val (.int .i64 ((j : Int))) (fun w' hw' => by go_simp) ?_
                          go_big_quiet_on
                          simp only [Act.put, List.setIfInBounds_toArray, List.set_cons_zero, List.set_cons_succ]
                          go_big_quiet_want
                          refine q_val (.pointer (some ⟨g, off + j * 4, none⟩)) (fun w' hw' => by go_simp) ?_
                          go_big_quiet_on
                          simp only [Act.put, List.setIfInBounds_toArray, List.set_cons_zero, List.set_cons_succ]
                          go_big_quiet_want
                          refine q_val (.agg #[.int .i64 b.f, .int .i64 b.n, .int .i64 b.o, .slice b.s.a b.s.n b.s.c]) (fun w' hw' => by have r0 : w'.cell? ⟨g, off + j * 4, none⟩ = some (.int .i64 b.f) := (hw'.cell (p := ⟨g, off + j * 4, none⟩) HG.out).trans p0.out; have r1 : w'.cell? ⟨g, off + j * 4 + 1, none⟩ = some (.int .i64 b.n) := (hw'.cell (p := ⟨g, off + j * 4 + 1, none⟩) HG.out).trans p1.out; have r2 : w'.cell? ⟨g, off + j * 4 + 2, none⟩ = some (.int .i64 b.o) := (hw'.cell (p := ⟨g, off + j * 4 + 2, none⟩) HG.out).trans p2.out; have r3 : w'.cell? ⟨g, off + j * 4 + 3, none⟩ = some (.slice b.s.a b.s.n b.s.c) := (hw'.cell (p := ⟨g, off + j * 4 + 3, none⟩) HG.out).trans p3.out; go_simp) ?_
                          go_big_quiet_on
                          simp only [Act.put, List.setIfInBounds_toArray, List.set_cons_zero, List.set_cons_succ]
                          go_big_quiet_want
                          refine q_callB (W := wr) (.bool true) 19 #[(.agg #[.int .i64 b.f, .int .i64 b.n, .int .i64 b.o, .slice b.s.a b.s.n b.s.c])] (fun w' hw' => by go_simp) (fun w' hw' => (spBundleOk_r b.f b.n b.o b.s b.ts w' (show Hid (RSt w' b.s b.ts) from RSt.stays RR.out hw') hq1).mono fun e w1 ⟨he, hb⟩ => ⟨by rw [he]; exact congrArg (fun b => Ending.returned (Value.bool b)) KQ1.out, hb⟩) ?_
                          go_big_quiet_on
                          simp only [Act.put, List.setIfInBounds_toArray, List.set_cons_zero, List.set_cons_succ]
                          go_big_quiet_want
                          refine q_val (.bool false) (fun w' hw' => by go_simp) ?_
                          go_big_quiet_on
                          simp only [Act.put, List.setIfInBounds_toArray, List.set_cons_zero, List.set_cons_succ]
                          go_big_quiet_want
                          refine q_val (.bool false) (fun w' hw' => by go_simp) ?_
                          go_big_quiet_on
                          simp only [Act.put, List.setIfInBounds_toArray, List.set_cons_zero, List.set_cons_succ]
                          go_big_quiet_want
                          refine q_val (.pointer (some ⟨w.heap.size, 22, none⟩)) (fun w' hw' => by go_simp) ?_
                          go_big_quiet_on
                          simp only [Act.put, List.setIfInBounds_toArray, List.set_cons_zero, List.set_cons_succ]
                          go_big_quiet_want
                          refine q_val (.slice (some ⟨g, off, none⟩) d.bs.n d.bs.c) (fun w' hw' => by have r : w'.cell? ⟨w.heap.size, 22, none⟩ = some (.slice (some ⟨g, off, none⟩) d.bs.n d.bs.c) := (LS.out.later hw').cell 22; go_simp) ?_
                          go_big_quiet_on
                          simp only [Act.put, List.setIfInBounds_toArray, List.set_cons_zero, List.set_cons_succ]
                          go_big_quiet_want
                          refine q_val (.int .i64 ((j : Int))) (fun w' hw' => by go_simp) ?_
                          go_big_quiet_on
                          simp only [Act.put, List.setIfInBounds_toArray, List.set_cons_zero, List.set_cons_succ]
                          go_big_quiet_want
                          refine q_val (.pointer (some ⟨g, off + j * 4, none⟩)) (fun w' hw' => by go_simp) ?_
                          go_big_quiet_on
                          simp only [Act.put, List.setIfInBounds_toArray, List.set_cons_zero, List.set_cons_succ]
                          go_big_quiet_want
                          refine q_val (.pointer (some ⟨g, off + j * 4 + 1, none⟩)) (fun w' hw' => by go_simp) ?_
                          go_big_quiet_on
                          simp only [Act.put, List.setIfInBounds_toArray, List.set_cons_zero, List.set_cons_succ]
                          go_big_quiet_want
                          refine q_val (.int .i64 b.n) (fun w' hw' => by have r1 : w'.cell? ⟨g, off + j * 4 + 1, none⟩ = some (.int .i64 b.n) := (hw'.cell (p := ⟨g, off + j * 4 + 1, none⟩) HG.out).trans p1.out; go_simp) ?_
                          go_big_quiet_on
                          simp only [Act.put, List.setIfInBounds_toArray, List.set_cons_zero, List.set_cons_succ]
                          go_big_quiet_want
                          refine q_val (.pointer (some ⟨w.heap.size, 20, none⟩)) (fun w' hw' => by go_simp) ?_
                          go_big_quiet_on
                          simp only [Act.put, List.setIfInBounds_toArray, List.set_cons_zero, List.set_cons_succ]
                          go_big_quiet_want
                          refine q_val (.pointer (some ⟨w.heap.size, 20, none⟩)) (fun w' hw' => by go_simp) ?_
                          go_big_quiet_on
                          simp only [Act.put, List.setIfInBounds_toArray, List.set_cons_zero, List.set_cons_succ]
                          go_big_quiet_want
                          refine q_val (.int .i64 d.jid) (fun w' hw' => by have r : w'.cell? ⟨w.heap.size, 20, none⟩ = some (.int .i64 d.jid) := (LS.out.later hw').cell 20; go_simp) ?_
                          go_big_quiet_on
                          simp only [Act.put, List.setIfInBounds_toArray, List.set_cons_zero, List.set_cons_succ]
                          go_big_quiet_want
                          refine q_val (.bool false) (fun w' hw' => by go_simp) ?_
                          go_big_quiet_on
                          simp only [Act.put, List.setIfInBounds_toArray, List.set_cons_zero, List.set_cons_succ]
                          go_big_quiet_want
                          refine q_val (.bool false) (fun w' hw' => by go_simp) ?_
                          go_big_quiet_on
                          simp only [Act.put, List.setIfInBounds_toArray, List.set_cons_zero, List.set_cons_succ]
                          refine wpQuiet_nil ?_
                          intro w9 h9
                          have B9 : Hid (Below t16.heap.size t16 w9) := bl_next hb.out h9
                          have AL : Hid (aokB d (d.bu.take (j + 1)) = true) := by
                            show _ = _
                            have h1 := hal.out
                            unfold aokB at h1 ⊢
                            rw [List.take_succ_eq_append_getElem hlt2, List.all_append, h1, ← HE.out]
                            simp only [List.all_cons, List.all_nil, KQ1.out, KQ2.out]
                            rfl
                          clear h9 kq1 kq2
                          go_wp2_with fail
                          go_roundw
                          case rel => exact ⟨j + 1, by have h1 := HJN.out; have h2 := hlt2; omega, by go_num, AL, B9⟩
                          case measure => (have h1 := HJN.out; have h2 := hlt2; simp [intOf]; omega)
                    · skip
                      have e : R = true := by
                        rw [HDM.out]
                        have h1 := hal.out
                        rwa [List.take_of_length_le (by have := HJN.out; omega)] at h1
                      subst e
                      have hjn : ¬ j < d.bs.n := hlt
                      go_wp2_with fail
                      go_ret
                      exact ⟨rfl, BWr.out⟩
          | true =>
            have c22 := LA.out.cell 22
            simp only [List.getElem?_cons_succ, List.getElem?_cons_zero] at c22
            obtain ⟨R17, k17⟩ : ∃ R : Bool, ((d.bs.n : Int) == 0) = R := ⟨_, rfl⟩
            have K17 : Hid (((d.bs.n : Int) == 0) = R17) := k17
            cases R17 with
            | false =>
              have e : dmS d = false := by
                unfold dmS idB moB jnB
                simp only [hdd.out, hor.out, K1.out, K2.out, K3.out, K12.out, K13.out, K17.out, bne_self_eq_false, Bool.false_and, Bool.true_and, Bool.and_false, Bool.and_true, Bool.not_true, Bool.not_false, Bool.or_true, Bool.true_or, Bool.or_false, Bool.false_or, cond_true, cond_false]
              rw [hR.out] at e
              clear hR
              subst e
              go_wp2_with fail
              go_ret
              exact ⟨rfl, BW.out⟩
            | true =>
              have e : dmS d = true := by
                unfold dmS idB moB jnB
                simp only [hdd.out, hor.out, K1.out, K2.out, K3.out, K12.out, K13.out, K17.out, bne_self_eq_false, Bool.false_and, Bool.true_and, Bool.and_false, Bool.and_true, Bool.not_true, Bool.not_false, Bool.or_true, Bool.true_or, Bool.or_false, Bool.false_or, cond_true, cond_false]
              rw [hR.out] at e
              clear hR
              subst e
              go_wp2_with fail
              go_ret
              exact ⟨rfl, BW.out⟩
        | true =>
          have e : dmS d = false := by
            unfold dmS idB moB jnB
            simp only [hdd.out, hor.out, K1.out, K2.out, K3.out, K12.out, bne_self_eq_false, Bool.false_and, Bool.true_and, Bool.and_false, Bool.and_true, Bool.not_true, Bool.not_false, Bool.or_true, Bool.true_or, Bool.or_false, Bool.false_or, cond_true, cond_false]
          rw [hR.out] at e
          clear hR
          subst e
          go_wp2_with fail
          go_ret
          exact ⟨rfl, BW.out⟩
end Go.Proofs.Ytifkopggmjbbeaa


