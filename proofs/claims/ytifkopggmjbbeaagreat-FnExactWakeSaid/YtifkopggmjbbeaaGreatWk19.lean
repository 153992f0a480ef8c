/- Joined texts: CDkc CDkd CDke CLdk CCd CGp CGbm CGem2 CGpl CDmk. -/
import Derived.Test.YtifkopggmjbbeaaGreatWk18
import Derived.Test.YtifkopggmjbbeaaGreatWk17
import Derived.Test.YtifkopggmjbbeaaGreatWk13
import Derived.Test.YtifkopggmjbbeaaGreatWk8
import Derived.Test.YtifkopggmjbbeaaGreatWk11
import Derived.Test.YtifkopggmjbbeaaGreatWk15
import Derived.Test.YtifkopggmjbbeaaGreatWk5
set_option maxRecDepth 100000
set_option maxHeartbeats 16000000
/- DaemonOk of one that is not dead, by the specification. Written by gen_dk14.py. -/
namespace Go.Proofs.YtifkopggmjbbeaaGreat
open Go.RowKit Pl
set_option linter.unusedSimpArgs false
set_option linter.unusedVariables false
theorem qDh(d:Dm)(w:World)(hdd:Hid (d.dead=false))(hor:Hid (d.old=d.m.rid))(h:Hid (DmR w d))(hs:Hid (DmS d)):Calls Tryz.prog 25 #[.agg #[.int .i64 d.id,.bool false,.int .i64 d.m.id,.int .i64 d.m.rid,.slice d.mv.ms.a d.mv.ms.n d.mv.ms.c,.slice d.mv.its.a d.mv.its.n d.mv.its.c,.slice d.mv.lv.a d.mv.lv.n d.mv.lv.c,.slice d.mv.tx.a d.mv.tx.n d.mv.tx.c,.int .i64 d.m.rd,.int .i64 d.m.se,.int .i64 d.m.li,.int .i64 d.m.he,.int .i64 d.m.la.c,.int .i64 d.m.la.r,.int .i64 d.m.la.q,.int .i64 d.m.la.a,.int .i64 d.m.la.b,.slice d.mv.ws.a d.mv.ws.n d.mv.ws.c,.int .i64 d.most,.int .i64 d.m.rid,.int .i64 d.jid,.slice d.js.a d.js.n d.js.c,.slice d.bs.a d.bs.n d.bs.c,.slice d.ls.a d.ls.n d.ls.c]] w fun e w'=>e=.returned (.bool (dmS d))∧Below w.heap.size w w':=by
  obtain⟨R,hR0⟩: ∃R,dmS d=R:=⟨_,rfl⟩
  rw[hR0]
  have hR:Hid (dmS d=R):=hR0
  clear hR0
  have LA:Hid (Bx (w.alloc (.cells #[.int .i64 d.id,.bool false,.int .i64 d.m.id,.int .i64 d.m.rid,.slice d.mv.ms.a d.mv.ms.n d.mv.ms.c,.slice d.mv.its.a d.mv.its.n d.mv.its.c,.slice d.mv.lv.a d.mv.lv.n d.mv.lv.c,.slice d.mv.tx.a d.mv.tx.n d.mv.tx.c,.int .i64 d.m.rd,.int .i64 d.m.se,.int .i64 d.m.li,.int .i64 d.m.he,.int .i64 d.m.la.c,.int .i64 d.m.la.r,.int .i64 d.m.la.q,.int .i64 d.m.la.a,.int .i64 d.m.la.b,.slice d.mv.ws.a d.mv.ws.n d.mv.ws.c,.int .i64 d.most,.int .i64 d.m.rid,.int .i64 d.jid,.slice d.js.a d.js.n d.js.c,.slice d.bs.a d.bs.n d.bs.c,.slice d.ls.a d.ls.n d.ls.c] 45)) w.heap.size 45 [.int .i64 d.id,.bool false,.int .i64 d.m.id,.int .i64 d.m.rid,.slice d.mv.ms.a d.mv.ms.n d.mv.ms.c,.slice d.mv.its.a d.mv.its.n d.mv.its.c,.slice d.mv.lv.a d.mv.lv.n d.mv.lv.c,.slice d.mv.tx.a d.mv.tx.n d.mv.tx.c,.int .i64 d.m.rd,.int .i64 d.m.se,.int .i64 d.m.li,.int .i64 d.m.he,.int .i64 d.m.la.c,.int .i64 d.m.la.r,.int .i64 d.m.la.q,.int .i64 d.m.la.a,.int .i64 d.m.la.b,.slice d.mv.ws.a d.mv.ws.n d.mv.ws.c,.int .i64 d.most,.int .i64 d.m.rid,.int .i64 d.jid,.slice d.js.a d.js.n d.js.c,.slice d.bs.a d.bs.n d.bs.c,.slice d.ls.a d.ls.n d.ls.c]):=by
    have h:=Bx.new w 45 [.int .i64 d.id,.bool false,.int .i64 d.m.id,.int .i64 d.m.rid,.slice d.mv.ms.a d.mv.ms.n d.mv.ms.c,.slice d.mv.its.a d.mv.its.n d.mv.its.c,.slice d.mv.lv.a d.mv.lv.n d.mv.lv.c,.slice d.mv.tx.a d.mv.tx.n d.mv.tx.c,.int .i64 d.m.rd,.int .i64 d.m.se,.int .i64 d.m.li,.int .i64 d.m.he,.int .i64 d.m.la.c,.int .i64 d.m.la.r,.int .i64 d.m.la.q,.int .i64 d.m.la.a,.int .i64 d.m.la.b,.slice d.mv.ws.a d.mv.ws.n d.mv.ws.c,.int .i64 d.most,.int .i64 d.m.rid,.int .i64 d.jid,.slice d.js.a d.js.n d.js.c,.slice d.bs.a d.bs.n d.bs.c,.slice d.ls.a d.ls.n d.ls.c]
    exact h
  have BW:Hid (Below w.heap.size w (w.alloc (.cells #[.int .i64 d.id,.bool false,.int .i64 d.m.id,.int .i64 d.m.rid,.slice d.mv.ms.a d.mv.ms.n d.mv.ms.c,.slice d.mv.its.a d.mv.its.n d.mv.its.c,.slice d.mv.lv.a d.mv.lv.n d.mv.lv.c,.slice d.mv.tx.a d.mv.tx.n d.mv.tx.c,.int .i64 d.m.rd,.int .i64 d.m.se,.int .i64 d.m.li,.int .i64 d.m.he,.int .i64 d.m.la.c,.int .i64 d.m.la.r,.int .i64 d.m.la.q,.int .i64 d.m.la.a,.int .i64 d.m.la.b,.slice d.mv.ws.a d.mv.ws.n d.mv.ws.c,.int .i64 d.most,.int .i64 d.m.rid,.int .i64 d.jid,.slice d.js.a d.js.n d.js.c,.slice d.bs.a d.bs.n d.bs.c,.slice d.ls.a d.ls.n d.ls.c] 45))):=((Below.refl _ _).alloc (by simp) _)
  have HR:Hid (DmR (w.alloc (.cells #[.int .i64 d.id,.bool false,.int .i64 d.m.id,.int .i64 d.m.rid,.slice d.mv.ms.a d.mv.ms.n d.mv.ms.c,.slice d.mv.its.a d.mv.its.n d.mv.its.c,.slice d.mv.lv.a d.mv.lv.n d.mv.lv.c,.slice d.mv.tx.a d.mv.tx.n d.mv.tx.c,.int .i64 d.m.rd,.int .i64 d.m.se,.int .i64 d.m.li,.int .i64 d.m.he,.int .i64 d.m.la.c,.int .i64 d.m.la.r,.int .i64 d.m.la.q,.int .i64 d.m.la.a,.int .i64 d.m.la.b,.slice d.mv.ws.a d.mv.ws.n d.mv.ws.c,.int .i64 d.most,.int .i64 d.m.rid,.int .i64 d.jid,.slice d.js.a d.js.n d.js.c,.slice d.bs.a d.bs.n d.bs.c,.slice d.ls.a d.ls.n d.ls.c] 45)) d):=h.out.stays BW.out
  have HW:Hid (d.mv.ws.n=d.m.la.ws.length):=h.out.mt.ws.len
  have HJN:Hid (d.bs.n=d.bu.length):=h.out.bu.1
  clear h
  go_enter Tryz.func25,Tryz.ntmps25
  have dbne:(d.m.rid !=d.m.rid)=false:=by simp
  have c0:=LA.out.cell 0
  simp only[List.getElem?_cons_succ,List.getElem?_cons_zero]at c0
  go_wp2_with fail
  refine(in_b d.id 1 5 _).mono ?_
  rintro e t1 ⟨rfl,b⟩
  have LA:Hid (Bx t1 w.heap.size 45 [.int .i64 d.id,.bool false,.int .i64 d.m.id,.int .i64 d.m.rid,.slice d.mv.ms.a d.mv.ms.n d.mv.ms.c,.slice d.mv.its.a d.mv.its.n d.mv.its.c,.slice d.mv.lv.a d.mv.lv.n d.mv.lv.c,.slice d.mv.tx.a d.mv.tx.n d.mv.tx.c,.int .i64 d.m.rd,.int .i64 d.m.se,.int .i64 d.m.li,.int .i64 d.m.he,.int .i64 d.m.la.c,.int .i64 d.m.la.r,.int .i64 d.m.la.q,.int .i64 d.m.la.a,.int .i64 d.m.la.b,.slice d.mv.ws.a d.mv.ws.n d.mv.ws.c,.int .i64 d.most,.int .i64 d.m.rid,.int .i64 d.jid,.slice d.js.a d.js.n d.js.c,.slice d.bs.a d.bs.n d.bs.c,.slice d.ls.a d.ls.n d.ls.c]):=LA.out.later b
  have BW:Hid (Below w.heap.size w t1):=qAa BW.out b
  have HR:Hid (DmR t1 d):=HR.out.stays b
  clear b
  obtain⟨R1,k1⟩: ∃R:Bool,(decide (1≤d.id∧d.id≤5))=R:=⟨_,rfl⟩
  rw[k1]
  have K1:Hid ((decide (1≤d.id∧d.id≤5))=R1):=k1
  clear k1
  cases R1 with
  | false =>
    have e:dmS d=false:=by
      unfold dmS idB moB jnB
      simp only[hdd.out,hor.out,K1.out,bne_self_eq_false,Bool.false_and,Bool.true_and,Bool.and_false,Bool.and_true,Bool.not_true,Bool.not_false,Bool.or_true,Bool.true_or,Bool.or_false,Bool.false_or,cond_true,cond_false]
    rw[hR.out]at e
    clear hR
    subst e
    go_wp2_with fail
    go_ret
    exact⟨rfl,BW.out⟩
  | true =>
    have c18:=LA.out.cell 18
    simp only[List.getElem?_cons_succ,List.getElem?_cons_zero]at c18
    go_wp2_with fail
    refine(in_b d.most 0 9 _).mono ?_
    rintro e t2 ⟨rfl,b⟩
    have LA:Hid (Bx t2 w.heap.size 45 [.int .i64 d.id,.bool false,.int .i64 d.m.id,.int .i64 d.m.rid,.slice d.mv.ms.a d.mv.ms.n d.mv.ms.c,.slice d.mv.its.a d.mv.its.n d.mv.its.c,.slice d.mv.lv.a d.mv.lv.n d.mv.lv.c,.slice d.mv.tx.a d.mv.tx.n d.mv.tx.c,.int .i64 d.m.rd,.int .i64 d.m.se,.int .i64 d.m.li,.int .i64 d.m.he,.int .i64 d.m.la.c,.int .i64 d.m.la.r,.int .i64 d.m.la.q,.int .i64 d.m.la.a,.int .i64 d.m.la.b,.slice d.mv.ws.a d.mv.ws.n d.mv.ws.c,.int .i64 d.most,.int .i64 d.m.rid,.int .i64 d.jid,.slice d.js.a d.js.n d.js.c,.slice d.bs.a d.bs.n d.bs.c,.slice d.ls.a d.ls.n d.ls.c]):=LA.out.later b
    have BW:Hid (Below w.heap.size w t2):=qAa BW.out b
    have HR:Hid (DmR t2 d):=HR.out.stays b
    clear b
    obtain⟨R2,k2⟩: ∃R:Bool,(decide (0≤d.most∧d.most≤9))=R:=⟨_,rfl⟩
    rw[k2]
    have K2:Hid ((decide (0≤d.most∧d.most≤9))=R2):=k2
    clear k2
    cases R2 with
    | false =>
      have e:dmS d=false:=by
        unfold dmS idB moB jnB
        simp only[hdd.out,hor.out,K1.out,K2.out,bne_self_eq_false,Bool.false_and,Bool.true_and,Bool.and_false,Bool.and_true,Bool.not_true,Bool.not_false,Bool.or_true,Bool.true_or,Bool.or_false,Bool.false_or,cond_true,cond_false]
      rw[hR.out]at e
      clear hR
      subst e
      go_wp2_with fail
      go_ret
      exact⟨rfl,BW.out⟩
    | true =>
      have c1:=LA.out.cell 1
      simp only[List.getElem?_cons_succ,List.getElem?_cons_zero]at c1
      go_wp2_with (first|(with_reducible refine qAh 41 _ rfl ?_))
      refine Stp.go ?_
      refine qAb rfl 41 _ rfl w.heap.size 2 rfl 45 _ LA.out [.int .i64 d.m.id,.int .i64 d.m.rid,.slice d.mv.ms.a d.mv.ms.n d.mv.ms.c,.slice d.mv.its.a d.mv.its.n d.mv.its.c,.slice d.mv.lv.a d.mv.lv.n d.mv.lv.c,.slice d.mv.tx.a d.mv.tx.n d.mv.tx.c,.int .i64 d.m.rd,.int .i64 d.m.se,.int .i64 d.m.li,.int .i64 d.m.he,.int .i64 d.m.la.c,.int .i64 d.m.la.r,.int .i64 d.m.la.q,.int .i64 d.m.la.a,.int .i64 d.m.la.b,.slice d.mv.ws.a d.mv.ws.n d.mv.ws.c] rfl _ Tryz.underlying41 rfl Tryz.sizeM ?_
      go_wp2_with fail
      refine(qDa d.m d.mv _ HW.out).mono ?_
      rintro e t3 ⟨rfl,b⟩
      have LA:Hid (Bx t3 w.heap.size 45 [.int .i64 d.id,.bool false,.int .i64 d.m.id,.int .i64 d.m.rid,.slice d.mv.ms.a d.mv.ms.n d.mv.ms.c,.slice d.mv.its.a d.mv.its.n d.mv.its.c,.slice d.mv.lv.a d.mv.lv.n d.mv.lv.c,.slice d.mv.tx.a d.mv.tx.n d.mv.tx.c,.int .i64 d.m.rd,.int .i64 d.m.se,.int .i64 d.m.li,.int .i64 d.m.he,.int .i64 d.m.la.c,.int .i64 d.m.la.r,.int .i64 d.m.la.q,.int .i64 d.m.la.a,.int .i64 d.m.la.b,.slice d.mv.ws.a d.mv.ws.n d.mv.ws.c,.int .i64 d.most,.int .i64 d.m.rid,.int .i64 d.jid,.slice d.js.a d.js.n d.js.c,.slice d.bs.a d.bs.n d.bs.c,.slice d.ls.a d.ls.n d.ls.c]):=LA.out.later b
      have BW:Hid (Below w.heap.size w t3):=qAa BW.out b
      have HR:Hid (DmR t3 d):=HR.out.stays b
      clear b
      obtain⟨R3,k3⟩: ∃R:Bool,(nmS d.m d.mv)=R:=⟨_,rfl⟩
      rw[k3]
      have K3:Hid ((nmS d.m d.mv)=R3):=k3
      clear k3
      cases R3 with
      | false =>
        go_wp2_with (first|(with_reducible refine qAh 41 _ rfl ?_))
        refine Stp.go ?_
        refine qAb rfl 41 _ rfl w.heap.size 2 rfl 45 _ LA.out [.int .i64 d.m.id,.int .i64 d.m.rid,.slice d.mv.ms.a d.mv.ms.n d.mv.ms.c,.slice d.mv.its.a d.mv.its.n d.mv.its.c,.slice d.mv.lv.a d.mv.lv.n d.mv.lv.c,.slice d.mv.tx.a d.mv.tx.n d.mv.tx.c,.int .i64 d.m.rd,.int .i64 d.m.se,.int .i64 d.m.li,.int .i64 d.m.he,.int .i64 d.m.la.c,.int .i64 d.m.la.r,.int .i64 d.m.la.q,.int .i64 d.m.la.a,.int .i64 d.m.la.b,.slice d.mv.ws.a d.mv.ws.n d.mv.ws.c] rfl _ Tryz.underlying41 rfl Tryz.sizeM ?_
        go_wp2_with fail
        refine(qEc d.m d.mv _ HR.out.mt hs.out.mt).mono ?_
        rintro e t4 ⟨rfl,b⟩
        have LA:Hid (Bx t4 w.heap.size 45 [.int .i64 d.id,.bool false,.int .i64 d.m.id,.int .i64 d.m.rid,.slice d.mv.ms.a d.mv.ms.n d.mv.ms.c,.slice d.mv.its.a d.mv.its.n d.mv.its.c,.slice d.mv.lv.a d.mv.lv.n d.mv.lv.c,.slice d.mv.tx.a d.mv.tx.n d.mv.tx.c,.int .i64 d.m.rd,.int .i64 d.m.se,.int .i64 d.m.li,.int .i64 d.m.he,.int .i64 d.m.la.c,.int .i64 d.m.la.r,.int .i64 d.m.la.q,.int .i64 d.m.la.a,.int .i64 d.m.la.b,.slice d.mv.ws.a d.mv.ws.n d.mv.ws.c,.int .i64 d.most,.int .i64 d.m.rid,.int .i64 d.jid,.slice d.js.a d.js.n d.js.c,.slice d.bs.a d.bs.n d.bs.c,.slice d.ls.a d.ls.n d.ls.c]):=LA.out.later b
        have BW:Hid (Below w.heap.size w t4):=qAa BW.out b
        have HR:Hid (DmR t4 d):=HR.out.stays b
        clear b
        obtain⟨R4,k4⟩: ∃R:Bool,(d.m.ok)=R:=⟨_,rfl⟩
        rw[k4]
        have K4:Hid ((d.m.ok)=R4):=k4
        clear k4
        cases R4 with
        | false =>
          have e:dmS d=false:=by
            unfold dmS idB moB jnB
            simp only[hdd.out,hor.out,K1.out,K2.out,K3.out,K4.out,bne_self_eq_false,Bool.false_and,Bool.true_and,Bool.and_false,Bool.and_true,Bool.not_true,Bool.not_false,Bool.or_true,Bool.true_or,Bool.or_false,Bool.false_or,cond_true,cond_false]
          rw[hR.out]at e
          clear hR
          subst e
          go_wp2_with fail
          go_ret
          exact⟨rfl,BW.out⟩
        | true =>
          have c2:=LA.out.cell 2
          have c0:=LA.out.cell 0
          simp only[List.getElem?_cons_succ,List.getElem?_cons_zero]at c2 c0
          obtain⟨R5,k5⟩: ∃R:Bool,(d.m.id !=d.id)=R:=⟨_,rfl⟩
          have K5:Hid ((d.m.id !=d.id)=R5):=k5
          cases R5 with
          | false =>
            have c19:=LA.out.cell 19
            have c3:=LA.out.cell 3
            have c18:=LA.out.cell 18
            simp only[List.getElem?_cons_succ,List.getElem?_cons_zero]at c19 c3 c18
            obtain⟨R6,k6⟩: ∃R:Bool,(decide (d.most<d.m.rid))=R:=⟨_,rfl⟩
            have K6:Hid ((decide (d.most<d.m.rid))=R6):=k6
            cases R6 with
            | false =>
              go_wp2_with (first|(with_reducible refine qAh 37 _ rfl ?_))
              refine Stp.go ?_
              refine qAb rfl 37 _ rfl w.heap.size 20 rfl 45 _ LA.out [.int .i64 d.jid,.slice d.js.a d.js.n d.js.c] rfl _ Tryz.underlying37 rfl Tryz.sizeR ?_
              go_wp2_with fail
              refine(qCi d.jid d.js _).mono ?_
              rintro e t7 ⟨rfl,b⟩
              have LA:Hid (Bx t7 w.heap.size 45 [.int .i64 d.id,.bool false,.int .i64 d.m.id,.int .i64 d.m.rid,.slice d.mv.ms.a d.mv.ms.n d.mv.ms.c,.slice d.mv.its.a d.mv.its.n d.mv.its.c,.slice d.mv.lv.a d.mv.lv.n d.mv.lv.c,.slice d.mv.tx.a d.mv.tx.n d.mv.tx.c,.int .i64 d.m.rd,.int .i64 d.m.se,.int .i64 d.m.li,.int .i64 d.m.he,.int .i64 d.m.la.c,.int .i64 d.m.la.r,.int .i64 d.m.la.q,.int .i64 d.m.la.a,.int .i64 d.m.la.b,.slice d.mv.ws.a d.mv.ws.n d.mv.ws.c,.int .i64 d.most,.int .i64 d.m.rid,.int .i64 d.jid,.slice d.js.a d.js.n d.js.c,.slice d.bs.a d.bs.n d.bs.c,.slice d.ls.a d.ls.n d.ls.c]):=LA.out.later b
              have BW:Hid (Below w.heap.size w t7):=qAa BW.out b
              have HR:Hid (DmR t7 d):=HR.out.stays b
              clear b
              obtain⟨R7,k7⟩: ∃R:Bool,(nrB d.jid d.js.n)=R:=⟨_,rfl⟩
              rw[k7]
              have K7:Hid ((nrB d.jid d.js.n)=R7):=k7
              clear k7
              cases R7 with
              | false =>
                go_wp2_with (first|(with_reducible refine qAh 37 _ rfl ?_))
                refine Stp.go ?_
                refine qAb rfl 37 _ rfl w.heap.size 20 rfl 45 _ LA.out [.int .i64 d.jid,.slice d.js.a d.js.n d.js.c] rfl _ Tryz.underlying37 rfl Tryz.sizeR ?_
                go_wp2_with fail
                refine(qDs d.jid d.jms (show Hid (RI _ (.slice d.js.a d.js.n d.js.c) d.jms)from HR.out.jo) hs.out.jo).mono ?_
                rintro e t8 ⟨rfl,b⟩
                have LA:Hid (Bx t8 w.heap.size 45 [.int .i64 d.id,.bool false,.int .i64 d.m.id,.int .i64 d.m.rid,.slice d.mv.ms.a d.mv.ms.n d.mv.ms.c,.slice d.mv.its.a d.mv.its.n d.mv.its.c,.slice d.mv.lv.a d.mv.lv.n d.mv.lv.c,.slice d.mv.tx.a d.mv.tx.n d.mv.tx.c,.int .i64 d.m.rd,.int .i64 d.m.se,.int .i64 d.m.li,.int .i64 d.m.he,.int .i64 d.m.la.c,.int .i64 d.m.la.r,.int .i64 d.m.la.q,.int .i64 d.m.la.a,.int .i64 d.m.la.b,.slice d.mv.ws.a d.mv.ws.n d.mv.ws.c,.int .i64 d.most,.int .i64 d.m.rid,.int .i64 d.jid,.slice d.js.a d.js.n d.js.c,.slice d.bs.a d.bs.n d.bs.c,.slice d.ls.a d.ls.n d.ls.c]):=LA.out.later b
                have BW:Hid (Below w.heap.size w t8):=qAa BW.out b
                have HR:Hid (DmR t8 d):=HR.out.stays b
                clear b
                obtain⟨R8,k8⟩: ∃R:Bool,(qBc d.jid d.jms)=R:=⟨_,rfl⟩
                rw[k8]
                have K8:Hid ((qBc d.jid d.jms)=R8):=k8
                clear k8
                cases R8 with
                | false =>
                  have e:dmS d=false:=by
                    unfold dmS idB moB jnB
                    simp only[hdd.out,hor.out,K1.out,K2.out,K3.out,K4.out,K5.out,K6.out,K7.out,K8.out,bne_self_eq_false,Bool.false_and,Bool.true_and,Bool.and_false,Bool.and_true,Bool.not_true,Bool.not_false,Bool.or_true,Bool.true_or,Bool.or_false,Bool.false_or,cond_true,cond_false]
                  rw[hR.out]at e
                  clear hR
                  subst e
                  go_wp2_with fail
                  go_ret
                  exact⟨rfl,BW.out⟩
                | true =>
                  have c21:=LA.out.cell 21
                  have c0:=LA.out.cell 0
                  simp only[List.getElem?_cons_succ,List.getElem?_cons_zero]at c21 c0
                  go_wp2_with fail
                  refine(lin_r d.jms d.id (show Hid (RI _ (.slice d.js.a d.js.n d.js.c) d.jms)from HR.out.jo) hs.out.jo).mono ?_
                  rintro e t9 ⟨rfl,b⟩
                  have LA:Hid (Bx t9 w.heap.size 45 [.int .i64 d.id,.bool false,.int .i64 d.m.id,.int .i64 d.m.rid,.slice d.mv.ms.a d.mv.ms.n d.mv.ms.c,.slice d.mv.its.a d.mv.its.n d.mv.its.c,.slice d.mv.lv.a d.mv.lv.n d.mv.lv.c,.slice d.mv.tx.a d.mv.tx.n d.mv.tx.c,.int .i64 d.m.rd,.int .i64 d.m.se,.int .i64 d.m.li,.int .i64 d.m.he,.int .i64 d.m.la.c,.int .i64 d.m.la.r,.int .i64 d.m.la.q,.int .i64 d.m.la.a,.int .i64 d.m.la.b,.slice d.mv.ws.a d.mv.ws.n d.mv.ws.c,.int .i64 d.most,.int .i64 d.m.rid,.int .i64 d.jid,.slice d.js.a d.js.n d.js.c,.slice d.bs.a d.bs.n d.bs.c,.slice d.ls.a d.ls.n d.ls.c]):=LA.out.later b
                  have BW:Hid (Below w.heap.size w t9):=qAa BW.out b
                  have HR:Hid (DmR t9 d):=HR.out.stays b
                  clear b
                  obtain⟨R9,k9⟩: ∃R:Bool,(inB d.jms d.id)=R:=⟨_,rfl⟩
                  rw[k9]
                  have K9:Hid ((inB d.jms d.id)=R9):=k9
                  clear k9
                  cases R9 with
                  | false =>
                    have e:dmS d=false:=by
                      unfold dmS idB moB jnB
                      simp only[hdd.out,hor.out,K1.out,K2.out,K3.out,K4.out,K5.out,K6.out,K7.out,K8.out,K9.out,bne_self_eq_false,Bool.false_and,Bool.true_and,Bool.and_false,Bool.and_true,Bool.not_true,Bool.not_false,Bool.or_true,Bool.true_or,Bool.or_false,Bool.false_or,cond_true,cond_false]
                    rw[hR.out]at e
                    clear hR
                    subst e
                    go_wp2_with fail
                    go_ret
                    exact⟨rfl,BW.out⟩
                  | true =>
                    have hrg:0≤d.m.rid∧d.m.rid≤9:=rid_rng (Or.inr K4.out)
                    have hwr:IntKind.i64.wrap (d.m.rid+1)=d.m.rid+1:=by simp[IntKind.wrap,IntKind.signed,IntKind.bits];omega
                    have hrg1:=hrg.1
                    have hrg2:=hrg.2
                    clear hrg
                    have c20:=LA.out.cell 20
                    have c19:=LA.out.cell 19
                    have c18:=LA.out.cell 18
                    simp only[List.getElem?_cons_succ,List.getElem?_cons_zero]at c20 c19 c18
                    go_wp2_with fail
                    refine(in_b d.jid (d.m.rid+1) d.most _).mono ?_
                    rintro e t10 ⟨rfl,b⟩
                    have LA:Hid (Bx t10 w.heap.size 45 [.int .i64 d.id,.bool false,.int .i64 d.m.id,.int .i64 d.m.rid,.slice d.mv.ms.a d.mv.ms.n d.mv.ms.c,.slice d.mv.its.a d.mv.its.n d.mv.its.c,.slice d.mv.lv.a d.mv.lv.n d.mv.lv.c,.slice d.mv.tx.a d.mv.tx.n d.mv.tx.c,.int .i64 d.m.rd,.int .i64 d.m.se,.int .i64 d.m.li,.int .i64 d.m.he,.int .i64 d.m.la.c,.int .i64 d.m.la.r,.int .i64 d.m.la.q,.int .i64 d.m.la.a,.int .i64 d.m.la.b,.slice d.mv.ws.a d.mv.ws.n d.mv.ws.c,.int .i64 d.most,.int .i64 d.m.rid,.int .i64 d.jid,.slice d.js.a d.js.n d.js.c,.slice d.bs.a d.bs.n d.bs.c,.slice d.ls.a d.ls.n d.ls.c]):=LA.out.later b
                    have BW:Hid (Below w.heap.size w t10):=qAa BW.out b
                    have HR:Hid (DmR t10 d):=HR.out.stays b
                    clear b
                    obtain⟨R10,k10⟩: ∃R:Bool,(decide (d.m.rid+1≤d.jid∧d.jid≤d.most))=R:=⟨_,rfl⟩
                    rw[k10]
                    have K10:Hid ((decide (d.m.rid+1≤d.jid∧d.jid≤d.most))=R10):=k10
                    clear k10
                    cases R10 with
                    | false =>
                      have e:dmS d=false:=by
                        unfold dmS idB moB jnB
                        simp only[hdd.out,hor.out,K1.out,K2.out,K3.out,K4.out,K5.out,K6.out,K7.out,K8.out,K9.out,K10.out,bne_self_eq_false,Bool.false_and,Bool.true_and,Bool.and_false,Bool.and_true,Bool.not_true,Bool.not_false,Bool.or_true,Bool.true_or,Bool.or_false,Bool.false_or,cond_true,cond_false]
                      rw[hR.out]at e
                      clear hR
                      subst e
                      go_wp2_with fail
                      go_ret
                      exact⟨rfl,BW.out⟩
                    | true =>
                      have hdm:dmS d=aokB d d.bu:=by
                        unfold dmS idB moB jnB
                        simp only[hdd.out,hor.out,K1.out,K2.out,K3.out,K4.out,K5.out,K6.out,K7.out,K8.out,K9.out,K10.out,bne_self_eq_false,Bool.false_and,Bool.true_and,Bool.and_false,Bool.and_true,Bool.not_true,Bool.not_false,Bool.or_true,Bool.true_or,Bool.or_false,Bool.false_or,cond_true,cond_false]
                      rw[hR.out]at hdm
                      have HDM:Hid (R=aokB d d.bu):=hdm
                      clear hdm
                      go_wp2_with fail
                      go_loopw [3] (fun i wr=>∃(j:Nat),j≤d.bs.n∧i=.int .i64 j∧Hid (aokB d (d.bu.take j)=true)∧Hid (Below t10.heap.size t10 wr)) (fun i _=>d.bs.n - (intOf i).toNat)
                      case atStart=>exact⟨0,Nat.zero_le _,rfl,rfl,Below.refl _ _⟩
                      case round=>
                        obtain⟨j,hj,rfl,hal,hb⟩:=hrel
                        have LAr:Hid (Bx wr w.heap.size 45 [.int .i64 d.id,.bool false,.int .i64 d.m.id,.int .i64 d.m.rid,.slice d.mv.ms.a d.mv.ms.n d.mv.ms.c,.slice d.mv.its.a d.mv.its.n d.mv.its.c,.slice d.mv.lv.a d.mv.lv.n d.mv.lv.c,.slice d.mv.tx.a d.mv.tx.n d.mv.tx.c,.int .i64 d.m.rd,.int .i64 d.m.se,.int .i64 d.m.li,.int .i64 d.m.he,.int .i64 d.m.la.c,.int .i64 d.m.la.r,.int .i64 d.m.la.q,.int .i64 d.m.la.a,.int .i64 d.m.la.b,.slice d.mv.ws.a d.mv.ws.n d.mv.ws.c,.int .i64 d.most,.int .i64 d.m.rid,.int .i64 d.jid,.slice d.js.a d.js.n d.js.c,.slice d.bs.a d.bs.n d.bs.c,.slice d.ls.a d.ls.n d.ls.c]):=LA.out.later hb.out
                        have HRr:Hid (DmR wr d):=HR.out.stays hb.out
                        have BWr:Hid (Below w.heap.size w wr):=qAa BW.out hb.out
                        have c22:=LAr.out.cell 22
                        simp only[List.getElem?_cons_succ,List.getElem?_cons_zero]at c22
                        by_cases hlt:j<d.bs.n
                        · skip
                          have hlt2:j<d.bu.length:=by have:=HJN.out;omega
                          have hj9:j<1048576:=by have:=hs.out.bus.1;omega
                          obtain⟨g,off,ha,hg,_,hr⟩:=HRr.out.bu.2.1 j (by simpa using hlt2)
                          obtain⟨b,he⟩: ∃b,b=d.bu[j]:=⟨_,rfl⟩
                          have hr2:wr.rangeAt g (off+j * 4) b.row:=by rw[he];simpa using hr
                          have HG:Hid (g<wr.heap.size):=hg
                          have p0:Hid (wr.cell? ⟨g,off+j * 4,none⟩=some (.int .i64 b.f)):=hr2 0 _ rfl
                          have p1:Hid (wr.cell? ⟨g,off+j * 4+1,none⟩=some (.int .i64 b.n)):=hr2 1 _ rfl
                          have p2:Hid (wr.cell? ⟨g,off+j * 4+2,none⟩=some (.int .i64 b.o)):=hr2 2 _ rfl
                          have p3:Hid (wr.cell? ⟨g,off+j * 4+3,none⟩=some (.slice b.s.a b.s.n b.s.c)):=hr2 3 _ rfl
                          have HE:Hid (b=d.bu[j]):=he
                          have RR:Hid (b.R wr):=by rw[he];exact HRr.out.bu.2.2 _ (List.getElem_mem hlt2)
                          have hq1:b.ts.length≤1048576:=by rw[he];exact hs.out.bus.2 _ (List.getElem_mem hlt2)
                          have HA:Hid (d.bs.a=some ⟨g,off,none⟩):=ha
                          have i0:(0:Int)≤(j:Int):=by omega
                          have i1:(j:Int)<(d.bs.n:Int):=by omega
                          have c22:wr.cell? ⟨w.heap.size,22,none⟩=some (.slice (some ⟨g,off,none⟩) d.bs.n d.bs.c):=by rw[←ha];exact c22
                          have LS:Hid (Bx wr w.heap.size 45 [.int .i64 d.id,.bool false,.int .i64 d.m.id,.int .i64 d.m.rid,.slice d.mv.ms.a d.mv.ms.n d.mv.ms.c,.slice d.mv.its.a d.mv.its.n d.mv.its.c,.slice d.mv.lv.a d.mv.lv.n d.mv.lv.c,.slice d.mv.tx.a d.mv.tx.n d.mv.tx.c,.int .i64 d.m.rd,.int .i64 d.m.se,.int .i64 d.m.li,.int .i64 d.m.he,.int .i64 d.m.la.c,.int .i64 d.m.la.r,.int .i64 d.m.la.q,.int .i64 d.m.la.a,.int .i64 d.m.la.b,.slice d.mv.ws.a d.mv.ws.n d.mv.ws.c,.int .i64 d.most,.int .i64 d.m.rid,.int .i64 d.jid,.slice d.js.a d.js.n d.js.c,.slice (some ⟨g,off,none⟩) d.bs.n d.bs.c,.slice d.ls.a d.ls.n d.ls.c]):=(by have e:=LAr.out;rw[ha]at e;exact e:Bx _ _ _ _)
                          clear hr hr2 he hg ha
                          go_wp2_with fail
                          obtain⟨Q1,kq1⟩: ∃q,bunB b.f b.n b.o b.ts=q:=⟨_,rfl⟩
                          have KQ1:Hid (bunB b.f b.n b.o b.ts=Q1):=kq1
                          obtain⟨Q2,kq2⟩: ∃q,(b.n !=d.jid)=q:=⟨_,rfl⟩
                          have KQ2:Hid ((b.n !=d.jid)=Q2):=kq2
                          cases Q1 with
                          | false =>
                            clear kq1 kq2
                            refine qBd (C:=fun w'=>Below wr.heap.size wr w') (by kernel_rfl) (by kernel_rfl) (Below.refl _ _).drew ?_
                            go_big_quiet_want
                            refine qAd (.pointer (some ⟨w.heap.size,22,none⟩)) (fun w' hw'=>by go_simp) ?_
                            go_big_quiet_on
                            simp only[Act.put,List.setIfInBounds_toArray,List.set_cons_zero,List.set_cons_succ]
                            go_big_quiet_want
                            refine qAd (.slice (some ⟨g,off,none⟩) d.bs.n d.bs.c) (fun w' hw'=>by have r:w'.cell? ⟨w.heap.size,22,none⟩=some (.slice (some ⟨g,off,none⟩) d.bs.n d.bs.c):=(LS.out.later hw').cell 22;go_simp) ?_
                            go_big_quiet_on
                            simp only[Act.put,List.setIfInBounds_toArray,List.set_cons_zero,List.set_cons_succ]
                            go_big_quiet_want
                            refine qAd (.int .i64 ((j:Int))) (fun w' hw'=>by go_simp) ?_
                            go_big_quiet_on
                            simp only[Act.put,List.setIfInBounds_toArray,List.set_cons_zero,List.set_cons_succ]
                            go_big_quiet_want
                            refine qAd (.pointer (some ⟨g,off+j * 4,none⟩)) (fun w' hw'=>by go_simp) ?_
                            go_big_quiet_on
                            simp only[Act.put,List.setIfInBounds_toArray,List.set_cons_zero,List.set_cons_succ]
                            go_big_quiet_want
                            refine qAd (.agg #[.int .i64 b.f,.int .i64 b.n,.int .i64 b.o,.slice b.s.a b.s.n b.s.c]) (fun w' hw'=>by have r0:w'.cell? ⟨g,off+j * 4,none⟩=some (.int .i64 b.f):=(hw'.cell (p:=⟨g,off+j * 4,none⟩) HG.out).trans p0.out;have r1:w'.cell? ⟨g,off+j * 4+1,none⟩=some (.int .i64 b.n):=(hw'.cell (p:=⟨g,off+j * 4+1,none⟩) HG.out).trans p1.out;have r2:w'.cell? ⟨g,off+j * 4+2,none⟩=some (.int .i64 b.o):=(hw'.cell (p:=⟨g,off+j * 4+2,none⟩) HG.out).trans p2.out;have r3:w'.cell? ⟨g,off+j * 4+3,none⟩=some (.slice b.s.a b.s.n b.s.c):=(hw'.cell (p:=⟨g,off+j * 4+3,none⟩) HG.out).trans p3.out;go_simp) ?_
                            go_big_quiet_on
                            simp only[Act.put,List.setIfInBounds_toArray,List.set_cons_zero,List.set_cons_succ]
                            go_big_quiet_want
                            refine qBf (W:=wr) (.bool false) 64 #[(.agg #[.int .i64 b.f,.int .i64 b.n,.int .i64 b.o,.slice b.s.a b.s.n b.s.c])] (fun w' hw'=>by go_simp) (fun w' hw'=>(qAy b.f b.n b.o b.s b.ts w' (show Hid (RSt w' b.s b.ts)from RSt.stays RR.out hw') hq1).mono fun e w1 ⟨he,hb⟩=>⟨by rw[he];exact congrArg (fun b=>Ending.returned (Value.bool b)) KQ1.out,hb⟩) ?_
                            go_big_quiet_on
                            simp only[Act.put,List.setIfInBounds_toArray,List.set_cons_zero,List.set_cons_succ]
                            go_big_quiet_want
                            refine qAd (.bool true) (fun w' hw'=>by go_simp) ?_
                            go_big_quiet_on
                            simp only[Act.put,List.setIfInBounds_toArray,List.set_cons_zero,List.set_cons_succ]
                            go_big_quiet_want
                            refine qAd (.bool true) (fun w' hw'=>by go_simp) ?_
                            go_big_quiet_on
                            simp only[Act.put,List.setIfInBounds_toArray,List.set_cons_zero,List.set_cons_succ]
                            go_big_quiet_skip
                            go_big_quiet_skip
                            go_big_quiet_skip
                            go_big_quiet_skip
                            go_big_quiet_skip
                            go_big_quiet_skip
                            go_big_quiet_skip
                            go_big_quiet_skip
                            go_big_quiet_skip
                            go_big_quiet_skip
                            go_big_quiet_want
                            refine qAd (.bool true) (fun w' hw'=>by go_simp) ?_
                            go_big_quiet_on
                            simp only[Act.put,List.setIfInBounds_toArray,List.set_cons_zero,List.set_cons_succ]
                            refine wpQuiet_nil ?_
                            intro w9 h9
                            have BW9:Hid (Below w.heap.size w w9):=qAa BWr.out h9
                            have e:R=false:=by
                              rw[HDM.out]
                              unfold aokB
                              rw[List.all_eq_false]
                              exact⟨d.bu[j],List.getElem_mem hlt2,by rw[←HE.out];simp only[KQ1.out];simp⟩
                            subst e
                            clear h9
                            go_wp2_with fail
                            go_ret
                            exact⟨rfl,BW9.out⟩
                          | true =>
                            cases Q2 with
                            | true =>
                              refine qBd (C:=fun w'=>Below wr.heap.size wr w') (by kernel_rfl) (by kernel_rfl) (Below.refl _ _).drew ?_
                              go_big_quiet_want
                              refine qAd (.pointer (some ⟨w.heap.size,22,none⟩)) (fun w' hw'=>by go_simp) ?_
                              go_big_quiet_on
                              simp only[Act.put,List.setIfInBounds_toArray,List.set_cons_zero,List.set_cons_succ]
                              go_big_quiet_want
                              refine qAd (.slice (some ⟨g,off,none⟩) d.bs.n d.bs.c) (fun w' hw'=>by have r:w'.cell? ⟨w.heap.size,22,none⟩=some (.slice (some ⟨g,off,none⟩) d.bs.n d.bs.c):=(LS.out.later hw').cell 22;go_simp) ?_
                              go_big_quiet_on
                              simp only[Act.put,List.setIfInBounds_toArray,List.set_cons_zero,List.set_cons_succ]
                              go_big_quiet_want
                              refine qAd (.int .i64 ((j:Int))) (fun w' hw'=>by go_simp) ?_
                              go_big_quiet_on
                              simp only[Act.put,List.setIfInBounds_toArray,List.set_cons_zero,List.set_cons_succ]
                              go_big_quiet_want
                              refine qAd (.pointer (some ⟨g,off+j * 4,none⟩)) (fun w' hw'=>by go_simp) ?_
                              go_big_quiet_on
                              simp only[Act.put,List.setIfInBounds_toArray,List.set_cons_zero,List.set_cons_succ]
                              go_big_quiet_want
                              refine qAd (.agg #[.int .i64 b.f,.int .i64 b.n,.int .i64 b.o,.slice b.s.a b.s.n b.s.c]) (fun w' hw'=>by have r0:w'.cell? ⟨g,off+j * 4,none⟩=some (.int .i64 b.f):=(hw'.cell (p:=⟨g,off+j * 4,none⟩) HG.out).trans p0.out;have r1:w'.cell? ⟨g,off+j * 4+1,none⟩=some (.int .i64 b.n):=(hw'.cell (p:=⟨g,off+j * 4+1,none⟩) HG.out).trans p1.out;have r2:w'.cell? ⟨g,off+j * 4+2,none⟩=some (.int .i64 b.o):=(hw'.cell (p:=⟨g,off+j * 4+2,none⟩) HG.out).trans p2.out;have r3:w'.cell? ⟨g,off+j * 4+3,none⟩=some (.slice b.s.a b.s.n b.s.c):=(hw'.cell (p:=⟨g,off+j * 4+3,none⟩) HG.out).trans p3.out;go_simp) ?_
                              go_big_quiet_on
                              simp only[Act.put,List.setIfInBounds_toArray,List.set_cons_zero,List.set_cons_succ]
                              go_big_quiet_want
                              refine qBf (W:=wr) (.bool true) 64 #[(.agg #[.int .i64 b.f,.int .i64 b.n,.int .i64 b.o,.slice b.s.a b.s.n b.s.c])] (fun w' hw'=>by go_simp) (fun w' hw'=>(qAy b.f b.n b.o b.s b.ts w' (show Hid (RSt w' b.s b.ts)from RSt.stays RR.out hw') hq1).mono fun e w1 ⟨he,hb⟩=>⟨by rw[he];exact congrArg (fun b=>Ending.returned (Value.bool b)) KQ1.out,hb⟩) ?_
                              go_big_quiet_on
                              simp only[Act.put,List.setIfInBounds_toArray,List.set_cons_zero,List.set_cons_succ]
                              go_big_quiet_want
                              refine qAd (.bool false) (fun w' hw'=>by go_simp) ?_
                              go_big_quiet_on
                              simp only[Act.put,List.setIfInBounds_toArray,List.set_cons_zero,List.set_cons_succ]
                              go_big_quiet_want
                              refine qAd (.bool false) (fun w' hw'=>by go_simp) ?_
                              go_big_quiet_on
                              simp only[Act.put,List.setIfInBounds_toArray,List.set_cons_zero,List.set_cons_succ]
                              go_big_quiet_want
                              refine qAd (.pointer (some ⟨w.heap.size,22,none⟩)) (fun w' hw'=>by go_simp) ?_
                              go_big_quiet_on
                              simp only[Act.put,List.setIfInBounds_toArray,List.set_cons_zero,List.set_cons_succ]
                              go_big_quiet_want
                              refine qAd (.slice (some ⟨g,off,none⟩) d.bs.n d.bs.c) (fun w' hw'=>by have r:w'.cell? ⟨w.heap.size,22,none⟩=some (.slice (some ⟨g,off,none⟩) d.bs.n d.bs.c):=(LS.out.later hw').cell 22;go_simp) ?_
                              go_big_quiet_on
                              simp only[Act.put,List.setIfInBounds_toArray,List.set_cons_zero,List.set_cons_succ]
                              go_big_quiet_want
                              refine qAd (.int .i64 ((j:Int))) (fun w' hw'=>by go_simp) ?_
                              go_big_quiet_on
                              simp only[Act.put,List.setIfInBounds_toArray,List.set_cons_zero,List.set_cons_succ]
                              go_big_quiet_want
                              refine qAd (.pointer (some ⟨g,off+j * 4,none⟩)) (fun w' hw'=>by go_simp) ?_
                              go_big_quiet_on
                              simp only[Act.put,List.setIfInBounds_toArray,List.set_cons_zero,List.set_cons_succ]
                              go_big_quiet_want
                              refine qAd (.pointer (some ⟨g,off+j * 4+1,none⟩)) (fun w' hw'=>by go_simp) ?_
                              go_big_quiet_on
                              simp only[Act.put,List.setIfInBounds_toArray,List.set_cons_zero,List.set_cons_succ]
                              go_big_quiet_want
                              refine qAd (.int .i64 b.n) (fun w' hw'=>by have r1:w'.cell? ⟨g,off+j * 4+1,none⟩=some (.int .i64 b.n):=(hw'.cell (p:=⟨g,off+j * 4+1,none⟩) HG.out).trans p1.out;go_simp) ?_
                              go_big_quiet_on
                              simp only[Act.put,List.setIfInBounds_toArray,List.set_cons_zero,List.set_cons_succ]
                              go_big_quiet_want
                              refine qAd (.pointer (some ⟨w.heap.size,20,none⟩)) (fun w' hw'=>by go_simp) ?_
                              go_big_quiet_on
                              simp only[Act.put,List.setIfInBounds_toArray,List.set_cons_zero,List.set_cons_succ]
                              go_big_quiet_want
                              refine qAd (.pointer (some ⟨w.heap.size,20,none⟩)) (fun w' hw'=>by go_simp) ?_
                              go_big_quiet_on
                              simp only[Act.put,List.setIfInBounds_toArray,List.set_cons_zero,List.set_cons_succ]
                              go_big_quiet_want
                              refine qAd (.int .i64 d.jid) (fun w' hw'=>by have r:w'.cell? ⟨w.heap.size,20,none⟩=some (.int .i64 d.jid):=(LS.out.later hw').cell 20;go_simp) ?_
                              go_big_quiet_on
                              simp only[Act.put,List.setIfInBounds_toArray,List.set_cons_zero,List.set_cons_succ]
                              go_big_quiet_want
                              refine qAd (.bool true) (fun w' hw'=>by go_simp) ?_
                              go_big_quiet_on
                              simp only[Act.put,List.setIfInBounds_toArray,List.set_cons_zero,List.set_cons_succ]
                              go_big_quiet_want
                              refine qAd (.bool true) (fun w' hw'=>by go_simp) ?_
                              go_big_quiet_on
                              simp only[Act.put,List.setIfInBounds_toArray,List.set_cons_zero,List.set_cons_succ]
                              refine wpQuiet_nil ?_
                              intro w9 h9
                              have BW9:Hid (Below w.heap.size w w9):=qAa BWr.out h9
                              have e:R=false:=by
                                rw[HDM.out]
                                unfold aokB
                                rw[List.all_eq_false]
                                exact⟨d.bu[j],List.getElem_mem hlt2,by rw[←HE.out];simp only[KQ1.out,KQ2.out];simp⟩
                              subst e
                              clear h9
                              go_wp2_with fail
                              go_ret
                              exact⟨rfl,BW9.out⟩
                            | false =>
                              refine qBd (C:=fun w'=>Below wr.heap.size wr w') (by kernel_rfl) (by kernel_rfl) (Below.refl _ _).drew ?_
                              go_big_quiet_want
                              refine qAd (.pointer (some ⟨w.heap.size,22,none⟩)) (fun w' hw'=>by go_simp) ?_
                              go_big_quiet_on
                              simp only[Act.put,List.setIfInBounds_toArray,List.set_cons_zero,List.set_cons_succ]
                              go_big_quiet_want
                              refine qAd (.slice (some ⟨g,off,none⟩) d.bs.n d.bs.c) (fun w' hw'=>by have r:w'.cell? ⟨w.heap.size,22,none⟩=some (.slice (some ⟨g,off,none⟩) d.bs.n d.bs.c):=(LS.out.later hw').cell 22;go_simp) ?_
                              go_big_quiet_on
                              simp only[Act.put,List.setIfInBounds_toArray,List.set_cons_zero,List.set_cons_succ]
                              go_big_quiet_want
                              refine qAd (.int .i64 ((j:Int))) (fun w' hw'=>by go_simp) ?_
                              go_big_quiet_on
                              simp only[Act.put,List.setIfInBounds_toArray,List.set_cons_zero,List.set_cons_succ]
                              go_big_quiet_want
                              refine qAd (.pointer (some ⟨g,off+j * 4,none⟩)) (fun w' hw'=>by go_simp) ?_
                              go_big_quiet_on
                              simp only[Act.put,List.setIfInBounds_toArray,List.set_cons_zero,List.set_cons_succ]
                              go_big_quiet_want
                              refine qAd (.agg #[.int .i64 b.f,.int .i64 b.n,.int .i64 b.o,.slice b.s.a b.s.n b.s.c]) (fun w' hw'=>by have r0:w'.cell? ⟨g,off+j * 4,none⟩=some (.int .i64 b.f):=(hw'.cell (p:=⟨g,off+j * 4,none⟩) HG.out).trans p0.out;have r1:w'.cell? ⟨g,off+j * 4+1,none⟩=some (.int .i64 b.n):=(hw'.cell (p:=⟨g,off+j * 4+1,none⟩) HG.out).trans p1.out;have r2:w'.cell? ⟨g,off+j * 4+2,none⟩=some (.int .i64 b.o):=(hw'.cell (p:=⟨g,off+j * 4+2,none⟩) HG.out).trans p2.out;have r3:w'.cell? ⟨g,off+j * 4+3,none⟩=some (.slice b.s.a b.s.n b.s.c):=(hw'.cell (p:=⟨g,off+j * 4+3,none⟩) HG.out).trans p3.out;go_simp) ?_
                              go_big_quiet_on
                              simp only[Act.put,List.setIfInBounds_toArray,List.set_cons_zero,List.set_cons_succ]
                              go_big_quiet_want
                              refine qBf (W:=wr) (.bool true) 64 #[(.agg #[.int .i64 b.f,.int .i64 b.n,.int .i64 b.o,.slice b.s.a b.s.n b.s.c])] (fun w' hw'=>by go_simp) (fun w' hw'=>(qAy b.f b.n b.o b.s b.ts w' (show Hid (RSt w' b.s b.ts)from RSt.stays RR.out hw') hq1).mono fun e w1 ⟨he,hb⟩=>⟨by rw[he];exact congrArg (fun b=>Ending.returned (Value.bool b)) KQ1.out,hb⟩) ?_
                              go_big_quiet_on
                              simp only[Act.put,List.setIfInBounds_toArray,List.set_cons_zero,List.set_cons_succ]
                              go_big_quiet_want
                              refine qAd (.bool false) (fun w' hw'=>by go_simp) ?_
                              go_big_quiet_on
                              simp only[Act.put,List.setIfInBounds_toArray,List.set_cons_zero,List.set_cons_succ]
                              go_big_quiet_want
                              refine qAd (.bool false) (fun w' hw'=>by go_simp) ?_
                              go_big_quiet_on
                              simp only[Act.put,List.setIfInBounds_toArray,List.set_cons_zero,List.set_cons_succ]
                              go_big_quiet_want
                              refine qAd (.pointer (some ⟨w.heap.size,22,none⟩)) (fun w' hw'=>by go_simp) ?_
                              go_big_quiet_on
                              simp only[Act.put,List.setIfInBounds_toArray,List.set_cons_zero,List.set_cons_succ]
                              go_big_quiet_want
                              refine qAd (.slice (some ⟨g,off,none⟩) d.bs.n d.bs.c) (fun w' hw'=>by have r:w'.cell? ⟨w.heap.size,22,none⟩=some (.slice (some ⟨g,off,none⟩) d.bs.n d.bs.c):=(LS.out.later hw').cell 22;go_simp) ?_
                              go_big_quiet_on
                              simp only[Act.put,List.setIfInBounds_toArray,List.set_cons_zero,List.set_cons_succ]
                              go_big_quiet_want
                              refine qAd (.int .i64 ((j:Int))) (fun w' hw'=>by go_simp) ?_
                              go_big_quiet_on
                              simp only[Act.put,List.setIfInBounds_toArray,List.set_cons_zero,List.set_cons_succ]
                              go_big_quiet_want
                              refine qAd (.pointer (some ⟨g,off+j * 4,none⟩)) (fun w' hw'=>by go_simp) ?_
                              go_big_quiet_on
                              simp only[Act.put,List.setIfInBounds_toArray,List.set_cons_zero,List.set_cons_succ]
                              go_big_quiet_want
                              refine qAd (.pointer (some ⟨g,off+j * 4+1,none⟩)) (fun w' hw'=>by go_simp) ?_
                              go_big_quiet_on
                              simp only[Act.put,List.setIfInBounds_toArray,List.set_cons_zero,List.set_cons_succ]
                              go_big_quiet_want
                              refine qAd (.int .i64 b.n) (fun w' hw'=>by have r1:w'.cell? ⟨g,off+j * 4+1,none⟩=some (.int .i64 b.n):=(hw'.cell (p:=⟨g,off+j * 4+1,none⟩) HG.out).trans p1.out;go_simp) ?_
                              go_big_quiet_on
                              simp only[Act.put,List.setIfInBounds_toArray,List.set_cons_zero,List.set_cons_succ]
                              go_big_quiet_want
                              refine qAd (.pointer (some ⟨w.heap.size,20,none⟩)) (fun w' hw'=>by go_simp) ?_
                              go_big_quiet_on
                              simp only[Act.put,List.setIfInBounds_toArray,List.set_cons_zero,List.set_cons_succ]
                              go_big_quiet_want
                              refine qAd (.pointer (some ⟨w.heap.size,20,none⟩)) (fun w' hw'=>by go_simp) ?_
                              go_big_quiet_on
                              simp only[Act.put,List.setIfInBounds_toArray,List.set_cons_zero,List.set_cons_succ]
                              go_big_quiet_want
                              refine qAd (.int .i64 d.jid) (fun w' hw'=>by have r:w'.cell? ⟨w.heap.size,20,none⟩=some (.int .i64 d.jid):=(LS.out.later hw').cell 20;go_simp) ?_
                              go_big_quiet_on
                              simp only[Act.put,List.setIfInBounds_toArray,List.set_cons_zero,List.set_cons_succ]
                              go_big_quiet_want
                              refine qAd (.bool false) (fun w' hw'=>by go_simp) ?_
                              go_big_quiet_on
                              simp only[Act.put,List.setIfInBounds_toArray,List.set_cons_zero,List.set_cons_succ]
                              go_big_quiet_want
                              refine qAd (.bool false) (fun w' hw'=>by go_simp) ?_
                              go_big_quiet_on
                              simp only[Act.put,List.setIfInBounds_toArray,List.set_cons_zero,List.set_cons_succ]
                              refine wpQuiet_nil ?_
                              intro w9 h9
                              have B9:Hid (Below t10.heap.size t10 w9):=qAa hb.out h9
                              have AL:Hid (aokB d (d.bu.take (j+1))=true):=by
                                show _=_
                                have h1:=hal.out
                                unfold aokB at h1⊢
                                rw[List.take_succ_eq_append_getElem hlt2,List.all_append,h1,←HE.out]
                                simp only[List.all_cons,List.all_nil,KQ1.out,KQ2.out]
                                rfl
                              clear h9 kq1 kq2
                              go_wp2_with fail
                              go_roundw
                              case rel=>exact⟨j+1,by have h1:=HJN.out;have h2:=hlt2;omega,by go_num,AL,B9⟩
                              case measure=>(have h1:=HJN.out;have h2:=hlt2;simp[intOf];omega)
                        · skip
                          have e:R=true:=by
                            rw[HDM.out]
                            have h1:=hal.out
                            rwa [List.take_of_length_le (by have:=HJN.out;omega)]at h1
                          subst e
                          have hjn: ¬j<d.bs.n:=hlt
                          go_wp2_with fail
                          go_ret
                          exact⟨rfl,BWr.out⟩
              | true =>
                have c22:=LA.out.cell 22
                simp only[List.getElem?_cons_succ,List.getElem?_cons_zero]at c22
                obtain⟨R11,k11⟩: ∃R:Bool,((d.bs.n:Int)==0)=R:=⟨_,rfl⟩
                have K11:Hid (((d.bs.n:Int)==0)=R11):=k11
                cases R11 with
                | false =>
                  have e:dmS d=false:=by
                    unfold dmS idB moB jnB
                    simp only[hdd.out,hor.out,K1.out,K2.out,K3.out,K4.out,K5.out,K6.out,K7.out,K11.out,bne_self_eq_false,Bool.false_and,Bool.true_and,Bool.and_false,Bool.and_true,Bool.not_true,Bool.not_false,Bool.or_true,Bool.true_or,Bool.or_false,Bool.false_or,cond_true,cond_false]
                  rw[hR.out]at e
                  clear hR
                  subst e
                  go_wp2_with fail
                  go_ret
                  exact⟨rfl,BW.out⟩
                | true =>
                  have e:dmS d=true:=by
                    unfold dmS idB moB jnB
                    simp only[hdd.out,hor.out,K1.out,K2.out,K3.out,K4.out,K5.out,K6.out,K7.out,K11.out,bne_self_eq_false,Bool.false_and,Bool.true_and,Bool.and_false,Bool.and_true,Bool.not_true,Bool.not_false,Bool.or_true,Bool.true_or,Bool.or_false,Bool.false_or,cond_true,cond_false]
                  rw[hR.out]at e
                  clear hR
                  subst e
                  go_wp2_with fail
                  go_ret
                  exact⟨rfl,BW.out⟩
            | true =>
              have e:dmS d=false:=by
                unfold dmS idB moB jnB
                simp only[hdd.out,hor.out,K1.out,K2.out,K3.out,K4.out,K5.out,K6.out,bne_self_eq_false,Bool.false_and,Bool.true_and,Bool.and_false,Bool.and_true,Bool.not_true,Bool.not_false,Bool.or_true,Bool.true_or,Bool.or_false,Bool.false_or,cond_true,cond_false]
              rw[hR.out]at e
              clear hR
              subst e
              go_wp2_with fail
              go_ret
              exact⟨rfl,BW.out⟩
          | true =>
            have e:dmS d=false:=by
              unfold dmS idB moB jnB
              simp only[hdd.out,hor.out,K1.out,K2.out,K3.out,K4.out,K5.out,bne_self_eq_false,Bool.false_and,Bool.true_and,Bool.and_false,Bool.and_true,Bool.not_true,Bool.not_false,Bool.or_true,Bool.true_or,Bool.or_false,Bool.false_or,cond_true,cond_false]
            rw[hR.out]at e
            clear hR
            subst e
            go_wp2_with fail
            go_ret
            exact⟨rfl,BW.out⟩
      | true =>
        have c19:=LA.out.cell 19
        have c3:=LA.out.cell 3
        have c18:=LA.out.cell 18
        simp only[List.getElem?_cons_succ,List.getElem?_cons_zero]at c19 c3 c18
        obtain⟨R12,k12⟩: ∃R:Bool,(decide (d.most<d.m.rid))=R:=⟨_,rfl⟩
        have K12:Hid ((decide (d.most<d.m.rid))=R12):=k12
        cases R12 with
        | false =>
          go_wp2_with (first|(with_reducible refine qAh 37 _ rfl ?_))
          refine Stp.go ?_
          refine qAb rfl 37 _ rfl w.heap.size 20 rfl 45 _ LA.out [.int .i64 d.jid,.slice d.js.a d.js.n d.js.c] rfl _ Tryz.underlying37 rfl Tryz.sizeR ?_
          go_wp2_with fail
          refine(qCi d.jid d.js _).mono ?_
          rintro e t13 ⟨rfl,b⟩
          have LA:Hid (Bx t13 w.heap.size 45 [.int .i64 d.id,.bool false,.int .i64 d.m.id,.int .i64 d.m.rid,.slice d.mv.ms.a d.mv.ms.n d.mv.ms.c,.slice d.mv.its.a d.mv.its.n d.mv.its.c,.slice d.mv.lv.a d.mv.lv.n d.mv.lv.c,.slice d.mv.tx.a d.mv.tx.n d.mv.tx.c,.int .i64 d.m.rd,.int .i64 d.m.se,.int .i64 d.m.li,.int .i64 d.m.he,.int .i64 d.m.la.c,.int .i64 d.m.la.r,.int .i64 d.m.la.q,.int .i64 d.m.la.a,.int .i64 d.m.la.b,.slice d.mv.ws.a d.mv.ws.n d.mv.ws.c,.int .i64 d.most,.int .i64 d.m.rid,.int .i64 d.jid,.slice d.js.a d.js.n d.js.c,.slice d.bs.a d.bs.n d.bs.c,.slice d.ls.a d.ls.n d.ls.c]):=LA.out.later b
          have BW:Hid (Below w.heap.size w t13):=qAa BW.out b
          have HR:Hid (DmR t13 d):=HR.out.stays b
          clear b
          obtain⟨R13,k13⟩: ∃R:Bool,(nrB d.jid d.js.n)=R:=⟨_,rfl⟩
          rw[k13]
          have K13:Hid ((nrB d.jid d.js.n)=R13):=k13
          clear k13
          cases R13 with
          | false =>
            go_wp2_with (first|(with_reducible refine qAh 37 _ rfl ?_))
            refine Stp.go ?_
            refine qAb rfl 37 _ rfl w.heap.size 20 rfl 45 _ LA.out [.int .i64 d.jid,.slice d.js.a d.js.n d.js.c] rfl _ Tryz.underlying37 rfl Tryz.sizeR ?_
            go_wp2_with fail
            refine(qDs d.jid d.jms (show Hid (RI _ (.slice d.js.a d.js.n d.js.c) d.jms)from HR.out.jo) hs.out.jo).mono ?_
            rintro e t14 ⟨rfl,b⟩
            have LA:Hid (Bx t14 w.heap.size 45 [.int .i64 d.id,.bool false,.int .i64 d.m.id,.int .i64 d.m.rid,.slice d.mv.ms.a d.mv.ms.n d.mv.ms.c,.slice d.mv.its.a d.mv.its.n d.mv.its.c,.slice d.mv.lv.a d.mv.lv.n d.mv.lv.c,.slice d.mv.tx.a d.mv.tx.n d.mv.tx.c,.int .i64 d.m.rd,.int .i64 d.m.se,.int .i64 d.m.li,.int .i64 d.m.he,.int .i64 d.m.la.c,.int .i64 d.m.la.r,.int .i64 d.m.la.q,.int .i64 d.m.la.a,.int .i64 d.m.la.b,.slice d.mv.ws.a d.mv.ws.n d.mv.ws.c,.int .i64 d.most,.int .i64 d.m.rid,.int .i64 d.jid,.slice d.js.a d.js.n d.js.c,.slice d.bs.a d.bs.n d.bs.c,.slice d.ls.a d.ls.n d.ls.c]):=LA.out.later b
            have BW:Hid (Below w.heap.size w t14):=qAa BW.out b
            have HR:Hid (DmR t14 d):=HR.out.stays b
            clear b
            obtain⟨R14,k14⟩: ∃R:Bool,(qBc d.jid d.jms)=R:=⟨_,rfl⟩
            rw[k14]
            have K14:Hid ((qBc d.jid d.jms)=R14):=k14
            clear k14
            cases R14 with
            | false =>
              have e:dmS d=false:=by
                unfold dmS idB moB jnB
                simp only[hdd.out,hor.out,K1.out,K2.out,K3.out,K12.out,K13.out,K14.out,bne_self_eq_false,Bool.false_and,Bool.true_and,Bool.and_false,Bool.and_true,Bool.not_true,Bool.not_false,Bool.or_true,Bool.true_or,Bool.or_false,Bool.false_or,cond_true,cond_false]
              rw[hR.out]at e
              clear hR
              subst e
              go_wp2_with fail
              go_ret
              exact⟨rfl,BW.out⟩
            | true =>
              have c21:=LA.out.cell 21
              have c0:=LA.out.cell 0
              simp only[List.getElem?_cons_succ,List.getElem?_cons_zero]at c21 c0
              go_wp2_with fail
              refine(lin_r d.jms d.id (show Hid (RI _ (.slice d.js.a d.js.n d.js.c) d.jms)from HR.out.jo) hs.out.jo).mono ?_
              rintro e t15 ⟨rfl,b⟩
              have LA:Hid (Bx t15 w.heap.size 45 [.int .i64 d.id,.bool false,.int .i64 d.m.id,.int .i64 d.m.rid,.slice d.mv.ms.a d.mv.ms.n d.mv.ms.c,.slice d.mv.its.a d.mv.its.n d.mv.its.c,.slice d.mv.lv.a d.mv.lv.n d.mv.lv.c,.slice d.mv.tx.a d.mv.tx.n d.mv.tx.c,.int .i64 d.m.rd,.int .i64 d.m.se,.int .i64 d.m.li,.int .i64 d.m.he,.int .i64 d.m.la.c,.int .i64 d.m.la.r,.int .i64 d.m.la.q,.int .i64 d.m.la.a,.int .i64 d.m.la.b,.slice d.mv.ws.a d.mv.ws.n d.mv.ws.c,.int .i64 d.most,.int .i64 d.m.rid,.int .i64 d.jid,.slice d.js.a d.js.n d.js.c,.slice d.bs.a d.bs.n d.bs.c,.slice d.ls.a d.ls.n d.ls.c]):=LA.out.later b
              have BW:Hid (Below w.heap.size w t15):=qAa BW.out b
              have HR:Hid (DmR t15 d):=HR.out.stays b
              clear b
              obtain⟨R15,k15⟩: ∃R:Bool,(inB d.jms d.id)=R:=⟨_,rfl⟩
              rw[k15]
              have K15:Hid ((inB d.jms d.id)=R15):=k15
              clear k15
              cases R15 with
              | false =>
                have e:dmS d=false:=by
                  unfold dmS idB moB jnB
                  simp only[hdd.out,hor.out,K1.out,K2.out,K3.out,K12.out,K13.out,K14.out,K15.out,bne_self_eq_false,Bool.false_and,Bool.true_and,Bool.and_false,Bool.and_true,Bool.not_true,Bool.not_false,Bool.or_true,Bool.true_or,Bool.or_false,Bool.false_or,cond_true,cond_false]
                rw[hR.out]at e
                clear hR
                subst e
                go_wp2_with fail
                go_ret
                exact⟨rfl,BW.out⟩
              | true =>
                have hrg:0≤d.m.rid∧d.m.rid≤9:=rid_rng (Or.inl K3.out)
                have hwr:IntKind.i64.wrap (d.m.rid+1)=d.m.rid+1:=by simp[IntKind.wrap,IntKind.signed,IntKind.bits];omega
                have hrg1:=hrg.1
                have hrg2:=hrg.2
                clear hrg
                have c20:=LA.out.cell 20
                have c19:=LA.out.cell 19
                have c18:=LA.out.cell 18
                simp only[List.getElem?_cons_succ,List.getElem?_cons_zero]at c20 c19 c18
                go_wp2_with fail
                refine(in_b d.jid (d.m.rid+1) d.most _).mono ?_
                rintro e t16 ⟨rfl,b⟩
                have LA:Hid (Bx t16 w.heap.size 45 [.int .i64 d.id,.bool false,.int .i64 d.m.id,.int .i64 d.m.rid,.slice d.mv.ms.a d.mv.ms.n d.mv.ms.c,.slice d.mv.its.a d.mv.its.n d.mv.its.c,.slice d.mv.lv.a d.mv.lv.n d.mv.lv.c,.slice d.mv.tx.a d.mv.tx.n d.mv.tx.c,.int .i64 d.m.rd,.int .i64 d.m.se,.int .i64 d.m.li,.int .i64 d.m.he,.int .i64 d.m.la.c,.int .i64 d.m.la.r,.int .i64 d.m.la.q,.int .i64 d.m.la.a,.int .i64 d.m.la.b,.slice d.mv.ws.a d.mv.ws.n d.mv.ws.c,.int .i64 d.most,.int .i64 d.m.rid,.int .i64 d.jid,.slice d.js.a d.js.n d.js.c,.slice d.bs.a d.bs.n d.bs.c,.slice d.ls.a d.ls.n d.ls.c]):=LA.out.later b
                have BW:Hid (Below w.heap.size w t16):=qAa BW.out b
                have HR:Hid (DmR t16 d):=HR.out.stays b
                clear b
                obtain⟨R16,k16⟩: ∃R:Bool,(decide (d.m.rid+1≤d.jid∧d.jid≤d.most))=R:=⟨_,rfl⟩
                rw[k16]
                have K16:Hid ((decide (d.m.rid+1≤d.jid∧d.jid≤d.most))=R16):=k16
                clear k16
                cases R16 with
                | false =>
                  have e:dmS d=false:=by
                    unfold dmS idB moB jnB
                    simp only[hdd.out,hor.out,K1.out,K2.out,K3.out,K12.out,K13.out,K14.out,K15.out,K16.out,bne_self_eq_false,Bool.false_and,Bool.true_and,Bool.and_false,Bool.and_true,Bool.not_true,Bool.not_false,Bool.or_true,Bool.true_or,Bool.or_false,Bool.false_or,cond_true,cond_false]
                  rw[hR.out]at e
                  clear hR
                  subst e
                  go_wp2_with fail
                  go_ret
                  exact⟨rfl,BW.out⟩
                | true =>
                  have hdm:dmS d=aokB d d.bu:=by
                    unfold dmS idB moB jnB
                    simp only[hdd.out,hor.out,K1.out,K2.out,K3.out,K12.out,K13.out,K14.out,K15.out,K16.out,bne_self_eq_false,Bool.false_and,Bool.true_and,Bool.and_false,Bool.and_true,Bool.not_true,Bool.not_false,Bool.or_true,Bool.true_or,Bool.or_false,Bool.false_or,cond_true,cond_false]
                  rw[hR.out]at hdm
                  have HDM:Hid (R=aokB d d.bu):=hdm
                  clear hdm
                  go_wp2_with fail
                  go_loopw [3] (fun i wr=>∃(j:Nat),j≤d.bs.n∧i=.int .i64 j∧Hid (aokB d (d.bu.take j)=true)∧Hid (Below t16.heap.size t16 wr)) (fun i _=>d.bs.n - (intOf i).toNat)
                  case atStart=>exact⟨0,Nat.zero_le _,rfl,rfl,Below.refl _ _⟩
                  case round=>
                    obtain⟨j,hj,rfl,hal,hb⟩:=hrel
                    have LAr:Hid (Bx wr w.heap.size 45 [.int .i64 d.id,.bool false,.int .i64 d.m.id,.int .i64 d.m.rid,.slice d.mv.ms.a d.mv.ms.n d.mv.ms.c,.slice d.mv.its.a d.mv.its.n d.mv.its.c,.slice d.mv.lv.a d.mv.lv.n d.mv.lv.c,.slice d.mv.tx.a d.mv.tx.n d.mv.tx.c,.int .i64 d.m.rd,.int .i64 d.m.se,.int .i64 d.m.li,.int .i64 d.m.he,.int .i64 d.m.la.c,.int .i64 d.m.la.r,.int .i64 d.m.la.q,.int .i64 d.m.la.a,.int .i64 d.m.la.b,.slice d.mv.ws.a d.mv.ws.n d.mv.ws.c,.int .i64 d.most,.int .i64 d.m.rid,.int .i64 d.jid,.slice d.js.a d.js.n d.js.c,.slice d.bs.a d.bs.n d.bs.c,.slice d.ls.a d.ls.n d.ls.c]):=LA.out.later hb.out
                    have HRr:Hid (DmR wr d):=HR.out.stays hb.out
                    have BWr:Hid (Below w.heap.size w wr):=qAa BW.out hb.out
                    have c22:=LAr.out.cell 22
                    simp only[List.getElem?_cons_succ,List.getElem?_cons_zero]at c22
                    by_cases hlt:j<d.bs.n
                    · skip
                      have hlt2:j<d.bu.length:=by have:=HJN.out;omega
                      have hj9:j<1048576:=by have:=hs.out.bus.1;omega
                      obtain⟨g,off,ha,hg,_,hr⟩:=HRr.out.bu.2.1 j (by simpa using hlt2)
                      obtain⟨b,he⟩: ∃b,b=d.bu[j]:=⟨_,rfl⟩
                      have hr2:wr.rangeAt g (off+j * 4) b.row:=by rw[he];simpa using hr
                      have HG:Hid (g<wr.heap.size):=hg
                      have p0:Hid (wr.cell? ⟨g,off+j * 4,none⟩=some (.int .i64 b.f)):=hr2 0 _ rfl
                      have p1:Hid (wr.cell? ⟨g,off+j * 4+1,none⟩=some (.int .i64 b.n)):=hr2 1 _ rfl
                      have p2:Hid (wr.cell? ⟨g,off+j * 4+2,none⟩=some (.int .i64 b.o)):=hr2 2 _ rfl
                      have p3:Hid (wr.cell? ⟨g,off+j * 4+3,none⟩=some (.slice b.s.a b.s.n b.s.c)):=hr2 3 _ rfl
                      have HE:Hid (b=d.bu[j]):=he
                      have RR:Hid (b.R wr):=by rw[he];exact HRr.out.bu.2.2 _ (List.getElem_mem hlt2)
                      have hq1:b.ts.length≤1048576:=by rw[he];exact hs.out.bus.2 _ (List.getElem_mem hlt2)
                      have HA:Hid (d.bs.a=some ⟨g,off,none⟩):=ha
                      have i0:(0:Int)≤(j:Int):=by omega
                      have i1:(j:Int)<(d.bs.n:Int):=by omega
                      have c22:wr.cell? ⟨w.heap.size,22,none⟩=some (.slice (some ⟨g,off,none⟩) d.bs.n d.bs.c):=by rw[←ha];exact c22
                      have LS:Hid (Bx wr w.heap.size 45 [.int .i64 d.id,.bool false,.int .i64 d.m.id,.int .i64 d.m.rid,.slice d.mv.ms.a d.mv.ms.n d.mv.ms.c,.slice d.mv.its.a d.mv.its.n d.mv.its.c,.slice d.mv.lv.a d.mv.lv.n d.mv.lv.c,.slice d.mv.tx.a d.mv.tx.n d.mv.tx.c,.int .i64 d.m.rd,.int .i64 d.m.se,.int .i64 d.m.li,.int .i64 d.m.he,.int .i64 d.m.la.c,.int .i64 d.m.la.r,.int .i64 d.m.la.q,.int .i64 d.m.la.a,.int .i64 d.m.la.b,.slice d.mv.ws.a d.mv.ws.n d.mv.ws.c,.int .i64 d.most,.int .i64 d.m.rid,.int .i64 d.jid,.slice d.js.a d.js.n d.js.c,.slice (some ⟨g,off,none⟩) d.bs.n d.bs.c,.slice d.ls.a d.ls.n d.ls.c]):=(by have e:=LAr.out;rw[ha]at e;exact e:Bx _ _ _ _)
                      clear hr hr2 he hg ha
                      go_wp2_with fail
                      obtain⟨Q1,kq1⟩: ∃q,bunB b.f b.n b.o b.ts=q:=⟨_,rfl⟩
                      have KQ1:Hid (bunB b.f b.n b.o b.ts=Q1):=kq1
                      obtain⟨Q2,kq2⟩: ∃q,(b.n !=d.jid)=q:=⟨_,rfl⟩
                      have KQ2:Hid ((b.n !=d.jid)=Q2):=kq2
                      cases Q1 with
                      | false =>
                        clear kq1 kq2
                        refine qBd (C:=fun w'=>Below wr.heap.size wr w') (by kernel_rfl) (by kernel_rfl) (Below.refl _ _).drew ?_
                        go_big_quiet_want
                        refine qAd (.pointer (some ⟨w.heap.size,22,none⟩)) (fun w' hw'=>by go_simp) ?_
                        go_big_quiet_on
                        simp only[Act.put,List.setIfInBounds_toArray,List.set_cons_zero,List.set_cons_succ]
                        go_big_quiet_want
                        refine qAd (.slice (some ⟨g,off,none⟩) d.bs.n d.bs.c) (fun w' hw'=>by have r:w'.cell? ⟨w.heap.size,22,none⟩=some (.slice (some ⟨g,off,none⟩) d.bs.n d.bs.c):=(LS.out.later hw').cell 22;go_simp) ?_
                        go_big_quiet_on
                        simp only[Act.put,List.setIfInBounds_toArray,List.set_cons_zero,List.set_cons_succ]
                        go_big_quiet_want
                        refine qAd (.int .i64 ((j:Int))) (fun w' hw'=>by go_simp) ?_
                        go_big_quiet_on
                        simp only[Act.put,List.setIfInBounds_toArray,List.set_cons_zero,List.set_cons_succ]
                        go_big_quiet_want
                        refine qAd (.pointer (some ⟨g,off+j * 4,none⟩)) (fun w' hw'=>by go_simp) ?_
                        go_big_quiet_on
                        simp only[Act.put,List.setIfInBounds_toArray,List.set_cons_zero,List.set_cons_succ]
                        go_big_quiet_want
                        refine qAd (.agg #[.int .i64 b.f,.int .i64 b.n,.int .i64 b.o,.slice b.s.a b.s.n b.s.c]) (fun w' hw'=>by have r0:w'.cell? ⟨g,off+j * 4,none⟩=some (.int .i64 b.f):=(hw'.cell (p:=⟨g,off+j * 4,none⟩) HG.out).trans p0.out;have r1:w'.cell? ⟨g,off+j * 4+1,none⟩=some (.int .i64 b.n):=(hw'.cell (p:=⟨g,off+j * 4+1,none⟩) HG.out).trans p1.out;have r2:w'.cell? ⟨g,off+j * 4+2,none⟩=some (.int .i64 b.o):=(hw'.cell (p:=⟨g,off+j * 4+2,none⟩) HG.out).trans p2.out;have r3:w'.cell? ⟨g,off+j * 4+3,none⟩=some (.slice b.s.a b.s.n b.s.c):=(hw'.cell (p:=⟨g,off+j * 4+3,none⟩) HG.out).trans p3.out;go_simp) ?_
                        go_big_quiet_on
                        simp only[Act.put,List.setIfInBounds_toArray,List.set_cons_zero,List.set_cons_succ]
                        go_big_quiet_want
                        refine qBf (W:=wr) (.bool false) 64 #[(.agg #[.int .i64 b.f,.int .i64 b.n,.int .i64 b.o,.slice b.s.a b.s.n b.s.c])] (fun w' hw'=>by go_simp) (fun w' hw'=>(qAy b.f b.n b.o b.s b.ts w' (show Hid (RSt w' b.s b.ts)from RSt.stays RR.out hw') hq1).mono fun e w1 ⟨he,hb⟩=>⟨by rw[he];exact congrArg (fun b=>Ending.returned (Value.bool b)) KQ1.out,hb⟩) ?_
                        go_big_quiet_on
                        simp only[Act.put,List.setIfInBounds_toArray,List.set_cons_zero,List.set_cons_succ]
                        go_big_quiet_want
                        refine qAd (.bool true) (fun w' hw'=>by go_simp) ?_
                        go_big_quiet_on
                        simp only[Act.put,List.setIfInBounds_toArray,List.set_cons_zero,List.set_cons_succ]
                        go_big_quiet_want
                        refine qAd (.bool true) (fun w' hw'=>by go_simp) ?_
                        go_big_quiet_on
                        simp only[Act.put,List.setIfInBounds_toArray,List.set_cons_zero,List.set_cons_succ]
                        go_big_quiet_skip
                        go_big_quiet_skip
                        go_big_quiet_skip
                        go_big_quiet_skip
                        go_big_quiet_skip
                        go_big_quiet_skip
                        go_big_quiet_skip
                        go_big_quiet_skip
                        go_big_quiet_skip
                        go_big_quiet_skip
                        go_big_quiet_want
                        refine qAd (.bool true) (fun w' hw'=>by go_simp) ?_
                        go_big_quiet_on
                        simp only[Act.put,List.setIfInBounds_toArray,List.set_cons_zero,List.set_cons_succ]
                        refine wpQuiet_nil ?_
                        intro w9 h9
                        have BW9:Hid (Below w.heap.size w w9):=qAa BWr.out h9
                        have e:R=false:=by
                          rw[HDM.out]
                          unfold aokB
                          rw[List.all_eq_false]
                          exact⟨d.bu[j],List.getElem_mem hlt2,by rw[←HE.out];simp only[KQ1.out];simp⟩
                        subst e
                        clear h9
                        go_wp2_with fail
                        go_ret
                        exact⟨rfl,BW9.out⟩
                      | true =>
                        cases Q2 with
                        | true =>
                          refine qBd (C:=fun w'=>Below wr.heap.size wr w') (by kernel_rfl) (by kernel_rfl) (Below.refl _ _).drew ?_
                          go_big_quiet_want
                          refine qAd (.pointer (some ⟨w.heap.size,22,none⟩)) (fun w' hw'=>by go_simp) ?_
                          go_big_quiet_on
                          simp only[Act.put,List.setIfInBounds_toArray,List.set_cons_zero,List.set_cons_succ]
                          go_big_quiet_want
                          refine qAd (.slice (some ⟨g,off,none⟩) d.bs.n d.bs.c) (fun w' hw'=>by have r:w'.cell? ⟨w.heap.size,22,none⟩=some (.slice (some ⟨g,off,none⟩) d.bs.n d.bs.c):=(LS.out.later hw').cell 22;go_simp) ?_
                          go_big_quiet_on
                          simp only[Act.put,List.setIfInBounds_toArray,List.set_cons_zero,List.set_cons_succ]
                          go_big_quiet_want
                          refine qAd (.int .i64 ((j:Int))) (fun w' hw'=>by go_simp) ?_
                          go_big_quiet_on
                          simp only[Act.put,List.setIfInBounds_toArray,List.set_cons_zero,List.set_cons_succ]
                          go_big_quiet_want
                          refine qAd (.pointer (some ⟨g,off+j * 4,none⟩)) (fun w' hw'=>by go_simp) ?_
                          go_big_quiet_on
                          simp only[Act.put,List.setIfInBounds_toArray,List.set_cons_zero,List.set_cons_succ]
                          go_big_quiet_want
                          refine qAd (.agg #[.int .i64 b.f,.int .i64 b.n,.int .i64 b.o,.slice b.s.a b.s.n b.s.c]) (fun w' hw'=>by have r0:w'.cell? ⟨g,off+j * 4,none⟩=some (.int .i64 b.f):=(hw'.cell (p:=⟨g,off+j * 4,none⟩) HG.out).trans p0.out;have r1:w'.cell? ⟨g,off+j * 4+1,none⟩=some (.int .i64 b.n):=(hw'.cell (p:=⟨g,off+j * 4+1,none⟩) HG.out).trans p1.out;have r2:w'.cell? ⟨g,off+j * 4+2,none⟩=some (.int .i64 b.o):=(hw'.cell (p:=⟨g,off+j * 4+2,none⟩) HG.out).trans p2.out;have r3:w'.cell? ⟨g,off+j * 4+3,none⟩=some (.slice b.s.a b.s.n b.s.c):=(hw'.cell (p:=⟨g,off+j * 4+3,none⟩) HG.out).trans p3.out;go_simp) ?_
                          go_big_quiet_on
                          simp only[Act.put,List.setIfInBounds_toArray,List.set_cons_zero,List.set_cons_succ]
                          go_big_quiet_want
                          refine qBf (W:=wr) (.bool true) 64 #[(.agg #[.int .i64 b.f,.int .i64 b.n,.int .i64 b.o,.slice b.s.a b.s.n b.s.c])] (fun w' hw'=>by go_simp) (fun w' hw'=>(qAy b.f b.n b.o b.s b.ts w' (show Hid (RSt w' b.s b.ts)from RSt.stays RR.out hw') hq1).mono fun e w1 ⟨he,hb⟩=>⟨by rw[he];exact congrArg (fun b=>Ending.returned (Value.bool b)) KQ1.out,hb⟩) ?_
                          go_big_quiet_on
                          simp only[Act.put,List.setIfInBounds_toArray,List.set_cons_zero,List.set_cons_succ]
                          go_big_quiet_want
                          refine qAd (.bool false) (fun w' hw'=>by go_simp) ?_
                          go_big_quiet_on
                          simp only[Act.put,List.setIfInBounds_toArray,List.set_cons_zero,List.set_cons_succ]
                          go_big_quiet_want
                          refine qAd (.bool false) (fun w' hw'=>by go_simp) ?_
                          go_big_quiet_on
                          simp only[Act.put,List.setIfInBounds_toArray,List.set_cons_zero,List.set_cons_succ]
                          go_big_quiet_want
                          refine qAd (.pointer (some ⟨w.heap.size,22,none⟩)) (fun w' hw'=>by go_simp) ?_
                          go_big_quiet_on
                          simp only[Act.put,List.setIfInBounds_toArray,List.set_cons_zero,List.set_cons_succ]
                          go_big_quiet_want
                          refine qAd (.slice (some ⟨g,off,none⟩) d.bs.n d.bs.c) (fun w' hw'=>by have r:w'.cell? ⟨w.heap.size,22,none⟩=some (.slice (some ⟨g,off,none⟩) d.bs.n d.bs.c):=(LS.out.later hw').cell 22;go_simp) ?_
                          go_big_quiet_on
                          simp only[Act.put,List.setIfInBounds_toArray,List.set_cons_zero,List.set_cons_succ]
                          go_big_quiet_want
                          refine qAd (.int .i64 ((j:Int))) (fun w' hw'=>by go_simp) ?_
                          go_big_quiet_on
                          simp only[Act.put,List.setIfInBounds_toArray,List.set_cons_zero,List.set_cons_succ]
                          go_big_quiet_want
                          refine qAd (.pointer (some ⟨g,off+j * 4,none⟩)) (fun w' hw'=>by go_simp) ?_
                          go_big_quiet_on
                          simp only[Act.put,List.setIfInBounds_toArray,List.set_cons_zero,List.set_cons_succ]
                          go_big_quiet_want
                          refine qAd (.pointer (some ⟨g,off+j * 4+1,none⟩)) (fun w' hw'=>by go_simp) ?_
                          go_big_quiet_on
                          simp only[Act.put,List.setIfInBounds_toArray,List.set_cons_zero,List.set_cons_succ]
                          go_big_quiet_want
                          refine qAd (.int .i64 b.n) (fun w' hw'=>by have r1:w'.cell? ⟨g,off+j * 4+1,none⟩=some (.int .i64 b.n):=(hw'.cell (p:=⟨g,off+j * 4+1,none⟩) HG.out).trans p1.out;go_simp) ?_
                          go_big_quiet_on
                          simp only[Act.put,List.setIfInBounds_toArray,List.set_cons_zero,List.set_cons_succ]
                          go_big_quiet_want
                          refine qAd (.pointer (some ⟨w.heap.size,20,none⟩)) (fun w' hw'=>by go_simp) ?_
                          go_big_quiet_on
                          simp only[Act.put,List.setIfInBounds_toArray,List.set_cons_zero,List.set_cons_succ]
                          go_big_quiet_want
                          refine qAd (.pointer (some ⟨w.heap.size,20,none⟩)) (fun w' hw'=>by go_simp) ?_
                          go_big_quiet_on
                          simp only[Act.put,List.setIfInBounds_toArray,List.set_cons_zero,List.set_cons_succ]
                          go_big_quiet_want
                          refine qAd (.int .i64 d.jid) (fun w' hw'=>by have r:w'.cell? ⟨w.heap.size,20,none⟩=some (.int .i64 d.jid):=(LS.out.later hw').cell 20;go_simp) ?_
                          go_big_quiet_on
                          simp only[Act.put,List.setIfInBounds_toArray,List.set_cons_zero,List.set_cons_succ]
                          go_big_quiet_want
                          refine qAd (.bool true) (fun w' hw'=>by go_simp) ?_
                          go_big_quiet_on
                          simp only[Act.put,List.setIfInBounds_toArray,List.set_cons_zero,List.set_cons_succ]
                          go_big_quiet_want
                          refine qAd (.bool true) (fun w' hw'=>by go_simp) ?_
                          go_big_quiet_on
                          simp only[Act.put,List.setIfInBounds_toArray,List.set_cons_zero,List.set_cons_succ]
                          refine wpQuiet_nil ?_
                          intro w9 h9
                          have BW9:Hid (Below w.heap.size w w9):=qAa BWr.out h9
                          have e:R=false:=by
                            rw[HDM.out]
                            unfold aokB
                            rw[List.all_eq_false]
                            exact⟨d.bu[j],List.getElem_mem hlt2,by rw[←HE.out];simp only[KQ1.out,KQ2.out];simp⟩
                          subst e
                          clear h9
                          go_wp2_with fail
                          go_ret
                          exact⟨rfl,BW9.out⟩
                        | false =>
                          refine qBd (C:=fun w'=>Below wr.heap.size wr w') (by kernel_rfl) (by kernel_rfl) (Below.refl _ _).drew ?_
                          go_big_quiet_want
                          refine qAd (.pointer (some ⟨w.heap.size,22,none⟩)) (fun w' hw'=>by go_simp) ?_
                          go_big_quiet_on
                          simp only[Act.put,List.setIfInBounds_toArray,List.set_cons_zero,List.set_cons_succ]
                          go_big_quiet_want
                          refine qAd (.slice (some ⟨g,off,none⟩) d.bs.n d.bs.c) (fun w' hw'=>by have r:w'.cell? ⟨w.heap.size,22,none⟩=some (.slice (some ⟨g,off,none⟩) d.bs.n d.bs.c):=(LS.out.later hw').cell 22;go_simp) ?_
                          go_big_quiet_on
                          simp only[Act.put,List.setIfInBounds_toArray,List.set_cons_zero,List.set_cons_succ]
                          go_big_quiet_want
                          refine qAd (.int .i64 ((j:Int))) (fun w' hw'=>by go_simp) ?_
                          go_big_quiet_on
                          simp only[Act.put,List.setIfInBounds_toArray,List.set_cons_zero,List.set_cons_succ]
                          go_big_quiet_want
                          refine qAd (.pointer (some ⟨g,off+j * 4,none⟩)) (fun w' hw'=>by go_simp) ?_
                          go_big_quiet_on
                          simp only[Act.put,List.setIfInBounds_toArray,List.set_cons_zero,List.set_cons_succ]
                          go_big_quiet_want
                          refine qAd (.agg #[.int .i64 b.f,.int .i64 b.n,.int .i64 b.o,.slice b.s.a b.s.n b.s.c]) (fun w' hw'=>by have r0:w'.cell? ⟨g,off+j * 4,none⟩=some (.int .i64 b.f):=(hw'.cell (p:=⟨g,off+j * 4,none⟩) HG.out).trans p0.out;have r1:w'.cell? ⟨g,off+j * 4+1,none⟩=some (.int .i64 b.n):=(hw'.cell (p:=⟨g,off+j * 4+1,none⟩) HG.out).trans p1.out;have r2:w'.cell? ⟨g,off+j * 4+2,none⟩=some (.int .i64 b.o):=(hw'.cell (p:=⟨g,off+j * 4+2,none⟩) HG.out).trans p2.out;have r3:w'.cell? ⟨g,off+j * 4+3,none⟩=some (.slice b.s.a b.s.n b.s.c):=(hw'.cell (p:=⟨g,off+j * 4+3,none⟩) HG.out).trans p3.out;go_simp) ?_
                          go_big_quiet_on
                          simp only[Act.put,List.setIfInBounds_toArray,List.set_cons_zero,List.set_cons_succ]
                          go_big_quiet_want
                          refine qBf (W:=wr) (.bool true) 64 #[(.agg #[.int .i64 b.f,.int .i64 b.n,.int .i64 b.o,.slice b.s.a b.s.n b.s.c])] (fun w' hw'=>by go_simp) (fun w' hw'=>(qAy b.f b.n b.o b.s b.ts w' (show Hid (RSt w' b.s b.ts)from RSt.stays RR.out hw') hq1).mono fun e w1 ⟨he,hb⟩=>⟨by rw[he];exact congrArg (fun b=>Ending.returned (Value.bool b)) KQ1.out,hb⟩) ?_
                          go_big_quiet_on
                          simp only[Act.put,List.setIfInBounds_toArray,List.set_cons_zero,List.set_cons_succ]
                          go_big_quiet_want
                          refine qAd (.bool false) (fun w' hw'=>by go_simp) ?_
                          go_big_quiet_on
                          simp only[Act.put,List.setIfInBounds_toArray,List.set_cons_zero,List.set_cons_succ]
                          go_big_quiet_want
                          refine qAd (.bool false) (fun w' hw'=>by go_simp) ?_
                          go_big_quiet_on
                          simp only[Act.put,List.setIfInBounds_toArray,List.set_cons_zero,List.set_cons_succ]
                          go_big_quiet_want
                          refine qAd (.pointer (some ⟨w.heap.size,22,none⟩)) (fun w' hw'=>by go_simp) ?_
                          go_big_quiet_on
                          simp only[Act.put,List.setIfInBounds_toArray,List.set_cons_zero,List.set_cons_succ]
                          go_big_quiet_want
                          refine qAd (.slice (some ⟨g,off,none⟩) d.bs.n d.bs.c) (fun w' hw'=>by have r:w'.cell? ⟨w.heap.size,22,none⟩=some (.slice (some ⟨g,off,none⟩) d.bs.n d.bs.c):=(LS.out.later hw').cell 22;go_simp) ?_
                          go_big_quiet_on
                          simp only[Act.put,List.setIfInBounds_toArray,List.set_cons_zero,List.set_cons_succ]
                          go_big_quiet_want
                          refine qAd (.int .i64 ((j:Int))) (fun w' hw'=>by go_simp) ?_
                          go_big_quiet_on
                          simp only[Act.put,List.setIfInBounds_toArray,List.set_cons_zero,List.set_cons_succ]
                          go_big_quiet_want
                          refine qAd (.pointer (some ⟨g,off+j * 4,none⟩)) (fun w' hw'=>by go_simp) ?_
                          go_big_quiet_on
                          simp only[Act.put,List.setIfInBounds_toArray,List.set_cons_zero,List.set_cons_succ]
                          go_big_quiet_want
                          refine qAd (.pointer (some ⟨g,off+j * 4+1,none⟩)) (fun w' hw'=>by go_simp) ?_
                          go_big_quiet_on
                          simp only[Act.put,List.setIfInBounds_toArray,List.set_cons_zero,List.set_cons_succ]
                          go_big_quiet_want
                          refine qAd (.int .i64 b.n) (fun w' hw'=>by have r1:w'.cell? ⟨g,off+j * 4+1,none⟩=some (.int .i64 b.n):=(hw'.cell (p:=⟨g,off+j * 4+1,none⟩) HG.out).trans p1.out;go_simp) ?_
                          go_big_quiet_on
                          simp only[Act.put,List.setIfInBounds_toArray,List.set_cons_zero,List.set_cons_succ]
                          go_big_quiet_want
                          refine qAd (.pointer (some ⟨w.heap.size,20,none⟩)) (fun w' hw'=>by go_simp) ?_
                          go_big_quiet_on
                          simp only[Act.put,List.setIfInBounds_toArray,List.set_cons_zero,List.set_cons_succ]
                          go_big_quiet_want
                          refine qAd (.pointer (some ⟨w.heap.size,20,none⟩)) (fun w' hw'=>by go_simp) ?_
                          go_big_quiet_on
                          simp only[Act.put,List.setIfInBounds_toArray,List.set_cons_zero,List.set_cons_succ]
                          go_big_quiet_want
                          refine qAd (.int .i64 d.jid) (fun w' hw'=>by have r:w'.cell? ⟨w.heap.size,20,none⟩=some (.int .i64 d.jid):=(LS.out.later hw').cell 20;go_simp) ?_
                          go_big_quiet_on
                          simp only[Act.put,List.setIfInBounds_toArray,List.set_cons_zero,List.set_cons_succ]
                          go_big_quiet_want
                          refine qAd (.bool false) (fun w' hw'=>by go_simp) ?_
                          go_big_quiet_on
                          simp only[Act.put,List.setIfInBounds_toArray,List.set_cons_zero,List.set_cons_succ]
                          go_big_quiet_want
                          refine qAd (.bool false) (fun w' hw'=>by go_simp) ?_
                          go_big_quiet_on
                          simp only[Act.put,List.setIfInBounds_toArray,List.set_cons_zero,List.set_cons_succ]
                          refine wpQuiet_nil ?_
                          intro w9 h9
                          have B9:Hid (Below t16.heap.size t16 w9):=qAa hb.out h9
                          have AL:Hid (aokB d (d.bu.take (j+1))=true):=by
                            show _=_
                            have h1:=hal.out
                            unfold aokB at h1⊢
                            rw[List.take_succ_eq_append_getElem hlt2,List.all_append,h1,←HE.out]
                            simp only[List.all_cons,List.all_nil,KQ1.out,KQ2.out]
                            rfl
                          clear h9 kq1 kq2
                          go_wp2_with fail
                          go_roundw
                          case rel=>exact⟨j+1,by have h1:=HJN.out;have h2:=hlt2;omega,by go_num,AL,B9⟩
                          case measure=>(have h1:=HJN.out;have h2:=hlt2;simp[intOf];omega)
                    · skip
                      have e:R=true:=by
                        rw[HDM.out]
                        have h1:=hal.out
                        rwa [List.take_of_length_le (by have:=HJN.out;omega)]at h1
                      subst e
                      have hjn: ¬j<d.bs.n:=hlt
                      go_wp2_with fail
                      go_ret
                      exact⟨rfl,BWr.out⟩
          | true =>
            have c22:=LA.out.cell 22
            simp only[List.getElem?_cons_succ,List.getElem?_cons_zero]at c22
            obtain⟨R17,k17⟩: ∃R:Bool,((d.bs.n:Int)==0)=R:=⟨_,rfl⟩
            have K17:Hid (((d.bs.n:Int)==0)=R17):=k17
            cases R17 with
            | false =>
              have e:dmS d=false:=by
                unfold dmS idB moB jnB
                simp only[hdd.out,hor.out,K1.out,K2.out,K3.out,K12.out,K13.out,K17.out,bne_self_eq_false,Bool.false_and,Bool.true_and,Bool.and_false,Bool.and_true,Bool.not_true,Bool.not_false,Bool.or_true,Bool.true_or,Bool.or_false,Bool.false_or,cond_true,cond_false]
              rw[hR.out]at e
              clear hR
              subst e
              go_wp2_with fail
              go_ret
              exact⟨rfl,BW.out⟩
            | true =>
              have e:dmS d=true:=by
                unfold dmS idB moB jnB
                simp only[hdd.out,hor.out,K1.out,K2.out,K3.out,K12.out,K13.out,K17.out,bne_self_eq_false,Bool.false_and,Bool.true_and,Bool.and_false,Bool.and_true,Bool.not_true,Bool.not_false,Bool.or_true,Bool.true_or,Bool.or_false,Bool.false_or,cond_true,cond_false]
              rw[hR.out]at e
              clear hR
              subst e
              go_wp2_with fail
              go_ret
              exact⟨rfl,BW.out⟩
        | true =>
          have e:dmS d=false:=by
            unfold dmS idB moB jnB
            simp only[hdd.out,hor.out,K1.out,K2.out,K3.out,K12.out,bne_self_eq_false,Bool.false_and,Bool.true_and,Bool.and_false,Bool.and_true,Bool.not_true,Bool.not_false,Bool.or_true,Bool.true_or,Bool.or_false,Bool.false_or,cond_true,cond_false]
          rw[hR.out]at e
          clear hR
          subst e
          go_wp2_with fail
          go_ret
          exact⟨rfl,BW.out⟩
theorem qDg(d:Dm)(w:World)(hdd:Hid (d.dead=false))(hne:Hid ((d.old !=d.m.rid)=true))(h:Hid (DmR w d))(hs:Hid (DmS d)):Calls Tryz.prog 25 #[.agg #[.int .i64 d.id,.bool false,.int .i64 d.m.id,.int .i64 d.m.rid,.slice d.mv.ms.a d.mv.ms.n d.mv.ms.c,.slice d.mv.its.a d.mv.its.n d.mv.its.c,.slice d.mv.lv.a d.mv.lv.n d.mv.lv.c,.slice d.mv.tx.a d.mv.tx.n d.mv.tx.c,.int .i64 d.m.rd,.int .i64 d.m.se,.int .i64 d.m.li,.int .i64 d.m.he,.int .i64 d.m.la.c,.int .i64 d.m.la.r,.int .i64 d.m.la.q,.int .i64 d.m.la.a,.int .i64 d.m.la.b,.slice d.mv.ws.a d.mv.ws.n d.mv.ws.c,.int .i64 d.most,.int .i64 d.old,.int .i64 d.jid,.slice d.js.a d.js.n d.js.c,.slice d.bs.a d.bs.n d.bs.c,.slice d.ls.a d.ls.n d.ls.c]] w fun e w'=>e=.returned (.bool (dmS d))∧Below w.heap.size w w':=by
  obtain⟨R,hR0⟩: ∃R,dmS d=R:=⟨_,rfl⟩
  rw[hR0]
  have hR:Hid (dmS d=R):=hR0
  clear hR0
  have LA:Hid (Bx (w.alloc (.cells #[.int .i64 d.id,.bool false,.int .i64 d.m.id,.int .i64 d.m.rid,.slice d.mv.ms.a d.mv.ms.n d.mv.ms.c,.slice d.mv.its.a d.mv.its.n d.mv.its.c,.slice d.mv.lv.a d.mv.lv.n d.mv.lv.c,.slice d.mv.tx.a d.mv.tx.n d.mv.tx.c,.int .i64 d.m.rd,.int .i64 d.m.se,.int .i64 d.m.li,.int .i64 d.m.he,.int .i64 d.m.la.c,.int .i64 d.m.la.r,.int .i64 d.m.la.q,.int .i64 d.m.la.a,.int .i64 d.m.la.b,.slice d.mv.ws.a d.mv.ws.n d.mv.ws.c,.int .i64 d.most,.int .i64 d.old,.int .i64 d.jid,.slice d.js.a d.js.n d.js.c,.slice d.bs.a d.bs.n d.bs.c,.slice d.ls.a d.ls.n d.ls.c] 45)) w.heap.size 45 [.int .i64 d.id,.bool false,.int .i64 d.m.id,.int .i64 d.m.rid,.slice d.mv.ms.a d.mv.ms.n d.mv.ms.c,.slice d.mv.its.a d.mv.its.n d.mv.its.c,.slice d.mv.lv.a d.mv.lv.n d.mv.lv.c,.slice d.mv.tx.a d.mv.tx.n d.mv.tx.c,.int .i64 d.m.rd,.int .i64 d.m.se,.int .i64 d.m.li,.int .i64 d.m.he,.int .i64 d.m.la.c,.int .i64 d.m.la.r,.int .i64 d.m.la.q,.int .i64 d.m.la.a,.int .i64 d.m.la.b,.slice d.mv.ws.a d.mv.ws.n d.mv.ws.c,.int .i64 d.most,.int .i64 d.old,.int .i64 d.jid,.slice d.js.a d.js.n d.js.c,.slice d.bs.a d.bs.n d.bs.c,.slice d.ls.a d.ls.n d.ls.c]):=by
    have h:=Bx.new w 45 [.int .i64 d.id,.bool false,.int .i64 d.m.id,.int .i64 d.m.rid,.slice d.mv.ms.a d.mv.ms.n d.mv.ms.c,.slice d.mv.its.a d.mv.its.n d.mv.its.c,.slice d.mv.lv.a d.mv.lv.n d.mv.lv.c,.slice d.mv.tx.a d.mv.tx.n d.mv.tx.c,.int .i64 d.m.rd,.int .i64 d.m.se,.int .i64 d.m.li,.int .i64 d.m.he,.int .i64 d.m.la.c,.int .i64 d.m.la.r,.int .i64 d.m.la.q,.int .i64 d.m.la.a,.int .i64 d.m.la.b,.slice d.mv.ws.a d.mv.ws.n d.mv.ws.c,.int .i64 d.most,.int .i64 d.old,.int .i64 d.jid,.slice d.js.a d.js.n d.js.c,.slice d.bs.a d.bs.n d.bs.c,.slice d.ls.a d.ls.n d.ls.c]
    exact h
  have BW:Hid (Below w.heap.size w (w.alloc (.cells #[.int .i64 d.id,.bool false,.int .i64 d.m.id,.int .i64 d.m.rid,.slice d.mv.ms.a d.mv.ms.n d.mv.ms.c,.slice d.mv.its.a d.mv.its.n d.mv.its.c,.slice d.mv.lv.a d.mv.lv.n d.mv.lv.c,.slice d.mv.tx.a d.mv.tx.n d.mv.tx.c,.int .i64 d.m.rd,.int .i64 d.m.se,.int .i64 d.m.li,.int .i64 d.m.he,.int .i64 d.m.la.c,.int .i64 d.m.la.r,.int .i64 d.m.la.q,.int .i64 d.m.la.a,.int .i64 d.m.la.b,.slice d.mv.ws.a d.mv.ws.n d.mv.ws.c,.int .i64 d.most,.int .i64 d.old,.int .i64 d.jid,.slice d.js.a d.js.n d.js.c,.slice d.bs.a d.bs.n d.bs.c,.slice d.ls.a d.ls.n d.ls.c] 45))):=((Below.refl _ _).alloc (by simp) _)
  have HR:Hid (DmR (w.alloc (.cells #[.int .i64 d.id,.bool false,.int .i64 d.m.id,.int .i64 d.m.rid,.slice d.mv.ms.a d.mv.ms.n d.mv.ms.c,.slice d.mv.its.a d.mv.its.n d.mv.its.c,.slice d.mv.lv.a d.mv.lv.n d.mv.lv.c,.slice d.mv.tx.a d.mv.tx.n d.mv.tx.c,.int .i64 d.m.rd,.int .i64 d.m.se,.int .i64 d.m.li,.int .i64 d.m.he,.int .i64 d.m.la.c,.int .i64 d.m.la.r,.int .i64 d.m.la.q,.int .i64 d.m.la.a,.int .i64 d.m.la.b,.slice d.mv.ws.a d.mv.ws.n d.mv.ws.c,.int .i64 d.most,.int .i64 d.old,.int .i64 d.jid,.slice d.js.a d.js.n d.js.c,.slice d.bs.a d.bs.n d.bs.c,.slice d.ls.a d.ls.n d.ls.c] 45)) d):=h.out.stays BW.out
  have HW:Hid (d.mv.ws.n=d.m.la.ws.length):=h.out.mt.ws.len
  have HJN:Hid (d.bs.n=d.bu.length):=h.out.bu.1
  clear h
  go_enter Tryz.func25,Tryz.ntmps25
  have c0:=LA.out.cell 0
  simp only[List.getElem?_cons_succ,List.getElem?_cons_zero]at c0
  go_wp2_with fail
  refine(in_b d.id 1 5 _).mono ?_
  rintro e t1 ⟨rfl,b⟩
  have LA:Hid (Bx t1 w.heap.size 45 [.int .i64 d.id,.bool false,.int .i64 d.m.id,.int .i64 d.m.rid,.slice d.mv.ms.a d.mv.ms.n d.mv.ms.c,.slice d.mv.its.a d.mv.its.n d.mv.its.c,.slice d.mv.lv.a d.mv.lv.n d.mv.lv.c,.slice d.mv.tx.a d.mv.tx.n d.mv.tx.c,.int .i64 d.m.rd,.int .i64 d.m.se,.int .i64 d.m.li,.int .i64 d.m.he,.int .i64 d.m.la.c,.int .i64 d.m.la.r,.int .i64 d.m.la.q,.int .i64 d.m.la.a,.int .i64 d.m.la.b,.slice d.mv.ws.a d.mv.ws.n d.mv.ws.c,.int .i64 d.most,.int .i64 d.old,.int .i64 d.jid,.slice d.js.a d.js.n d.js.c,.slice d.bs.a d.bs.n d.bs.c,.slice d.ls.a d.ls.n d.ls.c]):=LA.out.later b
  have BW:Hid (Below w.heap.size w t1):=qAa BW.out b
  have HR:Hid (DmR t1 d):=HR.out.stays b
  clear b
  obtain⟨R1,k1⟩: ∃R:Bool,(decide (1≤d.id∧d.id≤5))=R:=⟨_,rfl⟩
  rw[k1]
  have K1:Hid ((decide (1≤d.id∧d.id≤5))=R1):=k1
  clear k1
  cases R1 with
  | false =>
    have e:dmS d=false:=by
      unfold dmS idB moB jnB
      simp only[hdd.out,hne.out,K1.out,bne_self_eq_false,Bool.false_and,Bool.true_and,Bool.and_false,Bool.and_true,Bool.not_true,Bool.not_false,Bool.or_true,Bool.true_or,Bool.or_false,Bool.false_or,cond_true,cond_false]
    rw[hR.out]at e
    clear hR
    subst e
    go_wp2_with fail
    go_ret
    exact⟨rfl,BW.out⟩
  | true =>
    have c18:=LA.out.cell 18
    simp only[List.getElem?_cons_succ,List.getElem?_cons_zero]at c18
    go_wp2_with fail
    refine(in_b d.most 0 9 _).mono ?_
    rintro e t2 ⟨rfl,b⟩
    have LA:Hid (Bx t2 w.heap.size 45 [.int .i64 d.id,.bool false,.int .i64 d.m.id,.int .i64 d.m.rid,.slice d.mv.ms.a d.mv.ms.n d.mv.ms.c,.slice d.mv.its.a d.mv.its.n d.mv.its.c,.slice d.mv.lv.a d.mv.lv.n d.mv.lv.c,.slice d.mv.tx.a d.mv.tx.n d.mv.tx.c,.int .i64 d.m.rd,.int .i64 d.m.se,.int .i64 d.m.li,.int .i64 d.m.he,.int .i64 d.m.la.c,.int .i64 d.m.la.r,.int .i64 d.m.la.q,.int .i64 d.m.la.a,.int .i64 d.m.la.b,.slice d.mv.ws.a d.mv.ws.n d.mv.ws.c,.int .i64 d.most,.int .i64 d.old,.int .i64 d.jid,.slice d.js.a d.js.n d.js.c,.slice d.bs.a d.bs.n d.bs.c,.slice d.ls.a d.ls.n d.ls.c]):=LA.out.later b
    have BW:Hid (Below w.heap.size w t2):=qAa BW.out b
    have HR:Hid (DmR t2 d):=HR.out.stays b
    clear b
    obtain⟨R2,k2⟩: ∃R:Bool,(decide (0≤d.most∧d.most≤9))=R:=⟨_,rfl⟩
    rw[k2]
    have K2:Hid ((decide (0≤d.most∧d.most≤9))=R2):=k2
    clear k2
    cases R2 with
    | false =>
      have e:dmS d=false:=by
        unfold dmS idB moB jnB
        simp only[hdd.out,hne.out,K1.out,K2.out,bne_self_eq_false,Bool.false_and,Bool.true_and,Bool.and_false,Bool.and_true,Bool.not_true,Bool.not_false,Bool.or_true,Bool.true_or,Bool.or_false,Bool.false_or,cond_true,cond_false]
      rw[hR.out]at e
      clear hR
      subst e
      go_wp2_with fail
      go_ret
      exact⟨rfl,BW.out⟩
    | true =>
      have c1:=LA.out.cell 1
      simp only[List.getElem?_cons_succ,List.getElem?_cons_zero]at c1
      go_wp2_with (first|(with_reducible refine qAh 41 _ rfl ?_))
      refine Stp.go ?_
      refine qAb rfl 41 _ rfl w.heap.size 2 rfl 45 _ LA.out [.int .i64 d.m.id,.int .i64 d.m.rid,.slice d.mv.ms.a d.mv.ms.n d.mv.ms.c,.slice d.mv.its.a d.mv.its.n d.mv.its.c,.slice d.mv.lv.a d.mv.lv.n d.mv.lv.c,.slice d.mv.tx.a d.mv.tx.n d.mv.tx.c,.int .i64 d.m.rd,.int .i64 d.m.se,.int .i64 d.m.li,.int .i64 d.m.he,.int .i64 d.m.la.c,.int .i64 d.m.la.r,.int .i64 d.m.la.q,.int .i64 d.m.la.a,.int .i64 d.m.la.b,.slice d.mv.ws.a d.mv.ws.n d.mv.ws.c] rfl _ Tryz.underlying41 rfl Tryz.sizeM ?_
      go_wp2_with fail
      refine(qDa d.m d.mv _ HW.out).mono ?_
      rintro e t3 ⟨rfl,b⟩
      have LA:Hid (Bx t3 w.heap.size 45 [.int .i64 d.id,.bool false,.int .i64 d.m.id,.int .i64 d.m.rid,.slice d.mv.ms.a d.mv.ms.n d.mv.ms.c,.slice d.mv.its.a d.mv.its.n d.mv.its.c,.slice d.mv.lv.a d.mv.lv.n d.mv.lv.c,.slice d.mv.tx.a d.mv.tx.n d.mv.tx.c,.int .i64 d.m.rd,.int .i64 d.m.se,.int .i64 d.m.li,.int .i64 d.m.he,.int .i64 d.m.la.c,.int .i64 d.m.la.r,.int .i64 d.m.la.q,.int .i64 d.m.la.a,.int .i64 d.m.la.b,.slice d.mv.ws.a d.mv.ws.n d.mv.ws.c,.int .i64 d.most,.int .i64 d.old,.int .i64 d.jid,.slice d.js.a d.js.n d.js.c,.slice d.bs.a d.bs.n d.bs.c,.slice d.ls.a d.ls.n d.ls.c]):=LA.out.later b
      have BW:Hid (Below w.heap.size w t3):=qAa BW.out b
      have HR:Hid (DmR t3 d):=HR.out.stays b
      clear b
      obtain⟨R3,k3⟩: ∃R:Bool,(nmS d.m d.mv)=R:=⟨_,rfl⟩
      rw[k3]
      have K3:Hid ((nmS d.m d.mv)=R3):=k3
      clear k3
      cases R3 with
      | false =>
        go_wp2_with (first|(with_reducible refine qAh 41 _ rfl ?_))
        refine Stp.go ?_
        refine qAb rfl 41 _ rfl w.heap.size 2 rfl 45 _ LA.out [.int .i64 d.m.id,.int .i64 d.m.rid,.slice d.mv.ms.a d.mv.ms.n d.mv.ms.c,.slice d.mv.its.a d.mv.its.n d.mv.its.c,.slice d.mv.lv.a d.mv.lv.n d.mv.lv.c,.slice d.mv.tx.a d.mv.tx.n d.mv.tx.c,.int .i64 d.m.rd,.int .i64 d.m.se,.int .i64 d.m.li,.int .i64 d.m.he,.int .i64 d.m.la.c,.int .i64 d.m.la.r,.int .i64 d.m.la.q,.int .i64 d.m.la.a,.int .i64 d.m.la.b,.slice d.mv.ws.a d.mv.ws.n d.mv.ws.c] rfl _ Tryz.underlying41 rfl Tryz.sizeM ?_
        go_wp2_with fail
        refine(qEc d.m d.mv _ HR.out.mt hs.out.mt).mono ?_
        rintro e t4 ⟨rfl,b⟩
        have LA:Hid (Bx t4 w.heap.size 45 [.int .i64 d.id,.bool false,.int .i64 d.m.id,.int .i64 d.m.rid,.slice d.mv.ms.a d.mv.ms.n d.mv.ms.c,.slice d.mv.its.a d.mv.its.n d.mv.its.c,.slice d.mv.lv.a d.mv.lv.n d.mv.lv.c,.slice d.mv.tx.a d.mv.tx.n d.mv.tx.c,.int .i64 d.m.rd,.int .i64 d.m.se,.int .i64 d.m.li,.int .i64 d.m.he,.int .i64 d.m.la.c,.int .i64 d.m.la.r,.int .i64 d.m.la.q,.int .i64 d.m.la.a,.int .i64 d.m.la.b,.slice d.mv.ws.a d.mv.ws.n d.mv.ws.c,.int .i64 d.most,.int .i64 d.old,.int .i64 d.jid,.slice d.js.a d.js.n d.js.c,.slice d.bs.a d.bs.n d.bs.c,.slice d.ls.a d.ls.n d.ls.c]):=LA.out.later b
        have BW:Hid (Below w.heap.size w t4):=qAa BW.out b
        have HR:Hid (DmR t4 d):=HR.out.stays b
        clear b
        obtain⟨R4,k4⟩: ∃R:Bool,(d.m.ok)=R:=⟨_,rfl⟩
        rw[k4]
        have K4:Hid ((d.m.ok)=R4):=k4
        clear k4
        cases R4 with
        | false =>
          have e:dmS d=false:=by
            unfold dmS idB moB jnB
            simp only[hdd.out,hne.out,K1.out,K2.out,K3.out,K4.out,bne_self_eq_false,Bool.false_and,Bool.true_and,Bool.and_false,Bool.and_true,Bool.not_true,Bool.not_false,Bool.or_true,Bool.true_or,Bool.or_false,Bool.false_or,cond_true,cond_false]
          rw[hR.out]at e
          clear hR
          subst e
          go_wp2_with fail
          go_ret
          exact⟨rfl,BW.out⟩
        | true =>
          have c2:=LA.out.cell 2
          have c0:=LA.out.cell 0
          simp only[List.getElem?_cons_succ,List.getElem?_cons_zero]at c2 c0
          obtain⟨R5,k5⟩: ∃R:Bool,(d.m.id !=d.id)=R:=⟨_,rfl⟩
          have K5:Hid ((d.m.id !=d.id)=R5):=k5
          cases R5 with
          | false =>
            have c19:=LA.out.cell 19
            have c3:=LA.out.cell 3
            have c18:=LA.out.cell 18
            simp only[List.getElem?_cons_succ,List.getElem?_cons_zero]at c19 c3 c18
            have kne:=hne.out
            have e:dmS d=false:=by
              unfold dmS idB moB jnB
              simp only[hdd.out,hne.out,K1.out,K2.out,K3.out,K4.out,K5.out,bne_self_eq_false,Bool.false_and,Bool.true_and,Bool.and_false,Bool.and_true,Bool.not_true,Bool.not_false,Bool.or_true,Bool.true_or,Bool.or_false,Bool.false_or,cond_true,cond_false]
            rw[hR.out]at e
            clear hR
            subst e
            go_wp2_with fail
            go_ret
            exact⟨rfl,BW.out⟩
          | true =>
            have e:dmS d=false:=by
              unfold dmS idB moB jnB
              simp only[hdd.out,hne.out,K1.out,K2.out,K3.out,K4.out,K5.out,bne_self_eq_false,Bool.false_and,Bool.true_and,Bool.and_false,Bool.and_true,Bool.not_true,Bool.not_false,Bool.or_true,Bool.true_or,Bool.or_false,Bool.false_or,cond_true,cond_false]
            rw[hR.out]at e
            clear hR
            subst e
            go_wp2_with fail
            go_ret
            exact⟨rfl,BW.out⟩
      | true =>
        have c19:=LA.out.cell 19
        have c3:=LA.out.cell 3
        have c18:=LA.out.cell 18
        simp only[List.getElem?_cons_succ,List.getElem?_cons_zero]at c19 c3 c18
        have kne:=hne.out
        have e:dmS d=false:=by
          unfold dmS idB moB jnB
          simp only[hdd.out,hne.out,K1.out,K2.out,K3.out,bne_self_eq_false,Bool.false_and,Bool.true_and,Bool.and_false,Bool.and_true,Bool.not_true,Bool.not_false,Bool.or_true,Bool.true_or,Bool.or_false,Bool.false_or,cond_true,cond_false]
        rw[hR.out]at e
        clear hR
        subst e
        go_wp2_with fail
        go_ret
        exact⟨rfl,BW.out⟩
theorem ks_aok(d:Dm)(hb:d.bs.n=d.bu.length):ksB d=aokB d d.bu:=by
  unfold ksB aokB
  rw[hb]
  have e: ∀l:List Bu,(((l.filter (myB d)).length:Int)==(l.length:Int))=l.all fun b=>bunB b.f b.n b.o b.ts&& !(b.n !=d.jid):=by
    intro l
    have hm:(fun b:Bu=>bunB b.f b.n b.o b.ts&& !(b.n !=d.jid))=myB d:=funext fun b=>by unfold myB;simp[bne]
    rw[hm,Bool.eq_iff_iff]
    simp only[beq_iff_eq,List.all_eq_true]
    rw[Int.ofNat_inj]
    exact List.length_filter_eq_length_iff
  exact e d.bu
theorem dm_same(d:Dm)(hb:d.bs.n=d.bu.length):dmI d=dmS d:=by
  have hk:=ks_aok d hb
  have h1:nmS d.m d.mv=true→d.m.rid=0:=nm_rid
  have h2:d.m.ok=true→1≤d.m.rid∧d.m.rid≤9:=ok_rid
  unfold dmI dmS dmM dmJ mbB idB moB olB
  rw[hk]
  generalize nmS d.m d.mv=N at *
  generalize d.m.ok=O at *
  generalize nrB d.jid d.js.n=J at *
  generalize aokB d d.bu=K at *
  generalize qBc d.jid d.jms=G at *
  generalize inB d.jms d.id=I at *
  generalize jnB d=Y at *
  generalize ((d.bs.n:Int)==0)=Z at *
  generalize d.m.rid=r at *
  cases d.dead<;>cases N<;>cases O<;>cases J<;>cases K<;>cases G<;>cases I<;>cases Y<;>cases Z<;>simp at h1 h2⊢ <;>(try(rw[Bool.eq_iff_iff];simp))<;>(try omega)
theorem RI.n{w:World}{s:Sv}{xs:List Int}(h:RI w s.v xs):s.n=xs.length:=by obtain⟨a,c,h1,_⟩:=h;simp[Sv.v]at h1;exact h1.2.1
theorem RT.n{w:World}{s:Sv}{xs:List ByteArray}(h:RT w s.v xs):s.n=xs.length:=by obtain⟨a,c,h1,_⟩:=h;simp[Sv.v]at h1;exact h1.2.1
theorem RIt.n{w:World}{s:Sv}{xs:List It}(h:RIt w s.v xs):s.n=xs.length:=by obtain⟨a,c,h1,_⟩:=h;simp[Sv.v]at h1;exact h1.2.1
theorem aok_pl{a b:Dm}(hj:a.jid=b.jid)(h:a.bu.map Bu.pl=b.bu.map Bu.pl):aokB a a.bu=aokB b b.bu:=by
  have e: ∀(d:Dm),aokB d d.bu=(d.bu.map Bu.pl).all fun p=>bunB p.1 p.2.1 p.2.2.1 p.2.2.2&& !(p.2.1 !=d.jid):=fun d=>by unfold aokB;rw[List.all_map];rfl
  rw[e,e,h,hj]
theorem dmS_same{w w':World}{a b:Dm}(ha:DmR w a)(hb:DmR w' b)(s:a.Same b):dmS a=dmS b:=by
  have e1:a.js.n=b.js.n:=by rw[ha.jo.n,hb.jo.n,s.jms]
  have e2:a.bs.n=b.bs.n:=by rw[ha.bu.1,hb.bu.1];have:=congrArg List.length s.bu;simpa using this
  have e3:nmS a.m a.mv=nmS b.m b.mv:=by unfold nmS;rw[ha.mt.ms.n,hb.mt.ms.n,ha.mt.its.n,hb.mt.its.n,ha.mt.lv.n,hb.mt.lv.n,ha.mt.tx.n,hb.mt.tx.n,s.m]
  have e4:=aok_pl s.jid s.bu
  unfold dmS idB moB jnB
  rw[e1,e2,e3,e4,s.id,s.dead,s.m,s.most,s.old,s.jid,s.jms]
theorem daemonOk_any(d:Dm)(w:World)(h:Hid (DmR w d))(hs:Hid (DmS d)):Calls Tryz.prog 37 #[.agg #[.int .i64 d.id,.bool d.dead,.int .i64 d.m.id,.int .i64 d.m.rid,.slice d.mv.ms.a d.mv.ms.n d.mv.ms.c,.slice d.mv.its.a d.mv.its.n d.mv.its.c,.slice d.mv.lv.a d.mv.lv.n d.mv.lv.c,.slice d.mv.tx.a d.mv.tx.n d.mv.tx.c,.int .i64 d.m.rd,.int .i64 d.m.se,.int .i64 d.m.li,.int .i64 d.m.he,.int .i64 d.m.la.c,.int .i64 d.m.la.r,.int .i64 d.m.la.q,.int .i64 d.m.la.a,.int .i64 d.m.la.b,.slice d.mv.ws.a d.mv.ws.n d.mv.ws.c,.int .i64 d.most,.int .i64 d.old,.int .i64 d.jid,.slice d.js.a d.js.n d.js.c,.slice d.bs.a d.bs.n d.bs.c,.slice d.ls.a d.ls.n d.ls.c]] w fun e w'=>e=.returned (.bool (dmS d))∧Below w.heap.size w w':=by
  have e:=dm_same d h.out.bu.1
  rw[←e]
  cases hd:d.dead with
  |true=>exact qGx d w hd h hs
  |false=>exact qFt d w hd h hs
theorem qFk(d:Dm)(w:World)(h:Hid (DmR w d))(hs:Hid (DmS d)):Calls Tryz.prog 25 #[.agg #[.int .i64 d.id,.bool d.dead,.int .i64 d.m.id,.int .i64 d.m.rid,.slice d.mv.ms.a d.mv.ms.n d.mv.ms.c,.slice d.mv.its.a d.mv.its.n d.mv.its.c,.slice d.mv.lv.a d.mv.lv.n d.mv.lv.c,.slice d.mv.tx.a d.mv.tx.n d.mv.tx.c,.int .i64 d.m.rd,.int .i64 d.m.se,.int .i64 d.m.li,.int .i64 d.m.he,.int .i64 d.m.la.c,.int .i64 d.m.la.r,.int .i64 d.m.la.q,.int .i64 d.m.la.a,.int .i64 d.m.la.b,.slice d.mv.ws.a d.mv.ws.n d.mv.ws.c,.int .i64 d.most,.int .i64 d.old,.int .i64 d.jid,.slice d.js.a d.js.n d.js.c,.slice d.bs.a d.bs.n d.bs.c,.slice d.ls.a d.ls.n d.ls.c]] w fun e w'=>e=.returned (.bool (dmS d))∧Below w.heap.size w w':=by
  cases hd:d.dead with
  |true=>exact qEx d w hd h hs
  | false =>
    by_cases ho:d.old=d.m.rid
    · have k := qDh d w hd ho h hs
      rw[ho]
      exact k
    · exact qDg d w hd (show(d.old !=d.m.rid)=true by simpa using ho) h hs
/-- append([]int{}, xs...), right behind the making of the empty list: as a call that gives a list of its own. -/
theorem qCe{P:Program}{w:World}{ops:Array Oper}{rest:List Oper}{o:Oper}{a:Act}{Q:Exit→Act→World→Prop}
    (hgd:o.guard=none) (s x:Operand) (t:TypeId) (ho:o.op=.call {callee:=.builtin .append,args:=#[s,x],argTypes:=#[t,t]})
    (ht:P.underlying t=some (.slice 3)) (hinfo:(P.info? 3).map (fun i=>(i.zero,i.size,i.bytes))=some (some (.int .i64 0),1,8))
    (hs:a.eval s=.slice (some ⟨w.heap.size,0,none⟩) 0 0) (u:Sv) (ys:List Int) (hx:a.eval x=.slice u.a u.n u.c) (hu:RI w u.v ys) (hn:ys.length≤1048576)
    (h: ∀(v:Sv) w',OwnI w' w.heap.size v.v ys→Below w.heap.size w w'→wpList P ops Q rest (a.put o.dst (.slice v.a v.n v.c)) w'):
    wpList P ops Q (o::rest) a (w.alloc (.cells #[] 3)):=by
  have b:Below w.heap.size w (w.alloc (.cells #[] 3)):=(Below.refl _ _).alloc (Nat.le_refl _) _
  have o1:OwnI (w.alloc (.cells #[] 3)) w.heap.size (.slice (some ⟨w.heap.size,0,none⟩) 0 0) []:=OwnI.made w w.heap.size (Nat.le_refl _)
  refine qBn hgd s x t ho ht hinfo w.heap.size _ [] hs o1 (.slice u.a u.n u.c) ys hx (hu.stays b) (by simp;omega) b.size (fun h=>by cases h) ?_
  intro v' w' h1 h2
  rw[List.nil_append]at h1
  obtain⟨v,rfl⟩:=h1.sv
  exact h v w' h1 (b.grown h2 b.size (fun k hk=>(o1.lt k hk).1))
theorem qHa(e:Ev)(w:World)(h:Hid (e.R w))(hs:Hid e.S):
    Calls Tryz.prog 87 #[.agg #[.int .i64 e.k,.int .i64 e.rid,.slice e.sm.a e.sm.n e.sm.c,.int .i64 e.q,.int .i64 e.f,.int .i64 e.l,.string e.t,.slice e.sw.a e.sw.n e.sw.c]] w fun x w'=>∃u1 u2:Sv,x=.returned (.agg #[.int .i64 e.k,.int .i64 e.rid,.slice u1.a u1.n u1.c,.int .i64 e.q,.int .i64 e.f,.int .i64 e.l,.string e.t,.slice u2.a u2.n u2.c])∧OwnI w' w.heap.size u1.v e.ms∧OwnI w' w.heap.size u2.v e.wi∧(∀a c,u1.v.ownBlock=some a→u2.v.ownBlock=some c→a<c)∧Below w.heap.size w w':=by
  have hn1:(w.alloc (.cells #[.int .i64 e.k,.int .i64 e.rid,.slice e.sm.a e.sm.n e.sm.c,.int .i64 e.q,.int .i64 e.f,.int .i64 e.l,.string e.t,.slice e.sw.a e.sw.n e.sw.c] 110)).heap.size=w.heap.size+1:=by simp
  have LA:Hid (Bx ((w.alloc (.cells #[.int .i64 e.k,.int .i64 e.rid,.slice e.sm.a e.sm.n e.sm.c,.int .i64 e.q,.int .i64 e.f,.int .i64 e.l,.string e.t,.slice e.sw.a e.sw.n e.sw.c] 110)).alloc (.cells #[.int .i64 0,.int .i64 0,.slice none 0 0,.int .i64 0,.int .i64 0,.int .i64 0,.string ⟨#[]⟩,.slice none 0 0] 110)) w.heap.size 110 [.int .i64 e.k,.int .i64 e.rid,.slice e.sm.a e.sm.n e.sm.c,.int .i64 e.q,.int .i64 e.f,.int .i64 e.l,.string e.t,.slice e.sw.a e.sw.n e.sw.c]):=by
    have h:=Bx.new w 110 [.int .i64 e.k,.int .i64 e.rid,.slice e.sm.a e.sm.n e.sm.c,.int .i64 e.q,.int .i64 e.f,.int .i64 e.l,.string e.t,.slice e.sw.a e.sw.n e.sw.c]
    exact(h).later ((Below.refl _ _).alloc (Nat.le_refl _) _)
  have EB:Hid (Bx ((w.alloc (.cells #[.int .i64 e.k,.int .i64 e.rid,.slice e.sm.a e.sm.n e.sm.c,.int .i64 e.q,.int .i64 e.f,.int .i64 e.l,.string e.t,.slice e.sw.a e.sw.n e.sw.c] 110)).alloc (.cells #[.int .i64 0,.int .i64 0,.slice none 0 0,.int .i64 0,.int .i64 0,.int .i64 0,.string ⟨#[]⟩,.slice none 0 0] 110)) (w.heap.size+1) 110 [.int .i64 0,.int .i64 0,.slice none 0 0,.int .i64 0,.int .i64 0,.int .i64 0,.string ⟨#[]⟩,.slice none 0 0]):=by
    have h:=Bx.new (w.alloc (.cells #[.int .i64 e.k,.int .i64 e.rid,.slice e.sm.a e.sm.n e.sm.c,.int .i64 e.q,.int .i64 e.f,.int .i64 e.l,.string e.t,.slice e.sw.a e.sw.n e.sw.c] 110)) 110 [.int .i64 0,.int .i64 0,.slice none 0 0,.int .i64 0,.int .i64 0,.int .i64 0,.string ⟨#[]⟩,.slice none 0 0]
    rw[hn1]at h
    exact h
  have BW:Hid (Below w.heap.size w ((w.alloc (.cells #[.int .i64 e.k,.int .i64 e.rid,.slice e.sm.a e.sm.n e.sm.c,.int .i64 e.q,.int .i64 e.f,.int .i64 e.l,.string e.t,.slice e.sw.a e.sw.n e.sw.c] 110)).alloc (.cells #[.int .i64 0,.int .i64 0,.slice none 0 0,.int .i64 0,.int .i64 0,.int .i64 0,.string ⟨#[]⟩,.slice none 0 0] 110))):=(((Below.refl _ _).alloc (by simp) _).alloc (by simp;try omega) _)
  clear hn1
  have HR1:Hid (RI ((w.alloc (.cells #[.int .i64 e.k,.int .i64 e.rid,.slice e.sm.a e.sm.n e.sm.c,.int .i64 e.q,.int .i64 e.f,.int .i64 e.l,.string e.t,.slice e.sw.a e.sw.n e.sw.c] 110)).alloc (.cells #[.int .i64 0,.int .i64 0,.slice none 0 0,.int .i64 0,.int .i64 0,.int .i64 0,.string ⟨#[]⟩,.slice none 0 0] 110)) e.sm.v e.ms):=h.out.1.stays BW.out
  go_enter Tryz.func87,Tryz.ntmps87
  go_wp2_with (first|(refine qAb rfl 37 _ rfl w.heap.size 1 rfl 110 _ LA.out [.int .i64 e.rid,.slice e.sm.a e.sm.n e.sm.c] rfl _ Tryz.underlying37 rfl Tryz.sizeR ?_))
  generalize ((w.alloc (.cells #[.int .i64 e.k,.int .i64 e.rid,.slice e.sm.a e.sm.n e.sm.c,.int .i64 e.q,.int .i64 e.f,.int .i64 e.l,.string e.t,.slice e.sw.a e.sw.n e.sw.c] 110)).alloc (.cells #[.int .i64 0,.int .i64 0,.slice none 0 0,.int .i64 0,.int .i64 0,.int .i64 0,.string ⟨#[]⟩,.slice none 0 0] 110))=W at *
  have zW:w.heap.size+1<W.heap.size:=EB.out.lt
  refine(qDy e.rid e.sm e.ms _ HR1 hs.out.1).mono ?_
  rintro e w1 ⟨u1,rfl,o1,b⟩
  have O1:Hid (OwnI w1 W.heap.size u1.v e.ms):=o1
  have L1:Hid (∀a,u1.v.ownBlock=some a→a<w1.heap.size):=fun a ha=>(o1.lt a ha).2
  clear o1 HR1
  have z_w1:W.heap.size≤w1.heap.size:=b.size
  have LA:Hid (Bx w1 w.heap.size 110 [.int .i64 e.k,.int .i64 e.rid,.slice e.sm.a e.sm.n e.sm.c,.int .i64 e.q,.int .i64 e.f,.int .i64 e.l,.string e.t,.slice e.sw.a e.sw.n e.sw.c]):=LA.out.later b
  have EB:Hid (Bx w1 (w.heap.size+1) 110 [.int .i64 0,.int .i64 0,.slice none 0 0,.int .i64 0,.int .i64 0,.int .i64 0,.string ⟨#[]⟩,.slice none 0 0]):=EB.out.later b
  have BW:Hid (Below w.heap.size w w1):=qAa BW.out b
  clear b
  go_wp2_with (first|(with_reducible refine qAc 37 _ _ rfl ?_))
  refine Stp.go ?_
  refine qAf rfl 37 _ _ rfl w.heap.size 1 rfl 110 _ LA.out [.int .i64 e.rid,.slice u1.a u1.n u1.c] rfl (by simp) Tryz.sizeR rfl [.int .i64 e.k,.int .i64 e.rid,.slice u1.a u1.n u1.c,.int .i64 e.q,.int .i64 e.f,.int .i64 e.l,.string e.t,.slice e.sw.a e.sw.n e.sw.c] rfl ?_
  intro w2 OB TB
  have z_w2:w1.heap.size≤w2.heap.size:=Nat.le_of_eq TB.size.symm
  have EB:Hid (Bx w2 (w.heap.size+1) 110 [.int .i64 0,.int .i64 0,.slice none 0 0,.int .i64 0,.int .i64 0,.int .i64 0,.string ⟨#[]⟩,.slice none 0 0]):=EB.out.turn TB (by omega)
  have BW:Hid (Below w.heap.size w w2):=BW.out.trans (TB.below (by omega))
  have O1:Hid (OwnI w2 W.heap.size u1.v e.ms):=O1.out.keep fun b hb _=>TB.block b (by have:=(O1.out.lt b hb).1;omega)
  have LA:Hid (Bx w2 w.heap.size 110 [.int .i64 e.k,.int .i64 e.rid,.slice u1.a u1.n u1.c,.int .i64 e.q,.int .i64 e.f,.int .i64 e.l,.string e.t,.slice e.sw.a e.sw.n e.sw.c]):=OB
  clear OB TB
  go_wp2_with (first|(refine qAb rfl 108 _ rfl w.heap.size 3 rfl 110 _ LA.out [.int .i64 e.q,.int .i64 e.f,.int .i64 e.l,.string e.t] rfl _ Tryz.underlying108 rfl Tryz.sizeI ?_))
  refine(qEj e.q e.f e.l e.t _ hs.out.2.2).mono ?_
  rintro e w3 ⟨rfl,b⟩
  have z_w3:w2.heap.size≤w3.heap.size:=b.size
  have LA:Hid (Bx w3 w.heap.size 110 [.int .i64 e.k,.int .i64 e.rid,.slice u1.a u1.n u1.c,.int .i64 e.q,.int .i64 e.f,.int .i64 e.l,.string e.t,.slice e.sw.a e.sw.n e.sw.c]):=LA.out.later b
  have EB:Hid (Bx w3 (w.heap.size+1) 110 [.int .i64 0,.int .i64 0,.slice none 0 0,.int .i64 0,.int .i64 0,.int .i64 0,.string ⟨#[]⟩,.slice none 0 0]):=EB.out.later b
  have BW:Hid (Below w.heap.size w w3):=qAa BW.out b
  have O1:Hid (OwnI w3 W.heap.size u1.v e.ms):=O1.out.keep fun _ _ hk=>(b).block _ hk
  clear b
  go_wp2_with (first|(with_reducible refine qAc 108 _ _ rfl ?_))
  refine Stp.go ?_
  refine qAf rfl 108 _ _ rfl w.heap.size 3 rfl 110 _ LA.out [.int .i64 e.q,.int .i64 e.f,.int .i64 e.l,.string e.t] rfl (by simp) Tryz.sizeI rfl [.int .i64 e.k,.int .i64 e.rid,.slice u1.a u1.n u1.c,.int .i64 e.q,.int .i64 e.f,.int .i64 e.l,.string e.t,.slice e.sw.a e.sw.n e.sw.c] rfl ?_
  intro w4 OB TB
  have z_w4:w3.heap.size≤w4.heap.size:=Nat.le_of_eq TB.size.symm
  have EB:Hid (Bx w4 (w.heap.size+1) 110 [.int .i64 0,.int .i64 0,.slice none 0 0,.int .i64 0,.int .i64 0,.int .i64 0,.string ⟨#[]⟩,.slice none 0 0]):=EB.out.turn TB (by omega)
  have BW:Hid (Below w.heap.size w w4):=BW.out.trans (TB.below (by omega))
  have O1:Hid (OwnI w4 W.heap.size u1.v e.ms):=O1.out.keep fun b hb _=>TB.block b (by have:=(O1.out.lt b hb).1;omega)
  have LA:Hid (Bx w4 w.heap.size 110 [.int .i64 e.k,.int .i64 e.rid,.slice u1.a u1.n u1.c,.int .i64 e.q,.int .i64 e.f,.int .i64 e.l,.string e.t,.slice e.sw.a e.sw.n e.sw.c]):=OB
  clear OB TB
  have HR2:Hid (RI w4 e.sw.v e.wi):=h.out.2.stays BW.out
  have cd:=(LA.out.later ((Below.refl _ _).alloc (Nat.le_refl _) (.cells #[] 3))).cell 7
  simp only[List.getElem?_cons_succ,List.getElem?_cons_zero]at cd
  go_wp2_with (first|(with_reducible refine qAr _ _ _ rfl ?_))
  refine Stp.go ?_
  clear cd
  refine qCe rfl _ _ 22 rfl Tryz.underlying22 Tryz.info3' rfl e.sw e.wi rfl HR2.out hs.out.2.1 ?_
  intro u2 w5 od b
  have z_w5:w4.heap.size≤w5.heap.size:=b.size
  have LA:Hid (Bx w5 w.heap.size 110 [.int .i64 e.k,.int .i64 e.rid,.slice u1.a u1.n u1.c,.int .i64 e.q,.int .i64 e.f,.int .i64 e.l,.string e.t,.slice e.sw.a e.sw.n e.sw.c]):=LA.out.later b
  have EB:Hid (Bx w5 (w.heap.size+1) 110 [.int .i64 0,.int .i64 0,.slice none 0 0,.int .i64 0,.int .i64 0,.int .i64 0,.string ⟨#[]⟩,.slice none 0 0]):=EB.out.later b
  have BW:Hid (Below w.heap.size w w5):=qAa BW.out b
  have O1:Hid (OwnI w5 W.heap.size u1.v e.ms):=O1.out.keep fun _ _ hk=>(b).block _ hk
  have O2:Hid (OwnI w5 W.heap.size u2.v e.wi):=od.down (by omega)
  have UP:Hid (∀a c,u1.v.ownBlock=some a→u2.v.ownBlock=some c→a<c):=fun a c ha hc=>by have h1:=L1.out a ha;have h2:=(od.lt c hc).1;omega
  clear od b HR2
  go_wp2_with (first|(with_reducible refine qAc 22 _ _ rfl ?_))
  refine Stp.go ?_
  refine qAg rfl 22 _ _ rfl w.heap.size 7 rfl 110 _ LA.out (.slice u2.a u2.n u2.c) rfl (by simp) rfl Tryz.sizeNs [.int .i64 e.k,.int .i64 e.rid,.slice u1.a u1.n u1.c,.int .i64 e.q,.int .i64 e.f,.int .i64 e.l,.string e.t,.slice u2.a u2.n u2.c] rfl ?_
  intro w6 OB TB
  have z_w6:w5.heap.size≤w6.heap.size:=Nat.le_of_eq TB.size.symm
  have EB:Hid (Bx w6 (w.heap.size+1) 110 [.int .i64 0,.int .i64 0,.slice none 0 0,.int .i64 0,.int .i64 0,.int .i64 0,.string ⟨#[]⟩,.slice none 0 0]):=EB.out.turn TB (by omega)
  have BW:Hid (Below w.heap.size w w6):=BW.out.trans (TB.below (by omega))
  have O1:Hid (OwnI w6 W.heap.size u1.v e.ms):=O1.out.keep fun b hb _=>TB.block b (by have:=(O1.out.lt b hb).1;omega)
  have O2:Hid (OwnI w6 W.heap.size u2.v e.wi):=O2.out.keep fun b hb _=>TB.block b (by have:=(O2.out.lt b hb).1;omega)
  have LA:Hid (Bx w6 w.heap.size 110 [.int .i64 e.k,.int .i64 e.rid,.slice u1.a u1.n u1.c,.int .i64 e.q,.int .i64 e.f,.int .i64 e.l,.string e.t,.slice u2.a u2.n u2.c]):=OB
  clear OB TB
  go_wp2_with (first|(refine qAb rfl 110 _ rfl w.heap.size 0 rfl 110 _ LA.out [.int .i64 e.k,.int .i64 e.rid,.slice u1.a u1.n u1.c,.int .i64 e.q,.int .i64 e.f,.int .i64 e.l,.string e.t,.slice u2.a u2.n u2.c] rfl _ Tryz.underlying110 rfl Tryz.sizeEv ?_)|(with_reducible refine qAc 110 _ _ rfl ?_))
  refine Stp.go ?_
  refine qAf rfl 110 _ _ rfl (w.heap.size+1) 0 rfl 110 _ EB.out [.int .i64 e.k,.int .i64 e.rid,.slice u1.a u1.n u1.c,.int .i64 e.q,.int .i64 e.f,.int .i64 e.l,.string e.t,.slice u2.a u2.n u2.c] rfl (by simp) Tryz.sizeEv rfl [.int .i64 e.k,.int .i64 e.rid,.slice u1.a u1.n u1.c,.int .i64 e.q,.int .i64 e.f,.int .i64 e.l,.string e.t,.slice u2.a u2.n u2.c] rfl ?_
  intro w7 OB TB
  have z_w7:w6.heap.size≤w7.heap.size:=Nat.le_of_eq TB.size.symm
  have LA:Hid (Bx w7 w.heap.size 110 [.int .i64 e.k,.int .i64 e.rid,.slice u1.a u1.n u1.c,.int .i64 e.q,.int .i64 e.f,.int .i64 e.l,.string e.t,.slice u2.a u2.n u2.c]):=LA.out.turn TB (by omega)
  have BW:Hid (Below w.heap.size w w7):=BW.out.trans (TB.below (by omega))
  have O1:Hid (OwnI w7 W.heap.size u1.v e.ms):=O1.out.keep fun b hb _=>TB.block b (by have:=(O1.out.lt b hb).1;omega)
  have O2:Hid (OwnI w7 W.heap.size u2.v e.wi):=O2.out.keep fun b hb _=>TB.block b (by have:=(O2.out.lt b hb).1;omega)
  have EB:Hid (Bx w7 (w.heap.size+1) 110 [.int .i64 e.k,.int .i64 e.rid,.slice u1.a u1.n u1.c,.int .i64 e.q,.int .i64 e.f,.int .i64 e.l,.string e.t,.slice u2.a u2.n u2.c]):=OB
  clear OB TB
  go_wp2_with fail
  refine bodyPost_ret (qAw Tryz.results87 (w.heap.size+1) 110 [.int .i64 e.k,.int .i64 e.rid,.slice u1.a u1.n u1.c,.int .i64 e.q,.int .i64 e.f,.int .i64 e.l,.string e.t,.slice u2.a u2.n u2.c] _ rfl EB.out Tryz.underlying110 rfl Tryz.sizeEv) rfl ?_
  exact⟨u1,u2,rfl,O1.out.down (by omega),O2.out.down (by omega),UP.out,BW.out⟩
/-- the lists of a row apart: by their types. -/
theorem EvsO.rowa{w:World}{B:Nat}{s:Sv}{es:List Ev}(h:EvsO w B s es): ∀y,s.v.ownBlock=some y→∀e∈es,¬e.own y:=fun y hy e he hx=>by
  obtain⟨c1,h1⟩:=h.1.blk hy
  rcases hx with hx|hx
  · obtain ⟨c2, h2⟩ := qBj (h.2 e he).1 hx
    rw[h1]at h2;simp at h2
  · obtain ⟨c2, h2⟩ := qBj (h.2 e he).2 hx
    rw[h1]at h2;simp at h2
theorem EvsUp.snoc{es:List Ev}{e:Ev}{N:Nat}(h:EvsUp es)(hu:e.Up)(hlt: ∀c∈es,∀x,c.own x→x<N)(hge: ∀x,e.own x→N≤x):EvsUp (es++[e]):=
  ⟨fun x hx=>by
    rcases List.mem_append.1 hx with hx|hx
    · exact h.1 x hx
    · rw [List.mem_singleton.1 hx]; exact hu, List.pairwise_append.2 ⟨h.2, List.pairwise_singleton _ _, fun a ha b hb x y hx hy => by
      rw[List.mem_singleton.1 hb]at hy
      have:=hlt a ha x hx
      have:=hge y hy
      omega⟩⟩
theorem qFc(s:Sv)(es:List Ev)(w:World)(hx:Hid (EvsR w s es))(hl:es.length≤1048576)(hs:Hid (∀e∈es,e.S)):
    Calls Tryz.prog 67 #[.slice s.a s.n s.c] w fun x w'=>∃(u:Sv) (cs:List Ev),x=.returned (.slice u.a u.n u.c)∧cs.map Ev.pl=es.map Ev.pl∧EvsO w' w.heap.size u cs∧EvsA u cs∧Below w.heap.size w w':=by
  obtain⟨a,n,c⟩:=s
  dsimp only
  have HN:Hid (n=es.length):=hx.out.1
  have hn:n≤1048576:=by have:=HN.out;omega
  clear hl
  have V0:Hid (SlN (w.alloc (.cells #[] 110)) 110 8 w.heap.size (.slice (some ⟨w.heap.size,0,none⟩) 0 0) []):=SlN.made w 110 8 w.heap.size (Nat.le_refl _)
  have B0:Hid (Below w.heap.size w (w.alloc (.cells #[] 110))):=(Below.refl _ _).alloc (Nat.le_refl _) _
  go_enter Tryz.func67,Tryz.ntmps67
  go_wp2_with fail
  generalize w.alloc (.cells #[] 110)=W0 at *
  go_loopw [3,4] (fun v i wr=>∃(k:Nat) (u:Sv) (cs:List Ev),k≤n∧i=.int .i64 k∧v=.slice u.a u.n u.c∧Hid (cs.length=k)∧Hid (cs.map Ev.pl=(es.take k).map Ev.pl)∧Hid (EvsO wr w.heap.size u cs)∧Hid (EvsUp cs)∧Hid (Below w.heap.size w wr)) (fun _ i _=>n - (intOf i).toNat)
  case atStart=>exact⟨0,⟨some ⟨w.heap.size,0,none⟩,0,0⟩,[],Nat.zero_le _,rfl,rfl,rfl,rfl,⟨V0.out,fun e he=>by cases he⟩,⟨fun e he=>(by cases he),List.Pairwise.nil⟩,B0⟩
  case round=>
    clear V0 B0
    obtain⟨k,u,cs,hk,rfl,rfl,hcl,hpl,hown,hup,hb⟩:=hrel
    by_cases hlt:k<n
    · have hlt2 : k < es.length := by have := HN.out; omega
      obtain⟨g,off,ha,hg,_,hr⟩:=(hx.out.stays hb.out).2.1 k (by simpa using hlt2)
      obtain⟨e,he⟩: ∃e,e=es[k]:=⟨_,rfl⟩
      have hr2:wr.rangeAt g (off+k * 8) e.row:=by rw[he];simpa using hr
      have HR:Hid (wr.rangeAt g (off+k * 8) [.int .i64 e.k,.int .i64 e.rid,.slice e.sm.a e.sm.n e.sm.c,.int .i64 e.q,.int .i64 e.f,.int .i64 e.l,.string e.t,.slice e.sw.a e.sw.n e.sw.c]):=hr2
      have HE:Hid (e=es[k]):=he
      have RW:Hid (e.R w):=by rw[he];exact hx.out.2.2 _ (List.getElem_mem hlt2)
      have RR:Hid (e.R wr):=RW.out.stays hb.out
      have SS:Hid e.S:=by rw[he];exact hs.out _ (List.getElem_mem hlt2)
      have ha:a=some ⟨g,off,none⟩:=ha
      subst ha
      have i0:(0:Int)≤(k:Int):=by omega
      have i1:(k:Int)<(n:Int):=by omega
      have CO:Hid (EvsO wr w.heap.size u cs):=hown
      have BW:Hid (Below w.heap.size w wr):=hb
      have LT:Hid (∀c∈cs,∀x,c.own x→x<wr.heap.size):=fun c hc x hx=>((hown.out.2 c hc).lt x hx).2
      have RL:Hid (∀b,u.v.ownBlock=some b→b<wr.heap.size):=fun b hb=>(hown.out.1.lt b hb).2
      have zr:w.heap.size≤wr.heap.size:=hb.out.size
      clear hr hr2 he hg hown hb
      have hz:Hid (Bx (wr.alloc (.cells #[.int .i64 0,.int .i64 0,.slice none 0 0,.int .i64 0,.int .i64 0,.int .i64 0,.string ⟨#[]⟩,.slice none 0 0] 110)) wr.heap.size 110 [.int .i64 0,.int .i64 0,.slice none 0 0,.int .i64 0,.int .i64 0,.int .i64 0,.string ⟨#[]⟩,.slice none 0 0]):=Bx.new wr 110 _
      go_wp2_with (first|(refine qAx rfl 110 _ rfl g (off+k * 8) (by rfl) [.int .i64 e.k,.int .i64 e.rid,.slice e.sm.a e.sm.n e.sm.c,.int .i64 e.q,.int .i64 e.f,.int .i64 e.l,.string e.t,.slice e.sw.a e.sw.n e.sw.c] HR.out _ Tryz.underlying110 rfl Tryz.sizeEv ?_)|(refine qAf rfl 110 _ _ rfl wr.heap.size 0 rfl 110 _ hz.out [.int .i64 e.k,.int .i64 e.rid,.slice e.sm.a e.sm.n e.sm.c,.int .i64 e.q,.int .i64 e.f,.int .i64 e.l,.string e.t,.slice e.sw.a e.sw.n e.sw.c] rfl (by simp) Tryz.sizeEv rfl [.int .i64 e.k,.int .i64 e.rid,.slice e.sm.a e.sm.n e.sm.c,.int .i64 e.q,.int .i64 e.f,.int .i64 e.l,.string e.t,.slice e.sw.a e.sw.n e.sw.c] rfl ?_;intro v1 OB TB;have b:Below wr.heap.size wr v1:=((Below.refl _ _).alloc (Nat.le_refl _) _).trans (TB.below (Nat.le_refl _));have VB:Hid (Bx v1 wr.heap.size 110 [.int .i64 e.k,.int .i64 e.rid,.slice e.sm.a e.sm.n e.sm.c,.int .i64 e.q,.int .i64 e.f,.int .i64 e.l,.string e.t,.slice e.sw.a e.sw.n e.sw.c]):=OB;have z_v1:wr.heap.size≤v1.heap.size:=b.size;have CO:Hid (EvsO v1 w.heap.size u cs):=CO.out.below b;have BW:Hid (Below w.heap.size w v1):=qAa BW.out b;have RR:Hid (e.R v1):=RW.out.stays BW.out;clear OB TB b;refine Stp.here ?_))
      refine Stp.go ?_
      clear hz
      have zl_VB:wr.heap.size<v1.heap.size:=VB.out.lt
      generalize hg_VB:wr.heap.size=gVB at *
      clear HR
      have gl:gVB<v1.heap.size:=VB.out.lt
      have cd:=(VB.out.later ((Below.refl _ _).alloc (Nat.le_refl _) (.cells #[] 3))).cell 2
      simp only[List.getElem?_cons_succ,List.getElem?_cons_zero]at cd
      go_wp2_with (first|(with_reducible refine qAr _ _ _ rfl ?_))
      refine Stp.go ?_
      clear cd
      refine qCe rfl _ _ 22 rfl Tryz.underlying22 Tryz.info3' rfl e.sm e.ms rfl (show Hid (RI v1 e.sm.v e.ms)from RR.out.1).out SS.out.1 ?_
      intro u1 v2 od b
      have z_v2:v1.heap.size≤v2.heap.size:=b.size
      have CO:Hid (EvsO v2 w.heap.size u cs):=CO.out.below b
      have BW:Hid (Below w.heap.size w v2):=qAa BW.out b
      have RR:Hid (e.R v2):=RW.out.stays BW.out
      have VB:Hid (Bx v2 gVB 110 [.int .i64 e.k,.int .i64 e.rid,.slice e.sm.a e.sm.n e.sm.c,.int .i64 e.q,.int .i64 e.f,.int .i64 e.l,.string e.t,.slice e.sw.a e.sw.n e.sw.c]):=VB.out.later b
      have O1:Hid (OwnI v2 v1.heap.size u1.v e.ms):=od
      clear od b
      have L1:Hid (∀a,u1.v.ownBlock=some a→a<v2.heap.size):=fun a ha=>(O1.out.lt a ha).2
      go_wp2_with (first|(with_reducible refine qAc 22 _ _ rfl ?_))
      refine Stp.go ?_
      refine qAg rfl 22 _ _ rfl gVB 2 rfl 110 _ VB.out (.slice u1.a u1.n u1.c) rfl (by simp) rfl Tryz.sizeNs [.int .i64 e.k,.int .i64 e.rid,.slice u1.a u1.n u1.c,.int .i64 e.q,.int .i64 e.f,.int .i64 e.l,.string e.t,.slice e.sw.a e.sw.n e.sw.c] rfl ?_
      intro v3 OB TB
      have z_v3:v2.heap.size≤v3.heap.size:=Nat.le_of_eq TB.size.symm
      have CO:Hid (EvsO v3 w.heap.size u cs):=⟨CO.out.1.keep fun b hb _=>TB.block b (by have:=RL.out b hb;omega),fun c hc=>⟨(CO.out.2 c hc).1.keep fun b hb _=>TB.block b (by have:=LT.out c hc b (.inl hb);omega),(CO.out.2 c hc).2.keep fun b hb _=>TB.block b (by have:=LT.out c hc b (.inr hb);omega)⟩⟩
      have BW:Hid (Below w.heap.size w v3):=BW.out.trans (TB.below (by omega))
      have RR:Hid (e.R v3):=RW.out.stays BW.out
      have O1:Hid (OwnI v3 v1.heap.size u1.v e.ms):=O1.out.keep fun b hb _=>TB.block b (by have:=(O1.out.lt b hb).1;omega)
      have VB:Hid (Bx v3 gVB 110 [.int .i64 e.k,.int .i64 e.rid,.slice u1.a u1.n u1.c,.int .i64 e.q,.int .i64 e.f,.int .i64 e.l,.string e.t,.slice e.sw.a e.sw.n e.sw.c]):=OB
      clear OB TB
      have cd:=(VB.out.later ((Below.refl _ _).alloc (Nat.le_refl _) (.cells #[] 3))).cell 7
      simp only[List.getElem?_cons_succ,List.getElem?_cons_zero]at cd
      go_wp2_with (first|(with_reducible refine qAr _ _ _ rfl ?_))
      refine Stp.go ?_
      clear cd
      refine qCe rfl _ _ 22 rfl Tryz.underlying22 Tryz.info3' rfl e.sw e.wi rfl (show Hid (RI v3 e.sw.v e.wi)from RR.out.2).out SS.out.2.1 ?_
      intro u2 v4 od b
      have z_v4:v3.heap.size≤v4.heap.size:=b.size
      have CO:Hid (EvsO v4 w.heap.size u cs):=CO.out.below b
      have BW:Hid (Below w.heap.size w v4):=qAa BW.out b
      have RR:Hid (e.R v4):=RW.out.stays BW.out
      have VB:Hid (Bx v4 gVB 110 [.int .i64 e.k,.int .i64 e.rid,.slice u1.a u1.n u1.c,.int .i64 e.q,.int .i64 e.f,.int .i64 e.l,.string e.t,.slice e.sw.a e.sw.n e.sw.c]):=VB.out.later b
      have O1:Hid (OwnI v4 v1.heap.size u1.v e.ms):=O1.out.keep fun _ _ hk=>(b).block _ hk
      have O2:Hid (OwnI v4 v1.heap.size u2.v e.wi):=od.down (by omega)
      have UP:Hid (∀a c,u1.v.ownBlock=some a→u2.v.ownBlock=some c→a<c):=fun a c ha hc=>by have h1:=L1.out a ha;have h2:=(od.lt c hc).1;omega
      clear od b
      go_wp2_with (first|(with_reducible refine qAc 22 _ _ rfl ?_))
      refine Stp.go ?_
      refine qAg rfl 22 _ _ rfl gVB 7 rfl 110 _ VB.out (.slice u2.a u2.n u2.c) rfl (by simp) rfl Tryz.sizeNs [.int .i64 e.k,.int .i64 e.rid,.slice u1.a u1.n u1.c,.int .i64 e.q,.int .i64 e.f,.int .i64 e.l,.string e.t,.slice u2.a u2.n u2.c] rfl ?_
      intro v5 OB TB
      have z_v5:v4.heap.size≤v5.heap.size:=Nat.le_of_eq TB.size.symm
      have CO:Hid (EvsO v5 w.heap.size u cs):=⟨CO.out.1.keep fun b hb _=>TB.block b (by have:=RL.out b hb;omega),fun c hc=>⟨(CO.out.2 c hc).1.keep fun b hb _=>TB.block b (by have:=LT.out c hc b (.inl hb);omega),(CO.out.2 c hc).2.keep fun b hb _=>TB.block b (by have:=LT.out c hc b (.inr hb);omega)⟩⟩
      have BW:Hid (Below w.heap.size w v5):=BW.out.trans (TB.below (by omega))
      have RR:Hid (e.R v5):=RW.out.stays BW.out
      have O1:Hid (OwnI v5 v1.heap.size u1.v e.ms):=O1.out.keep fun b hb _=>TB.block b (by have:=(O1.out.lt b hb).1;omega)
      have O2:Hid (OwnI v5 v1.heap.size u2.v e.wi):=O2.out.keep fun b hb _=>TB.block b (by have:=(O2.out.lt b hb).1;omega)
      have VB:Hid (Bx v5 gVB 110 [.int .i64 e.k,.int .i64 e.rid,.slice u1.a u1.n u1.c,.int .i64 e.q,.int .i64 e.f,.int .i64 e.l,.string e.t,.slice u2.a u2.n u2.c]):=OB
      clear OB TB
      obtain⟨c1,hc1⟩: ∃c:Ev,c={e with sm:=u1,sw:=u2}:=⟨_,rfl⟩
      have C1:Hid (c1.O v5 v1.heap.size):=by rw[hc1];exact⟨O1.out,O2.out⟩
      have CU:Hid c1.Up:=by rw[hc1];exact UP.out
      have CP:Hid (c1.pl=e.pl):=by rw[hc1];exact rfl
      have CR:Hid (([.int .i64 e.k,.int .i64 e.rid,.slice u1.a u1.n u1.c,.int .i64 e.q,.int .i64 e.f,.int .i64 e.l,.string e.t,.slice u2.a u2.n u2.c]:List Value)=c1.row):=by rw[hc1];rfl
      have HLEN:Hid ((cs.map Ev.row).length≤1048576):=(by have:=hcl.out;simp;omega:_≤_)
      have BB:Hid (Below w.heap.size w v5):=BW.out
      clear O1 O2 hc1 UP L1
      go_wp2_with (first|(refine qAb rfl 110 _ rfl gVB 0 rfl 110 _ VB.out [.int .i64 e.k,.int .i64 e.rid,.slice u1.a u1.n u1.c,.int .i64 e.q,.int .i64 e.f,.int .i64 e.l,.string e.t,.slice u2.a u2.n u2.c] rfl _ Tryz.underlying110 rfl Tryz.sizeEv ?_)|(with_reducible refine qAr _ _ _ rfl ?_))
      refine Stp.go ?_
      refine qCn rfl _ _ 43 rfl (.agg #[.int .i64 0,.int .i64 0,.slice none 0 0,.int .i64 0,.int .i64 0,.int .i64 0,.string ⟨#[]⟩,.slice none 0 0]) 104 Tryz.underlying43 Tryz.infoEv rfl (by omega) w.heap.size _ _ rfl CO.out.1 [.int .i64 e.k,.int .i64 e.rid,.slice u1.a u1.n u1.c,.int .i64 e.q,.int .i64 e.f,.int .i64 e.l,.string e.t,.slice u2.a u2.n u2.c] rfl rfl rfl HLEN.out BW.out.size ?_
      intro v6 w6 O6 g6 b6 _
      obtain⟨s6,hs6,hq6⟩:=O6.form
      subst hs6
      clear hq6
      rw[CR.out]at O6
      have KT: ∀(c:Ev) (B:Nat),c.O v5 B→c.O w6 B:=fun c B h=>⟨h.1.kept g6 (fun k hk e=>by obtain⟨_,e1⟩:=qBj h.1 hk;obtain⟨_,e2⟩:=CO.out.1.blk e.symm;rw[e1]at e2;simp at e2),h.2.kept g6 (fun k hk e=>by obtain⟨_,e1⟩:=qBj h.2 hk;obtain⟨_,e2⟩:=CO.out.1.blk e.symm;rw[e1]at e2;simp at e2)⟩
      have N6:Hid (EvsO w6 w.heap.size s6 (cs++[c1])):=⟨by rw[List.map_append];exact O6,fun x hx=>by
        rcases List.mem_append.1 hx with hx|hx
        · exact KT x _ (CO.out.2 x hx)
        · rw[List.mem_singleton.1 hx];exact KT c1 _ (C1.out.down (by omega))⟩
      have U6:Hid (EvsUp (cs++[c1])):=hup.out.snoc CU.out LT.out (fun x hx=>by have:=(C1.out.lt x hx).1;omega)
      have B6:Hid (Below w.heap.size w w6):=BW.out.trans b6
      clear O6 g6 b6 KT CO BW VB C1 CU CR
      go_wp2_with fail
      go_roundw
      case rel=>
        refine⟨k+1,s6,cs++[c1],by omega,by go_num,rfl,(by have:=hcl.out;simp;omega:_=_),?_,N6,U6,B6⟩
        show _=_
        rw[List.map_append,hpl.out,List.take_succ_eq_append_getElem hlt2,List.map_append,←HE.out]
        simp[CP.out]
      case measure=>simp[intOf];omega
    · obtain rfl : k = n := by omega
      go_wp2_with fail
      go_ret
      refine⟨u,cs,rfl,?_,hown.out,⟨hown.out.rowa,fun e he x h1 h2=>by have:=hup.out.1 e he x x h1 h2;omega,hup.out.2.imp fun h x hx hy=>by have:=h x x hx hy;omega⟩,hb.out⟩
      have h:=hpl.out
      rwa [HN.out,List.take_of_length_le (Nat.le_refl _)]at h
/-- a field: the cell c of a row (of the kind d), or a list s whose elements have the kinds ds. -/
structure Fd where
  c:Nat
  d:Nat
  s:Option Sv
  ds:List Nat
def svB(s:Sv):Nat:=(s.a.map (·.block)).getD 0
def svO(s:Sv):Nat:=(s.a.map (·.off)).getD 0
def sps(ds:List Nat)(s:Sv):List Spot:=(List.range (s.n * ds.length)).map fun t=>(svB s,svO s+t,ds.getD (t % ds.length) 0)
def Fd.sp(g o:Nat)(f:Fd):List Spot:=match f.s with|none=>[(g,o+f.c,f.d)]|some s=>sps f.ds s
def pc(g o:Nat)(fs:List Fd):List Spot:=fs.flatMap (Fd.sp g o)
/-- the block of a list that has something. -/
def Fd.ow(f:Fd)(x:Nat):Prop:=∃s,f.s=some s∧0<s.n∧svB s=x
/-- a list that lies there. -/
def LvS(w:World)(s:Sv)(k:Nat):Prop:=0<s.n→s.a=some ⟨svB s,svO s,none⟩∧svB s<w.heap.size∧(∀t,t<s.n * k→∃u,w.cell? ⟨svB s,svO s+t,none⟩=some u)∧∀t,w.frozen? ⟨svB s,t,none⟩=false
abbrev Ne2(a b:Spot):Prop:=¬(a.1=b.1∧a.2.1=b.2.1)
theorem qAs(ds:List Nat)(s:Sv):(sps ds s).length=s.n * ds.length:=by simp[sps]
theorem sps_at{ds:List Nat}{s:Sv}{t:Nat}(h:t<s.n * ds.length):(sps ds s)[t]? =some (svB s,svO s+t,ds.getD (t % ds.length) 0):=by simp[sps,h]
theorem sps_mem{ds:List Nat}{s:Sv}{x:Spot}(h:x∈sps ds s):x.1=svB s∧∃t,t<s.n * ds.length∧x.2.1=svO s+t:=by
  unfold sps at h
  obtain⟨t,ht,rfl⟩:=List.mem_map.1 h
  exact⟨rfl,t,List.mem_range.1 ht,rfl⟩
theorem sps_pos{ds:List Nat}{s:Sv}{x:Spot}(h:x∈sps ds s):0<s.n:=by
  obtain⟨_,t,ht,_⟩:=sps_mem h
  rcases Nat.eq_zero_or_pos s.n with h0|h0
  · rw[h0,Nat.zero_mul]at ht;omega
  · exact h0
theorem sps_nd(ds:List Nat)(s:Sv):(sps ds s).Pairwise Ne2:=by
  unfold sps
  rw[List.pairwise_map]
  exact List.Pairwise.imp (fun h=>fun e=>by have:=e.2;simp at this;omega) List.pairwise_lt_range
theorem Fd.sp_mem{g o:Nat}{f:Fd}{x:Spot}(h:x∈f.sp g o):(f.s=none∧x.1=g∧x.2.1=o+f.c)∨(∃s,f.s=some s∧x∈sps f.ds s):=by
  unfold Fd.sp at h
  cases hs:f.s with
  |none=>rw[hs]at h;simp at h;subst h;exact .inl ⟨rfl,rfl,rfl⟩
  |some s=>rw[hs]at h;exact .inr ⟨s,rfl,h⟩
theorem Fd.sp_nd(g o:Nat)(f:Fd):(f.sp g o).Pairwise Ne2:=by
  unfold Fd.sp
  cases f.s with
  |none=>exact List.pairwise_singleton _ _
  |some s=>exact sps_nd _ _
theorem qFp{f:Fd}{s:Sv}{x:Spot}(hs:f.s=some s)(h:x∈sps f.ds s):f.ow x.1:=⟨s,hs,sps_pos h,(sps_mem h).1.symm⟩
/-- one row's places: none twice. -/
theorem pc_nd{g o:Nat}{fs:List Fd}(hg: ∀f∈fs,¬f.ow g)(hp:fs.Pairwise fun f f'=>(f.s=none→f'.s=none→f.c≠f'.c)∧∀x,f.ow x→¬f'.ow x):(pc g o fs).Pairwise Ne2:=by
  unfold pc
  rw[List.pairwise_flatMap]
  refine⟨fun f _=>f.sp_nd g o,List.Pairwise.imp_of_mem (fun {a b} ha hb hab x hx y hy e=>?_) hp⟩
  rcases Fd.sp_mem hx with⟨h1,h2,h3⟩|⟨s,h1,h2⟩<;>rcases Fd.sp_mem hy with⟨k1,k2,k3⟩|⟨s',k1,k2⟩
  · exact hab.1 h1 k1 (by have:=e.2;omega)
  · exact hg b hb (by have:=qFp k1 k2;rw[←e.1,h2]at this;exact this)
  · exact hg a ha (by have:=qFp h1 h2;rw[e.1,k2]at this;exact this)
  · exact hab.2 x.1 (qFp h1 h2) (by have:=qFp k1 k2;rw[←e.1]at this;exact this)
theorem pc_mem{g o:Nat}{fs:List Fd}{x:Spot}(h:x∈pc g o fs): ∃f∈fs,x∈f.sp g o:=by
  unfold pc at h
  exact List.mem_flatMap.1 h
/-- the places of a list of structs. -/
def tls(g off size:Nat)(F:Nat→List Fd)(len:Nat):List Spot:=(List.range len).flatMap fun j=>pc g (off+j * size) (F j)
def tlN(g off size:Nat)(F:Nat→List Fd)(j:Nat):Nat:=(tls g off size F j).length
section
variable {g off size len : Nat} {F : Nat → List Fd}
theorem tls_succ:tls g off size F (len+1)=tls g off size F len++pc g (off+len * size) (F len):=by
  unfold tls
  rw[List.range_succ,List.flatMap_append]
  simp
theorem tls_at: ∀{len j r:Nat},j<len→r<(pc g (off+j * size) (F j)).length→(tls g off size F len)[tlN g off size F j+r]? =(pc g (off+j * size) (F j))[r]?
  |0,j,r,hj,_=>absurd hj (Nat.not_lt_zero _)
  | len + 1, j, r, hj, hr => by
    rw[tls_succ]
    by_cases h:j<len
    · have h1 := tls_at h hr
      have h2:tlN g off size F j+r<(tls g off size F len).length:=by
        rcases Nat.lt_or_ge (tlN g off size F j+r) (tls g off size F len).length with h2|h2
        · exact h2
        · rw[List.getElem?_eq_none h2,List.getElem?_eq_getElem hr]at h1;cases h1
      rw[List.getElem?_append_left h2,h1]
    · obtain rfl : j = len := by omega
      unfold tlN
      rw[List.getElem?_append_right (by omega),Nat.add_sub_cancel_left]
theorem qEn(j:Nat):tlN g off size F (j+1)=tlN g off size F j+(pc g (off+j * size) (F j)).length:=by
  unfold tlN
  rw[tls_succ,List.length_append]
theorem qEv{x:Spot}(h:x∈tls g off size F len): ∃j,j<len∧x∈pc g (off+j * size) (F j):=by
  unfold tls at h
  obtain⟨j,hj,hx⟩:=List.mem_flatMap.1 h
  exact⟨j,List.mem_range.1 hj,hx⟩
/-- what is asked of the fields of each row. -/
structure FdOk (w:World) (g size len:Nat) (F:Nat→List Fd):Prop where
  row: ∀j,j<len→∀f∈F j,f.s=none→f.c<size
  off: ∀j,j<len→∀f∈F j,¬f.ow g
  one: ∀j,j<len→(F j).Pairwise fun f f'=>(f.s=none→f'.s=none→f.c≠f'.c)∧∀x,f.ow x→¬f'.ow x
  two: ∀i j,i<j→j<len→∀f∈F i,∀f'∈F j,∀x,f.ow x→¬f'.ow x
  lv: ∀j,j<len→∀f∈F j,∀s,f.s=some s→LvS w s f.ds.length
theorem tls_nd{w:World}(h:FdOk w g size len F):(tls g off size F len).Pairwise Ne2:=by
  unfold tls
  rw[List.pairwise_flatMap]
  refine⟨fun j hj=>pc_nd (h.off j (List.mem_range.1 hj)) (h.one j (List.mem_range.1 hj)),List.Pairwise.imp_of_mem (fun {a b} ha hb hab x hx y hy e=>?_) List.pairwise_lt_range⟩
  have ha:=List.mem_range.1 ha
  have hb:=List.mem_range.1 hb
  obtain⟨f,hf,hx⟩:=pc_mem hx
  obtain⟨f',hf',hy⟩:=pc_mem hy
  rcases Fd.sp_mem hx with⟨h1,h2,h3⟩|⟨s,h1,h2⟩<;>rcases Fd.sp_mem hy with⟨k1,k2,k3⟩|⟨s',k1,k2⟩
  · have e1 := h.row a ha f hf h1
    have e2:(a+1) * size≤b * size:=Nat.mul_le_mul_right _ hab
    rw[Nat.succ_mul]at e2
    have:=e.2
    omega
  · exact h.off b hb f' hf' (by have:=qFp k1 k2;rw[←e.1,h2]at this;exact this)
  · exact h.off a ha f hf (by have:=qFp h1 h2;rw[e.1,k2]at this;exact this)
  · exact h.two a b hab hb f hf f' hf' x.1 (qFp h1 h2) (by have:=qFp k1 k2;rw[←e.1]at this;exact this)
end
/-- a list of rows, cell by cell. -/
theorem qCh{w:World}{T size B:Nat}{s:Sv}{rows:List (List Value)}(h:SlN w T size B s.v rows)(h0:0<rows.length):s.a=some ⟨svB s,svO s,none⟩∧svB s<w.heap.size∧(∀j r u,j<rows.length→((rows[j]?).getD [])[r]? =some u→w.cell? ⟨svB s,svO s+j * size+r,none⟩=some u)∧∀o,w.frozen? ⟨svB s,o,none⟩=false:=by
  obtain⟨g,off,cap,hv,hb,hlt,hc,hf⟩:=h.1.read h0
  simp only[Sv.v,Value.slice.injEq]at hv
  have e1:svB s=g:=by simp[svB,hv.1]
  have e2:svO s=off:=by simp[svO,hv.1]
  rw[e1,e2]
  refine⟨hv.1,hlt,fun j r u hj hu=>?_,hf⟩
  rw[List.getElem?_eq_getElem hj]at hu
  simp only[Option.getD_some]at hu
  have hr:r<size:=by rw[←h.lens _ (List.getElem_mem hj)];exact(List.getElem?_eq_some_iff.1 hu).1
  have h2:=flat_row h.lens hj
  rw[←h2,List.getElem?_take,if_pos hr,List.getElem?_drop]at hu
  have:=hc (j * size+r) u hu
  rw[Nat.add_assoc]
  exact this
theorem tls_ok{w:World}{T size B:Nat}{s:Sv}{rows:List (List Value)}{F:Nat→List Fd}(h:SlN w T size B s.v rows)(hF:FdOk w (svB s) size rows.length F):TLok w (tls (svB s) (svO s) size F rows.length):=by
  have key: ∀x∈tls (svB s) (svO s) size F rows.length,x.1<w.heap.size∧(∃u,w.cell? ⟨x.1,x.2.1,none⟩=some u)∧w.frozen? ⟨x.1,x.2.1,none⟩=false:=fun x hx=>by
    obtain⟨j,hj,hx⟩:=qEv hx
    obtain⟨f,hf,hx⟩:=pc_mem hx
    rcases Fd.sp_mem hx with⟨h1,h2,h3⟩|⟨s',h1,h2⟩
    · obtain ⟨_, k2, k3, k4⟩ := qCh h (by omega)
      have hl:((rows[j]?).getD []).length=size:=by rw[List.getElem?_eq_getElem hj];exact h.lens _ (List.getElem_mem hj)
      have hc:=hF.row j hj f hf h1
      rw[h2,h3]
      exact⟨k2,⟨_,k3 j f.c _ hj (List.getElem?_eq_getElem (by rw[hl];exact hc))⟩,k4 _⟩
    · obtain ⟨e1, t, ht, e2⟩ := sps_mem h2
      obtain⟨_,k2,k3,k4⟩:=hF.lv j hj f hf s' h1 (sps_pos h2)
      rw[e1,e2]
      exact⟨k2,k3 t ht,k4 _⟩
  exact⟨tls_nd hF,fun x hx=>(key x hx).1,fun x hx=>(key x hx).2.1,fun x hx=>(key x hx).2.2⟩
/-- in which blocks they lie. -/
theorem tls_in{g off size len:Nat}{F:Nat→List Fd}{x:Spot}(h:x∈tls g off size F len):x.1=g∨ ∃j,j<len∧∃f∈F j,f.ow x.1:=by
  obtain⟨j,hj,hx⟩:=qEv h
  obtain⟨f,hf,hx⟩:=pc_mem hx
  rcases Fd.sp_mem hx with⟨h1,h2,h3⟩|⟨s',h1,h2⟩
  · exact .inl h2
  · exact .inr ⟨j,hj,f,hf,qFp h1 h2⟩
/-- a cell of a row that is no place. -/
theorem tls_not{w:World}{g off size len:Nat}{F:Nat→List Fd}(h:FdOk w g size len F){j c:Nat}(hj:j<len)(hc:c<size)(hn: ∀i,i<len→∀f∈F i,f.s=none→f.c≠c): ∀x∈tls g off size F len,¬(x.1=g∧x.2.1=off+j * size+c):=fun x hx e=>by
  obtain⟨i,hi,hx⟩:=qEv hx
  obtain⟨f,hf,hx⟩:=pc_mem hx
  rcases Fd.sp_mem hx with⟨h1,h2,h3⟩|⟨s',h1,h2⟩
  · have e1 := h.row i hi f hf h1
    have e2:=hn i hi f hf h1
    have e3:=e.2
    rcases Nat.lt_trichotomy i j with hij|hij|hij
    · have e4 : (i + 1) * size ≤ j * size := Nat.mul_le_mul_right _ hij
      rw[Nat.succ_mul]at e4
      omega
    · subst hij;omega
    · have e4 : (j + 1) * size ≤ i * size := Nat.mul_le_mul_right _ hij
      rw[Nat.succ_mul]at e4
      omega
  · exact h.off i hi f hf (by have:=qFp h1 h2;rw[e.1]at this;exact this)
theorem seg_of{TL:List Spot}{n:Nat}{ds:List Nat}{s:Sv}(ha:0<s.n→s.a=some ⟨svB s,svO s,none⟩)(h: ∀t,t<s.n * ds.length→TL[n+t]? =some (svB s,svO s+t,ds.getD (t % ds.length) 0)):Seg TL n s.a s.n ds:=fun i hi=>by
  refine⟨svB s,svO s,ha (by omega),fun r d hr=>?_⟩
  have hrl:r<ds.length:=(List.getElem?_eq_some_iff.1 hr).1
  have hlt:i * ds.length+r<s.n * ds.length:=by
    have:(i+1) * ds.length≤s.n * ds.length:=Nat.mul_le_mul_right _ hi
    rw[Nat.succ_mul]at this
    omega
  have e:(i * ds.length+r) % ds.length=r:=by rw[Nat.mul_comm,Nat.mul_add_mod];exact Nat.mod_eq_of_lt hrl
  have h1:=h (i * ds.length+r) hlt
  rw[e]at h1
  rw[Nat.add_assoc,h1]
  have e2:ds.getD r 0=d:=by simp[List.getD,hr]
  rw[e2,Nat.add_assoc]
/-- a field's places within its row's. -/
theorem pc_at{g o:Nat}(A:List Fd)(f:Fd)(B:List Fd){r:Nat}(hr:r<(f.sp g o).length):(pc g o (A++f::B))[(pc g o A).length+r]? =(f.sp g o)[r]? :=by
  unfold pc
  rw[List.flatMap_append,List.flatMap_cons,List.getElem?_append_right (by omega),Nat.add_sub_cancel_left,List.getElem?_append_left hr]
theorem pc_len_lt{g o:Nat}(A:List Fd)(f:Fd)(B:List Fd){r:Nat}(hr:r<(f.sp g o).length):(pc g o A).length+r<(pc g o (A++f::B)).length:=by
  unfold pc
  rw[List.flatMap_append,List.flatMap_cons,List.length_append,List.length_append]
  omega
theorem OwnI.lv{w:World}{B:Nat}{s:Sv}{xs:List Int}(h:OwnI w B s.v xs):LvS w s 1:=fun h0=>by
  have hn:=h.slen
  obtain⟨g,cap,e,_,hl,hc,hf⟩:=h.some (by omega)
  simp only[Sv.v,Value.slice.injEq]at e
  have e1:svB s=g:=by simp[svB,e.1]
  have e2:svO s=0:=by simp[svO,e.1]
  rw[e1,e2]
  exact⟨e.1,hl,fun t ht=>⟨_,by rw[Nat.zero_add];exact hc t (by omega)⟩,hf⟩
theorem SlI.lv{w:World}{B:Nat}{s:Sv}{xs:List It}(h:SlI w B s.v xs):LvS w s 4:=fun h0=>by
  have hn:=SlI.len h
  obtain⟨g,off,cap,e,_,hl,hc,hf⟩:=Sl.read h (by omega)
  simp only[Sv.v,Value.slice.injEq]at e
  have e1:svB s=g:=by simp[svB,e.1]
  have e2:svO s=off:=by simp[svO,e.1]
  rw[e1,e2]
  refine⟨e.1,hl,fun t ht=>?_,hf⟩
  have hl2:=h.1
  exact⟨_,hc t _ (List.getElem?_eq_getElem (by rw[hl2];omega))⟩
theorem ow_own{s:Sv}(h:0<s.n→s.a=some ⟨svB s,svO s,none⟩)(h0:0<s.n):s.v.ownBlock=some (svB s):=by
  have e:=h h0
  obtain⟨b,hb⟩: ∃b,b=svB s:=⟨_,rfl⟩
  rw[←hb]at e⊢
  simp[Sv.v,Value.ownBlock,e]
/-- where the places of one lie. -/
structure BuSeg (w:World) (TL:List Spot) (n g o:Nat) (u:Bu):Prop where
  gl:g<w.heap.size
  p0:TL[n]? =some (g,o,0)
  p1:TL[n+1]? =some (g,o+1,0)
  p2:TL[n+1+1]? =some (g,o+2,0)
  h3:w.cell? ⟨g,o+3,none⟩=some (.slice u.s.a u.s.n u.s.c)
  q3: ∀s∈TL,¬(s.1=g∧s.2.1=o+3)
  s3:Seg TL (n+1+1+1) u.s.a u.s.n [0,0,0,2]
def BuSeg.len(u:Bu):Nat:=1+1+1+4 * u.s.n
theorem BuSeg.marked{w0 ws w:World}{TL:List Spot}{n g o K m:Nat}{u:Bu}(h:BuSeg w0 TL n g o u)(k:MkI w0 ws TL K m w):BuSeg w TL n g o u:=
  {h with gl:=by have:=h.gl;have:=k.size;omega,h3:=k.cell h.gl h.q3 h.h3}
theorem BuSeg.later{w w':World}{TL:List Spot}{n g o:Nat}{u:Bu}(h:BuSeg w TL n g o u)(b:Below w.heap.size w w'):BuSeg w' TL n g o u:=
  {h with gl:=by have:=h.gl;have:=b.size;omega,h3:=(qAn (b.block _ h.gl)).trans h.h3}
/-- .. and of a list of them. -/
structure BuSegL (w:World) (TL:List Spot) (ao:Option Addr) (len:Nat) (us:Nat→Bu) (N:Nat→Nat):Prop where
  one: ∀j,j<len→∃g off,ao=some ⟨g,off,none⟩∧BuSeg w TL (N j) g (off+j * 4) (us j)
  nx: ∀j,j<len→N (j+1)=N j+BuSeg.len (us j)
theorem BuSegL.marked{w0 ws w:World}{TL:List Spot}{ao:Option Addr}{len K m:Nat}{us:Nat→Bu}{N:Nat→Nat}(h:BuSegL w0 TL ao len us N)(k:MkI w0 ws TL K m w):BuSegL w TL ao len us N:=⟨fun j hj=>by obtain⟨g,off,e,x⟩:=h.one j hj;exact⟨g,off,e,x.marked k⟩,h.nx⟩
theorem BuSegL.later{w w':World}{TL:List Spot}{ao:Option Addr}{len:Nat}{us:Nat→Bu}{N:Nat→Nat}(h:BuSegL w TL ao len us N)(b:Below w.heap.size w w'):BuSegL w' TL ao len us N:=⟨fun j hj=>by obtain⟨g,off,e,x⟩:=h.one j hj;exact⟨g,off,e,x.later b⟩,h.nx⟩
theorem BuSegL.le{w:World}{TL:List Spot}{ao:Option Addr}{len:Nat}{us:Nat→Bu}{N:Nat→Nat}(h:BuSegL w TL ao len us N): ∀(d j:Nat),j+d=len→N j≤N len
  |0,j,e=>by rw[show j=len by omega];exact Nat.le_refl _
  | d + 1, j, e => by
    have h1:=h.nx j (by omega)
    have h2:=h.le d (j+1) (by omega)
    omega
theorem qFq(w0:World)(TL:List Spot)(K:Nat)(ao:Option Addr)(len cap:Nat)(us:Nat→Bu)(N:Nat→Nat)(z:Int)(w:World)(hT:Hid (TLok w0 TL))(hI:Hid (MkI w0 w TL K (N 0) w))(hs:Hid (BuSegL w0 TL ao len us N))(hz:Hid (z=((K+N 0:Nat):Int)))(hl:K+N len≤39999990)(hll:len≤39999990)(hK:0<K):
    Calls Tryz.prog 16 #[.slice ao len cap,.int .i64 z] w fun e w'=>∃M:Nat,e=.returned (.int .i64 (M:Int))∧M=K+N len∧MkI w0 w TL K (N len) w':=by
  obtain⟨M0,hM0⟩: ∃M:Nat,M=K+N 0:=⟨_,rfl⟩
  have e0:z=(M0:Int):=by have:=hz.out;omega
  subst e0
  have HM0:Hid (M0=K+N 0):=hM0
  clear hM0 hz
  go_enter Tryz.func16,Tryz.ntmps16
  go_wp2_with fail
  go_loopw [1,5] (fun kk i wr=>∃(j:Nat),j≤len∧i=.int .i64 (j:Int)∧kk=.int .i64 ((K+N j:Nat):Int)∧Hid (MkI w0 w TL K (N j) wr)) (fun _ i _=>len - (intOf i).toNat)
  case atStart=>exact⟨0,by omega,rfl,by have:=HM0.out;congr 1;omega,hI⟩
  case round=>
    obtain⟨j,hj,rfl,rfl,HI⟩:=hrel
    obtain⟨M,hM⟩: ∃M:Nat,M=K+N j:=⟨_,rfl⟩
    rw[←hM]
    have HM:Hid (M=K+N j):=hM
    clear hM
    by_cases hlt:j<len
    · obtain ⟨g, off, rfl, sg⟩ := hs.out.one j hlt
      have HNX:Hid _:=hs.out.nx j hlt
      have hle:=hs.out.le (len - (j+1)) (j+1) (by omega)
      obtain⟨u,hu⟩: ∃u,us j=u:=⟨_,rfl⟩
      rw[hu]at sg HNX
      have hle2:N j+(1+1+1+4 * u.s.n)≤N len:=by have:=HNX.out;unfold BuSeg.len at this;omega
      obtain⟨n,hn⟩: ∃n,n=N j:=⟨_,rfl⟩
      rw[←hn]at sg HM HNX hle2 HI
      have HN:Hid (n=N j):=hn
      obtain⟨o,ho⟩: ∃o,o=off+j * 4:=⟨_,rfl⟩
      rw[←ho]at sg
      have HO:Hid (o=off+j * 4):=ho
      have SG:Hid (BuSeg w0 TL n g o u):=sg
      clear sg hu hn ho hle
      have hMl:M≤39999990:=by have:=HM.out;omega
      have i0:(0:Int)≤(j:Int):=by omega
      have i1:(j:Int)<(len:Int):=by omega
      have sp:TL[n]? =some (g,off+j * 4,0):=by have h:=SG.out.p0;rw[HO.out]at h;exact h
      have SP:Hid _:=sp
      clear sp
      go_wp2_with (first|(refine qAc 3 _ _ rfl ?_))
      refine Stp.go ?_
      refine qAu rfl 3 _ _ rfl rfl _ rfl Tryz.sizeK3 hT.out HI.out SP.out (vkI (by have:=HM.out;omega)) ?_
      intro w1 hi
      have HI:Hid (MkI w0 w TL K (n+1) w1):=hi
      clear hi SP
      have sp:TL[n+1]? =some (g,off+j * 4+1,0):=by have h:=SG.out.p1;rw[HO.out]at h;exact h
      have SP:Hid _:=sp
      clear sp
      go_wp2_with (first|(refine qAc 3 _ _ rfl ?_))
      refine Stp.go ?_
      refine qAu rfl 3 _ _ rfl rfl _ rfl Tryz.sizeK3 hT.out HI.out SP.out (vkI (by have:=HM.out;omega)) ?_
      intro w2 hi
      have HI:Hid (MkI w0 w TL K (n+1+1) w2):=hi
      clear hi SP
      have sp:TL[n+1+1]? =some (g,off+j * 4+2,0):=by have h:=SG.out.p2;rw[HO.out]at h;exact h
      have SP:Hid _:=sp
      clear sp
      go_wp2_with (first|(refine qAc 3 _ _ rfl ?_))
      refine Stp.go ?_
      refine qAu rfl 3 _ _ rfl rfl _ rfl Tryz.sizeK3 hT.out HI.out SP.out (vkI (by have:=HM.out;omega)) ?_
      intro w3 hi
      have HI:Hid (MkI w0 w TL K (n+1+1+1) w3):=hi
      clear hi SP
      have hc:w3.cell? ⟨g,off+j * 4+3,none⟩=some (.slice u.s.a u.s.n u.s.c):=by have h:=HI.out.cell SG.out.gl SG.out.q3 SG.out.h3;rw[HO.out]at h;exact h
      go_wp2_with fail
      clear hc
      refine(markItems_z w0 TL K (n+1+1+1) u.s.a u.s.n u.s.c ((M:Int)+1+1+1) _ hT HI.out.anchor SG.out.s3 (by have:=HM.out;omega) (by omega) hK).mono ?_
      rintro e w4 ⟨M4,rfl,hm,hi⟩
      have HM:Hid (M4=K+(n+1+1+1+4 * u.s.n)):=hm
      have HI:Hid (MkI w0 w TL K (n+1+1+1+4 * u.s.n) w4):=HI.out.back hi
      have hMl:M4≤39999990:=by omega
      clear hm hi
      go_wp2_with fail
      go_roundw
      case rel=>
        have e:K+N (j+1)=K+(n+(1+1+1+4 * u.s.n)):=by have h1:=HNX.out;unfold BuSeg.len at h1;omega
        refine⟨j+1,by omega,by go_num,by have:=HM.out;congr 1;omega,?_⟩
        have h:=HI.out
        rw[show N (j+1)=n+1+1+1+4 * u.s.n by omega]
        exact h
      case measure=>simp[intOf];omega
    · obtain rfl : j = len := by omega
      go_wp2_with fail
      go_ret
      exact⟨M,rfl,HM.out,HI.out⟩
theorem qFs(TL:List Spot)(K:Nat)(ao:Option Addr)(len cap:Nat)(us:Nat→Bu)(N:Nat→Nat)(z:Int)(w:World)(hH:Hid (Held w TL K))(hs:Hid (BuSegL w TL ao len us N))(hz:Hid (z=((K+N 0:Nat):Int)))(hl:K+N len≤39999990)(hll:len≤39999990)(hK:0<K):
    Calls Tryz.prog 18 #[.slice ao len cap,.int .i64 z] w fun e w'=>∃M:Nat,e=.returned (.int .i64 (M:Int))∧M=K+N len∧Below w.heap.size w w':=by
  obtain⟨M0,hM0⟩: ∃M:Nat,M=K+N 0:=⟨_,rfl⟩
  have e0:z=(M0:Int):=by have:=hz.out;omega
  subst e0
  have HM0:Hid (M0=K+N 0):=hM0
  clear hM0 hz
  go_enter Tryz.func18,Tryz.ntmps18
  go_wp2_with fail
  go_loopw [1,5] (fun kk i wr=>∃(j:Nat),j≤len∧i=.int .i64 (j:Int)∧kk=.int .i64 ((K+N j:Nat):Int)∧Hid (Below w.heap.size w wr)) (fun _ i _=>len - (intOf i).toNat)
  case atStart=>exact⟨0,by omega,rfl,by have:=HM0.out;congr 1;omega,Below.refl _ _⟩
  case round=>
    obtain⟨j,hj,rfl,rfl,HI⟩:=hrel
    obtain⟨M,hM⟩: ∃M:Nat,M=K+N j:=⟨_,rfl⟩
    rw[←hM]
    have HM:Hid (M=K+N j):=hM
    clear hM
    by_cases hlt:j<len
    · obtain ⟨g, off, rfl, sg⟩ := hs.out.one j hlt
      have HNX:Hid _:=hs.out.nx j hlt
      have hle:=hs.out.le (len - (j+1)) (j+1) (by omega)
      obtain⟨u,hu⟩: ∃u,us j=u:=⟨_,rfl⟩
      rw[hu]at sg HNX
      have hle2:N j+(1+1+1+4 * u.s.n)≤N len:=by have:=HNX.out;unfold BuSeg.len at this;omega
      obtain⟨n,hn⟩: ∃n,n=N j:=⟨_,rfl⟩
      rw[←hn]at sg HM HNX hle2
      have HN:Hid (n=N j):=hn
      obtain⟨o,ho⟩: ∃o,o=off+j * 4:=⟨_,rfl⟩
      rw[←ho]at sg
      have HO:Hid (o=off+j * 4):=ho
      have SG:Hid (BuSeg w TL n g o u):=sg
      have SG:Hid (BuSeg wr TL n g o u):=SG.out.later HI.out
      have HH:Hid (Held wr TL K):=hH.out.later HI.out
      clear sg hu hn ho hle
      have hMl:M≤39999990:=by have:=HM.out;omega
      have i0:(0:Int)≤(j:Int):=by omega
      have i1:(j:Int)<(len:Int):=by omega
      have hc0:wr.cell? ⟨g,off+j * 4,none⟩=some (.int .i64 ((M:Int))):=by have h:=HH.out.int SG.out.p0 (z:=(M:Int)) (by have:=HM.out;omega);rw[HO.out]at h;exact h
      have hc1:wr.cell? ⟨g,off+j * 4+1,none⟩=some (.int .i64 ((M:Int)+1)):=by have h:=HH.out.int SG.out.p1 (z:=(M:Int)+1) (by have:=HM.out;omega);rw[HO.out]at h;exact h
      have hc2:wr.cell? ⟨g,off+j * 4+2,none⟩=some (.int .i64 ((M:Int)+1+1)):=by have h:=HH.out.int SG.out.p2 (z:=(M:Int)+1+1) (by have:=HM.out;omega);rw[HO.out]at h;exact h
      have hc:wr.cell? ⟨g,off+j * 4+3,none⟩=some (.slice u.s.a u.s.n u.s.c):=by have h:=SG.out.h3;rw[HO.out]at h;exact h
      go_wp2_with fail
      clear hc hc0 hc1 hc2
      refine(heldItems_z TL K (n+1+1+1) u.s.a u.s.n u.s.c ((M:Int)+1+1+1) _ HH SG.out.s3 (by have:=HM.out;omega) (by omega) hK).mono ?_
      rintro e w4 ⟨M4,rfl,hm,b⟩
      have HM:Hid (M4=K+(n+1+1+1+4 * u.s.n)):=hm
      have HH:Hid (Held w4 TL K):=HH.out.later b
      have SG:Hid (BuSeg w4 TL n g o u):=SG.out.later b
      have HI:Hid (Below w.heap.size w w4):=qAa HI.out b
      have hMl:M4≤39999990:=by omega
      have hM0:decide ((M4:Int)<0)=false:=by simp
      clear hm b
      go_wp2_with fail
      go_roundw
      case rel=>
        have e:K+N (j+1)=K+(n+(1+1+1+4 * u.s.n)):=by have h1:=HNX.out;unfold BuSeg.len at h1;omega
        exact⟨j+1,by omega,by go_num,by have:=HM.out;congr 1;omega,HI⟩
      case measure=>simp[intOf];omega
    · obtain rfl : j = len := by omega
      go_wp2_with fail
      go_ret
      exact⟨M,rfl,HM.out,HI.out⟩
/-- where the places of one lie. -/
structure EvSeg (w:World) (TL:List Spot) (n g o:Nat) (u:Ev):Prop where
  gl:g<w.heap.size
  p0:TL[n]? =some (g,o,0)
  p1:TL[n+1]? =some (g,o+1,0)
  h2:w.cell? ⟨g,o+2,none⟩=some (.slice u.sm.a u.sm.n u.sm.c)
  q2: ∀s∈TL,¬(s.1=g∧s.2.1=o+2)
  s2:Seg TL (n+1+1) u.sm.a u.sm.n [0]
  p3:TL[n+1+1+u.sm.n]? =some (g,o+3,0)
  p4:TL[n+1+1+u.sm.n+1]? =some (g,o+4,0)
  p5:TL[n+1+1+u.sm.n+1+1]? =some (g,o+5,0)
  p6:TL[n+1+1+u.sm.n+1+1+1]? =some (g,o+6,2)
  h7:w.cell? ⟨g,o+7,none⟩=some (.slice u.sw.a u.sw.n u.sw.c)
  q7: ∀s∈TL,¬(s.1=g∧s.2.1=o+7)
  s7:Seg TL (n+1+1+u.sm.n+1+1+1+1) u.sw.a u.sw.n [0]
def EvSeg.len(u:Ev):Nat:=1+1+u.sm.n+1+1+1+1+u.sw.n
theorem EvSeg.marked{w0 ws w:World}{TL:List Spot}{n g o K m:Nat}{u:Ev}(h:EvSeg w0 TL n g o u)(k:MkI w0 ws TL K m w):EvSeg w TL n g o u:=
  {h with gl:=by have:=h.gl;have:=k.size;omega,h2:=k.cell h.gl h.q2 h.h2,h7:=k.cell h.gl h.q7 h.h7}
theorem EvSeg.later{w w':World}{TL:List Spot}{n g o:Nat}{u:Ev}(h:EvSeg w TL n g o u)(b:Below w.heap.size w w'):EvSeg w' TL n g o u:=
  {h with gl:=by have:=h.gl;have:=b.size;omega,h2:=(qAn (b.block _ h.gl)).trans h.h2,h7:=(qAn (b.block _ h.gl)).trans h.h7}
/-- .. and of a list of them. -/
structure EvSegL (w:World) (TL:List Spot) (ao:Option Addr) (len:Nat) (us:Nat→Ev) (N:Nat→Nat):Prop where
  one: ∀j,j<len→∃g off,ao=some ⟨g,off,none⟩∧EvSeg w TL (N j) g (off+j * 8) (us j)
  nx: ∀j,j<len→N (j+1)=N j+EvSeg.len (us j)
theorem EvSegL.marked{w0 ws w:World}{TL:List Spot}{ao:Option Addr}{len K m:Nat}{us:Nat→Ev}{N:Nat→Nat}(h:EvSegL w0 TL ao len us N)(k:MkI w0 ws TL K m w):EvSegL w TL ao len us N:=⟨fun j hj=>by obtain⟨g,off,e,x⟩:=h.one j hj;exact⟨g,off,e,x.marked k⟩,h.nx⟩
theorem EvSegL.later{w w':World}{TL:List Spot}{ao:Option Addr}{len:Nat}{us:Nat→Ev}{N:Nat→Nat}(h:EvSegL w TL ao len us N)(b:Below w.heap.size w w'):EvSegL w' TL ao len us N:=⟨fun j hj=>by obtain⟨g,off,e,x⟩:=h.one j hj;exact⟨g,off,e,x.later b⟩,h.nx⟩
theorem EvSegL.le{w:World}{TL:List Spot}{ao:Option Addr}{len:Nat}{us:Nat→Ev}{N:Nat→Nat}(h:EvSegL w TL ao len us N): ∀(d j:Nat),j+d=len→N j≤N len
  |0,j,e=>by rw[show j=len by omega];exact Nat.le_refl _
  | d + 1, j, e => by
    have h1:=h.nx j (by omega)
    have h2:=h.le d (j+1) (by omega)
    omega
theorem qGn(w0:World)(TL:List Spot)(K:Nat)(ao:Option Addr)(len cap:Nat)(us:Nat→Ev)(N:Nat→Nat)(z:Int)(w:World)(hT:Hid (TLok w0 TL))(hI:Hid (MkI w0 w TL K (N 0) w))(hs:Hid (EvSegL w0 TL ao len us N))(hz:Hid (z=((K+N 0:Nat):Int)))(hl:K+N len≤39999990)(hll:len≤39999990)(hK:0<K):
    Calls Tryz.prog 48 #[.slice ao len cap,.int .i64 z] w fun e w'=>∃M:Nat,e=.returned (.int .i64 (M:Int))∧M=K+N len∧MkI w0 w TL K (N len) w':=by
  obtain⟨M0,hM0⟩: ∃M:Nat,M=K+N 0:=⟨_,rfl⟩
  have e0:z=(M0:Int):=by have:=hz.out;omega
  subst e0
  have HM0:Hid (M0=K+N 0):=hM0
  clear hM0 hz
  go_enter Tryz.func48,Tryz.ntmps48
  go_wp2_with fail
  go_loopw [1,5] (fun kk i wr=>∃(j:Nat),j≤len∧i=.int .i64 (j:Int)∧kk=.int .i64 ((K+N j:Nat):Int)∧Hid (MkI w0 w TL K (N j) wr)) (fun _ i _=>len - (intOf i).toNat)
  case atStart=>exact⟨0,by omega,rfl,by have:=HM0.out;congr 1;omega,hI⟩
  case round=>
    obtain⟨j,hj,rfl,rfl,HI⟩:=hrel
    obtain⟨M,hM⟩: ∃M:Nat,M=K+N j:=⟨_,rfl⟩
    rw[←hM]
    have HM:Hid (M=K+N j):=hM
    clear hM
    by_cases hlt:j<len
    · obtain ⟨g, off, rfl, sg⟩ := hs.out.one j hlt
      have HNX:Hid _:=hs.out.nx j hlt
      have hle:=hs.out.le (len - (j+1)) (j+1) (by omega)
      obtain⟨u,hu⟩: ∃u,us j=u:=⟨_,rfl⟩
      rw[hu]at sg HNX
      have hle2:N j+(1+1+u.sm.n+1+1+1+1+u.sw.n)≤N len:=by have:=HNX.out;unfold EvSeg.len at this;omega
      obtain⟨n,hn⟩: ∃n,n=N j:=⟨_,rfl⟩
      rw[←hn]at sg HM HNX hle2 HI
      have HN:Hid (n=N j):=hn
      obtain⟨o,ho⟩: ∃o,o=off+j * 8:=⟨_,rfl⟩
      rw[←ho]at sg
      have HO:Hid (o=off+j * 8):=ho
      have SG:Hid (EvSeg w0 TL n g o u):=sg
      clear sg hu hn ho hle
      have hMl:M≤39999990:=by have:=HM.out;omega
      have i0:(0:Int)≤(j:Int):=by omega
      have i1:(j:Int)<(len:Int):=by omega
      have sp:TL[n]? =some (g,off+j * 8,0):=by have h:=SG.out.p0;rw[HO.out]at h;exact h
      have SP:Hid _:=sp
      clear sp
      go_wp2_with (first|(refine qAc 3 _ _ rfl ?_))
      refine Stp.go ?_
      refine qAu rfl 3 _ _ rfl rfl _ rfl Tryz.sizeK3 hT.out HI.out SP.out (vkI (by have:=HM.out;omega)) ?_
      intro w1 hi
      have HI:Hid (MkI w0 w TL K (n+1) w1):=hi
      clear hi SP
      have sp:TL[n+1]? =some (g,off+j * 8+1,0):=by have h:=SG.out.p1;rw[HO.out]at h;exact h
      have SP:Hid _:=sp
      clear sp
      go_wp2_with (first|(refine qAc 3 _ _ rfl ?_))
      refine Stp.go ?_
      refine qAu rfl 3 _ _ rfl rfl _ rfl Tryz.sizeK3 hT.out HI.out SP.out (vkI (by have:=HM.out;omega)) ?_
      intro w2 hi
      have HI:Hid (MkI w0 w TL K (n+1+1) w2):=hi
      clear hi SP
      have hc:w2.cell? ⟨g,off+j * 8+2,none⟩=some (.slice u.sm.a u.sm.n u.sm.c):=by have h:=HI.out.cell SG.out.gl SG.out.q2 SG.out.h2;rw[HO.out]at h;exact h
      go_wp2_with fail
      clear hc
      refine(markI_z w0 TL K (n+1+1) u.sm.a u.sm.n u.sm.c ((M:Int)+1+1) _ hT HI.out.anchor SG.out.s2 (by have:=HM.out;omega) (by omega)).mono ?_
      rintro e w3 ⟨M3,rfl,hm,hi⟩
      have HM:Hid (M3=K+(n+1+1+u.sm.n)):=hm
      have HI:Hid (MkI w0 w TL K (n+1+1+u.sm.n) w3):=HI.out.back hi
      have hMl:M3≤39999990:=by omega
      clear hm hi
      have sp:TL[n+1+1+u.sm.n]? =some (g,off+j * 8+3,0):=by have h:=SG.out.p3;rw[HO.out]at h;exact h
      have SP:Hid _:=sp
      clear sp
      go_wp2_with (first|(refine qAc 3 _ _ rfl ?_))
      refine Stp.go ?_
      refine qAu rfl 3 _ _ rfl rfl _ rfl Tryz.sizeK3 hT.out HI.out SP.out (vkI (by have:=HM.out;omega)) ?_
      intro w4 hi
      have HI:Hid (MkI w0 w TL K (n+1+1+u.sm.n+1) w4):=hi
      clear hi SP
      have sp:TL[n+1+1+u.sm.n+1]? =some (g,off+j * 8+4,0):=by have h:=SG.out.p4;rw[HO.out]at h;exact h
      have SP:Hid _:=sp
      clear sp
      go_wp2_with (first|(refine qAc 3 _ _ rfl ?_))
      refine Stp.go ?_
      refine qAu rfl 3 _ _ rfl rfl _ rfl Tryz.sizeK3 hT.out HI.out SP.out (vkI (by have:=HM.out;omega)) ?_
      intro w5 hi
      have HI:Hid (MkI w0 w TL K (n+1+1+u.sm.n+1+1) w5):=hi
      clear hi SP
      have sp:TL[n+1+1+u.sm.n+1+1]? =some (g,off+j * 8+5,0):=by have h:=SG.out.p5;rw[HO.out]at h;exact h
      have SP:Hid _:=sp
      clear sp
      go_wp2_with (first|(refine qAc 3 _ _ rfl ?_))
      refine Stp.go ?_
      refine qAu rfl 3 _ _ rfl rfl _ rfl Tryz.sizeK3 hT.out HI.out SP.out (vkI (by have:=HM.out;omega)) ?_
      intro w6 hi
      have HI:Hid (MkI w0 w TL K (n+1+1+u.sm.n+1+1+1) w6):=hi
      clear hi SP
      go_wp2_with fail
      refine(qCr ((M3:Int)+1+1+1) w6 (by omega) (by omega)).mono ?_
      rintro e w7 ⟨rfl,b⟩
      have HI:Hid (MkI w0 w TL K (n+1+1+u.sm.n+1+1+1) w7):=HI.out.later hT.out b
      clear b
      have sp:TL[n+1+1+u.sm.n+1+1+1]? =some (g,off+j * 8+6,2):=by have h:=SG.out.p6;rw[HO.out]at h;exact h
      have SP:Hid _:=sp
      clear sp
      go_wp2_with (first|(refine qAc 9 _ _ rfl ?_))
      refine Stp.go ?_
      refine qAu rfl 9 _ _ rfl rfl _ rfl Tryz.sizeK9 hT.out HI.out SP.out (by show Value.string _=_;rw[vk2];congr 2;have:=HM.out;omega) ?_
      intro x7 hi
      have HI:Hid (MkI w0 w TL K (n+1+1+u.sm.n+1+1+1+1) x7):=hi
      clear hi SP
      have hc:x7.cell? ⟨g,off+j * 8+7,none⟩=some (.slice u.sw.a u.sw.n u.sw.c):=by have h:=HI.out.cell SG.out.gl SG.out.q7 SG.out.h7;rw[HO.out]at h;exact h
      go_wp2_with fail
      clear hc
      refine(markI_z w0 TL K (n+1+1+u.sm.n+1+1+1+1) u.sw.a u.sw.n u.sw.c ((M3:Int)+1+1+1+1) _ hT HI.out.anchor SG.out.s7 (by have:=HM.out;omega) (by omega)).mono ?_
      rintro e w8 ⟨M8,rfl,hm,hi⟩
      have HM:Hid (M8=K+(n+1+1+u.sm.n+1+1+1+1+u.sw.n)):=hm
      have HI:Hid (MkI w0 w TL K (n+1+1+u.sm.n+1+1+1+1+u.sw.n) w8):=HI.out.back hi
      have hMl:M8≤39999990:=by omega
      clear hm hi
      go_wp2_with fail
      go_roundw
      case rel=>
        have e:K+N (j+1)=K+(n+(1+1+u.sm.n+1+1+1+1+u.sw.n)):=by have h1:=HNX.out;unfold EvSeg.len at h1;omega
        refine⟨j+1,by omega,by go_num,by have:=HM.out;congr 1;omega,?_⟩
        have h:=HI.out
        rw[show N (j+1)=n+1+1+u.sm.n+1+1+1+1+u.sw.n by omega]
        exact h
      case measure=>simp[intOf];omega
    · obtain rfl : j = len := by omega
      go_wp2_with fail
      go_ret
      exact⟨M,rfl,HM.out,HI.out⟩
theorem qGs(TL:List Spot)(K:Nat)(ao:Option Addr)(len cap:Nat)(us:Nat→Ev)(N:Nat→Nat)(z:Int)(w:World)(hH:Hid (Held w TL K))(hs:Hid (EvSegL w TL ao len us N))(hz:Hid (z=((K+N 0:Nat):Int)))(hl:K+N len≤39999990)(hll:len≤39999990)(hK:0<K):
    Calls Tryz.prog 53 #[.slice ao len cap,.int .i64 z] w fun e w'=>∃M:Nat,e=.returned (.int .i64 (M:Int))∧M=K+N len∧Below w.heap.size w w':=by
  obtain⟨M0,hM0⟩: ∃M:Nat,M=K+N 0:=⟨_,rfl⟩
  have e0:z=(M0:Int):=by have:=hz.out;omega
  subst e0
  have HM0:Hid (M0=K+N 0):=hM0
  clear hM0 hz
  go_enter Tryz.func53,Tryz.ntmps53
  go_wp2_with fail
  go_loopw [1,5] (fun kk i wr=>∃(j:Nat),j≤len∧i=.int .i64 (j:Int)∧kk=.int .i64 ((K+N j:Nat):Int)∧Hid (Below w.heap.size w wr)) (fun _ i _=>len - (intOf i).toNat)
  case atStart=>exact⟨0,by omega,rfl,by have:=HM0.out;congr 1;omega,Below.refl _ _⟩
  case round=>
    obtain⟨j,hj,rfl,rfl,HI⟩:=hrel
    obtain⟨M,hM⟩: ∃M:Nat,M=K+N j:=⟨_,rfl⟩
    rw[←hM]
    have HM:Hid (M=K+N j):=hM
    clear hM
    by_cases hlt:j<len
    · obtain ⟨g, off, rfl, sg⟩ := hs.out.one j hlt
      have HNX:Hid _:=hs.out.nx j hlt
      have hle:=hs.out.le (len - (j+1)) (j+1) (by omega)
      obtain⟨u,hu⟩: ∃u,us j=u:=⟨_,rfl⟩
      rw[hu]at sg HNX
      have hle2:N j+(1+1+u.sm.n+1+1+1+1+u.sw.n)≤N len:=by have:=HNX.out;unfold EvSeg.len at this;omega
      obtain⟨n,hn⟩: ∃n,n=N j:=⟨_,rfl⟩
      rw[←hn]at sg HM HNX hle2
      have HN:Hid (n=N j):=hn
      obtain⟨o,ho⟩: ∃o,o=off+j * 8:=⟨_,rfl⟩
      rw[←ho]at sg
      have HO:Hid (o=off+j * 8):=ho
      have SG:Hid (EvSeg w TL n g o u):=sg
      have SG:Hid (EvSeg wr TL n g o u):=SG.out.later HI.out
      have HH:Hid (Held wr TL K):=hH.out.later HI.out
      clear sg hu hn ho hle
      have hMl:M≤39999990:=by have:=HM.out;omega
      have i0:(0:Int)≤(j:Int):=by omega
      have i1:(j:Int)<(len:Int):=by omega
      have hc0:wr.cell? ⟨g,off+j * 8,none⟩=some (.int .i64 ((M:Int))):=by have h:=HH.out.int SG.out.p0 (z:=(M:Int)) (by have:=HM.out;omega);rw[HO.out]at h;exact h
      have hc1:wr.cell? ⟨g,off+j * 8+1,none⟩=some (.int .i64 ((M:Int)+1)):=by have h:=HH.out.int SG.out.p1 (z:=(M:Int)+1) (by have:=HM.out;omega);rw[HO.out]at h;exact h
      have hc:wr.cell? ⟨g,off+j * 8+2,none⟩=some (.slice u.sm.a u.sm.n u.sm.c):=by have h:=SG.out.h2;rw[HO.out]at h;exact h
      go_wp2_with fail
      clear hc hc0 hc1
      refine(heldI_z TL K (n+1+1) u.sm.a u.sm.n u.sm.c ((M:Int)+1+1) _ HH SG.out.s2 (by have:=HM.out;omega) (by omega)).mono ?_
      rintro e w3 ⟨M3,rfl,hm,b⟩
      have HM:Hid (M3=K+(n+1+1+u.sm.n)):=hm
      have HH:Hid (Held w3 TL K):=HH.out.later b
      have SG:Hid (EvSeg w3 TL n g o u):=SG.out.later b
      have HI:Hid (Below w.heap.size w w3):=qAa HI.out b
      have hMl:M3≤39999990:=by omega
      have hM0:decide ((M3:Int)<0)=false:=by simp
      clear hm b
      have hc3:w3.cell? ⟨g,off+j * 8+3,none⟩=some (.int .i64 ((M3:Int))):=by have h:=HH.out.int SG.out.p3 (z:=(M3:Int)) (by have:=HM.out;omega);rw[HO.out]at h;exact h
      have hc4:w3.cell? ⟨g,off+j * 8+4,none⟩=some (.int .i64 ((M3:Int)+1)):=by have h:=HH.out.int SG.out.p4 (z:=(M3:Int)+1) (by have:=HM.out;omega);rw[HO.out]at h;exact h
      have hc5:w3.cell? ⟨g,off+j * 8+5,none⟩=some (.int .i64 ((M3:Int)+1+1)):=by have h:=HH.out.int SG.out.p5 (z:=(M3:Int)+1+1) (by have:=HM.out;omega);rw[HO.out]at h;exact h
      have hMk:0<(M3:Int)+1+1+1∧(M3:Int)+1+1+1≤40000000:=by have:=HM.out;omega
      have HTX:Hid (w3.cell? ⟨g,off+j * 8+6,none⟩=some (.string (qAq ((M3:Int)+1+1+1).toNat))):=(by have h:=HH.out.text SG.out.p6 (k:=((M3:Int)+1+1+1).toNat) (by have:=HM.out;omega);rw[HO.out]at h;exact h:_=_)
      have hgl:g<w3.heap.size:=SG.out.gl
      go_wp2_with fail
      clear hc3 hc4 hc5
      refine qBd (C:=fun w'=>Below w3.heap.size w3 w') (by kernel_rfl) (by kernel_rfl) (Below.refl _ _).drew ?_
      go_big_quiet_want
      refine qAd (.slice (some ⟨g,off,none⟩) len cap) (fun w' hw'=>by go_simp) ?_
      go_big_quiet_on
      simp only[Act.put,List.setIfInBounds_toArray,List.set_cons_zero,List.set_cons_succ]
      go_big_quiet_want
      refine qAd (.int .i64 ((j:Int))) (fun w' hw'=>by go_simp) ?_
      go_big_quiet_on
      simp only[Act.put,List.setIfInBounds_toArray,List.set_cons_zero,List.set_cons_succ]
      go_big_quiet_want
      refine qAd (.pointer (some ⟨g,off+j * 8,none⟩)) (fun w' hw'=>by go_simp) ?_
      go_big_quiet_on
      simp only[Act.put,List.setIfInBounds_toArray,List.set_cons_zero,List.set_cons_succ]
      go_big_quiet_want
      refine qAd (.pointer (some ⟨g,off+j * 8+3,none⟩)) (fun w' hw'=>by go_simp) ?_
      go_big_quiet_on
      simp only[Act.put,List.setIfInBounds_toArray,List.set_cons_zero,List.set_cons_succ]
      go_big_quiet_want
      refine qAd (.pointer (some ⟨g,off+j * 8+3+3,none⟩)) (fun w' hw'=>by go_simp) ?_
      go_big_quiet_on
      simp only[Act.put,List.setIfInBounds_toArray,List.set_cons_zero,List.set_cons_succ]
      go_big_quiet_want
      refine qAd (.string (qAq ((M3:Int)+1+1+1).toNat)) (fun w' hw'=>by have c0:w'.cell? ⟨g,off+j * 8+3+3,none⟩=some (.string (qAq ((M3:Int)+1+1+1).toNat)):=(hw'.cell (p:=⟨g,off+j * 8+3+3,none⟩) hgl).trans HTX.out;go_simp) ?_
      go_big_quiet_on
      simp only[Act.put,List.setIfInBounds_toArray,List.set_cons_zero,List.set_cons_succ]
      go_big_quiet_want
      refine qAd (.int .i64 ((M3:Int)+1+1+1)) (fun w' hw'=>by go_simp) ?_
      go_big_quiet_on
      simp only[Act.put,List.setIfInBounds_toArray,List.set_cons_zero,List.set_cons_succ]
      go_big_quiet_want
      refine qBf (W:=w3) (.string (qAq ((M3:Int)+1+1+1).toNat)) 98 #[(.int .i64 ((M3:Int)+1+1+1))] (fun w' hw'=>by go_simp) (fun w' hw'=>qCr ((M3:Int)+1+1+1) w' (by omega) (by omega)) ?_
      go_big_quiet_on
      simp only[Act.put,List.setIfInBounds_toArray,List.set_cons_zero,List.set_cons_succ]
      go_big_quiet_want
      refine qAd (.bool false) (fun w' hw'=>by go_simp) ?_
      go_big_quiet_on
      simp only[Act.put,List.setIfInBounds_toArray,List.set_cons_zero,List.set_cons_succ]
      refine wpQuiet_nil ?_
      intro w7 b
      have HH:Hid (Held w7 TL K):=HH.out.later b
      have SG:Hid (EvSeg w7 TL n g o u):=SG.out.later b
      have HI:Hid (Below w.heap.size w w7):=qAa HI.out b
      clear b HTX
      have hc:w7.cell? ⟨g,off+j * 8+7,none⟩=some (.slice u.sw.a u.sw.n u.sw.c):=by have h:=SG.out.h7;rw[HO.out]at h;exact h
      go_wp2_with fail
      clear hc
      refine(heldI_z TL K (n+1+1+u.sm.n+1+1+1+1) u.sw.a u.sw.n u.sw.c ((M3:Int)+1+1+1+1) _ HH SG.out.s7 (by have:=HM.out;omega) (by omega)).mono ?_
      rintro e w8 ⟨M8,rfl,hm,b⟩
      have HM:Hid (M8=K+(n+1+1+u.sm.n+1+1+1+1+u.sw.n)):=hm
      have HH:Hid (Held w8 TL K):=HH.out.later b
      have SG:Hid (EvSeg w8 TL n g o u):=SG.out.later b
      have HI:Hid (Below w.heap.size w w8):=qAa HI.out b
      have hMl:M8≤39999990:=by omega
      have hM0:decide ((M8:Int)<0)=false:=by simp
      clear hm b
      go_wp2_with fail
      go_roundw
      case rel=>
        have e:K+N (j+1)=K+(n+(1+1+u.sm.n+1+1+1+1+u.sw.n)):=by have h1:=HNX.out;unfold EvSeg.len at h1;omega
        exact⟨j+1,by omega,by go_num,by have:=HM.out;congr 1;omega,HI⟩
      case measure=>simp[intOf];omega
    · obtain rfl : j = len := by omega
      go_wp2_with fail
      go_ret
      exact⟨M,rfl,HM.out,HI.out⟩
def zBu:Bu:=⟨0,0,0,[],zSv⟩
def fdBu(u:Bu):List Fd:=[⟨0,0,none,[]⟩,⟨1,0,none,[]⟩,⟨2,0,none,[]⟩,⟨3,0,some u.s,[0,0,0,2]⟩]
def atBu(es:List Bu)(j:Nat):Bu:=(es[j]?).getD zBu
theorem qCt{es:List Bu}{j:Nat}(h:j<es.length):atBu es j=es[j]:=by simp[atBu,h]
theorem Bu.lvs{w:World}{B:Nat}{e:Bu}(h:e.O w B):LvS w e.s 4:=SlI.lv h
theorem Bu.ow{w:World}{B:Nat}{e:Bu}(h:e.O w B){f:Fd}(hf:f∈fdBu e){x:Nat}(hx:f.ow x):e.own x:=by
  obtain⟨s,h1,h2,h3⟩:=hx
  simp only[fdBu,List.mem_cons,List.not_mem_nil,or_false]at hf
  have lv:=Bu.lvs h
  rcases hf with rfl|rfl|rfl|rfl
  · cases h1
  · cases h1
  · cases h1
  · simp only [Option.some.injEq] at h1
    subst h1
    rw[←h3]
    exact ow_own (fun h0=>(lv h0).1) h2
theorem fdBu_ok{w:World}{B:Nat}{s:Sv}{es:List Bu}(h:BusO w B s es)(a:BusA s es):FdOk w (svB s) 4 es.length (fun j=>fdBu (atBu es j)):=by
  refine⟨fun j hj f hf hs=>?_,fun j hj f hf hx=>?_,fun j hj=>?_,fun i j hij hj f hf f' hf' x hx hy=>?_,fun j hj f hf s' hs=>?_⟩
  · simp only [fdBu, List.mem_cons, List.not_mem_nil, or_false] at hf
    rcases hf with rfl|rfl|rfl|rfl<;>first|(simp;done)|cases hs
  · have ho := h.2 _ (List.getElem_mem hj)
    try dsimp only at hf
    rw[qCt hj]at hf
    obtain⟨ha,_⟩:=qCh h.1 (by simpa using (by omega:0<es.length))
    exact a.row (svB s) (by simp[Sv.v,Value.ownBlock,ha]) _ (List.getElem_mem hj) (Bu.ow ho hf hx)
  · try dsimp only
    rw[qCt hj]
    have lv:=Bu.lvs (h.2 _ (List.getElem_mem hj))
    obtain⟨u,hu⟩: ∃u,u=es[j]:=⟨_,rfl⟩
    have hm:u∈es:=by rw[hu];exact List.getElem_mem hj
    rw[←hu]at lv⊢
    simp only[fdBu,List.pairwise_cons,List.mem_cons,List.not_mem_nil,or_false,forall_eq_or_imp,forall_eq,List.Pairwise.nil,and_true,Fd.ow]
    simp
  · have ho := h.2 _ (List.getElem_mem hj)
    have hi:i<es.length:=by omega
    have hoi:=h.2 _ (List.getElem_mem hi)
    try dsimp only at hf hf'
    rw[qCt hi]at hf
    rw[qCt hj]at hf'
    exact List.pairwise_iff_getElem.1 a.two i j hi hj hij x (Bu.ow hoi hf hx) (Bu.ow ho hf' hy)
  · have lv := Bu.lvs (h.2 _ (List.getElem_mem hj))
    try dsimp only at hf
    rw[qCt hj]at hf
    simp only[fdBu,List.mem_cons,List.not_mem_nil,or_false]at hf
    rcases hf with rfl|rfl|rfl|rfl
    · cases hs
    · cases hs
    · cases hs
    · simp only [Option.some.injEq] at hs
      subst hs
      exact lv
theorem pcBu_len(g o:Nat)(u:Bu):(pc g o (fdBu u)).length=BuSeg.len u:=by
  simp[pc,fdBu,Fd.sp,qAs,BuSeg.len]
  omega
theorem segBu{w:World}{B:Nat}{s:Sv}{es:List Bu}(h:BusO w B s es)(a:BusA s es):BuSegL w (tls (svB s) (svO s) 4 (fun j=>fdBu (atBu es j)) es.length) s.a s.n (atBu es) (tlN (svB s) (svO s) 4 (fun j=>fdBu (atBu es j))):=by
  have hF:=fdBu_ok h a
  have hn:s.n=es.length:=by have:=h.1.slen;simpa using this
  rw[hn]
  refine⟨fun j hj=>?_,fun j hj=>?_⟩
  · obtain ⟨ha, hlt, hc, hfz⟩ := qCh h.1 (by simpa using (by omega : 0 < es.length))
    have ho:=h.2 _ (List.getElem_mem hj)
    have lv:=Bu.lvs ho
    refine⟨svB s,svO s,ha,?_⟩
    have hat: ∀r,r<(pc (svB s) (svO s+j * 4) (fdBu (atBu es j))).length→(tls (svB s) (svO s) 4 (fun j=>fdBu (atBu es j)) es.length)[tlN (svB s) (svO s) 4 (fun j=>fdBu (atBu es j)) j+r]? =(pc (svB s) (svO s+j * 4) (fdBu (atBu es j)))[r]? :=fun r hr=>tls_at (F:=fun j=>fdBu (atBu es j)) hj hr
    have hrow: ∀r u,(es[j].row)[r]? =some u→w.cell? ⟨svB s,svO s+j * 4+r,none⟩=some u:=fun r u hu=>hc j r u (by simpa using hj) (by simpa [hj] using hu)
    have hnot: ∀c,c<4→(∀i,i<es.length→∀f∈fdBu (atBu es i),f.s=none→f.c≠c)→∀x∈tls (svB s) (svO s) 4 (fun j=>fdBu (atBu es j)) es.length,¬(x.1=svB s∧x.2.1=svO s+j * 4+c):=fun c hc1 hc2=>tls_not hF hj hc1 hc2
    rw[qCt hj]at hat⊢
    obtain⟨u,hu⟩: ∃u,u=es[j]:=⟨_,rfl⟩
    rw[←hu]at hat hrow lv⊢
    generalize tlN (svB s) (svO s) 4 (fun j=>fdBu (atBu es j)) j=n at *
    generalize tls (svB s) (svO s) 4 (fun j=>fdBu (atBu es j)) es.length=TL at *
    generalize svO s+j * 4=o at *
    generalize svB s=g at *
    have fat: ∀(A:List Fd) (f:Fd) (C:List Fd) (r:Nat),fdBu u=A++f::C→r<(f.sp g o).length→TL[n+((pc g o A).length+r)]? =(f.sp g o)[r]? :=fun A f C r e hr=>by
      rw[hat _ (by rw[e];exact pc_len_lt A f C hr),e]
      exact pc_at A f C hr
    exact {gl:=hlt,p0:=by have h:=fat [] ⟨0,0,none,[]⟩ [⟨1,0,none,[]⟩,⟨2,0,none,[]⟩,⟨3,0,some u.s,[0,0,0,2]⟩] 0 rfl (by simp[Fd.sp]);simp[pc,Fd.sp,qAs]at h;first|exact h|(rw[←h];congr 1;omega),p1:=by have h:=fat [⟨0,0,none,[]⟩] ⟨1,0,none,[]⟩ [⟨2,0,none,[]⟩,⟨3,0,some u.s,[0,0,0,2]⟩] 0 rfl (by simp[Fd.sp]);simp[pc,Fd.sp,qAs]at h;first|exact h|(rw[←h];congr 1;omega),p2:=by have h:=fat [⟨0,0,none,[]⟩,⟨1,0,none,[]⟩] ⟨2,0,none,[]⟩ [⟨3,0,some u.s,[0,0,0,2]⟩] 0 rfl (by simp[Fd.sp]);simp[pc,Fd.sp,qAs]at h;first|exact h|(rw[←h];congr 1;omega),h3:=hrow 3 _ rfl,q3:=hnot 3 (by omega) (fun i hi f hf hs=>by simp only[fdBu,List.mem_cons,List.not_mem_nil,or_false]at hf;rcases hf with rfl|rfl|rfl|rfl<;>first|(simp;done)|cases hs),s3:=seg_of (fun h0=>(lv h0).1) (fun t ht=>by have h:=fat [⟨0,0,none,[]⟩,⟨1,0,none,[]⟩,⟨2,0,none,[]⟩] ⟨3,0,some u.s,[0,0,0,2]⟩ [] t rfl (by simpa [Fd.sp,qAs] using ht);have h2:=sps_at (ds:=[0,0,0,2]) (s:=u.s) ht;refine(congrArg (fun i=>TL[i]?) (?_:_=n+((pc g o [⟨0,0,none,[]⟩,⟨1,0,none,[]⟩,⟨2,0,none,[]⟩]).length+t))).trans (h.trans h2);simp[pc,Fd.sp,qAs];try omega)}
  · rw[qEn,pcBu_len]
/-- a list that is marked from K up to M. -/
def HeldBu(w:World)(s:Sv)(es:List Bu)(K M:Nat):Prop:=∃(TL:List Spot) (us:Nat→Bu) (N:Nat→Nat),Held w TL K∧BuSegL w TL s.a s.n us N∧N 0=0∧M=K+N s.n∧s.n≤1048576∧(∀x∈TL,qCd s es x.1)
theorem HeldBu.keep{w w':World}{s:Sv}{es:List Bu}{K M:Nat}(h:HeldBu w s es K M)(hz:w.heap.size≤w'.heap.size)(hk: ∀b,qCd s es b→b<w.heap.size→w'.heap[b]? =w.heap[b]?):HeldBu w' s es K M:=by
  obtain⟨TL,us,N,h1,h2,h3,h4,h6,h5⟩:=h
  refine⟨TL,us,N,fun i x hx=>?_,⟨fun j hj=>?_,h2.nx⟩,h3,h4,h6,h5⟩
  · obtain ⟨k1, k2⟩ := h1 i x hx
    exact⟨by omega,(qAn (hk x.1 (h5 x (List.mem_of_getElem? hx)) k1)).trans k2⟩
  · obtain ⟨g, off, e, x⟩ := h2.one j hj
    have hb:=hk g (.inl (by simp[Sv.v,Value.ownBlock,e])) x.gl
    exact⟨g,off,e,{x with gl:=by have:=x.gl;omega,h3:=(qAn hb).trans x.h3}⟩
theorem HeldBu.later{w w':World}{s:Sv}{es:List Bu}{K M:Nat}(h:HeldBu w s es K M)(b:Below w.heap.size w w'):HeldBu w' s es K M:=h.keep b.size fun k _ hk=>b.block k hk
theorem tlN_Bu{w:World}{B:Nat}{s:Sv}{es:List Bu}(h:BusO w B s es): ∀k,k≤es.length→tlN (svB s) (svO s) 4 (fun j=>fdBu (atBu es j)) k≤3 * k+4 * Bus.tot (es.take k)
  |0,_=>by simp[tlN,tls]
  | k + 1, hk => by
    have ih:=tlN_Bu h k (by omega)
    have ho:=h.2 _ (List.getElem_mem (show k<es.length by omega))
    rw[qEn,pcBu_len,Bus.tot_take es k (by omega),qCt (by omega)]
    have:=SlI.len ho
    unfold BuSeg.len Bu.sz
    omega
theorem markBus_o(s:Sv)(es:List Bu)(B K:Nat)(w:World)(h:Hid (BusO w B s es))(a:Hid (BusA s es))(hK:0<K)(hn:es.length≤1048576)(hl:K+(3 * es.length+4 * Bus.tot es)≤39999990):
    Calls Tryz.prog 16 #[.slice s.a s.n s.c,.int .i64 K] w fun e w'=>∃M:Nat,e=.returned (.int .i64 (M:Int))∧K≤M∧M≤K+(3 * es.length+4 * Bus.tot es)∧HeldBu w' s es K M∧Gr (qCd s es) w w':=by
  have hN:=h.out.1.slen
  rw[List.length_map]at hN
  have tok:=tls_ok (F:=fun j=>fdBu (atBu es j)) h.out.1 (by simpa using fdBu_ok h.out a.out)
  rw[List.length_map]at tok
  have sg:=segBu h.out a.out
  have hb:=tlN_Bu h.out es.length (Nat.le_refl _)
  rw[List.take_of_length_le (Nat.le_refl _)]at hb
  have hle:K+tlN (svB s) (svO s) 4 (fun j=>fdBu (atBu es j)) s.n≤39999990:=by rw[hN];omega
  have hin: ∀x∈tls (svB s) (svO s) 4 (fun j=>fdBu (atBu es j)) es.length,qCd s es x.1:=fun x hx=>by
    rcases tls_in hx with h1|⟨j,hj,f,hf,h1⟩
    · obtain ⟨j, hj, _⟩ := qEv hx
      obtain⟨ha,_⟩:=qCh h.out.1 (by simpa using (by omega:0<es.length))
      rw[h1]
      exact .inl (by simp[Sv.v,Value.ownBlock,ha])
    · rw [qCt hj] at hf
      exact .inr ⟨_,List.getElem_mem hj,Bu.ow (h.out.2 _ (List.getElem_mem hj)) hf h1⟩
  have hz0:tlN (svB s) (svO s) 4 (fun j=>fdBu (atBu es j)) 0=0:=by simp[tlN,tls]
  have mst:MkI w w (tls (svB s) (svO s) 4 (fun j=>fdBu (atBu es j)) es.length) K (tlN (svB s) (svO s) 4 (fun j=>fdBu (atBu es j)) 0) w:=by rw[hz0];exact MkI.start w _ K
  refine(qFq w _ K s.a s.n s.c (atBu es) (tlN (svB s) (svO s) 4 (fun j=>fdBu (atBu es j))) (K:Int) w tok mst sg (by rw[hz0];rfl:(K:Int)=((K+tlN (svB s) (svO s) 4 (fun j=>fdBu (atBu es j)) 0:Nat):Int)) hle (by rw[hN];omega) hK).mono ?_
  rintro e w' ⟨M,rfl,hM,mk⟩
  have hTL:tlN (svB s) (svO s) 4 (fun j=>fdBu (atBu es j)) s.n=(tls (svB s) (svO s) 4 (fun j=>fdBu (atBu es j)) es.length).length:=by rw[hN];rfl
  have b0:=mk.below 0 (fun _ _=>Nat.zero_le _) (Nat.zero_le _)
  refine⟨M,rfl,by omega,by rw[hM,hN];omega,⟨_,_,_,(show Held w' _ K from(by rw[hTL]at mk;exact mk.held tok)),sg.marked mk,by simp[tlN,tls],hM,by rw[hN];omega,hin⟩,⟨b0.os,b0.tape,b0.output,mk.size,fun b hb hn=>mk.blk b hb (fun x hx e=>hn (e ▸ hin x hx))⟩⟩
theorem heldBus_o(s:Sv)(es:List Bu)(K M:Nat)(w:World)(h:Hid (HeldBu w s es K M))(hK:0<K)(hl:M≤39999990):
    Calls Tryz.prog 18 #[.slice s.a s.n s.c,.int .i64 K] w fun e w'=>e=.returned (.int .i64 (M:Int))∧Below w.heap.size w w':=by
  obtain⟨TL,us,N,h1,h2,h3,h4,h6,h5⟩:=h.out
  refine(qFs TL K s.a s.n s.c us N (K:Int) w h1 h2 (by rw[h3];rfl:_=_) (by omega) (by omega) hK).mono ?_
  rintro e w' ⟨M',rfl,hM,b⟩
  exact⟨by rw[hM,h4],b⟩
def zEv:Ev:=⟨0,0,[],0,0,0,⟨#[]⟩,[],zSv,zSv⟩
def fdEv(u:Ev):List Fd:=[⟨0,0,none,[]⟩,⟨1,0,none,[]⟩,⟨2,0,some u.sm,[0]⟩,⟨3,0,none,[]⟩,⟨4,0,none,[]⟩,⟨5,0,none,[]⟩,⟨6,2,none,[]⟩,⟨7,0,some u.sw,[0]⟩]
def atEv(es:List Ev)(j:Nat):Ev:=(es[j]?).getD zEv
theorem qCs{es:List Ev}{j:Nat}(h:j<es.length):atEv es j=es[j]:=by simp[atEv,h]
theorem Ev.lvs{w:World}{B:Nat}{e:Ev}(h:e.O w B):LvS w e.sm 1∧LvS w e.sw 1:=⟨OwnI.lv h.1,OwnI.lv h.2⟩
theorem Ev.ow{w:World}{B:Nat}{e:Ev}(h:e.O w B){f:Fd}(hf:f∈fdEv e){x:Nat}(hx:f.ow x):e.own x:=by
  obtain⟨s,h1,h2,h3⟩:=hx
  simp only[fdEv,List.mem_cons,List.not_mem_nil,or_false]at hf
  have lv:=Ev.lvs h
  rcases hf with rfl|rfl|rfl|rfl|rfl|rfl|rfl|rfl
  · cases h1
  · cases h1
  · simp only [Option.some.injEq] at h1
    subst h1
    rw[←h3]
    exact .inl (ow_own (fun h0=>(lv.1 h0).1) h2)
  · cases h1
  · cases h1
  · cases h1
  · cases h1
  · simp only [Option.some.injEq] at h1
    subst h1
    rw[←h3]
    exact .inr (ow_own (fun h0=>(lv.2 h0).1) h2)
theorem fdEv_ok{w:World}{B:Nat}{s:Sv}{es:List Ev}(h:EvsO w B s es)(a:EvsA s es):FdOk w (svB s) 8 es.length (fun j=>fdEv (atEv es j)):=by
  refine⟨fun j hj f hf hs=>?_,fun j hj f hf hx=>?_,fun j hj=>?_,fun i j hij hj f hf f' hf' x hx hy=>?_,fun j hj f hf s' hs=>?_⟩
  · simp only [fdEv, List.mem_cons, List.not_mem_nil, or_false] at hf
    rcases hf with rfl|rfl|rfl|rfl|rfl|rfl|rfl|rfl<;>first|(simp;done)|cases hs
  · have ho := h.2 _ (List.getElem_mem hj)
    try dsimp only at hf
    rw[qCs hj]at hf
    obtain⟨ha,_⟩:=qCh h.1 (by simpa using (by omega:0<es.length))
    exact a.row (svB s) (by simp[Sv.v,Value.ownBlock,ha]) _ (List.getElem_mem hj) (Ev.ow ho hf hx)
  · try dsimp only
    rw[qCs hj]
    have lv:=Ev.lvs (h.2 _ (List.getElem_mem hj))
    obtain⟨u,hu⟩: ∃u,u=es[j]:=⟨_,rfl⟩
    have hm:u∈es:=by rw[hu];exact List.getElem_mem hj
    rw[←hu]at lv⊢
    simp only[fdEv,List.pairwise_cons,List.mem_cons,List.not_mem_nil,or_false,forall_eq_or_imp,forall_eq,List.Pairwise.nil,and_true,Fd.ow]
    simp
    intro k1 k3 k4
    exact a.one u hm (svB u.sm) (ow_own (fun h0=>(lv.1 h0).1) k1) (by rw[←k4];exact ow_own (fun h0=>(lv.2 h0).1) k3)
  · have ho := h.2 _ (List.getElem_mem hj)
    have hi:i<es.length:=by omega
    have hoi:=h.2 _ (List.getElem_mem hi)
    try dsimp only at hf hf'
    rw[qCs hi]at hf
    rw[qCs hj]at hf'
    exact List.pairwise_iff_getElem.1 a.two i j hi hj hij x (Ev.ow hoi hf hx) (Ev.ow ho hf' hy)
  · have lv := Ev.lvs (h.2 _ (List.getElem_mem hj))
    try dsimp only at hf
    rw[qCs hj]at hf
    simp only[fdEv,List.mem_cons,List.not_mem_nil,or_false]at hf
    rcases hf with rfl|rfl|rfl|rfl|rfl|rfl|rfl|rfl
    · cases hs
    · cases hs
    · simp only [Option.some.injEq] at hs
      subst hs
      exact lv.1
    · cases hs
    · cases hs
    · cases hs
    · cases hs
    · simp only [Option.some.injEq] at hs
      subst hs
      exact lv.2
theorem pcEv_len(g o:Nat)(u:Ev):(pc g o (fdEv u)).length=EvSeg.len u:=by
  simp[pc,fdEv,Fd.sp,qAs,EvSeg.len]
  omega
theorem segEv{w:World}{B:Nat}{s:Sv}{es:List Ev}(h:EvsO w B s es)(a:EvsA s es):EvSegL w (tls (svB s) (svO s) 8 (fun j=>fdEv (atEv es j)) es.length) s.a s.n (atEv es) (tlN (svB s) (svO s) 8 (fun j=>fdEv (atEv es j))):=by
  have hF:=fdEv_ok h a
  have hn:s.n=es.length:=by have:=h.1.slen;simpa using this
  rw[hn]
  refine⟨fun j hj=>?_,fun j hj=>?_⟩
  · obtain ⟨ha, hlt, hc, hfz⟩ := qCh h.1 (by simpa using (by omega : 0 < es.length))
    have ho:=h.2 _ (List.getElem_mem hj)
    have lv:=Ev.lvs ho
    refine⟨svB s,svO s,ha,?_⟩
    have hat: ∀r,r<(pc (svB s) (svO s+j * 8) (fdEv (atEv es j))).length→(tls (svB s) (svO s) 8 (fun j=>fdEv (atEv es j)) es.length)[tlN (svB s) (svO s) 8 (fun j=>fdEv (atEv es j)) j+r]? =(pc (svB s) (svO s+j * 8) (fdEv (atEv es j)))[r]? :=fun r hr=>tls_at (F:=fun j=>fdEv (atEv es j)) hj hr
    have hrow: ∀r u,(es[j].row)[r]? =some u→w.cell? ⟨svB s,svO s+j * 8+r,none⟩=some u:=fun r u hu=>hc j r u (by simpa using hj) (by simpa [hj] using hu)
    have hnot: ∀c,c<8→(∀i,i<es.length→∀f∈fdEv (atEv es i),f.s=none→f.c≠c)→∀x∈tls (svB s) (svO s) 8 (fun j=>fdEv (atEv es j)) es.length,¬(x.1=svB s∧x.2.1=svO s+j * 8+c):=fun c hc1 hc2=>tls_not hF hj hc1 hc2
    rw[qCs hj]at hat⊢
    obtain⟨u,hu⟩: ∃u,u=es[j]:=⟨_,rfl⟩
    rw[←hu]at hat hrow lv⊢
    generalize tlN (svB s) (svO s) 8 (fun j=>fdEv (atEv es j)) j=n at *
    generalize tls (svB s) (svO s) 8 (fun j=>fdEv (atEv es j)) es.length=TL at *
    generalize svO s+j * 8=o at *
    generalize svB s=g at *
    have fat: ∀(A:List Fd) (f:Fd) (C:List Fd) (r:Nat),fdEv u=A++f::C→r<(f.sp g o).length→TL[n+((pc g o A).length+r)]? =(f.sp g o)[r]? :=fun A f C r e hr=>by
      rw[hat _ (by rw[e];exact pc_len_lt A f C hr),e]
      exact pc_at A f C hr
    exact {gl:=hlt,p0:=by have h:=fat [] ⟨0,0,none,[]⟩ [⟨1,0,none,[]⟩,⟨2,0,some u.sm,[0]⟩,⟨3,0,none,[]⟩,⟨4,0,none,[]⟩,⟨5,0,none,[]⟩,⟨6,2,none,[]⟩,⟨7,0,some u.sw,[0]⟩] 0 rfl (by simp[Fd.sp]);simp[pc,Fd.sp,qAs]at h;first|exact h|(rw[←h];congr 1;omega),p1:=by have h:=fat [⟨0,0,none,[]⟩] ⟨1,0,none,[]⟩ [⟨2,0,some u.sm,[0]⟩,⟨3,0,none,[]⟩,⟨4,0,none,[]⟩,⟨5,0,none,[]⟩,⟨6,2,none,[]⟩,⟨7,0,some u.sw,[0]⟩] 0 rfl (by simp[Fd.sp]);simp[pc,Fd.sp,qAs]at h;first|exact h|(rw[←h];congr 1;omega),h2:=hrow 2 _ rfl,q2:=hnot 2 (by omega) (fun i hi f hf hs=>by simp only[fdEv,List.mem_cons,List.not_mem_nil,or_false]at hf;rcases hf with rfl|rfl|rfl|rfl|rfl|rfl|rfl|rfl<;>first|(simp;done)|cases hs),s2:=seg_of (fun h0=>(lv.1 h0).1) (fun t ht=>by have h:=fat [⟨0,0,none,[]⟩,⟨1,0,none,[]⟩] ⟨2,0,some u.sm,[0]⟩ [⟨3,0,none,[]⟩,⟨4,0,none,[]⟩,⟨5,0,none,[]⟩,⟨6,2,none,[]⟩,⟨7,0,some u.sw,[0]⟩] t rfl (by simpa [Fd.sp,qAs] using ht);have h2:=sps_at (ds:=[0]) (s:=u.sm) ht;refine(congrArg (fun i=>TL[i]?) (?_:_=n+((pc g o [⟨0,0,none,[]⟩,⟨1,0,none,[]⟩]).length+t))).trans (h.trans h2);simp[pc,Fd.sp,qAs];try omega),p3:=by have h:=fat [⟨0,0,none,[]⟩,⟨1,0,none,[]⟩,⟨2,0,some u.sm,[0]⟩] ⟨3,0,none,[]⟩ [⟨4,0,none,[]⟩,⟨5,0,none,[]⟩,⟨6,2,none,[]⟩,⟨7,0,some u.sw,[0]⟩] 0 rfl (by simp[Fd.sp]);simp[pc,Fd.sp,qAs]at h;first|exact h|(rw[←h];congr 1;omega),p4:=by have h:=fat [⟨0,0,none,[]⟩,⟨1,0,none,[]⟩,⟨2,0,some u.sm,[0]⟩,⟨3,0,none,[]⟩] ⟨4,0,none,[]⟩ [⟨5,0,none,[]⟩,⟨6,2,none,[]⟩,⟨7,0,some u.sw,[0]⟩] 0 rfl (by simp[Fd.sp]);simp[pc,Fd.sp,qAs]at h;first|exact h|(rw[←h];congr 1;omega),p5:=by have h:=fat [⟨0,0,none,[]⟩,⟨1,0,none,[]⟩,⟨2,0,some u.sm,[0]⟩,⟨3,0,none,[]⟩,⟨4,0,none,[]⟩] ⟨5,0,none,[]⟩ [⟨6,2,none,[]⟩,⟨7,0,some u.sw,[0]⟩] 0 rfl (by simp[Fd.sp]);simp[pc,Fd.sp,qAs]at h;first|exact h|(rw[←h];congr 1;omega),p6:=by have h:=fat [⟨0,0,none,[]⟩,⟨1,0,none,[]⟩,⟨2,0,some u.sm,[0]⟩,⟨3,0,none,[]⟩,⟨4,0,none,[]⟩,⟨5,0,none,[]⟩] ⟨6,2,none,[]⟩ [⟨7,0,some u.sw,[0]⟩] 0 rfl (by simp[Fd.sp]);simp[pc,Fd.sp,qAs]at h;first|exact h|(rw[←h];congr 1;omega),h7:=hrow 7 _ rfl,q7:=hnot 7 (by omega) (fun i hi f hf hs=>by simp only[fdEv,List.mem_cons,List.not_mem_nil,or_false]at hf;rcases hf with rfl|rfl|rfl|rfl|rfl|rfl|rfl|rfl<;>first|(simp;done)|cases hs),s7:=seg_of (fun h0=>(lv.2 h0).1) (fun t ht=>by have h:=fat [⟨0,0,none,[]⟩,⟨1,0,none,[]⟩,⟨2,0,some u.sm,[0]⟩,⟨3,0,none,[]⟩,⟨4,0,none,[]⟩,⟨5,0,none,[]⟩,⟨6,2,none,[]⟩] ⟨7,0,some u.sw,[0]⟩ [] t rfl (by simpa [Fd.sp,qAs] using ht);have h2:=sps_at (ds:=[0]) (s:=u.sw) ht;refine(congrArg (fun i=>TL[i]?) (?_:_=n+((pc g o [⟨0,0,none,[]⟩,⟨1,0,none,[]⟩,⟨2,0,some u.sm,[0]⟩,⟨3,0,none,[]⟩,⟨4,0,none,[]⟩,⟨5,0,none,[]⟩,⟨6,2,none,[]⟩]).length+t))).trans (h.trans h2);simp[pc,Fd.sp,qAs];try omega)}
  · rw[qEn,pcEv_len]
/-- a list that is marked from K up to M. -/
def HeldEv(w:World)(s:Sv)(es:List Ev)(K M:Nat):Prop:=∃(TL:List Spot) (us:Nat→Ev) (N:Nat→Nat),Held w TL K∧EvSegL w TL s.a s.n us N∧N 0=0∧M=K+N s.n∧s.n≤1048576∧(∀x∈TL,qCc s es x.1)
theorem HeldEv.keep{w w':World}{s:Sv}{es:List Ev}{K M:Nat}(h:HeldEv w s es K M)(hz:w.heap.size≤w'.heap.size)(hk: ∀b,qCc s es b→b<w.heap.size→w'.heap[b]? =w.heap[b]?):HeldEv w' s es K M:=by
  obtain⟨TL,us,N,h1,h2,h3,h4,h6,h5⟩:=h
  refine⟨TL,us,N,fun i x hx=>?_,⟨fun j hj=>?_,h2.nx⟩,h3,h4,h6,h5⟩
  · obtain ⟨k1, k2⟩ := h1 i x hx
    exact⟨by omega,(qAn (hk x.1 (h5 x (List.mem_of_getElem? hx)) k1)).trans k2⟩
  · obtain ⟨g, off, e, x⟩ := h2.one j hj
    have hb:=hk g (.inl (by simp[Sv.v,Value.ownBlock,e])) x.gl
    exact⟨g,off,e,{x with gl:=by have:=x.gl;omega,h2:=(qAn hb).trans x.h2,h7:=(qAn hb).trans x.h7}⟩
theorem HeldEv.later{w w':World}{s:Sv}{es:List Ev}{K M:Nat}(h:HeldEv w s es K M)(b:Below w.heap.size w w'):HeldEv w' s es K M:=h.keep b.size fun k _ hk=>b.block k hk
theorem tlN_Ev{w:World}{B:Nat}{s:Sv}{es:List Ev}(h:EvsO w B s es): ∀k,k≤es.length→tlN (svB s) (svO s) 8 (fun j=>fdEv (atEv es j)) k≤6 * k+1 * Evs.tot (es.take k)
  |0,_=>by simp[tlN,tls]
  | k + 1, hk => by
    have ih:=tlN_Ev h k (by omega)
    have ho:=h.2 _ (List.getElem_mem (show k<es.length by omega))
    rw[qEn,pcEv_len,Evs.tot_take es k (by omega),qCs (by omega)]
    have h1:=ho.1.slen
    have h2:=ho.2.slen
    unfold EvSeg.len Ev.sz
    omega
theorem markEvs_o(s:Sv)(es:List Ev)(B K:Nat)(w:World)(h:Hid (EvsO w B s es))(a:Hid (EvsA s es))(hK:0<K)(hn:es.length≤1048576)(hl:K+(6 * es.length+1 * Evs.tot es)≤39999990):
    Calls Tryz.prog 48 #[.slice s.a s.n s.c,.int .i64 K] w fun e w'=>∃M:Nat,e=.returned (.int .i64 (M:Int))∧K≤M∧M≤K+(6 * es.length+1 * Evs.tot es)∧HeldEv w' s es K M∧Gr (qCc s es) w w':=by
  have hN:=h.out.1.slen
  rw[List.length_map]at hN
  have tok:=tls_ok (F:=fun j=>fdEv (atEv es j)) h.out.1 (by simpa using fdEv_ok h.out a.out)
  rw[List.length_map]at tok
  have sg:=segEv h.out a.out
  have hb:=tlN_Ev h.out es.length (Nat.le_refl _)
  rw[List.take_of_length_le (Nat.le_refl _)]at hb
  have hle:K+tlN (svB s) (svO s) 8 (fun j=>fdEv (atEv es j)) s.n≤39999990:=by rw[hN];omega
  have hin: ∀x∈tls (svB s) (svO s) 8 (fun j=>fdEv (atEv es j)) es.length,qCc s es x.1:=fun x hx=>by
    rcases tls_in hx with h1|⟨j,hj,f,hf,h1⟩
    · obtain ⟨j, hj, _⟩ := qEv hx
      obtain⟨ha,_⟩:=qCh h.out.1 (by simpa using (by omega:0<es.length))
      rw[h1]
      exact .inl (by simp[Sv.v,Value.ownBlock,ha])
    · rw [qCs hj] at hf
      exact .inr ⟨_,List.getElem_mem hj,Ev.ow (h.out.2 _ (List.getElem_mem hj)) hf h1⟩
  have hz0:tlN (svB s) (svO s) 8 (fun j=>fdEv (atEv es j)) 0=0:=by simp[tlN,tls]
  have mst:MkI w w (tls (svB s) (svO s) 8 (fun j=>fdEv (atEv es j)) es.length) K (tlN (svB s) (svO s) 8 (fun j=>fdEv (atEv es j)) 0) w:=by rw[hz0];exact MkI.start w _ K
  refine(qGn w _ K s.a s.n s.c (atEv es) (tlN (svB s) (svO s) 8 (fun j=>fdEv (atEv es j))) (K:Int) w tok mst sg (by rw[hz0];rfl:(K:Int)=((K+tlN (svB s) (svO s) 8 (fun j=>fdEv (atEv es j)) 0:Nat):Int)) hle (by rw[hN];omega) hK).mono ?_
  rintro e w' ⟨M,rfl,hM,mk⟩
  have hTL:tlN (svB s) (svO s) 8 (fun j=>fdEv (atEv es j)) s.n=(tls (svB s) (svO s) 8 (fun j=>fdEv (atEv es j)) es.length).length:=by rw[hN];rfl
  have b0:=mk.below 0 (fun _ _=>Nat.zero_le _) (Nat.zero_le _)
  refine⟨M,rfl,by omega,by rw[hM,hN];omega,⟨_,_,_,(show Held w' _ K from(by rw[hTL]at mk;exact mk.held tok)),sg.marked mk,by simp[tlN,tls],hM,by rw[hN];omega,hin⟩,⟨b0.os,b0.tape,b0.output,mk.size,fun b hb hn=>mk.blk b hb (fun x hx e=>hn (e ▸ hin x hx))⟩⟩
theorem heldEvs_o(s:Sv)(es:List Ev)(K M:Nat)(w:World)(h:Hid (HeldEv w s es K M))(hK:0<K)(hl:M≤39999990):
    Calls Tryz.prog 53 #[.slice s.a s.n s.c,.int .i64 K] w fun e w'=>e=.returned (.int .i64 (M:Int))∧Below w.heap.size w w':=by
  obtain⟨TL,us,N,h1,h2,h3,h4,h6,h5⟩:=h.out
  refine(qGs TL K s.a s.n s.c us N (K:Int) w h1 h2 (by rw[h3];rfl:_=_) (by omega) (by omega) hK).mono ?_
  rintro e w' ⟨M',rfl,hM,b⟩
  exact⟨by rw[hM,h4],b⟩
/-- the blocks of a daemon's lists. -/
def Dm.own(d:Dm)(x:Nat):Prop:=d.mv.own x∨d.js.v.ownBlock=some x∨qCd d.bs d.bu x∨qCc d.ls d.lo x
theorem DmO.olt{w:World}{B:Nat}{d:Dm}(h:DmO w B d){x:Nat}(hx:d.own x):B≤x∧x<w.heap.size:=by
  rcases hx with hx|hx|hx|hx
  · exact h.mt.lt hx
  · exact h.jo.lt x hx
  · exact h.bu.olt hx
  · exact h.lo.olt hx
theorem BusO.keepo{w w':World}{B:Nat}{s:Sv}{es:List Bu}(h:BusO w B s es)(hk: ∀b,qCd s es b→b<w.heap.size→w'.heap[b]? =w.heap[b]?):BusO w' B s es:=⟨h.1.keep fun b hb hl=>hk b (.inl hb) hl,fun e he=>Sl.keep (h.2 e he) fun b hb hl=>hk b (.inr ⟨e,he,hb⟩) hl⟩
theorem EvsO.keepo{w w':World}{B:Nat}{s:Sv}{es:List Ev}(h:EvsO w B s es)(hk: ∀b,qCc s es b→b<w.heap.size→w'.heap[b]? =w.heap[b]?):EvsO w' B s es:=⟨h.1.keep fun b hb hl=>hk b (.inl hb) hl,fun e he=>⟨(h.2 e he).1.keep fun b hb hl=>hk b (.inr ⟨e,he,.inl hb⟩) hl,(h.2 e he).2.keep fun b hb hl=>hk b (.inr ⟨e,he,.inr hb⟩) hl⟩⟩
theorem DmO.keepo{w w':World}{B:Nat}{d:Dm}(h:DmO w B d)(hk: ∀b,d.own b→b<w.heap.size→w'.heap[b]? =w.heap[b]?):DmO w' B d:=
  ⟨h.mt.keep fun b hb hl=>hk b (.inl hb) hl,h.jo.keep fun b hb hl=>hk b (.inr (.inl hb)) hl,h.bu.keepo fun b hb hl=>hk b (.inr (.inr (.inl hb))) hl,h.lo.keepo fun b hb hl=>hk b (.inr (.inr (.inr hb))) hl⟩
theorem Gr.up{S S':Nat→Prop}{a b:World}(h:Gr S a b)(hs: ∀k,S k→S' k):Gr S' a b:=⟨h.os,h.tape,h.output,h.size,fun k hk hn=>h.block k hk (fun h1=>hn (hs k h1))⟩
theorem Bx.gr{S:Nat→Prop}{a b:World}{g T:Nat}{cs:List Value}(h:Bx a g T cs)(k:Gr S a b)(hn: ¬S g):Bx b g T cs:=(k.block g h.lt hn).trans h
/-- a daemon that is marked from K up to M. -/
def HeldD(w:World)(B:Nat)(d:Dm)(K M:Nat):Prop:=∃K4:Nat,MtO w B (qCm K d.m) d.mv∧OwnI w B d.js.v (qAm (endM K d.m) d.jms.length)∧HeldBu w d.bs d.bu (endM K d.m+d.jms.length) K4∧HeldEv w d.ls d.lo K4 M∧0<K∧endM K d.m+d.jms.length≤K4∧K4≤M∧M≤39999990
theorem HeldD.keep{w w':World}{B:Nat}{d:Dm}{K M:Nat}(h:HeldD w B d K M)(hz:w.heap.size≤w'.heap.size)(hk: ∀b,d.own b→b<w.heap.size→w'.heap[b]? =w.heap[b]?):HeldD w' B d K M:=by
  obtain⟨K4,h1,h2,h3,h4,h5⟩:=h
  exact⟨K4,h1.keep fun b hb hl=>hk b (.inl hb) hl,h2.keep fun b hb hl=>hk b (.inr (.inl hb)) hl,h3.keep hz fun b hb hl=>hk b (.inr (.inr (.inl hb))) hl,h4.keep hz fun b hb hl=>hk b (.inr (.inr (.inr hb))) hl,h5⟩
theorem HeldD.later{w w':World}{B:Nat}{d:Dm}{K M:Nat}(h:HeldD w B d K M)(b:Below w.heap.size w w'):HeldD w' B d K M:=h.keep b.size fun k _ hk=>b.block k hk
theorem qEg(d:Dm)(B K:Nat)(w:World)(h:Hid (DmO w B d))(a:Hid (DmA d))(hs:Hid (DmS d))(hK:0<K)(hKl:K≤10000000):
    Calls Tryz.prog 14 #[.agg #[.int .i64 d.id,.bool d.dead,.int .i64 d.m.id,.int .i64 d.m.rid,.slice d.mv.ms.a d.mv.ms.n d.mv.ms.c,.slice d.mv.its.a d.mv.its.n d.mv.its.c,.slice d.mv.lv.a d.mv.lv.n d.mv.lv.c,.slice d.mv.tx.a d.mv.tx.n d.mv.tx.c,.int .i64 d.m.rd,.int .i64 d.m.se,.int .i64 d.m.li,.int .i64 d.m.he,.int .i64 d.m.la.c,.int .i64 d.m.la.r,.int .i64 d.m.la.q,.int .i64 d.m.la.a,.int .i64 d.m.la.b,.slice d.mv.ws.a d.mv.ws.n d.mv.ws.c,.int .i64 d.most,.int .i64 d.old,.int .i64 d.jid,.slice d.js.a d.js.n d.js.c,.slice d.bs.a d.bs.n d.bs.c,.slice d.ls.a d.ls.n d.ls.c],.int .i64 K] w fun e w'=>∃M:Nat,e=.returned (.int .i64 (M:Int))∧K≤M∧M≤K+17000000∧HeldD w' B d K M∧Gr d.own w w':=by
  have LA:Hid (Bx (w.alloc (.cells #[.int .i64 d.id,.bool d.dead,.int .i64 d.m.id,.int .i64 d.m.rid,.slice d.mv.ms.a d.mv.ms.n d.mv.ms.c,.slice d.mv.its.a d.mv.its.n d.mv.its.c,.slice d.mv.lv.a d.mv.lv.n d.mv.lv.c,.slice d.mv.tx.a d.mv.tx.n d.mv.tx.c,.int .i64 d.m.rd,.int .i64 d.m.se,.int .i64 d.m.li,.int .i64 d.m.he,.int .i64 d.m.la.c,.int .i64 d.m.la.r,.int .i64 d.m.la.q,.int .i64 d.m.la.a,.int .i64 d.m.la.b,.slice d.mv.ws.a d.mv.ws.n d.mv.ws.c,.int .i64 d.most,.int .i64 d.old,.int .i64 d.jid,.slice d.js.a d.js.n d.js.c,.slice d.bs.a d.bs.n d.bs.c,.slice d.ls.a d.ls.n d.ls.c] 45)) w.heap.size 45 [.int .i64 d.id,.bool d.dead,.int .i64 d.m.id,.int .i64 d.m.rid,.slice d.mv.ms.a d.mv.ms.n d.mv.ms.c,.slice d.mv.its.a d.mv.its.n d.mv.its.c,.slice d.mv.lv.a d.mv.lv.n d.mv.lv.c,.slice d.mv.tx.a d.mv.tx.n d.mv.tx.c,.int .i64 d.m.rd,.int .i64 d.m.se,.int .i64 d.m.li,.int .i64 d.m.he,.int .i64 d.m.la.c,.int .i64 d.m.la.r,.int .i64 d.m.la.q,.int .i64 d.m.la.a,.int .i64 d.m.la.b,.slice d.mv.ws.a d.mv.ws.n d.mv.ws.c,.int .i64 d.most,.int .i64 d.old,.int .i64 d.jid,.slice d.js.a d.js.n d.js.c,.slice d.bs.a d.bs.n d.bs.c,.slice d.ls.a d.ls.n d.ls.c]):=by
    have h:=Bx.new w 45 [.int .i64 d.id,.bool d.dead,.int .i64 d.m.id,.int .i64 d.m.rid,.slice d.mv.ms.a d.mv.ms.n d.mv.ms.c,.slice d.mv.its.a d.mv.its.n d.mv.its.c,.slice d.mv.lv.a d.mv.lv.n d.mv.lv.c,.slice d.mv.tx.a d.mv.tx.n d.mv.tx.c,.int .i64 d.m.rd,.int .i64 d.m.se,.int .i64 d.m.li,.int .i64 d.m.he,.int .i64 d.m.la.c,.int .i64 d.m.la.r,.int .i64 d.m.la.q,.int .i64 d.m.la.a,.int .i64 d.m.la.b,.slice d.mv.ws.a d.mv.ws.n d.mv.ws.c,.int .i64 d.most,.int .i64 d.old,.int .i64 d.jid,.slice d.js.a d.js.n d.js.c,.slice d.bs.a d.bs.n d.bs.c,.slice d.ls.a d.ls.n d.ls.c]
    exact h
  have BW:Hid (Below w.heap.size w (w.alloc (.cells #[.int .i64 d.id,.bool d.dead,.int .i64 d.m.id,.int .i64 d.m.rid,.slice d.mv.ms.a d.mv.ms.n d.mv.ms.c,.slice d.mv.its.a d.mv.its.n d.mv.its.c,.slice d.mv.lv.a d.mv.lv.n d.mv.lv.c,.slice d.mv.tx.a d.mv.tx.n d.mv.tx.c,.int .i64 d.m.rd,.int .i64 d.m.se,.int .i64 d.m.li,.int .i64 d.m.he,.int .i64 d.m.la.c,.int .i64 d.m.la.r,.int .i64 d.m.la.q,.int .i64 d.m.la.a,.int .i64 d.m.la.b,.slice d.mv.ws.a d.mv.ws.n d.mv.ws.c,.int .i64 d.most,.int .i64 d.old,.int .i64 d.jid,.slice d.js.a d.js.n d.js.c,.slice d.bs.a d.bs.n d.bs.c,.slice d.ls.a d.ls.n d.ls.c] 45))):=((Below.refl _ _).alloc (by simp) _)
  have P:Hid (DmO (w.alloc (.cells #[.int .i64 d.id,.bool d.dead,.int .i64 d.m.id,.int .i64 d.m.rid,.slice d.mv.ms.a d.mv.ms.n d.mv.ms.c,.slice d.mv.its.a d.mv.its.n d.mv.its.c,.slice d.mv.lv.a d.mv.lv.n d.mv.lv.c,.slice d.mv.tx.a d.mv.tx.n d.mv.tx.c,.int .i64 d.m.rd,.int .i64 d.m.se,.int .i64 d.m.li,.int .i64 d.m.he,.int .i64 d.m.la.c,.int .i64 d.m.la.r,.int .i64 d.m.la.q,.int .i64 d.m.la.a,.int .i64 d.m.la.b,.slice d.mv.ws.a d.mv.ws.n d.mv.ws.c,.int .i64 d.most,.int .i64 d.old,.int .i64 d.jid,.slice d.js.a d.js.n d.js.c,.slice d.bs.a d.bs.n d.bs.c,.slice d.ls.a d.ls.n d.ls.c] 45)) B d):=h.out.below BW.out
  have NE:Hid (∀x,d.own x→x<w.heap.size):=fun x hx=>(h.out.olt hx).2
  have GG:Hid (Gr d.own w (w.alloc (.cells #[.int .i64 d.id,.bool d.dead,.int .i64 d.m.id,.int .i64 d.m.rid,.slice d.mv.ms.a d.mv.ms.n d.mv.ms.c,.slice d.mv.its.a d.mv.its.n d.mv.its.c,.slice d.mv.lv.a d.mv.lv.n d.mv.lv.c,.slice d.mv.tx.a d.mv.tx.n d.mv.tx.c,.int .i64 d.m.rd,.int .i64 d.m.se,.int .i64 d.m.li,.int .i64 d.m.he,.int .i64 d.m.la.c,.int .i64 d.m.la.r,.int .i64 d.m.la.q,.int .i64 d.m.la.a,.int .i64 d.m.la.b,.slice d.mv.ws.a d.mv.ws.n d.mv.ws.c,.int .i64 d.most,.int .i64 d.old,.int .i64 d.jid,.slice d.js.a d.js.n d.js.c,.slice d.bs.a d.bs.n d.bs.c,.slice d.ls.a d.ls.n d.ls.c] 45))):=gr_below BW.out
  have S1:Hid (endM K d.m≤K+4194304):=(by have h1:=hs.out.mt.all;unfold endM;omega:_≤_)
  have S1g:K≤endM K d.m:=by unfold endM;omega
  have S2:=hs.out.jo
  have S3:3 * d.bu.length+4 * Bus.tot d.bu≤4194304:=by have:=hs.out.bu;omega
  have S4:6 * d.lo.length+1 * Evs.tot d.lo≤6291456:=by have:=hs.out.lo;omega
  have S3b:=hs.out.bus.1
  have S4b:=hs.out.los.1
  clear h
  go_enter Tryz.func14,Tryz.ntmps14
  go_wp2_with (first|(refine qAb rfl 41 _ rfl w.heap.size 2 rfl 45 _ LA.out [.int .i64 d.m.id,.int .i64 d.m.rid,.slice d.mv.ms.a d.mv.ms.n d.mv.ms.c,.slice d.mv.its.a d.mv.its.n d.mv.its.c,.slice d.mv.lv.a d.mv.lv.n d.mv.lv.c,.slice d.mv.tx.a d.mv.tx.n d.mv.tx.c,.int .i64 d.m.rd,.int .i64 d.m.se,.int .i64 d.m.li,.int .i64 d.m.he,.int .i64 d.m.la.c,.int .i64 d.m.la.r,.int .i64 d.m.la.q,.int .i64 d.m.la.a,.int .i64 d.m.la.b,.slice d.mv.ws.a d.mv.ws.n d.mv.ws.c] rfl _ Tryz.underlying41 rfl Tryz.sizeM ?_))
  generalize (w.alloc (.cells #[.int .i64 d.id,.bool d.dead,.int .i64 d.m.id,.int .i64 d.m.rid,.slice d.mv.ms.a d.mv.ms.n d.mv.ms.c,.slice d.mv.its.a d.mv.its.n d.mv.its.c,.slice d.mv.lv.a d.mv.lv.n d.mv.lv.c,.slice d.mv.tx.a d.mv.tx.n d.mv.tx.c,.int .i64 d.m.rd,.int .i64 d.m.se,.int .i64 d.m.li,.int .i64 d.m.he,.int .i64 d.m.la.c,.int .i64 d.m.la.r,.int .i64 d.m.la.q,.int .i64 d.m.la.a,.int .i64 d.m.la.b,.slice d.mv.ws.a d.mv.ws.n d.mv.ws.c,.int .i64 d.most,.int .i64 d.old,.int .i64 d.jid,.slice d.js.a d.js.n d.js.c,.slice d.bs.a d.bs.n d.bs.c,.slice d.ls.a d.ls.n d.ls.c] 45))=W at *
  have PM:Hid (MtO W B d.m d.mv):=P.out.mt
  have PJ:Hid (OwnI W B d.js.v d.jms):=P.out.jo
  have PB:Hid (BusO W B d.bs d.bu):=P.out.bu
  have PL:Hid (EvsO W B d.ls d.lo):=P.out.lo
  clear P BW
  refine(markMate_any d.m d.mv B K _ PM (by have:=S1.out;omega) hK).mono ?_
  rintro e w1 ⟨rfl,o1,G⟩
  have LA:Hid (Bx w1 w.heap.size 45 [.int .i64 d.id,.bool d.dead,.int .i64 d.m.id,.int .i64 d.m.rid,.slice d.mv.ms.a d.mv.ms.n d.mv.ms.c,.slice d.mv.its.a d.mv.its.n d.mv.its.c,.slice d.mv.lv.a d.mv.lv.n d.mv.lv.c,.slice d.mv.tx.a d.mv.tx.n d.mv.tx.c,.int .i64 d.m.rd,.int .i64 d.m.se,.int .i64 d.m.li,.int .i64 d.m.he,.int .i64 d.m.la.c,.int .i64 d.m.la.r,.int .i64 d.m.la.q,.int .i64 d.m.la.a,.int .i64 d.m.la.b,.slice d.mv.ws.a d.mv.ws.n d.mv.ws.c,.int .i64 d.most,.int .i64 d.old,.int .i64 d.jid,.slice d.js.a d.js.n d.js.c,.slice d.bs.a d.bs.n d.bs.c,.slice d.ls.a d.ls.n d.ls.c]):=LA.out.gr G (fun h=>by have:=NE.out _ (Or.inl h);omega)
  have PJ:Hid (OwnI w1 B d.js.v d.jms):=PJ.out.keep fun b hb hl=>G.block b hl (fun h=>a.out.mj b h hb)
  have PB:Hid (BusO w1 B d.bs d.bu):=PB.out.keepo fun b hb hl=>G.block b hl (fun h=>a.out.mb b h hb)
  have PL:Hid (EvsO w1 B d.ls d.lo):=PL.out.keepo fun b hb hl=>G.block b hl (fun h=>a.out.ml b h hb)
  have HM:Hid (MtO w1 B (qCm K d.m) d.mv):=o1
  have GG:Hid (Gr d.own w w1):=GG.out.trans (G.up fun x hx=>Or.inl hx)
  clear G o1 PM
  obtain⟨k2,hk2⟩: ∃k2,endM K d.m=k2:=⟨_,rfl⟩
  rw[hk2]at S1 S1g⊢
  have HK2:Hid (endM K d.m=k2):=hk2
  clear hk2
  go_wp2_with (first|(refine qAb rfl 37 _ rfl w.heap.size 20 rfl 45 _ LA.out [.int .i64 d.jid,.slice d.js.a d.js.n d.js.c] rfl _ Tryz.underlying37 rfl Tryz.sizeR ?_))
  refine(qEf d.jid d.js.v d.jms B k2 _ PJ (by have:=S1.out;omega) (by omega)).mono ?_
  rintro e w2 ⟨rfl,o1,g⟩
  have G:Gr (fun x=>d.js.v.ownBlock=some x) w1 w2:=Gr.ofGrown g (fun k hk=>hk)
  have LA:Hid (Bx w2 w.heap.size 45 [.int .i64 d.id,.bool d.dead,.int .i64 d.m.id,.int .i64 d.m.rid,.slice d.mv.ms.a d.mv.ms.n d.mv.ms.c,.slice d.mv.its.a d.mv.its.n d.mv.its.c,.slice d.mv.lv.a d.mv.lv.n d.mv.lv.c,.slice d.mv.tx.a d.mv.tx.n d.mv.tx.c,.int .i64 d.m.rd,.int .i64 d.m.se,.int .i64 d.m.li,.int .i64 d.m.he,.int .i64 d.m.la.c,.int .i64 d.m.la.r,.int .i64 d.m.la.q,.int .i64 d.m.la.a,.int .i64 d.m.la.b,.slice d.mv.ws.a d.mv.ws.n d.mv.ws.c,.int .i64 d.most,.int .i64 d.old,.int .i64 d.jid,.slice d.js.a d.js.n d.js.c,.slice d.bs.a d.bs.n d.bs.c,.slice d.ls.a d.ls.n d.ls.c]):=LA.out.gr G (fun h=>by have:=NE.out _ (Or.inr (Or.inl h));omega)
  have PB:Hid (BusO w2 B d.bs d.bu):=PB.out.keepo fun b hb hl=>G.block b hl (fun h=>a.out.jb b h hb)
  have PL:Hid (EvsO w2 B d.ls d.lo):=PL.out.keepo fun b hb hl=>G.block b hl (fun h=>a.out.jl b h hb)
  have HM:Hid (MtO w2 B (qCm K d.m) d.mv):=HM.out.keep fun b hb hl=>G.block b hl (fun h=>a.out.mj b hb h)
  have HJ:Hid (OwnI w2 B d.js.v (qAm k2 d.jms.length)):=o1
  have GG:Hid (Gr d.own w w2):=GG.out.trans (G.up fun x hx=>Or.inr (Or.inl hx))
  clear G o1 g PJ
  obtain⟨k3,hk3⟩: ∃k3,k2+d.jms.length=k3:=⟨_,rfl⟩
  rw[hk3]
  have HK3:Hid (k2+d.jms.length=k3):=hk3
  have k3l:K≤k3∧k3≤K+5242880:=by have:=S1.out;omega
  clear hk3
  have c22:=LA.out.cell 22
  simp only[List.getElem?_cons_succ,List.getElem?_cons_zero]at c22
  go_wp2_with fail
  clear c22
  refine(markBus_o d.bs d.bu B k3 _ PB a.out.bu (by omega) S3b (by omega)).mono ?_
  rintro e w3 ⟨k4,rfl,m1,m2,o1,G⟩
  have LA:Hid (Bx w3 w.heap.size 45 [.int .i64 d.id,.bool d.dead,.int .i64 d.m.id,.int .i64 d.m.rid,.slice d.mv.ms.a d.mv.ms.n d.mv.ms.c,.slice d.mv.its.a d.mv.its.n d.mv.its.c,.slice d.mv.lv.a d.mv.lv.n d.mv.lv.c,.slice d.mv.tx.a d.mv.tx.n d.mv.tx.c,.int .i64 d.m.rd,.int .i64 d.m.se,.int .i64 d.m.li,.int .i64 d.m.he,.int .i64 d.m.la.c,.int .i64 d.m.la.r,.int .i64 d.m.la.q,.int .i64 d.m.la.a,.int .i64 d.m.la.b,.slice d.mv.ws.a d.mv.ws.n d.mv.ws.c,.int .i64 d.most,.int .i64 d.old,.int .i64 d.jid,.slice d.js.a d.js.n d.js.c,.slice d.bs.a d.bs.n d.bs.c,.slice d.ls.a d.ls.n d.ls.c]):=LA.out.gr G (fun h=>by have:=NE.out _ (Or.inr (Or.inr (Or.inl h)));omega)
  have PL:Hid (EvsO w3 B d.ls d.lo):=PL.out.keepo fun b hb hl=>G.block b hl (fun h=>a.out.bl b h hb)
  have HM:Hid (MtO w3 B (qCm K d.m) d.mv):=HM.out.keep fun b hb hl=>G.block b hl (fun h=>a.out.mb b hb h)
  have HJ:Hid (OwnI w3 B d.js.v (qAm k2 d.jms.length)):=HJ.out.keep fun b hb hl=>G.block b hl (fun h=>a.out.jb b hb h)
  have HB:Hid (HeldBu w3 d.bs d.bu k3 k4):=o1
  have GG:Hid (Gr d.own w w3):=GG.out.trans (G.up fun x hx=>Or.inr (Or.inr (Or.inl hx)))
  clear G o1 PB
  have c23:=LA.out.cell 23
  simp only[List.getElem?_cons_succ,List.getElem?_cons_zero]at c23
  go_wp2_with fail
  clear c23
  refine(markEvs_o d.ls d.lo B k4 _ PL a.out.lo (by omega) S4b (by omega)).mono ?_
  rintro e w4 ⟨M,rfl,m3,m4,o1,G⟩
  have LA:Hid (Bx w4 w.heap.size 45 [.int .i64 d.id,.bool d.dead,.int .i64 d.m.id,.int .i64 d.m.rid,.slice d.mv.ms.a d.mv.ms.n d.mv.ms.c,.slice d.mv.its.a d.mv.its.n d.mv.its.c,.slice d.mv.lv.a d.mv.lv.n d.mv.lv.c,.slice d.mv.tx.a d.mv.tx.n d.mv.tx.c,.int .i64 d.m.rd,.int .i64 d.m.se,.int .i64 d.m.li,.int .i64 d.m.he,.int .i64 d.m.la.c,.int .i64 d.m.la.r,.int .i64 d.m.la.q,.int .i64 d.m.la.a,.int .i64 d.m.la.b,.slice d.mv.ws.a d.mv.ws.n d.mv.ws.c,.int .i64 d.most,.int .i64 d.old,.int .i64 d.jid,.slice d.js.a d.js.n d.js.c,.slice d.bs.a d.bs.n d.bs.c,.slice d.ls.a d.ls.n d.ls.c]):=LA.out.gr G (fun h=>by have:=NE.out _ (Or.inr (Or.inr (Or.inr h)));omega)
  have HM:Hid (MtO w4 B (qCm K d.m) d.mv):=HM.out.keep fun b hb hl=>G.block b hl (fun h=>a.out.ml b hb h)
  have HJ:Hid (OwnI w4 B d.js.v (qAm k2 d.jms.length)):=HJ.out.keep fun b hb hl=>G.block b hl (fun h=>a.out.jl b hb h)
  have HB:Hid (HeldBu w4 d.bs d.bu k3 k4):=HB.out.keep G.size fun b hb hl=>G.block b hl (fun h=>a.out.bl b hb h)
  have HE:Hid (HeldEv w4 d.ls d.lo k4 M):=o1
  have GG:Hid (Gr d.own w w4):=GG.out.trans (G.up fun x hx=>Or.inr (Or.inr (Or.inr hx)))
  clear G o1 PL
  go_wp2_with fail
  go_ret
  refine⟨M,rfl,by omega,by omega,⟨k4,HM.out,by rw[HK2.out];exact HJ.out,by rw[HK2.out,HK3.out];exact HB.out,HE.out,hK,by rw[HK2.out,HK3.out];exact m1,m3,by omega⟩,GG.out⟩
theorem qEi(d:Dm)(B K M:Nat)(w:World)(h:Hid (HeldD w B d K M)):
    Calls Tryz.prog 17 #[.agg #[.int .i64 d.id,.bool d.dead,.int .i64 d.m.id,.int .i64 d.m.rid,.slice d.mv.ms.a d.mv.ms.n d.mv.ms.c,.slice d.mv.its.a d.mv.its.n d.mv.its.c,.slice d.mv.lv.a d.mv.lv.n d.mv.lv.c,.slice d.mv.tx.a d.mv.tx.n d.mv.tx.c,.int .i64 d.m.rd,.int .i64 d.m.se,.int .i64 d.m.li,.int .i64 d.m.he,.int .i64 d.m.la.c,.int .i64 d.m.la.r,.int .i64 d.m.la.q,.int .i64 d.m.la.a,.int .i64 d.m.la.b,.slice d.mv.ws.a d.mv.ws.n d.mv.ws.c,.int .i64 d.most,.int .i64 d.old,.int .i64 d.jid,.slice d.js.a d.js.n d.js.c,.slice d.bs.a d.bs.n d.bs.c,.slice d.ls.a d.ls.n d.ls.c],.int .i64 K] w fun e w'=>e=.returned (.int .i64 (M:Int))∧Below w.heap.size w w':=by
  have LA:Hid (Bx (w.alloc (.cells #[.int .i64 d.id,.bool d.dead,.int .i64 d.m.id,.int .i64 d.m.rid,.slice d.mv.ms.a d.mv.ms.n d.mv.ms.c,.slice d.mv.its.a d.mv.its.n d.mv.its.c,.slice d.mv.lv.a d.mv.lv.n d.mv.lv.c,.slice d.mv.tx.a d.mv.tx.n d.mv.tx.c,.int .i64 d.m.rd,.int .i64 d.m.se,.int .i64 d.m.li,.int .i64 d.m.he,.int .i64 d.m.la.c,.int .i64 d.m.la.r,.int .i64 d.m.la.q,.int .i64 d.m.la.a,.int .i64 d.m.la.b,.slice d.mv.ws.a d.mv.ws.n d.mv.ws.c,.int .i64 d.most,.int .i64 d.old,.int .i64 d.jid,.slice d.js.a d.js.n d.js.c,.slice d.bs.a d.bs.n d.bs.c,.slice d.ls.a d.ls.n d.ls.c] 45)) w.heap.size 45 [.int .i64 d.id,.bool d.dead,.int .i64 d.m.id,.int .i64 d.m.rid,.slice d.mv.ms.a d.mv.ms.n d.mv.ms.c,.slice d.mv.its.a d.mv.its.n d.mv.its.c,.slice d.mv.lv.a d.mv.lv.n d.mv.lv.c,.slice d.mv.tx.a d.mv.tx.n d.mv.tx.c,.int .i64 d.m.rd,.int .i64 d.m.se,.int .i64 d.m.li,.int .i64 d.m.he,.int .i64 d.m.la.c,.int .i64 d.m.la.r,.int .i64 d.m.la.q,.int .i64 d.m.la.a,.int .i64 d.m.la.b,.slice d.mv.ws.a d.mv.ws.n d.mv.ws.c,.int .i64 d.most,.int .i64 d.old,.int .i64 d.jid,.slice d.js.a d.js.n d.js.c,.slice d.bs.a d.bs.n d.bs.c,.slice d.ls.a d.ls.n d.ls.c]):=by
    have h:=Bx.new w 45 [.int .i64 d.id,.bool d.dead,.int .i64 d.m.id,.int .i64 d.m.rid,.slice d.mv.ms.a d.mv.ms.n d.mv.ms.c,.slice d.mv.its.a d.mv.its.n d.mv.its.c,.slice d.mv.lv.a d.mv.lv.n d.mv.lv.c,.slice d.mv.tx.a d.mv.tx.n d.mv.tx.c,.int .i64 d.m.rd,.int .i64 d.m.se,.int .i64 d.m.li,.int .i64 d.m.he,.int .i64 d.m.la.c,.int .i64 d.m.la.r,.int .i64 d.m.la.q,.int .i64 d.m.la.a,.int .i64 d.m.la.b,.slice d.mv.ws.a d.mv.ws.n d.mv.ws.c,.int .i64 d.most,.int .i64 d.old,.int .i64 d.jid,.slice d.js.a d.js.n d.js.c,.slice d.bs.a d.bs.n d.bs.c,.slice d.ls.a d.ls.n d.ls.c]
    exact h
  have BW:Hid (Below w.heap.size w (w.alloc (.cells #[.int .i64 d.id,.bool d.dead,.int .i64 d.m.id,.int .i64 d.m.rid,.slice d.mv.ms.a d.mv.ms.n d.mv.ms.c,.slice d.mv.its.a d.mv.its.n d.mv.its.c,.slice d.mv.lv.a d.mv.lv.n d.mv.lv.c,.slice d.mv.tx.a d.mv.tx.n d.mv.tx.c,.int .i64 d.m.rd,.int .i64 d.m.se,.int .i64 d.m.li,.int .i64 d.m.he,.int .i64 d.m.la.c,.int .i64 d.m.la.r,.int .i64 d.m.la.q,.int .i64 d.m.la.a,.int .i64 d.m.la.b,.slice d.mv.ws.a d.mv.ws.n d.mv.ws.c,.int .i64 d.most,.int .i64 d.old,.int .i64 d.jid,.slice d.js.a d.js.n d.js.c,.slice d.bs.a d.bs.n d.bs.c,.slice d.ls.a d.ls.n d.ls.c] 45))):=((Below.refl _ _).alloc (by simp) _)
  have P:Hid (HeldD (w.alloc (.cells #[.int .i64 d.id,.bool d.dead,.int .i64 d.m.id,.int .i64 d.m.rid,.slice d.mv.ms.a d.mv.ms.n d.mv.ms.c,.slice d.mv.its.a d.mv.its.n d.mv.its.c,.slice d.mv.lv.a d.mv.lv.n d.mv.lv.c,.slice d.mv.tx.a d.mv.tx.n d.mv.tx.c,.int .i64 d.m.rd,.int .i64 d.m.se,.int .i64 d.m.li,.int .i64 d.m.he,.int .i64 d.m.la.c,.int .i64 d.m.la.r,.int .i64 d.m.la.q,.int .i64 d.m.la.a,.int .i64 d.m.la.b,.slice d.mv.ws.a d.mv.ws.n d.mv.ws.c,.int .i64 d.most,.int .i64 d.old,.int .i64 d.jid,.slice d.js.a d.js.n d.js.c,.slice d.bs.a d.bs.n d.bs.c,.slice d.ls.a d.ls.n d.ls.c] 45)) B d K M):=h.out.later BW.out
  clear h
  obtain⟨k4,p1,p2,p3,p4,hK,l1,l2,l3⟩:=P.out
  have HM:Hid (MtO (w.alloc (.cells #[.int .i64 d.id,.bool d.dead,.int .i64 d.m.id,.int .i64 d.m.rid,.slice d.mv.ms.a d.mv.ms.n d.mv.ms.c,.slice d.mv.its.a d.mv.its.n d.mv.its.c,.slice d.mv.lv.a d.mv.lv.n d.mv.lv.c,.slice d.mv.tx.a d.mv.tx.n d.mv.tx.c,.int .i64 d.m.rd,.int .i64 d.m.se,.int .i64 d.m.li,.int .i64 d.m.he,.int .i64 d.m.la.c,.int .i64 d.m.la.r,.int .i64 d.m.la.q,.int .i64 d.m.la.a,.int .i64 d.m.la.b,.slice d.mv.ws.a d.mv.ws.n d.mv.ws.c,.int .i64 d.most,.int .i64 d.old,.int .i64 d.jid,.slice d.js.a d.js.n d.js.c,.slice d.bs.a d.bs.n d.bs.c,.slice d.ls.a d.ls.n d.ls.c] 45)) B (qCm K d.m) d.mv):=p1
  have HJ:Hid (OwnI (w.alloc (.cells #[.int .i64 d.id,.bool d.dead,.int .i64 d.m.id,.int .i64 d.m.rid,.slice d.mv.ms.a d.mv.ms.n d.mv.ms.c,.slice d.mv.its.a d.mv.its.n d.mv.its.c,.slice d.mv.lv.a d.mv.lv.n d.mv.lv.c,.slice d.mv.tx.a d.mv.tx.n d.mv.tx.c,.int .i64 d.m.rd,.int .i64 d.m.se,.int .i64 d.m.li,.int .i64 d.m.he,.int .i64 d.m.la.c,.int .i64 d.m.la.r,.int .i64 d.m.la.q,.int .i64 d.m.la.a,.int .i64 d.m.la.b,.slice d.mv.ws.a d.mv.ws.n d.mv.ws.c,.int .i64 d.most,.int .i64 d.old,.int .i64 d.jid,.slice d.js.a d.js.n d.js.c,.slice d.bs.a d.bs.n d.bs.c,.slice d.ls.a d.ls.n d.ls.c] 45)) B d.js.v (qAm (endM K d.m) d.jms.length)):=p2
  have HB:Hid (HeldBu (w.alloc (.cells #[.int .i64 d.id,.bool d.dead,.int .i64 d.m.id,.int .i64 d.m.rid,.slice d.mv.ms.a d.mv.ms.n d.mv.ms.c,.slice d.mv.its.a d.mv.its.n d.mv.its.c,.slice d.mv.lv.a d.mv.lv.n d.mv.lv.c,.slice d.mv.tx.a d.mv.tx.n d.mv.tx.c,.int .i64 d.m.rd,.int .i64 d.m.se,.int .i64 d.m.li,.int .i64 d.m.he,.int .i64 d.m.la.c,.int .i64 d.m.la.r,.int .i64 d.m.la.q,.int .i64 d.m.la.a,.int .i64 d.m.la.b,.slice d.mv.ws.a d.mv.ws.n d.mv.ws.c,.int .i64 d.most,.int .i64 d.old,.int .i64 d.jid,.slice d.js.a d.js.n d.js.c,.slice d.bs.a d.bs.n d.bs.c,.slice d.ls.a d.ls.n d.ls.c] 45)) d.bs d.bu (endM K d.m+d.jms.length) k4):=p3
  have HE:Hid (HeldEv (w.alloc (.cells #[.int .i64 d.id,.bool d.dead,.int .i64 d.m.id,.int .i64 d.m.rid,.slice d.mv.ms.a d.mv.ms.n d.mv.ms.c,.slice d.mv.its.a d.mv.its.n d.mv.its.c,.slice d.mv.lv.a d.mv.lv.n d.mv.lv.c,.slice d.mv.tx.a d.mv.tx.n d.mv.tx.c,.int .i64 d.m.rd,.int .i64 d.m.se,.int .i64 d.m.li,.int .i64 d.m.he,.int .i64 d.m.la.c,.int .i64 d.m.la.r,.int .i64 d.m.la.q,.int .i64 d.m.la.a,.int .i64 d.m.la.b,.slice d.mv.ws.a d.mv.ws.n d.mv.ws.c,.int .i64 d.most,.int .i64 d.old,.int .i64 d.jid,.slice d.js.a d.js.n d.js.c,.slice d.bs.a d.bs.n d.bs.c,.slice d.ls.a d.ls.n d.ls.c] 45)) d.ls d.lo k4 M):=p4
  have S1g:K≤endM K d.m:=by unfold endM;omega
  clear P p1 p2 p3 p4
  go_enter Tryz.func17,Tryz.ntmps17
  go_wp2_with (first|(refine qAb rfl 41 _ rfl w.heap.size 2 rfl 45 _ LA.out [.int .i64 d.m.id,.int .i64 d.m.rid,.slice d.mv.ms.a d.mv.ms.n d.mv.ms.c,.slice d.mv.its.a d.mv.its.n d.mv.its.c,.slice d.mv.lv.a d.mv.lv.n d.mv.lv.c,.slice d.mv.tx.a d.mv.tx.n d.mv.tx.c,.int .i64 d.m.rd,.int .i64 d.m.se,.int .i64 d.m.li,.int .i64 d.m.he,.int .i64 d.m.la.c,.int .i64 d.m.la.r,.int .i64 d.m.la.q,.int .i64 d.m.la.a,.int .i64 d.m.la.b,.slice d.mv.ws.a d.mv.ws.n d.mv.ws.c] rfl _ Tryz.underlying41 rfl Tryz.sizeM ?_))
  generalize (w.alloc (.cells #[.int .i64 d.id,.bool d.dead,.int .i64 d.m.id,.int .i64 d.m.rid,.slice d.mv.ms.a d.mv.ms.n d.mv.ms.c,.slice d.mv.its.a d.mv.its.n d.mv.its.c,.slice d.mv.lv.a d.mv.lv.n d.mv.lv.c,.slice d.mv.tx.a d.mv.tx.n d.mv.tx.c,.int .i64 d.m.rd,.int .i64 d.m.se,.int .i64 d.m.li,.int .i64 d.m.he,.int .i64 d.m.la.c,.int .i64 d.m.la.r,.int .i64 d.m.la.q,.int .i64 d.m.la.a,.int .i64 d.m.la.b,.slice d.mv.ws.a d.mv.ws.n d.mv.ws.c,.int .i64 d.most,.int .i64 d.old,.int .i64 d.jid,.slice d.js.a d.js.n d.js.c,.slice d.bs.a d.bs.n d.bs.c,.slice d.ls.a d.ls.n d.ls.c] 45))=W at *
  refine(heldMate_any d.m d.mv B K _ HM (by omega) hK).mono ?_
  rintro e w1 ⟨rfl,b⟩
  have z_w1:W.heap.size≤w1.heap.size:=b.size
  have LA:Hid (Bx w1 w.heap.size 45 [.int .i64 d.id,.bool d.dead,.int .i64 d.m.id,.int .i64 d.m.rid,.slice d.mv.ms.a d.mv.ms.n d.mv.ms.c,.slice d.mv.its.a d.mv.its.n d.mv.its.c,.slice d.mv.lv.a d.mv.lv.n d.mv.lv.c,.slice d.mv.tx.a d.mv.tx.n d.mv.tx.c,.int .i64 d.m.rd,.int .i64 d.m.se,.int .i64 d.m.li,.int .i64 d.m.he,.int .i64 d.m.la.c,.int .i64 d.m.la.r,.int .i64 d.m.la.q,.int .i64 d.m.la.a,.int .i64 d.m.la.b,.slice d.mv.ws.a d.mv.ws.n d.mv.ws.c,.int .i64 d.most,.int .i64 d.old,.int .i64 d.jid,.slice d.js.a d.js.n d.js.c,.slice d.bs.a d.bs.n d.bs.c,.slice d.ls.a d.ls.n d.ls.c]):=LA.out.later b
  have BW:Hid (Below w.heap.size w w1):=qAa BW.out b
  have HM:Hid (MtO w1 B (qCm K d.m) d.mv):=HM.out.later b
  have HJ:Hid (OwnI w1 B d.js.v (qAm (endM K d.m) d.jms.length)):=HJ.out.keep fun _ _ hk=>(b).block _ hk
  have HB:Hid (HeldBu w1 d.bs d.bu (endM K d.m+d.jms.length) k4):=HB.out.later b
  have HE:Hid (HeldEv w1 d.ls d.lo k4 M):=HE.out.later b
  clear b
  obtain⟨k2,hk2⟩: ∃k2,endM K d.m=k2:=⟨_,rfl⟩
  rw[hk2]at HJ HB l1 S1g⊢
  clear hk2
  have hd1:decide ((k2:Int)<0)=false:=by simp
  go_wp2_with (first|(refine qAb rfl 37 _ rfl w.heap.size 20 rfl 45 _ LA.out [.int .i64 d.jid,.slice d.js.a d.js.n d.js.c] rfl _ Tryz.underlying37 rfl Tryz.sizeR ?_))
  refine(qEh d.jid d.js.v d.jms.length B k2 _ HJ (by omega) (by omega)).mono ?_
  rintro e w2 ⟨rfl,b⟩
  have z_w2:w1.heap.size≤w2.heap.size:=b.size
  have LA:Hid (Bx w2 w.heap.size 45 [.int .i64 d.id,.bool d.dead,.int .i64 d.m.id,.int .i64 d.m.rid,.slice d.mv.ms.a d.mv.ms.n d.mv.ms.c,.slice d.mv.its.a d.mv.its.n d.mv.its.c,.slice d.mv.lv.a d.mv.lv.n d.mv.lv.c,.slice d.mv.tx.a d.mv.tx.n d.mv.tx.c,.int .i64 d.m.rd,.int .i64 d.m.se,.int .i64 d.m.li,.int .i64 d.m.he,.int .i64 d.m.la.c,.int .i64 d.m.la.r,.int .i64 d.m.la.q,.int .i64 d.m.la.a,.int .i64 d.m.la.b,.slice d.mv.ws.a d.mv.ws.n d.mv.ws.c,.int .i64 d.most,.int .i64 d.old,.int .i64 d.jid,.slice d.js.a d.js.n d.js.c,.slice d.bs.a d.bs.n d.bs.c,.slice d.ls.a d.ls.n d.ls.c]):=LA.out.later b
  have BW:Hid (Below w.heap.size w w2):=qAa BW.out b
  have HM:Hid (MtO w2 B (qCm K d.m) d.mv):=HM.out.later b
  have HJ:Hid (OwnI w2 B d.js.v (qAm k2 d.jms.length)):=HJ.out.keep fun _ _ hk=>(b).block _ hk
  have HB:Hid (HeldBu w2 d.bs d.bu (k2+d.jms.length) k4):=HB.out.later b
  have HE:Hid (HeldEv w2 d.ls d.lo k4 M):=HE.out.later b
  clear b
  obtain⟨k3,hk3⟩: ∃k3,k2+d.jms.length=k3:=⟨_,rfl⟩
  rw[hk3]at HB l1⊢
  have k3p:0<k3:=by omega
  clear hk3
  have hd2:decide ((k3:Int)<0)=false:=by simp
  have c22:=LA.out.cell 22
  simp only[List.getElem?_cons_succ,List.getElem?_cons_zero]at c22
  go_wp2_with fail
  clear c22
  refine(heldBus_o d.bs d.bu k3 k4 _ HB k3p (by omega)).mono ?_
  rintro e w3 ⟨rfl,b⟩
  have z_w3:w2.heap.size≤w3.heap.size:=b.size
  have LA:Hid (Bx w3 w.heap.size 45 [.int .i64 d.id,.bool d.dead,.int .i64 d.m.id,.int .i64 d.m.rid,.slice d.mv.ms.a d.mv.ms.n d.mv.ms.c,.slice d.mv.its.a d.mv.its.n d.mv.its.c,.slice d.mv.lv.a d.mv.lv.n d.mv.lv.c,.slice d.mv.tx.a d.mv.tx.n d.mv.tx.c,.int .i64 d.m.rd,.int .i64 d.m.se,.int .i64 d.m.li,.int .i64 d.m.he,.int .i64 d.m.la.c,.int .i64 d.m.la.r,.int .i64 d.m.la.q,.int .i64 d.m.la.a,.int .i64 d.m.la.b,.slice d.mv.ws.a d.mv.ws.n d.mv.ws.c,.int .i64 d.most,.int .i64 d.old,.int .i64 d.jid,.slice d.js.a d.js.n d.js.c,.slice d.bs.a d.bs.n d.bs.c,.slice d.ls.a d.ls.n d.ls.c]):=LA.out.later b
  have BW:Hid (Below w.heap.size w w3):=qAa BW.out b
  have HM:Hid (MtO w3 B (qCm K d.m) d.mv):=HM.out.later b
  have HJ:Hid (OwnI w3 B d.js.v (qAm k2 d.jms.length)):=HJ.out.keep fun _ _ hk=>(b).block _ hk
  have HB:Hid (HeldBu w3 d.bs d.bu k3 k4):=HB.out.later b
  have HE:Hid (HeldEv w3 d.ls d.lo k4 M):=HE.out.later b
  clear b
  have hd3:decide ((k4:Int)<0)=false:=by simp
  have c23:=LA.out.cell 23
  simp only[List.getElem?_cons_succ,List.getElem?_cons_zero]at c23
  go_wp2_with fail
  clear c23
  refine(heldEvs_o d.ls d.lo k4 M _ HE (by omega) (by omega)).mono ?_
  rintro e w4 ⟨rfl,b⟩
  have z_w4:w3.heap.size≤w4.heap.size:=b.size
  have LA:Hid (Bx w4 w.heap.size 45 [.int .i64 d.id,.bool d.dead,.int .i64 d.m.id,.int .i64 d.m.rid,.slice d.mv.ms.a d.mv.ms.n d.mv.ms.c,.slice d.mv.its.a d.mv.its.n d.mv.its.c,.slice d.mv.lv.a d.mv.lv.n d.mv.lv.c,.slice d.mv.tx.a d.mv.tx.n d.mv.tx.c,.int .i64 d.m.rd,.int .i64 d.m.se,.int .i64 d.m.li,.int .i64 d.m.he,.int .i64 d.m.la.c,.int .i64 d.m.la.r,.int .i64 d.m.la.q,.int .i64 d.m.la.a,.int .i64 d.m.la.b,.slice d.mv.ws.a d.mv.ws.n d.mv.ws.c,.int .i64 d.most,.int .i64 d.old,.int .i64 d.jid,.slice d.js.a d.js.n d.js.c,.slice d.bs.a d.bs.n d.bs.c,.slice d.ls.a d.ls.n d.ls.c]):=LA.out.later b
  have BW:Hid (Below w.heap.size w w4):=qAa BW.out b
  have HM:Hid (MtO w4 B (qCm K d.m) d.mv):=HM.out.later b
  have HJ:Hid (OwnI w4 B d.js.v (qAm k2 d.jms.length)):=HJ.out.keep fun _ _ hk=>(b).block _ hk
  have HB:Hid (HeldBu w4 d.bs d.bu k3 k4):=HB.out.later b
  have HE:Hid (HeldEv w4 d.ls d.lo k4 M):=HE.out.later b
  clear b
  have hd4:decide ((M:Int)<0)=false:=by simp
  go_wp2_with fail
  go_ret
  exact⟨rfl,BW.out⟩
end Go.Proofs.YtifkopggmjbbeaaGreat
