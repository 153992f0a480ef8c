/- Joined texts: CDo14 CJo14 CDh14 CDka CDkb. -/
import Derived.Test.YtifkopggmjbbeaaGreatWk17
import Derived.Test.YtifkopggmjbbeaaGreatWk11
import Derived.BigQuiet
set_option maxRecDepth 100000
set_option maxHeartbeats 16000000
/- What DaemonOk asks, by the program: its Mate, its Bundles. Written by gen_do.py. -/
namespace Go.Proofs.YtifkopggmjbbeaaGreat
open Go.RowKit Pl
set_option linter.unusedSimpArgs false
set_option linter.unusedVariables false
def dmM(d:Dm):Bool:=(d.old==d.m.rid)&&(nmS d.m d.mv||((d.m.id==d.id)&&d.m.ok))
theorem dmateOk_any(d:Dm)(w:World)(h:Hid (MtR w d.m d.mv))(hs:Hid (MtS d.m)):Calls Tryz.prog 80 #[.agg #[.int .i64 d.id,.bool d.dead,.int .i64 d.m.id,.int .i64 d.m.rid,.slice d.mv.ms.a d.mv.ms.n d.mv.ms.c,.slice d.mv.its.a d.mv.its.n d.mv.its.c,.slice d.mv.lv.a d.mv.lv.n d.mv.lv.c,.slice d.mv.tx.a d.mv.tx.n d.mv.tx.c,.int .i64 d.m.rd,.int .i64 d.m.se,.int .i64 d.m.li,.int .i64 d.m.he,.int .i64 d.m.la.c,.int .i64 d.m.la.r,.int .i64 d.m.la.q,.int .i64 d.m.la.a,.int .i64 d.m.la.b,.slice d.mv.ws.a d.mv.ws.n d.mv.ws.c,.int .i64 d.most,.int .i64 d.old,.int .i64 d.jid,.slice d.js.a d.js.n d.js.c,.slice d.bs.a d.bs.n d.bs.c,.slice d.ls.a d.ls.n d.ls.c]] w fun e w'=>e=.returned (.bool (dmM d))∧Below w.heap.size w w':=by
  obtain⟨R,hR0⟩: ∃R,dmM d=R:=⟨_,rfl⟩
  rw[hR0]
  have hR:Hid (dmM d=R):=hR0
  clear hR0
  have LA:Hid (Bx (w.alloc (.cells #[.int .i64 d.id,.bool d.dead,.int .i64 d.m.id,.int .i64 d.m.rid,.slice d.mv.ms.a d.mv.ms.n d.mv.ms.c,.slice d.mv.its.a d.mv.its.n d.mv.its.c,.slice d.mv.lv.a d.mv.lv.n d.mv.lv.c,.slice d.mv.tx.a d.mv.tx.n d.mv.tx.c,.int .i64 d.m.rd,.int .i64 d.m.se,.int .i64 d.m.li,.int .i64 d.m.he,.int .i64 d.m.la.c,.int .i64 d.m.la.r,.int .i64 d.m.la.q,.int .i64 d.m.la.a,.int .i64 d.m.la.b,.slice d.mv.ws.a d.mv.ws.n d.mv.ws.c,.int .i64 d.most,.int .i64 d.old,.int .i64 d.jid,.slice d.js.a d.js.n d.js.c,.slice d.bs.a d.bs.n d.bs.c,.slice d.ls.a d.ls.n d.ls.c] 45)) w.heap.size 45 [.int .i64 d.id,.bool d.dead,.int .i64 d.m.id,.int .i64 d.m.rid,.slice d.mv.ms.a d.mv.ms.n d.mv.ms.c,.slice d.mv.its.a d.mv.its.n d.mv.its.c,.slice d.mv.lv.a d.mv.lv.n d.mv.lv.c,.slice d.mv.tx.a d.mv.tx.n d.mv.tx.c,.int .i64 d.m.rd,.int .i64 d.m.se,.int .i64 d.m.li,.int .i64 d.m.he,.int .i64 d.m.la.c,.int .i64 d.m.la.r,.int .i64 d.m.la.q,.int .i64 d.m.la.a,.int .i64 d.m.la.b,.slice d.mv.ws.a d.mv.ws.n d.mv.ws.c,.int .i64 d.most,.int .i64 d.old,.int .i64 d.jid,.slice d.js.a d.js.n d.js.c,.slice d.bs.a d.bs.n d.bs.c,.slice d.ls.a d.ls.n d.ls.c]):=by
    have h:=Bx.new w 45 [.int .i64 d.id,.bool d.dead,.int .i64 d.m.id,.int .i64 d.m.rid,.slice d.mv.ms.a d.mv.ms.n d.mv.ms.c,.slice d.mv.its.a d.mv.its.n d.mv.its.c,.slice d.mv.lv.a d.mv.lv.n d.mv.lv.c,.slice d.mv.tx.a d.mv.tx.n d.mv.tx.c,.int .i64 d.m.rd,.int .i64 d.m.se,.int .i64 d.m.li,.int .i64 d.m.he,.int .i64 d.m.la.c,.int .i64 d.m.la.r,.int .i64 d.m.la.q,.int .i64 d.m.la.a,.int .i64 d.m.la.b,.slice d.mv.ws.a d.mv.ws.n d.mv.ws.c,.int .i64 d.most,.int .i64 d.old,.int .i64 d.jid,.slice d.js.a d.js.n d.js.c,.slice d.bs.a d.bs.n d.bs.c,.slice d.ls.a d.ls.n d.ls.c]
    exact h
  have BW:Hid (Below w.heap.size w (w.alloc (.cells #[.int .i64 d.id,.bool d.dead,.int .i64 d.m.id,.int .i64 d.m.rid,.slice d.mv.ms.a d.mv.ms.n d.mv.ms.c,.slice d.mv.its.a d.mv.its.n d.mv.its.c,.slice d.mv.lv.a d.mv.lv.n d.mv.lv.c,.slice d.mv.tx.a d.mv.tx.n d.mv.tx.c,.int .i64 d.m.rd,.int .i64 d.m.se,.int .i64 d.m.li,.int .i64 d.m.he,.int .i64 d.m.la.c,.int .i64 d.m.la.r,.int .i64 d.m.la.q,.int .i64 d.m.la.a,.int .i64 d.m.la.b,.slice d.mv.ws.a d.mv.ws.n d.mv.ws.c,.int .i64 d.most,.int .i64 d.old,.int .i64 d.jid,.slice d.js.a d.js.n d.js.c,.slice d.bs.a d.bs.n d.bs.c,.slice d.ls.a d.ls.n d.ls.c] 45))):=((Below.refl _ _).alloc (by simp) _)
  have HM:Hid (MtR (w.alloc (.cells #[.int .i64 d.id,.bool d.dead,.int .i64 d.m.id,.int .i64 d.m.rid,.slice d.mv.ms.a d.mv.ms.n d.mv.ms.c,.slice d.mv.its.a d.mv.its.n d.mv.its.c,.slice d.mv.lv.a d.mv.lv.n d.mv.lv.c,.slice d.mv.tx.a d.mv.tx.n d.mv.tx.c,.int .i64 d.m.rd,.int .i64 d.m.se,.int .i64 d.m.li,.int .i64 d.m.he,.int .i64 d.m.la.c,.int .i64 d.m.la.r,.int .i64 d.m.la.q,.int .i64 d.m.la.a,.int .i64 d.m.la.b,.slice d.mv.ws.a d.mv.ws.n d.mv.ws.c,.int .i64 d.most,.int .i64 d.old,.int .i64 d.jid,.slice d.js.a d.js.n d.js.c,.slice d.bs.a d.bs.n d.bs.c,.slice d.ls.a d.ls.n d.ls.c] 45)) d.m d.mv):=h.out.stays BW.out
  have HW:Hid (d.mv.ws.n=d.m.la.ws.length):=h.out.ws.len
  clear h
  have c0:=LA.out.cell 0
  have c2:=LA.out.cell 2
  have c3:=LA.out.cell 3
  have c19:=LA.out.cell 19
  simp only[List.getElem?_cons_succ,List.getElem?_cons_zero]at c0 c2 c3 c19
  go_enter Tryz.func80,Tryz.ntmps80
  obtain⟨R1,k1⟩: ∃R:Bool,(d.old==d.m.rid)=R:=⟨_,rfl⟩
  have K1:Hid ((d.old==d.m.rid)=R1):=k1
  cases R1 with
  | false =>
    have e:dmM d=false:=by
      unfold dmM
      simp only[K1.out,Bool.false_and,Bool.true_and,Bool.and_false,Bool.and_true,Bool.not_true,Bool.not_false,Bool.or_true,Bool.true_or,Bool.or_false,Bool.false_or,cond_true,cond_false]
    rw[hR.out]at e
    clear hR
    subst e
    go_wp2_with fail
    go_ret
    exact⟨rfl,BW.out⟩
  | true =>
    go_wp2_with (first|(refine qAb rfl 41 _ rfl w.heap.size 2 rfl 45 _ LA.out [.int .i64 d.m.id,.int .i64 d.m.rid,.slice d.mv.ms.a d.mv.ms.n d.mv.ms.c,.slice d.mv.its.a d.mv.its.n d.mv.its.c,.slice d.mv.lv.a d.mv.lv.n d.mv.lv.c,.slice d.mv.tx.a d.mv.tx.n d.mv.tx.c,.int .i64 d.m.rd,.int .i64 d.m.se,.int .i64 d.m.li,.int .i64 d.m.he,.int .i64 d.m.la.c,.int .i64 d.m.la.r,.int .i64 d.m.la.q,.int .i64 d.m.la.a,.int .i64 d.m.la.b,.slice d.mv.ws.a d.mv.ws.n d.mv.ws.c] rfl _ Tryz.underlying41 rfl Tryz.sizeM ?_))
    refine(qDv d.m d.mv _ HW.out).mono ?_
    rintro e t2 ⟨rfl,b⟩
    have LA:Hid (Bx t2 w.heap.size 45 [.int .i64 d.id,.bool d.dead,.int .i64 d.m.id,.int .i64 d.m.rid,.slice d.mv.ms.a d.mv.ms.n d.mv.ms.c,.slice d.mv.its.a d.mv.its.n d.mv.its.c,.slice d.mv.lv.a d.mv.lv.n d.mv.lv.c,.slice d.mv.tx.a d.mv.tx.n d.mv.tx.c,.int .i64 d.m.rd,.int .i64 d.m.se,.int .i64 d.m.li,.int .i64 d.m.he,.int .i64 d.m.la.c,.int .i64 d.m.la.r,.int .i64 d.m.la.q,.int .i64 d.m.la.a,.int .i64 d.m.la.b,.slice d.mv.ws.a d.mv.ws.n d.mv.ws.c,.int .i64 d.most,.int .i64 d.old,.int .i64 d.jid,.slice d.js.a d.js.n d.js.c,.slice d.bs.a d.bs.n d.bs.c,.slice d.ls.a d.ls.n d.ls.c]):=LA.out.later b
    have BW:Hid (Below w.heap.size w t2):=qAa BW.out b
    have HM:Hid (MtR t2 d.m d.mv):=HM.out.stays b
    clear b
    obtain⟨R2,k2⟩: ∃R:Bool,(nmS d.m d.mv)=R:=⟨_,rfl⟩
    rw[k2]
    have K2:Hid ((nmS d.m d.mv)=R2):=k2
    clear k2
    cases R2 with
    | false =>
      obtain⟨R3,k3⟩: ∃R:Bool,(d.m.id==d.id)=R:=⟨_,rfl⟩
      have K3:Hid ((d.m.id==d.id)=R3):=k3
      cases R3 with
      | false =>
        have c0:=LA.out.cell 0
        have c2:=LA.out.cell 2
        simp only[List.getElem?_cons_succ,List.getElem?_cons_zero]at c0 c2
        have e:dmM d=false:=by
          unfold dmM
          simp only[K1.out,K2.out,K3.out,Bool.false_and,Bool.true_and,Bool.and_false,Bool.and_true,Bool.not_true,Bool.not_false,Bool.or_true,Bool.true_or,Bool.or_false,Bool.false_or,cond_true,cond_false]
        rw[hR.out]at e
        clear hR
        subst e
        go_wp2_with fail
        go_ret
        exact⟨rfl,BW.out⟩
      | true =>
        have c0:=LA.out.cell 0
        have c2:=LA.out.cell 2
        simp only[List.getElem?_cons_succ,List.getElem?_cons_zero]at c0 c2
        go_wp2_with (first|(refine qAb rfl 41 _ rfl w.heap.size 2 rfl 45 _ LA.out [.int .i64 d.m.id,.int .i64 d.m.rid,.slice d.mv.ms.a d.mv.ms.n d.mv.ms.c,.slice d.mv.its.a d.mv.its.n d.mv.its.c,.slice d.mv.lv.a d.mv.lv.n d.mv.lv.c,.slice d.mv.tx.a d.mv.tx.n d.mv.tx.c,.int .i64 d.m.rd,.int .i64 d.m.se,.int .i64 d.m.li,.int .i64 d.m.he,.int .i64 d.m.la.c,.int .i64 d.m.la.r,.int .i64 d.m.la.q,.int .i64 d.m.la.a,.int .i64 d.m.la.b,.slice d.mv.ws.a d.mv.ws.n d.mv.ws.c] rfl _ Tryz.underlying41 rfl Tryz.sizeM ?_))
        refine(mateOk_any d.m d.mv _ HM hs).mono ?_
        rintro e t4 ⟨rfl,b⟩
        have LA:Hid (Bx t4 w.heap.size 45 [.int .i64 d.id,.bool d.dead,.int .i64 d.m.id,.int .i64 d.m.rid,.slice d.mv.ms.a d.mv.ms.n d.mv.ms.c,.slice d.mv.its.a d.mv.its.n d.mv.its.c,.slice d.mv.lv.a d.mv.lv.n d.mv.lv.c,.slice d.mv.tx.a d.mv.tx.n d.mv.tx.c,.int .i64 d.m.rd,.int .i64 d.m.se,.int .i64 d.m.li,.int .i64 d.m.he,.int .i64 d.m.la.c,.int .i64 d.m.la.r,.int .i64 d.m.la.q,.int .i64 d.m.la.a,.int .i64 d.m.la.b,.slice d.mv.ws.a d.mv.ws.n d.mv.ws.c,.int .i64 d.most,.int .i64 d.old,.int .i64 d.jid,.slice d.js.a d.js.n d.js.c,.slice d.bs.a d.bs.n d.bs.c,.slice d.ls.a d.ls.n d.ls.c]):=LA.out.later b
        have BW:Hid (Below w.heap.size w t4):=qAa BW.out b
        have HM:Hid (MtR t4 d.m d.mv):=HM.out.stays b
        clear b
        obtain⟨R4,k4⟩: ∃R:Bool,(d.m.ok)=R:=⟨_,rfl⟩
        rw[k4]
        have K4:Hid ((d.m.ok)=R4):=k4
        clear k4
        cases R4 with
        | false =>
          have e:dmM d=false:=by
            unfold dmM
            simp only[K1.out,K2.out,K3.out,K4.out,Bool.false_and,Bool.true_and,Bool.and_false,Bool.and_true,Bool.not_true,Bool.not_false,Bool.or_true,Bool.true_or,Bool.or_false,Bool.false_or,cond_true,cond_false]
          rw[hR.out]at e
          clear hR
          subst e
          go_wp2_with fail
          go_ret
          exact⟨rfl,BW.out⟩
        | true =>
          have e:dmM d=true:=by
            unfold dmM
            simp only[K1.out,K2.out,K3.out,K4.out,Bool.false_and,Bool.true_and,Bool.and_false,Bool.and_true,Bool.not_true,Bool.not_false,Bool.or_true,Bool.true_or,Bool.or_false,Bool.false_or,cond_true,cond_false]
          rw[hR.out]at e
          clear hR
          subst e
          go_wp2_with fail
          go_ret
          exact⟨rfl,BW.out⟩
    | true =>
      have e:dmM d=true:=by
        unfold dmM
        simp only[K1.out,K2.out,Bool.false_and,Bool.true_and,Bool.and_false,Bool.and_true,Bool.not_true,Bool.not_false,Bool.or_true,Bool.true_or,Bool.or_false,Bool.false_or,cond_true,cond_false]
      rw[hR.out]at e
      clear hR
      subst e
      go_wp2_with fail
      go_ret
      exact⟨rfl,BW.out⟩
def myB(d:Dm)(b:Bu):Bool:=bunB b.f b.n b.o b.ts&&(b.n==d.jid)
theorem mayHave_any(d:Dm)(b:Bu)(w:World)(h:Hid (b.R w))(hl:b.ts.length≤1048576):Calls Tryz.prog 115 #[.agg #[.int .i64 d.id,.bool d.dead,.int .i64 d.m.id,.int .i64 d.m.rid,.slice d.mv.ms.a d.mv.ms.n d.mv.ms.c,.slice d.mv.its.a d.mv.its.n d.mv.its.c,.slice d.mv.lv.a d.mv.lv.n d.mv.lv.c,.slice d.mv.tx.a d.mv.tx.n d.mv.tx.c,.int .i64 d.m.rd,.int .i64 d.m.se,.int .i64 d.m.li,.int .i64 d.m.he,.int .i64 d.m.la.c,.int .i64 d.m.la.r,.int .i64 d.m.la.q,.int .i64 d.m.la.a,.int .i64 d.m.la.b,.slice d.mv.ws.a d.mv.ws.n d.mv.ws.c,.int .i64 d.most,.int .i64 d.old,.int .i64 d.jid,.slice d.js.a d.js.n d.js.c,.slice d.bs.a d.bs.n d.bs.c,.slice d.ls.a d.ls.n d.ls.c],.agg #[.int .i64 b.f,.int .i64 b.n,.int .i64 b.o,.slice b.s.a b.s.n b.s.c]] w fun e w'=>e=.returned (.bool (myB d b))∧Below w.heap.size w w':=by
  obtain⟨R,hR0⟩: ∃R,myB d b=R:=⟨_,rfl⟩
  rw[hR0]
  have hR:Hid (myB d b=R):=hR0
  clear hR0
  have hn1:(w.alloc (.cells #[.int .i64 d.id,.bool d.dead,.int .i64 d.m.id,.int .i64 d.m.rid,.slice d.mv.ms.a d.mv.ms.n d.mv.ms.c,.slice d.mv.its.a d.mv.its.n d.mv.its.c,.slice d.mv.lv.a d.mv.lv.n d.mv.lv.c,.slice d.mv.tx.a d.mv.tx.n d.mv.tx.c,.int .i64 d.m.rd,.int .i64 d.m.se,.int .i64 d.m.li,.int .i64 d.m.he,.int .i64 d.m.la.c,.int .i64 d.m.la.r,.int .i64 d.m.la.q,.int .i64 d.m.la.a,.int .i64 d.m.la.b,.slice d.mv.ws.a d.mv.ws.n d.mv.ws.c,.int .i64 d.most,.int .i64 d.old,.int .i64 d.jid,.slice d.js.a d.js.n d.js.c,.slice d.bs.a d.bs.n d.bs.c,.slice d.ls.a d.ls.n d.ls.c] 45)).heap.size=w.heap.size+1:=by simp
  have LA:Hid (Bx ((w.alloc (.cells #[.int .i64 d.id,.bool d.dead,.int .i64 d.m.id,.int .i64 d.m.rid,.slice d.mv.ms.a d.mv.ms.n d.mv.ms.c,.slice d.mv.its.a d.mv.its.n d.mv.its.c,.slice d.mv.lv.a d.mv.lv.n d.mv.lv.c,.slice d.mv.tx.a d.mv.tx.n d.mv.tx.c,.int .i64 d.m.rd,.int .i64 d.m.se,.int .i64 d.m.li,.int .i64 d.m.he,.int .i64 d.m.la.c,.int .i64 d.m.la.r,.int .i64 d.m.la.q,.int .i64 d.m.la.a,.int .i64 d.m.la.b,.slice d.mv.ws.a d.mv.ws.n d.mv.ws.c,.int .i64 d.most,.int .i64 d.old,.int .i64 d.jid,.slice d.js.a d.js.n d.js.c,.slice d.bs.a d.bs.n d.bs.c,.slice d.ls.a d.ls.n d.ls.c] 45)).alloc (.cells #[.int .i64 b.f,.int .i64 b.n,.int .i64 b.o,.slice b.s.a b.s.n b.s.c] 70)) w.heap.size 45 [.int .i64 d.id,.bool d.dead,.int .i64 d.m.id,.int .i64 d.m.rid,.slice d.mv.ms.a d.mv.ms.n d.mv.ms.c,.slice d.mv.its.a d.mv.its.n d.mv.its.c,.slice d.mv.lv.a d.mv.lv.n d.mv.lv.c,.slice d.mv.tx.a d.mv.tx.n d.mv.tx.c,.int .i64 d.m.rd,.int .i64 d.m.se,.int .i64 d.m.li,.int .i64 d.m.he,.int .i64 d.m.la.c,.int .i64 d.m.la.r,.int .i64 d.m.la.q,.int .i64 d.m.la.a,.int .i64 d.m.la.b,.slice d.mv.ws.a d.mv.ws.n d.mv.ws.c,.int .i64 d.most,.int .i64 d.old,.int .i64 d.jid,.slice d.js.a d.js.n d.js.c,.slice d.bs.a d.bs.n d.bs.c,.slice d.ls.a d.ls.n d.ls.c]):=by
    have h:=Bx.new w 45 [.int .i64 d.id,.bool d.dead,.int .i64 d.m.id,.int .i64 d.m.rid,.slice d.mv.ms.a d.mv.ms.n d.mv.ms.c,.slice d.mv.its.a d.mv.its.n d.mv.its.c,.slice d.mv.lv.a d.mv.lv.n d.mv.lv.c,.slice d.mv.tx.a d.mv.tx.n d.mv.tx.c,.int .i64 d.m.rd,.int .i64 d.m.se,.int .i64 d.m.li,.int .i64 d.m.he,.int .i64 d.m.la.c,.int .i64 d.m.la.r,.int .i64 d.m.la.q,.int .i64 d.m.la.a,.int .i64 d.m.la.b,.slice d.mv.ws.a d.mv.ws.n d.mv.ws.c,.int .i64 d.most,.int .i64 d.old,.int .i64 d.jid,.slice d.js.a d.js.n d.js.c,.slice d.bs.a d.bs.n d.bs.c,.slice d.ls.a d.ls.n d.ls.c]
    exact(h).later ((Below.refl _ _).alloc (Nat.le_refl _) _)
  have LB:Hid (Bx ((w.alloc (.cells #[.int .i64 d.id,.bool d.dead,.int .i64 d.m.id,.int .i64 d.m.rid,.slice d.mv.ms.a d.mv.ms.n d.mv.ms.c,.slice d.mv.its.a d.mv.its.n d.mv.its.c,.slice d.mv.lv.a d.mv.lv.n d.mv.lv.c,.slice d.mv.tx.a d.mv.tx.n d.mv.tx.c,.int .i64 d.m.rd,.int .i64 d.m.se,.int .i64 d.m.li,.int .i64 d.m.he,.int .i64 d.m.la.c,.int .i64 d.m.la.r,.int .i64 d.m.la.q,.int .i64 d.m.la.a,.int .i64 d.m.la.b,.slice d.mv.ws.a d.mv.ws.n d.mv.ws.c,.int .i64 d.most,.int .i64 d.old,.int .i64 d.jid,.slice d.js.a d.js.n d.js.c,.slice d.bs.a d.bs.n d.bs.c,.slice d.ls.a d.ls.n d.ls.c] 45)).alloc (.cells #[.int .i64 b.f,.int .i64 b.n,.int .i64 b.o,.slice b.s.a b.s.n b.s.c] 70)) (w.heap.size+1) 70 [.int .i64 b.f,.int .i64 b.n,.int .i64 b.o,.slice b.s.a b.s.n b.s.c]):=by
    have h:=Bx.new (w.alloc (.cells #[.int .i64 d.id,.bool d.dead,.int .i64 d.m.id,.int .i64 d.m.rid,.slice d.mv.ms.a d.mv.ms.n d.mv.ms.c,.slice d.mv.its.a d.mv.its.n d.mv.its.c,.slice d.mv.lv.a d.mv.lv.n d.mv.lv.c,.slice d.mv.tx.a d.mv.tx.n d.mv.tx.c,.int .i64 d.m.rd,.int .i64 d.m.se,.int .i64 d.m.li,.int .i64 d.m.he,.int .i64 d.m.la.c,.int .i64 d.m.la.r,.int .i64 d.m.la.q,.int .i64 d.m.la.a,.int .i64 d.m.la.b,.slice d.mv.ws.a d.mv.ws.n d.mv.ws.c,.int .i64 d.most,.int .i64 d.old,.int .i64 d.jid,.slice d.js.a d.js.n d.js.c,.slice d.bs.a d.bs.n d.bs.c,.slice d.ls.a d.ls.n d.ls.c] 45)) 70 [.int .i64 b.f,.int .i64 b.n,.int .i64 b.o,.slice b.s.a b.s.n b.s.c]
    rw[hn1]at h
    exact h
  have BW:Hid (Below w.heap.size w ((w.alloc (.cells #[.int .i64 d.id,.bool d.dead,.int .i64 d.m.id,.int .i64 d.m.rid,.slice d.mv.ms.a d.mv.ms.n d.mv.ms.c,.slice d.mv.its.a d.mv.its.n d.mv.its.c,.slice d.mv.lv.a d.mv.lv.n d.mv.lv.c,.slice d.mv.tx.a d.mv.tx.n d.mv.tx.c,.int .i64 d.m.rd,.int .i64 d.m.se,.int .i64 d.m.li,.int .i64 d.m.he,.int .i64 d.m.la.c,.int .i64 d.m.la.r,.int .i64 d.m.la.q,.int .i64 d.m.la.a,.int .i64 d.m.la.b,.slice d.mv.ws.a d.mv.ws.n d.mv.ws.c,.int .i64 d.most,.int .i64 d.old,.int .i64 d.jid,.slice d.js.a d.js.n d.js.c,.slice d.bs.a d.bs.n d.bs.c,.slice d.ls.a d.ls.n d.ls.c] 45)).alloc (.cells #[.int .i64 b.f,.int .i64 b.n,.int .i64 b.o,.slice b.s.a b.s.n b.s.c] 70))):=(((Below.refl _ _).alloc (by simp) _).alloc (by simp;try omega) _)
  clear hn1
  have HB:Hid (RSt ((w.alloc (.cells #[.int .i64 d.id,.bool d.dead,.int .i64 d.m.id,.int .i64 d.m.rid,.slice d.mv.ms.a d.mv.ms.n d.mv.ms.c,.slice d.mv.its.a d.mv.its.n d.mv.its.c,.slice d.mv.lv.a d.mv.lv.n d.mv.lv.c,.slice d.mv.tx.a d.mv.tx.n d.mv.tx.c,.int .i64 d.m.rd,.int .i64 d.m.se,.int .i64 d.m.li,.int .i64 d.m.he,.int .i64 d.m.la.c,.int .i64 d.m.la.r,.int .i64 d.m.la.q,.int .i64 d.m.la.a,.int .i64 d.m.la.b,.slice d.mv.ws.a d.mv.ws.n d.mv.ws.c,.int .i64 d.most,.int .i64 d.old,.int .i64 d.jid,.slice d.js.a d.js.n d.js.c,.slice d.bs.a d.bs.n d.bs.c,.slice d.ls.a d.ls.n d.ls.c] 45)).alloc (.cells #[.int .i64 b.f,.int .i64 b.n,.int .i64 b.o,.slice b.s.a b.s.n b.s.c] 70)) b.s b.ts):=RSt.stays h.out BW.out
  clear h
  have c20:=LA.out.cell 20
  have b1:=LB.out.cell 1
  simp only[List.getElem?_cons_succ,List.getElem?_cons_zero]at c20 b1
  go_enter Tryz.func115,Tryz.ntmps115
  go_wp2_with (first|(refine qAb rfl 70 _ rfl (w.heap.size+1) 0 rfl 70 _ LB.out [.int .i64 b.f,.int .i64 b.n,.int .i64 b.o,.slice b.s.a b.s.n b.s.c] rfl _ Tryz.underlying70 rfl Tryz.sizeBu ?_))
  refine(bundleOk_r b.f b.n b.o b.s b.ts _ HB hl).mono ?_
  rintro e t1 ⟨rfl,bb⟩
  have LA:Hid (Bx t1 w.heap.size 45 [.int .i64 d.id,.bool d.dead,.int .i64 d.m.id,.int .i64 d.m.rid,.slice d.mv.ms.a d.mv.ms.n d.mv.ms.c,.slice d.mv.its.a d.mv.its.n d.mv.its.c,.slice d.mv.lv.a d.mv.lv.n d.mv.lv.c,.slice d.mv.tx.a d.mv.tx.n d.mv.tx.c,.int .i64 d.m.rd,.int .i64 d.m.se,.int .i64 d.m.li,.int .i64 d.m.he,.int .i64 d.m.la.c,.int .i64 d.m.la.r,.int .i64 d.m.la.q,.int .i64 d.m.la.a,.int .i64 d.m.la.b,.slice d.mv.ws.a d.mv.ws.n d.mv.ws.c,.int .i64 d.most,.int .i64 d.old,.int .i64 d.jid,.slice d.js.a d.js.n d.js.c,.slice d.bs.a d.bs.n d.bs.c,.slice d.ls.a d.ls.n d.ls.c]):=LA.out.later bb
  have LB:Hid (Bx t1 (w.heap.size+1) 70 [.int .i64 b.f,.int .i64 b.n,.int .i64 b.o,.slice b.s.a b.s.n b.s.c]):=LB.out.later bb
  have BW:Hid (Below w.heap.size w t1):=qAa BW.out bb
  clear bb
  obtain⟨R1,k1⟩: ∃R:Bool,(bunB b.f b.n b.o b.ts)=R:=⟨_,rfl⟩
  rw[k1]
  have K1:Hid ((bunB b.f b.n b.o b.ts)=R1):=k1
  clear k1
  cases R1 with
  | false =>
    have e:myB d b=false:=by
      unfold myB
      simp only[K1.out,Bool.false_and,Bool.true_and,Bool.and_false,Bool.and_true,Bool.not_true,Bool.not_false,Bool.or_true,Bool.true_or,Bool.or_false,Bool.false_or,cond_true,cond_false]
    rw[hR.out]at e
    clear hR
    subst e
    go_wp2_with fail
    go_ret
    exact⟨rfl,BW.out⟩
  | true =>
    obtain⟨R2,k2⟩: ∃R:Bool,(b.n==d.jid)=R:=⟨_,rfl⟩
    have K2:Hid ((b.n==d.jid)=R2):=k2
    cases R2 with
    | false =>
      have c20:=LA.out.cell 20
      have b1:=LB.out.cell 1
      simp only[List.getElem?_cons_succ,List.getElem?_cons_zero]at c20 b1
      have e:myB d b=false:=by
        unfold myB
        simp only[K1.out,K2.out,Bool.false_and,Bool.true_and,Bool.and_false,Bool.and_true,Bool.not_true,Bool.not_false,Bool.or_true,Bool.true_or,Bool.or_false,Bool.false_or,cond_true,cond_false]
      rw[hR.out]at e
      clear hR
      subst e
      go_wp2_with fail
      go_ret
      exact⟨rfl,BW.out⟩
    | true =>
      have c20:=LA.out.cell 20
      have b1:=LB.out.cell 1
      simp only[List.getElem?_cons_succ,List.getElem?_cons_zero]at c20 b1
      have e:myB d b=true:=by
        unfold myB
        simp only[K1.out,K2.out,Bool.false_and,Bool.true_and,Bool.and_false,Bool.and_true,Bool.not_true,Bool.not_false,Bool.or_true,Bool.true_or,Bool.or_false,Bool.false_or,cond_true,cond_false]
      rw[hR.out]at e
      clear hR
      subst e
      go_wp2_with fail
      go_ret
      exact⟨rfl,BW.out⟩
theorem keptM_any(d:Dm)(s:Sv)(bs:List Bu)(w:World)(hx:Hid (BusR w s bs))(hl:bs.length≤1048576)(hs:Hid (∀b∈bs,b.S)):
    Calls Tryz.prog 114 #[.slice s.a s.n s.c,.func (.func 115) #[.agg #[.int .i64 d.id,.bool d.dead,.int .i64 d.m.id,.int .i64 d.m.rid,.slice d.mv.ms.a d.mv.ms.n d.mv.ms.c,.slice d.mv.its.a d.mv.its.n d.mv.its.c,.slice d.mv.lv.a d.mv.lv.n d.mv.lv.c,.slice d.mv.tx.a d.mv.tx.n d.mv.tx.c,.int .i64 d.m.rd,.int .i64 d.m.se,.int .i64 d.m.li,.int .i64 d.m.he,.int .i64 d.m.la.c,.int .i64 d.m.la.r,.int .i64 d.m.la.q,.int .i64 d.m.la.a,.int .i64 d.m.la.b,.slice d.mv.ws.a d.mv.ws.n d.mv.ws.c,.int .i64 d.most,.int .i64 d.old,.int .i64 d.jid,.slice d.js.a d.js.n d.js.c,.slice d.bs.a d.bs.n d.bs.c,.slice d.ls.a d.ls.n d.ls.c]] #[]] w fun e w'=>∃u:Sv,e=.returned (.slice u.a u.n u.c)∧u.n=(bs.filter (myB d)).length∧Below w.heap.size w w':=by
  obtain⟨a,n,c⟩:=s
  dsimp only
  have HN:Hid (n=bs.length):=hx.out.1
  have hn:n≤1048576:=by have:=HN.out;omega
  clear hl
  have V0:Hid (SlN (w.alloc (.cells #[] 70)) 70 4 w.heap.size (.slice (some ⟨w.heap.size,0,none⟩) 0 0) []):=SlN.made w 70 4 w.heap.size (Nat.le_refl _)
  have B0:Hid (Below w.heap.size w (w.alloc (.cells #[] 70))):=(Below.refl _ _).alloc (Nat.le_refl _) _
  go_enter Tryz.func114,Tryz.ntmps114
  go_wp2_with fail
  generalize w.alloc (.cells #[] 70)=W0 at *
  go_loopw [5,11] (fun v i wr=>∃(k:Nat) (u:Sv),k≤n∧i=.int .i64 k∧v=.slice u.a u.n u.c∧Hid (SlN wr 70 4 w.heap.size u.v (((bs.take k).filter (myB d)).map Bu.row))∧Hid (Below w.heap.size w wr)) (fun _ i _=>n - (intOf i).toNat)
  case atStart=>exact⟨0,⟨some ⟨w.heap.size,0,none⟩,0,0⟩,by omega,rfl,rfl,V0.out,B0.out⟩
  case round=>
    clear V0 B0
    obtain⟨k,u,hk,rfl,rfl,hV,hb⟩:=hrel
    by_cases hlt:k<n
    · have hlt2 : k < bs.length := by have := HN.out; omega
      obtain⟨g,off,ha,hg,_,hr⟩:=(hx.out.stays hb.out).2.1 k (by simpa using hlt2)
      obtain⟨b,he⟩: ∃b,b=bs[k]:=⟨_,rfl⟩
      have hr2:wr.rangeAt g (off+k * 4) b.row:=by rw[he];simpa using hr
      have HR:Hid (wr.rangeAt g (off+k * 4) [.int .i64 b.f,.int .i64 b.n,.int .i64 b.o,.slice b.s.a b.s.n b.s.c]):=hr2
      have HE:Hid (b=bs[k]):=he
      have RR:Hid (b.R wr):=by rw[he];exact(hx.out.stays hb.out).2.2 _ (List.getElem_mem hlt2)
      have hq1:b.ts.length≤1048576:=by rw[he];exact hs.out _ (List.getElem_mem hlt2)
      have ha:a=some ⟨g,off,none⟩:=ha
      subst ha
      have i0:(0:Int)≤(k:Int):=by omega
      have i1:(k:Int)<(n:Int):=by omega
      have D1:Below wr.heap.size wr (wr.alloc (.cells #[.int .i64 0,.int .i64 0,.int .i64 0,.slice none 0 0] 70)):=(Below.refl _ _).alloc (Nat.le_refl _) _
      have hz:Hid (Bx (wr.alloc (.cells #[.int .i64 0,.int .i64 0,.int .i64 0,.slice none 0 0] 70)) wr.heap.size 70 [.int .i64 0,.int .i64 0,.int .i64 0,.slice none 0 0]):=Bx.new wr 70 _
      clear hr hr2 he hg
      go_wp2_with (first|(refine qAx rfl 70 _ rfl g (off+k * 4) (by rfl) [.int .i64 b.f,.int .i64 b.n,.int .i64 b.o,.slice b.s.a b.s.n b.s.c] HR.out _ Tryz.underlying70 rfl Tryz.sizeBu ?_)|(with_reducible refine qAc 70 _ _ rfl ?_))
      refine Stp.go ?_
      refine qAf rfl 70 _ _ rfl wr.heap.size 0 rfl 70 _ hz.out [.int .i64 b.f,.int .i64 b.n,.int .i64 b.o,.slice b.s.a b.s.n b.s.c] rfl (by simp) Tryz.sizeBu rfl [.int .i64 b.f,.int .i64 b.n,.int .i64 b.o,.slice b.s.a b.s.n b.s.c] rfl ?_
      intro W1 OB TB
      have BN:Below wr.heap.size wr W1:=D1.trans (TB.below (Nat.le_refl _))
      have X1:Hid (Bx W1 wr.heap.size 70 [.int .i64 b.f,.int .i64 b.n,.int .i64 b.o,.slice b.s.a b.s.n b.s.c]):=OB
      have V1:Hid (SlN W1 70 4 w.heap.size u.v (((bs.take k).filter (myB d)).map Bu.row)):=hV.out.below BN
      have B1:Hid (Below w.heap.size w W1):=qCy hb.out BN
      have HRI:Hid (b.R W1):=RR.out.stays BN
      clear OB TB BN D1 hz HR RR hV hb
      generalize wr.heap.size=gb at *
      go_wp2_with (first|(refine qAb rfl 70 _ rfl gb 0 rfl 70 _ X1.out [.int .i64 b.f,.int .i64 b.n,.int .i64 b.o,.slice b.s.a b.s.n b.s.c] rfl _ Tryz.underlying70 rfl Tryz.sizeBu ?_))
      refine(mayHave_any d b W1 HRI hq1).mono ?_
      rintro e w2 ⟨rfl,hb2⟩
      have V2:Hid (SlN w2 70 4 w.heap.size u.v (((bs.take k).filter (myB d)).map Bu.row)):=V1.out.below hb2
      have X2:Hid (Bx w2 gb 70 [.int .i64 b.f,.int .i64 b.n,.int .i64 b.o,.slice b.s.a b.s.n b.s.c]):=X1.out.later hb2
      have B2:Hid (Below w.heap.size w w2):=qCy B1.out hb2
      have HLEN:Hid ((((bs.take k).filter (myB d)).map Bu.row).length≤1048576):=(by
        rw[List.length_map]
        have h1:=List.length_filter_le (myB d) (bs.take k)
        rw[List.length_take]at h1
        omega:_≤_)
      clear hb2 V1 X1 B1 HRI
      obtain⟨R,hR⟩: ∃R,myB d b=R:=⟨_,rfl⟩
      rw[hR]
      have HRR:Hid (myB d b=R):=hR
      clear hR
      cases R with
      | true =>
        have HF:Hid ((bs.take (k+1)).filter (myB d)=(bs.take k).filter (myB d)++[b]):=by
          show _=_
          rw[List.take_succ_eq_append_getElem hlt2,List.filter_append,←HE.out]
          congr 1
          simp[HRR.out]
        go_wp2_with (first|(refine qAb rfl 70 _ rfl gb 0 rfl 70 _ X2.out [.int .i64 b.f,.int .i64 b.n,.int .i64 b.o,.slice b.s.a b.s.n b.s.c] rfl _ Tryz.underlying70 rfl Tryz.sizeBu ?_)|(with_reducible refine qAr _ _ _ rfl ?_))
        refine Stp.go ?_
        refine qCn rfl _ _ 42 rfl (.agg #[.int .i64 0,.int .i64 0,.int .i64 0,.slice none 0 0]) 48 Tryz.underlying42 Tryz.infoBu rfl (by omega) w.heap.size _ _ rfl V2.out [.int .i64 b.f,.int .i64 b.n,.int .i64 b.o,.slice b.s.a b.s.n b.s.c] rfl rfl rfl HLEN.out B2.out.size ?_
        intro v3 w3 O3 _ b3 _
        obtain⟨s3,hs3,hq3⟩:=O3.form
        subst hs3
        clear hq3
        have O3:Hid (SlN w3 70 4 w.heap.size s3.v (((bs.take (k+1)).filter (myB d)).map Bu.row)):=by
          rw[HF.out,List.map_append]
          exact O3
        have B3:Hid (Below w.heap.size w w3):=B2.out.trans b3
        clear b3 V2 X2 B2
        go_wp2_with fail
        go_roundw
        case rel=>exact⟨k+1,s3,by omega,by go_num,rfl,O3.out,B3.out⟩
        case measure=>simp[intOf];omega
      | false =>
        have HF:Hid ((bs.take (k+1)).filter (myB d)=(bs.take k).filter (myB d)):=by
          show _=_
          rw[List.take_succ_eq_append_getElem hlt2,List.filter_append,←HE.out]
          simp[HRR.out]
        have V2:Hid (SlN w2 70 4 w.heap.size u.v (((bs.take (k+1)).filter (myB d)).map Bu.row)):=by
          show SlN _ _ _ _ _ _
          rw[HF.out];exact V2.out
        clear X2
        go_wp2_with fail
        go_roundw
        case rel=>exact⟨k+1,u,by omega,by go_num,rfl,V2.out,B2.out⟩
        case measure=>simp[intOf];omega
    · obtain rfl : k = n := by omega
      go_wp2_with fail
      go_ret
      refine⟨u,rfl,?_,hb.out⟩
      have h1:=hV.out.slen
      rw[List.length_map,HN.out,List.take_of_length_le (Nat.le_refl _)]at h1
      exact h1
def jnB(d:Dm):Bool:=decide (d.old+1≤d.jid∧d.jid≤d.most)
def mbB(d:Dm):Bool:=qBc d.jid d.jms&&inB d.jms d.id
def ksB(d:Dm):Bool:=((d.bu.filter (myB d)).length:Int)==(d.bs.n:Int)
def dmJ(d:Dm):Bool:=bif nrB d.jid d.js.n then((d.bs.n:Int)==0)else(mbB d&&(jnB d&&ksB d))
theorem qFr(d:Dm)(w:World)(hdd:Hid (d.dead=true))(hj:Hid (RI w d.js.v d.jms))(hb:Hid (BusR w d.bs d.bu))(hs:Hid (DmS d))(ho:0≤d.old∧d.old≤9):
    Calls Tryz.prog 81 #[.agg #[.int .i64 d.id,.bool true,.int .i64 d.m.id,.int .i64 d.m.rid,.slice d.mv.ms.a d.mv.ms.n d.mv.ms.c,.slice d.mv.its.a d.mv.its.n d.mv.its.c,.slice d.mv.lv.a d.mv.lv.n d.mv.lv.c,.slice d.mv.tx.a d.mv.tx.n d.mv.tx.c,.int .i64 d.m.rd,.int .i64 d.m.se,.int .i64 d.m.li,.int .i64 d.m.he,.int .i64 d.m.la.c,.int .i64 d.m.la.r,.int .i64 d.m.la.q,.int .i64 d.m.la.a,.int .i64 d.m.la.b,.slice d.mv.ws.a d.mv.ws.n d.mv.ws.c,.int .i64 d.most,.int .i64 d.old,.int .i64 d.jid,.slice d.js.a d.js.n d.js.c,.slice d.bs.a d.bs.n d.bs.c,.slice d.ls.a d.ls.n d.ls.c]] w fun e w'=>e=.returned (.bool (dmJ d))∧Below w.heap.size w w':=by
  obtain⟨R,hR0⟩: ∃R,dmJ d=R:=⟨_,rfl⟩
  rw[hR0]
  have hR:Hid (dmJ d=R):=hR0
  clear hR0
  have LA:Hid (Bx (w.alloc (.cells #[.int .i64 d.id,.bool true,.int .i64 d.m.id,.int .i64 d.m.rid,.slice d.mv.ms.a d.mv.ms.n d.mv.ms.c,.slice d.mv.its.a d.mv.its.n d.mv.its.c,.slice d.mv.lv.a d.mv.lv.n d.mv.lv.c,.slice d.mv.tx.a d.mv.tx.n d.mv.tx.c,.int .i64 d.m.rd,.int .i64 d.m.se,.int .i64 d.m.li,.int .i64 d.m.he,.int .i64 d.m.la.c,.int .i64 d.m.la.r,.int .i64 d.m.la.q,.int .i64 d.m.la.a,.int .i64 d.m.la.b,.slice d.mv.ws.a d.mv.ws.n d.mv.ws.c,.int .i64 d.most,.int .i64 d.old,.int .i64 d.jid,.slice d.js.a d.js.n d.js.c,.slice d.bs.a d.bs.n d.bs.c,.slice d.ls.a d.ls.n d.ls.c] 45)) w.heap.size 45 [.int .i64 d.id,.bool true,.int .i64 d.m.id,.int .i64 d.m.rid,.slice d.mv.ms.a d.mv.ms.n d.mv.ms.c,.slice d.mv.its.a d.mv.its.n d.mv.its.c,.slice d.mv.lv.a d.mv.lv.n d.mv.lv.c,.slice d.mv.tx.a d.mv.tx.n d.mv.tx.c,.int .i64 d.m.rd,.int .i64 d.m.se,.int .i64 d.m.li,.int .i64 d.m.he,.int .i64 d.m.la.c,.int .i64 d.m.la.r,.int .i64 d.m.la.q,.int .i64 d.m.la.a,.int .i64 d.m.la.b,.slice d.mv.ws.a d.mv.ws.n d.mv.ws.c,.int .i64 d.most,.int .i64 d.old,.int .i64 d.jid,.slice d.js.a d.js.n d.js.c,.slice d.bs.a d.bs.n d.bs.c,.slice d.ls.a d.ls.n d.ls.c]):=by
    have h:=Bx.new w 45 [.int .i64 d.id,.bool true,.int .i64 d.m.id,.int .i64 d.m.rid,.slice d.mv.ms.a d.mv.ms.n d.mv.ms.c,.slice d.mv.its.a d.mv.its.n d.mv.its.c,.slice d.mv.lv.a d.mv.lv.n d.mv.lv.c,.slice d.mv.tx.a d.mv.tx.n d.mv.tx.c,.int .i64 d.m.rd,.int .i64 d.m.se,.int .i64 d.m.li,.int .i64 d.m.he,.int .i64 d.m.la.c,.int .i64 d.m.la.r,.int .i64 d.m.la.q,.int .i64 d.m.la.a,.int .i64 d.m.la.b,.slice d.mv.ws.a d.mv.ws.n d.mv.ws.c,.int .i64 d.most,.int .i64 d.old,.int .i64 d.jid,.slice d.js.a d.js.n d.js.c,.slice d.bs.a d.bs.n d.bs.c,.slice d.ls.a d.ls.n d.ls.c]
    exact h
  have BW:Hid (Below w.heap.size w (w.alloc (.cells #[.int .i64 d.id,.bool true,.int .i64 d.m.id,.int .i64 d.m.rid,.slice d.mv.ms.a d.mv.ms.n d.mv.ms.c,.slice d.mv.its.a d.mv.its.n d.mv.its.c,.slice d.mv.lv.a d.mv.lv.n d.mv.lv.c,.slice d.mv.tx.a d.mv.tx.n d.mv.tx.c,.int .i64 d.m.rd,.int .i64 d.m.se,.int .i64 d.m.li,.int .i64 d.m.he,.int .i64 d.m.la.c,.int .i64 d.m.la.r,.int .i64 d.m.la.q,.int .i64 d.m.la.a,.int .i64 d.m.la.b,.slice d.mv.ws.a d.mv.ws.n d.mv.ws.c,.int .i64 d.most,.int .i64 d.old,.int .i64 d.jid,.slice d.js.a d.js.n d.js.c,.slice d.bs.a d.bs.n d.bs.c,.slice d.ls.a d.ls.n d.ls.c] 45))):=((Below.refl _ _).alloc (by simp) _)
  have HJ:Hid (RI (w.alloc (.cells #[.int .i64 d.id,.bool true,.int .i64 d.m.id,.int .i64 d.m.rid,.slice d.mv.ms.a d.mv.ms.n d.mv.ms.c,.slice d.mv.its.a d.mv.its.n d.mv.its.c,.slice d.mv.lv.a d.mv.lv.n d.mv.lv.c,.slice d.mv.tx.a d.mv.tx.n d.mv.tx.c,.int .i64 d.m.rd,.int .i64 d.m.se,.int .i64 d.m.li,.int .i64 d.m.he,.int .i64 d.m.la.c,.int .i64 d.m.la.r,.int .i64 d.m.la.q,.int .i64 d.m.la.a,.int .i64 d.m.la.b,.slice d.mv.ws.a d.mv.ws.n d.mv.ws.c,.int .i64 d.most,.int .i64 d.old,.int .i64 d.jid,.slice d.js.a d.js.n d.js.c,.slice d.bs.a d.bs.n d.bs.c,.slice d.ls.a d.ls.n d.ls.c] 45)) d.js.v d.jms):=hj.out.stays BW.out
  have HB:Hid (BusR (w.alloc (.cells #[.int .i64 d.id,.bool true,.int .i64 d.m.id,.int .i64 d.m.rid,.slice d.mv.ms.a d.mv.ms.n d.mv.ms.c,.slice d.mv.its.a d.mv.its.n d.mv.its.c,.slice d.mv.lv.a d.mv.lv.n d.mv.lv.c,.slice d.mv.tx.a d.mv.tx.n d.mv.tx.c,.int .i64 d.m.rd,.int .i64 d.m.se,.int .i64 d.m.li,.int .i64 d.m.he,.int .i64 d.m.la.c,.int .i64 d.m.la.r,.int .i64 d.m.la.q,.int .i64 d.m.la.a,.int .i64 d.m.la.b,.slice d.mv.ws.a d.mv.ws.n d.mv.ws.c,.int .i64 d.most,.int .i64 d.old,.int .i64 d.jid,.slice d.js.a d.js.n d.js.c,.slice d.bs.a d.bs.n d.bs.c,.slice d.ls.a d.ls.n d.ls.c] 45)) d.bs d.bu):=hb.out.stays BW.out
  have HO:Hid (0≤d.old∧d.old≤9):=ho
  clear hj hb ho
  go_enter Tryz.func81,Tryz.ntmps81
  go_wp2_with (first|(refine qAb rfl 37 _ rfl w.heap.size 20 rfl 45 _ LA.out [.int .i64 d.jid,.slice d.js.a d.js.n d.js.c] rfl _ Tryz.underlying37 rfl Tryz.sizeR ?_))
  refine(qCa d.jid d.js _).mono ?_
  rintro e t1 ⟨rfl,b⟩
  have LA:Hid (Bx t1 w.heap.size 45 [.int .i64 d.id,.bool true,.int .i64 d.m.id,.int .i64 d.m.rid,.slice d.mv.ms.a d.mv.ms.n d.mv.ms.c,.slice d.mv.its.a d.mv.its.n d.mv.its.c,.slice d.mv.lv.a d.mv.lv.n d.mv.lv.c,.slice d.mv.tx.a d.mv.tx.n d.mv.tx.c,.int .i64 d.m.rd,.int .i64 d.m.se,.int .i64 d.m.li,.int .i64 d.m.he,.int .i64 d.m.la.c,.int .i64 d.m.la.r,.int .i64 d.m.la.q,.int .i64 d.m.la.a,.int .i64 d.m.la.b,.slice d.mv.ws.a d.mv.ws.n d.mv.ws.c,.int .i64 d.most,.int .i64 d.old,.int .i64 d.jid,.slice d.js.a d.js.n d.js.c,.slice d.bs.a d.bs.n d.bs.c,.slice d.ls.a d.ls.n d.ls.c]):=LA.out.later b
  have BW:Hid (Below w.heap.size w t1):=qAa BW.out b
  have HJ:Hid (RI t1 d.js.v d.jms):=HJ.out.stays b
  have HB:Hid (BusR t1 d.bs d.bu):=HB.out.stays b
  clear b
  obtain⟨R1,k1⟩: ∃R:Bool,(nrB d.jid d.js.n)=R:=⟨_,rfl⟩
  rw[k1]
  have K1:Hid ((nrB d.jid d.js.n)=R1):=k1
  clear k1
  cases R1 with
  | false =>
    obtain⟨M,kM⟩: ∃M,mbB d=M:=⟨_,rfl⟩
    have KM:Hid (mbB d=M):=kM
    obtain⟨J,kJ⟩: ∃J,jnB d=J:=⟨_,rfl⟩
    have KJ:Hid (jnB d=J):=kJ
    clear kM kJ
    have hjl:=hs.out.jo
    have ho1:=HO.out
    have hwr:IntKind.i64.wrap (d.old+1)=d.old+1:=by simp[IntKind.wrap,IntKind.signed,IntKind.bits];omega
    go_wp2_with fail
    cases M with
    | false =>
      have e:dmJ d=false:=by
        unfold dmJ
        simp only[K1.out,KM.out,Bool.false_and,Bool.true_and,Bool.and_false,Bool.and_true,cond_true,cond_false]
      rw[hR.out]at e
      clear hR
      subst e
      refine qBd (C:=fun w'=>Below t1.heap.size t1 w') (by kernel_rfl) (by kernel_rfl) (Below.refl _ _).drew ?_
      go_big_quiet_want
      refine qAd (.pointer (some ⟨w.heap.size,0,none⟩)) (fun w' hw'=>by go_simp) ?_
      go_big_quiet_on
      simp only[Act.put,List.setIfInBounds_toArray,List.set_cons_zero,List.set_cons_succ]
      go_big_quiet_want
      refine qAd (.int .i64 d.id) (fun w' hw'=>by have r0:w'.cell? ⟨w.heap.size,0,none⟩=some (.int .i64 d.id):=(LA.out.later hw').cell 0;go_simp) ?_
      go_big_quiet_on
      simp only[Act.put,List.setIfInBounds_toArray,List.set_cons_zero,List.set_cons_succ]
      go_big_quiet_want
      refine qAd (.pointer (some ⟨w.heap.size,20,none⟩)) (fun w' hw'=>by go_simp) ?_
      go_big_quiet_on
      simp only[Act.put,List.setIfInBounds_toArray,List.set_cons_zero,List.set_cons_succ]
      go_big_quiet_want
      refine qAd (.agg #[.int .i64 d.jid,.slice d.js.a d.js.n d.js.c]) (fun w' hw'=>by have r20:w'.cell? ⟨w.heap.size,20,none⟩=some (.int .i64 d.jid):=(LA.out.later hw').cell 20;have r21:w'.cell? ⟨w.heap.size,21,none⟩=some (.slice d.js.a d.js.n d.js.c):=(LA.out.later hw').cell 21;go_simp) ?_
      go_big_quiet_on
      simp only[Act.put,List.setIfInBounds_toArray,List.set_cons_zero,List.set_cons_succ]
      go_big_quiet_want
      refine qBf (W:=t1) (.bool false) 38 #[(.int .i64 d.id),(.agg #[.int .i64 d.jid,.slice d.js.a d.js.n d.js.c])] (fun w' hw'=>by go_simp) (fun w' hw'=>(qAt d.id d.jid d.js.v d.jms w' (show Hid (RI w' d.js.v d.jms)from HJ.out.stays hw') hjl).mono fun e w1 ⟨he,hb⟩=>⟨by rw[he];exact congrArg (fun b=>Ending.returned (Value.bool b)) KM.out,hb⟩) ?_
      go_big_quiet_on
      simp only[Act.put,List.setIfInBounds_toArray,List.set_cons_zero,List.set_cons_succ]
      go_big_quiet_want
      refine qAd (.bool false) (fun w' hw'=>by go_simp) ?_
      go_big_quiet_on
      simp only[Act.put,List.setIfInBounds_toArray,List.set_cons_zero,List.set_cons_succ]
      go_big_quiet_skip
      go_big_quiet_skip
      go_big_quiet_skip
      go_big_quiet_skip
      go_big_quiet_skip
      go_big_quiet_skip
      go_big_quiet_skip
      go_big_quiet_skip
      go_big_quiet_skip
      go_big_quiet_want
      refine qAd (.bool false) (fun w' hw'=>by go_simp) ?_
      go_big_quiet_on
      simp only[Act.put,List.setIfInBounds_toArray,List.set_cons_zero,List.set_cons_succ]
      go_big_quiet_want
      refine qAd (.bool false) (fun w' hw'=>by go_simp) ?_
      go_big_quiet_on
      simp only[Act.put,List.setIfInBounds_toArray,List.set_cons_zero,List.set_cons_succ]
      go_big_quiet_skip
      go_big_quiet_skip
      go_big_quiet_skip
      go_big_quiet_skip
      go_big_quiet_skip
      go_big_quiet_skip
      go_big_quiet_skip
      go_big_quiet_skip
      go_big_quiet_skip
      go_big_quiet_skip
      go_big_quiet_want
      refine qAd (.bool false) (fun w' hw'=>by go_simp) ?_
      go_big_quiet_on
      simp only[Act.put,List.setIfInBounds_toArray,List.set_cons_zero,List.set_cons_succ]
      go_big_quiet_want
      refine qAd (.bool false) (fun w' hw'=>by go_simp) ?_
      go_big_quiet_on
      simp only[Act.put,List.setIfInBounds_toArray,List.set_cons_zero,List.set_cons_succ]
      refine wpQuiet_nil ?_
      intro w9 h9
      have BW:Hid (Below w.heap.size w w9):=qAa BW.out h9
      clear h9
      go_wp2_with fail
      go_ret
      exact⟨rfl,BW.out⟩
    | true =>
      cases J with
      | false =>
        have e:dmJ d=false:=by
          unfold dmJ
          simp only[K1.out,KM.out,KJ.out,Bool.false_and,Bool.true_and,Bool.and_false,Bool.and_true,cond_true,cond_false]
        rw[hR.out]at e
        clear hR
        subst e
        refine qBd (C:=fun w'=>Below t1.heap.size t1 w') (by kernel_rfl) (by kernel_rfl) (Below.refl _ _).drew ?_
        go_big_quiet_want
        refine qAd (.pointer (some ⟨w.heap.size,0,none⟩)) (fun w' hw'=>by go_simp) ?_
        go_big_quiet_on
        simp only[Act.put,List.setIfInBounds_toArray,List.set_cons_zero,List.set_cons_succ]
        go_big_quiet_want
        refine qAd (.int .i64 d.id) (fun w' hw'=>by have r0:w'.cell? ⟨w.heap.size,0,none⟩=some (.int .i64 d.id):=(LA.out.later hw').cell 0;go_simp) ?_
        go_big_quiet_on
        simp only[Act.put,List.setIfInBounds_toArray,List.set_cons_zero,List.set_cons_succ]
        go_big_quiet_want
        refine qAd (.pointer (some ⟨w.heap.size,20,none⟩)) (fun w' hw'=>by go_simp) ?_
        go_big_quiet_on
        simp only[Act.put,List.setIfInBounds_toArray,List.set_cons_zero,List.set_cons_succ]
        go_big_quiet_want
        refine qAd (.agg #[.int .i64 d.jid,.slice d.js.a d.js.n d.js.c]) (fun w' hw'=>by have r20:w'.cell? ⟨w.heap.size,20,none⟩=some (.int .i64 d.jid):=(LA.out.later hw').cell 20;have r21:w'.cell? ⟨w.heap.size,21,none⟩=some (.slice d.js.a d.js.n d.js.c):=(LA.out.later hw').cell 21;go_simp) ?_
        go_big_quiet_on
        simp only[Act.put,List.setIfInBounds_toArray,List.set_cons_zero,List.set_cons_succ]
        go_big_quiet_want
        refine qBf (W:=t1) (.bool true) 38 #[(.int .i64 d.id),(.agg #[.int .i64 d.jid,.slice d.js.a d.js.n d.js.c])] (fun w' hw'=>by go_simp) (fun w' hw'=>(qAt d.id d.jid d.js.v d.jms w' (show Hid (RI w' d.js.v d.jms)from HJ.out.stays hw') hjl).mono fun e w1 ⟨he,hb⟩=>⟨by rw[he];exact congrArg (fun b=>Ending.returned (Value.bool b)) KM.out,hb⟩) ?_
        go_big_quiet_on
        simp only[Act.put,List.setIfInBounds_toArray,List.set_cons_zero,List.set_cons_succ]
        go_big_quiet_want
        refine qAd (.bool true) (fun w' hw'=>by go_simp) ?_
        go_big_quiet_on
        simp only[Act.put,List.setIfInBounds_toArray,List.set_cons_zero,List.set_cons_succ]
        go_big_quiet_want
        refine qAd (.pointer (some ⟨w.heap.size,20,none⟩)) (fun w' hw'=>by go_simp) ?_
        go_big_quiet_on
        simp only[Act.put,List.setIfInBounds_toArray,List.set_cons_zero,List.set_cons_succ]
        go_big_quiet_want
        refine qAd (.pointer (some ⟨w.heap.size,20,none⟩)) (fun w' hw'=>by go_simp) ?_
        go_big_quiet_on
        simp only[Act.put,List.setIfInBounds_toArray,List.set_cons_zero,List.set_cons_succ]
        go_big_quiet_want
        refine qAd (.int .i64 d.jid) (fun w' hw'=>by have r20:w'.cell? ⟨w.heap.size,20,none⟩=some (.int .i64 d.jid):=(LA.out.later hw').cell 20;go_simp) ?_
        go_big_quiet_on
        simp only[Act.put,List.setIfInBounds_toArray,List.set_cons_zero,List.set_cons_succ]
        go_big_quiet_want
        refine qAd (.pointer (some ⟨w.heap.size,19,none⟩)) (fun w' hw'=>by go_simp) ?_
        go_big_quiet_on
        simp only[Act.put,List.setIfInBounds_toArray,List.set_cons_zero,List.set_cons_succ]
        go_big_quiet_want
        refine qAd (.int .i64 d.old) (fun w' hw'=>by have r19:w'.cell? ⟨w.heap.size,19,none⟩=some (.int .i64 d.old):=(LA.out.later hw').cell 19;go_simp) ?_
        go_big_quiet_on
        simp only[Act.put,List.setIfInBounds_toArray,List.set_cons_zero,List.set_cons_succ]
        go_big_quiet_want
        refine qAd (.int .i64 ((d.old+1))) (fun w' hw'=>by go_simp) ?_
        go_big_quiet_on
        simp only[Act.put,List.setIfInBounds_toArray,List.set_cons_zero,List.set_cons_succ]
        go_big_quiet_want
        refine qAd (.pointer (some ⟨w.heap.size,18,none⟩)) (fun w' hw'=>by go_simp) ?_
        go_big_quiet_on
        simp only[Act.put,List.setIfInBounds_toArray,List.set_cons_zero,List.set_cons_succ]
        go_big_quiet_want
        refine qAd (.int .i64 d.most) (fun w' hw'=>by have r18:w'.cell? ⟨w.heap.size,18,none⟩=some (.int .i64 d.most):=(LA.out.later hw').cell 18;go_simp) ?_
        go_big_quiet_on
        simp only[Act.put,List.setIfInBounds_toArray,List.set_cons_zero,List.set_cons_succ]
        go_big_quiet_want
        refine qBf (W:=t1) (.bool false) 79 #[(.int .i64 d.jid),(.int .i64 ((d.old+1))),(.int .i64 d.most)] (fun w' hw'=>by go_simp) (fun w' hw'=>(qAj d.jid (d.old+1) d.most w').mono fun e w1 ⟨he,hb⟩=>⟨by rw[he];exact congrArg (fun b=>Ending.returned (Value.bool b)) KJ.out,hb⟩) ?_
        go_big_quiet_on
        simp only[Act.put,List.setIfInBounds_toArray,List.set_cons_zero,List.set_cons_succ]
        go_big_quiet_want
        refine qAd (.bool false) (fun w' hw'=>by go_simp) ?_
        go_big_quiet_on
        simp only[Act.put,List.setIfInBounds_toArray,List.set_cons_zero,List.set_cons_succ]
        go_big_quiet_want
        refine qAd (.bool false) (fun w' hw'=>by go_simp) ?_
        go_big_quiet_on
        simp only[Act.put,List.setIfInBounds_toArray,List.set_cons_zero,List.set_cons_succ]
        go_big_quiet_skip
        go_big_quiet_skip
        go_big_quiet_skip
        go_big_quiet_skip
        go_big_quiet_skip
        go_big_quiet_skip
        go_big_quiet_skip
        go_big_quiet_skip
        go_big_quiet_skip
        go_big_quiet_skip
        go_big_quiet_want
        refine qAd (.bool false) (fun w' hw'=>by go_simp) ?_
        go_big_quiet_on
        simp only[Act.put,List.setIfInBounds_toArray,List.set_cons_zero,List.set_cons_succ]
        go_big_quiet_want
        refine qAd (.bool false) (fun w' hw'=>by go_simp) ?_
        go_big_quiet_on
        simp only[Act.put,List.setIfInBounds_toArray,List.set_cons_zero,List.set_cons_succ]
        refine wpQuiet_nil ?_
        intro w9 h9
        have BW:Hid (Below w.heap.size w w9):=qAa BW.out h9
        clear h9
        go_wp2_with fail
        go_ret
        exact⟨rfl,BW.out⟩
      | true =>
        have c:Below t1.heap.size t1 t1.drew:=(Below.refl _ _).drew
        refine wp_region_held_drew (S:=fun w'=>Below t1.heap.size t1 w') (by kernel_rfl) c (fun Ah=>?_)
        refine wpAnyH_take (i:=0) (v:=?v0b1) rfl (by kernel_rfl) (by kernel_rfl) (by kernel_rfl) (fun _ _ _ h=>h) (Or.inl ⟨by rfl,?hy0b1⟩) (by assumption) ?_
        case hy0b1=>(intro w hSw;(try dsimp only at hSw);simp only[List.getElem_toArray,List.getElem_cons_zero,List.getElem_cons_succ];go_simp;try with_reducible rfl)
        try simp only[Act.put,List.getElem_toArray,List.getElem_cons_zero,List.getElem_cons_succ,List.setIfInBounds_toArray,List.set_cons_zero,List.set_cons_succ]
        refine wpAnyH_take (i:=1) (v:=_) rfl (by kernel_rfl) (by kernel_rfl) (by kernel_rfl) (fun _ _ _ h=>h) (qAp (by rfl) 3 _ rfl w.heap.size 0 rfl 45 _ (fun w hS=>LA.out.later hS) (.int .i64 d.id) rfl _ Tryz.underlying3 rfl) (by assumption) ?_
        try simp only[Act.put,List.getElem_toArray,List.getElem_cons_zero,List.getElem_cons_succ,List.setIfInBounds_toArray,List.set_cons_zero,List.set_cons_succ]
        refine wpAnyH_take (i:=2) (v:=?v2b3) rfl (by kernel_rfl) (by kernel_rfl) (by kernel_rfl) (fun _ _ _ h=>h) (Or.inl ⟨by rfl,?hy2b3⟩) (by assumption) ?_
        case hy2b3=>(intro w hSw;(try dsimp only at hSw);simp only[List.getElem_toArray,List.getElem_cons_zero,List.getElem_cons_succ];go_simp;try with_reducible rfl)
        try simp only[Act.put,List.getElem_toArray,List.getElem_cons_zero,List.getElem_cons_succ,List.setIfInBounds_toArray,List.set_cons_zero,List.set_cons_succ]
        refine wpAnyH_take (i:=3) (v:=_) rfl (by kernel_rfl) (by kernel_rfl) (by kernel_rfl) (fun _ _ _ h=>h) (qBx (by rfl) 37 _ rfl w.heap.size 20 rfl 45 _ (fun w hS=>LA.out.later hS) [.int .i64 d.jid,.slice d.js.a d.js.n d.js.c] rfl _ Tryz.underlying37 rfl Tryz.sizeR) (by assumption) ?_
        try simp only[Act.put,List.getElem_toArray,List.getElem_cons_zero,List.getElem_cons_succ,List.setIfInBounds_toArray,List.set_cons_zero,List.set_cons_succ]
        refine wpAnyH_ready (rs:=[4]) (by kernel_rfl) (by simp) ?_
        refine AllReadyH.cons (i:=4) rfl (fun K hK=>?_) AllReadyH.nil
        rw[if_pos (by rfl)]
        simp only[List.getElem_toArray,List.getElem_cons_zero,List.getElem_cons_succ]
        go_simp
        refine(qAt d.id d.jid d.js.v d.jms _ (show Hid (RI t1.drew d.js.v d.jms)from HJ.out.stays c) hjl).mono ?_
        rintro e y1 ⟨rfl,b⟩
        rw[show(qBc d.jid d.jms&&inB d.jms d.id)=true from KM.out]
        have c:Below t1.heap.size t1 y1:=qAa c b
        refine hK.out _ _ (c) (fun Ah=>?_)
        clear hK K
        try simp only[Act.put,List.getElem_toArray,List.getElem_cons_zero,List.getElem_cons_succ,List.setIfInBounds_toArray,List.set_cons_zero,List.set_cons_succ]
        clear b
        refine wpAnyH_take (i:=5) (v:=?v5b5) rfl (by kernel_rfl) (by kernel_rfl) (by kernel_rfl) (fun _ _ _ h=>h) (Or.inl ⟨by rfl,?hy5b5⟩) (by assumption) ?_
        case hy5b5=>(intro w hSw;(try dsimp only at hSw);simp only[List.getElem_toArray,List.getElem_cons_zero,List.getElem_cons_succ];go_simp;try with_reducible rfl)
        try simp only[Act.put,List.getElem_toArray,List.getElem_cons_zero,List.getElem_cons_succ,List.setIfInBounds_toArray,List.set_cons_zero,List.set_cons_succ]
        refine wpAnyH_take (i:=6) (v:=?v6b6) rfl (by kernel_rfl) (by kernel_rfl) (by kernel_rfl) (fun _ _ _ h=>h) (Or.inl ⟨by rfl,?hy6b6⟩) (by assumption) ?_
        case hy6b6=>(intro w hSw;(try dsimp only at hSw);simp only[List.getElem_toArray,List.getElem_cons_zero,List.getElem_cons_succ];go_simp;try with_reducible rfl)
        try simp only[Act.put,List.getElem_toArray,List.getElem_cons_zero,List.getElem_cons_succ,List.setIfInBounds_toArray,List.set_cons_zero,List.set_cons_succ]
        refine wpAnyH_take (i:=7) (v:=?v7b7) rfl (by kernel_rfl) (by kernel_rfl) (by kernel_rfl) (fun _ _ _ h=>h) (Or.inl ⟨by rfl,?hy7b7⟩) (by assumption) ?_
        case hy7b7=>(intro w hSw;(try dsimp only at hSw);simp only[List.getElem_toArray,List.getElem_cons_zero,List.getElem_cons_succ];go_simp;try with_reducible rfl)
        try simp only[Act.put,List.getElem_toArray,List.getElem_cons_zero,List.getElem_cons_succ,List.setIfInBounds_toArray,List.set_cons_zero,List.set_cons_succ]
        refine wpAnyH_take (i:=8) (v:=_) rfl (by kernel_rfl) (by kernel_rfl) (by kernel_rfl) (fun _ _ _ h=>h) (qAp (by rfl) 3 _ rfl w.heap.size 20 rfl 45 _ (fun w hS=>LA.out.later hS) (.int .i64 d.jid) rfl _ Tryz.underlying3 rfl) (by assumption) ?_
        try simp only[Act.put,List.getElem_toArray,List.getElem_cons_zero,List.getElem_cons_succ,List.setIfInBounds_toArray,List.set_cons_zero,List.set_cons_succ]
        refine wpAnyH_take (i:=9) (v:=?v9b9) rfl (by kernel_rfl) (by kernel_rfl) (by kernel_rfl) (fun _ _ _ h=>h) (Or.inl ⟨by rfl,?hy9b9⟩) (by assumption) ?_
        case hy9b9=>(intro w hSw;(try dsimp only at hSw);simp only[List.getElem_toArray,List.getElem_cons_zero,List.getElem_cons_succ];go_simp;try with_reducible rfl)
        try simp only[Act.put,List.getElem_toArray,List.getElem_cons_zero,List.getElem_cons_succ,List.setIfInBounds_toArray,List.set_cons_zero,List.set_cons_succ]
        refine wpAnyH_take (i:=10) (v:=_) rfl (by kernel_rfl) (by kernel_rfl) (by kernel_rfl) (fun _ _ _ h=>h) (qAp (by rfl) 3 _ rfl w.heap.size 19 rfl 45 _ (fun w hS=>LA.out.later hS) (.int .i64 d.old) rfl _ Tryz.underlying3 rfl) (by assumption) ?_
        try simp only[Act.put,List.getElem_toArray,List.getElem_cons_zero,List.getElem_cons_succ,List.setIfInBounds_toArray,List.set_cons_zero,List.set_cons_succ]
        refine wpAnyH_take (i:=11) (v:=?v11b11) rfl (by kernel_rfl) (by kernel_rfl) (by kernel_rfl) (fun _ _ _ h=>h) (Or.inl ⟨by rfl,?hy11b11⟩) (by assumption) ?_
        case hy11b11=>(intro w hSw;(try dsimp only at hSw);simp only[List.getElem_toArray,List.getElem_cons_zero,List.getElem_cons_succ];go_simp;try with_reducible rfl)
        try simp only[Act.put,List.getElem_toArray,List.getElem_cons_zero,List.getElem_cons_succ,List.setIfInBounds_toArray,List.set_cons_zero,List.set_cons_succ]
        refine wpAnyH_take (i:=12) (v:=?v12b12) rfl (by kernel_rfl) (by kernel_rfl) (by kernel_rfl) (fun _ _ _ h=>h) (Or.inl ⟨by rfl,?hy12b12⟩) (by assumption) ?_
        case hy12b12=>(intro w hSw;(try dsimp only at hSw);simp only[List.getElem_toArray,List.getElem_cons_zero,List.getElem_cons_succ];go_simp;try with_reducible rfl)
        try simp only[Act.put,List.getElem_toArray,List.getElem_cons_zero,List.getElem_cons_succ,List.setIfInBounds_toArray,List.set_cons_zero,List.set_cons_succ]
        refine wpAnyH_take (i:=13) (v:=_) rfl (by kernel_rfl) (by kernel_rfl) (by kernel_rfl) (fun _ _ _ h=>h) (qAp (by rfl) 3 _ rfl w.heap.size 18 rfl 45 _ (fun w hS=>LA.out.later hS) (.int .i64 d.most) rfl _ Tryz.underlying3 rfl) (by assumption) ?_
        try simp only[Act.put,List.getElem_toArray,List.getElem_cons_zero,List.getElem_cons_succ,List.setIfInBounds_toArray,List.set_cons_zero,List.set_cons_succ]
        refine wpAnyH_ready (rs:=[14]) (by kernel_rfl) (by simp) ?_
        refine AllReadyH.cons (i:=14) rfl (fun K hK=>?_) AllReadyH.nil
        rw[if_pos (by rfl)]
        simp only[List.getElem_toArray,List.getElem_cons_zero,List.getElem_cons_succ]
        go_simp
        refine(qAj d.jid (d.old+1) d.most _).mono ?_
        rintro e y2 ⟨rfl,b⟩
        rw[show decide (d.old+1≤d.jid∧d.jid≤d.most)=true from KJ.out]
        have c:Below t1.heap.size t1 y2:=qAa c b
        refine hK.out _ _ (c) (fun Ah=>?_)
        clear hK K
        try simp only[Act.put,List.getElem_toArray,List.getElem_cons_zero,List.getElem_cons_succ,List.setIfInBounds_toArray,List.set_cons_zero,List.set_cons_succ]
        clear b
        refine wpAnyH_take (i:=15) (v:=?v15b14) rfl (by kernel_rfl) (by kernel_rfl) (by kernel_rfl) (fun _ _ _ h=>h) (Or.inl ⟨by rfl,?hy15b14⟩) (by assumption) ?_
        case hy15b14=>(intro w hSw;(try dsimp only at hSw);simp only[List.getElem_toArray,List.getElem_cons_zero,List.getElem_cons_succ];go_simp;try with_reducible rfl)
        try simp only[Act.put,List.getElem_toArray,List.getElem_cons_zero,List.getElem_cons_succ,List.setIfInBounds_toArray,List.set_cons_zero,List.set_cons_succ]
        refine wpAnyH_take (i:=16) (v:=?v16b15) rfl (by kernel_rfl) (by kernel_rfl) (by kernel_rfl) (fun _ _ _ h=>h) (Or.inl ⟨by rfl,?hy16b15⟩) (by assumption) ?_
        case hy16b15=>(intro w hSw;(try dsimp only at hSw);simp only[List.getElem_toArray,List.getElem_cons_zero,List.getElem_cons_succ];go_simp;try with_reducible rfl)
        try simp only[Act.put,List.getElem_toArray,List.getElem_cons_zero,List.getElem_cons_succ,List.setIfInBounds_toArray,List.set_cons_zero,List.set_cons_succ]
        refine wpAnyH_take (i:=17) (v:=?v17b16) rfl (by kernel_rfl) (by kernel_rfl) (by kernel_rfl) (fun _ _ _ h=>h) (Or.inl ⟨by rfl,?hy17b16⟩) (by assumption) ?_
        case hy17b16=>(intro w hSw;(try dsimp only at hSw);simp only[List.getElem_toArray,List.getElem_cons_zero,List.getElem_cons_succ];go_simp;try with_reducible rfl)
        try simp only[Act.put,List.getElem_toArray,List.getElem_cons_zero,List.getElem_cons_succ,List.setIfInBounds_toArray,List.set_cons_zero,List.set_cons_succ]
        refine wpAnyH_take (i:=18) (v:=_) rfl (by kernel_rfl) (by kernel_rfl) (by kernel_rfl) (fun _ _ _ h=>h) (qAp (by rfl) 42 _ rfl w.heap.size 22 rfl 45 _ (fun w hS=>LA.out.later hS) (.slice d.bs.a d.bs.n d.bs.c) rfl _ Tryz.underlying42 rfl) (by assumption) ?_
        try simp only[Act.put,List.getElem_toArray,List.getElem_cons_zero,List.getElem_cons_succ,List.setIfInBounds_toArray,List.set_cons_zero,List.set_cons_succ]
        refine wpAnyH_take (i:=19) (v:=_) rfl (by kernel_rfl) (by kernel_rfl) (by kernel_rfl) (fun _ _ _ h=>h) (qBx (by rfl) 45 _ rfl w.heap.size 0 rfl 45 _ (fun w hS=>LA.out.later hS) [.int .i64 d.id,.bool true,.int .i64 d.m.id,.int .i64 d.m.rid,.slice d.mv.ms.a d.mv.ms.n d.mv.ms.c,.slice d.mv.its.a d.mv.its.n d.mv.its.c,.slice d.mv.lv.a d.mv.lv.n d.mv.lv.c,.slice d.mv.tx.a d.mv.tx.n d.mv.tx.c,.int .i64 d.m.rd,.int .i64 d.m.se,.int .i64 d.m.li,.int .i64 d.m.he,.int .i64 d.m.la.c,.int .i64 d.m.la.r,.int .i64 d.m.la.q,.int .i64 d.m.la.a,.int .i64 d.m.la.b,.slice d.mv.ws.a d.mv.ws.n d.mv.ws.c,.int .i64 d.most,.int .i64 d.old,.int .i64 d.jid,.slice d.js.a d.js.n d.js.c,.slice d.bs.a d.bs.n d.bs.c,.slice d.ls.a d.ls.n d.ls.c] rfl _ Tryz.underlying45 rfl Tryz.sizeDa) (by assumption) ?_
        try simp only[Act.put,List.getElem_toArray,List.getElem_cons_zero,List.getElem_cons_succ,List.setIfInBounds_toArray,List.set_cons_zero,List.set_cons_succ]
        refine wpAnyH_take (i:=20) (v:=?v20b19) rfl (by kernel_rfl) (by kernel_rfl) (by kernel_rfl) (fun _ _ _ h=>h) (Or.inl ⟨by rfl,?hy20b19⟩) (by assumption) ?_
        case hy20b19=>(intro w hSw;(try dsimp only at hSw);simp only[List.getElem_toArray,List.getElem_cons_zero,List.getElem_cons_succ];go_simp;try with_reducible rfl)
        try simp only[Act.put,List.getElem_toArray,List.getElem_cons_zero,List.getElem_cons_succ,List.setIfInBounds_toArray,List.set_cons_zero,List.set_cons_succ]
        refine wpAnyH_take (i:=23) (v:=?v23b20) rfl (by kernel_rfl) (by kernel_rfl) (by kernel_rfl) (fun _ _ _ h=>h) (Or.inl ⟨by rfl,?hy23b20⟩) (by assumption) ?_
        case hy23b20=>(intro w hSw;(try dsimp only at hSw);simp only[List.getElem_toArray,List.getElem_cons_zero,List.getElem_cons_succ];go_simp;try with_reducible rfl)
        try simp only[Act.put,List.getElem_toArray,List.getElem_cons_zero,List.getElem_cons_succ,List.setIfInBounds_toArray,List.set_cons_zero,List.set_cons_succ]
        refine wpAnyH_take (i:=24) (v:=_) rfl (by kernel_rfl) (by kernel_rfl) (by kernel_rfl) (fun _ _ _ h=>h) (qAp (by rfl) 42 _ rfl w.heap.size 22 rfl 45 _ (fun w hS=>LA.out.later hS) (.slice d.bs.a d.bs.n d.bs.c) rfl _ Tryz.underlying42 rfl) (by assumption) ?_
        try simp only[Act.put,List.getElem_toArray,List.getElem_cons_zero,List.getElem_cons_succ,List.setIfInBounds_toArray,List.set_cons_zero,List.set_cons_succ]
        refine wpAnyH_take (i:=25) (v:=?v25b22) rfl (by kernel_rfl) (by kernel_rfl) (by kernel_rfl) (fun _ _ _ h=>h) (Or.inl ⟨by rfl,?hy25b22⟩) (by assumption) ?_
        case hy25b22=>(intro w hSw;(try dsimp only at hSw);simp only[List.getElem_toArray,List.getElem_cons_zero,List.getElem_cons_succ];go_simp;try with_reducible rfl)
        try simp only[Act.put,List.getElem_toArray,List.getElem_cons_zero,List.getElem_cons_succ,List.setIfInBounds_toArray,List.set_cons_zero,List.set_cons_succ]
        refine wpAnyH_ready (rs:=[21]) (by kernel_rfl) (by simp) ?_
        refine AllReadyH.cons (i:=21) rfl (fun K hK=>?_) AllReadyH.nil
        rw[if_pos (by rfl)]
        simp only[List.getElem_toArray,List.getElem_cons_zero,List.getElem_cons_succ]
        go_simp
        have hk:=keptM_any d d.bs d.bu y2 (show Hid (BusR y2 d.bs d.bu)from HB.out.stays c) hs.out.bus.1 hs.out.bus.2
        rw[hdd.out]at hk
        refine hk.mono ?_
        clear hk
        rintro e y3 ⟨u,rfl,hu,b⟩
        have HU:Hid (u.n=(d.bu.filter (myB d)).length):=hu
        have c:Below t1.heap.size t1 y3:=qAa c b
        refine hK.out _ _ (c) (fun Ah=>?_)
        clear hK K
        try simp only[Act.put,List.getElem_toArray,List.getElem_cons_zero,List.getElem_cons_succ,List.setIfInBounds_toArray,List.set_cons_zero,List.set_cons_succ]
        clear b hu
        refine wpAnyH_take (i:=22) (v:=?v22b23) rfl (by kernel_rfl) (by kernel_rfl) (by kernel_rfl) (fun _ _ _ h=>h) (Or.inl ⟨by rfl,?hy22b23⟩) (by assumption) ?_
        case hy22b23=>(intro w hSw;(try dsimp only at hSw);simp only[List.getElem_toArray,List.getElem_cons_zero,List.getElem_cons_succ];go_simp;try with_reducible rfl)
        try simp only[Act.put,List.getElem_toArray,List.getElem_cons_zero,List.getElem_cons_succ,List.setIfInBounds_toArray,List.set_cons_zero,List.set_cons_succ]
        refine wpAnyH_take (i:=26) (v:=?v26b24) rfl (by kernel_rfl) (by kernel_rfl) (by kernel_rfl) (fun _ _ _ h=>h) (Or.inl ⟨by rfl,?hy26b24⟩) (by assumption) ?_
        case hy26b24=>(intro w hSw;(try dsimp only at hSw);simp only[List.getElem_toArray,List.getElem_cons_zero,List.getElem_cons_succ];go_simp;try with_reducible rfl)
        try simp only[Act.put,List.getElem_toArray,List.getElem_cons_zero,List.getElem_cons_succ,List.setIfInBounds_toArray,List.set_cons_zero,List.set_cons_succ]
        refine wpAnyH_take (i:=27) (v:=?v27b25) rfl (by kernel_rfl) (by kernel_rfl) (by kernel_rfl) (fun _ _ _ h=>h) (Or.inl ⟨by rfl,?hy27b25⟩) (by assumption) ?_
        case hy27b25=>(intro w hSw;(try dsimp only at hSw);simp only[List.getElem_toArray,List.getElem_cons_zero,List.getElem_cons_succ];go_simp;try with_reducible rfl)
        try simp only[Act.put,List.getElem_toArray,List.getElem_cons_zero,List.getElem_cons_succ,List.setIfInBounds_toArray,List.set_cons_zero,List.set_cons_succ]
        refine wpAnyH_take (i:=28) (v:=?v28b26) rfl (by kernel_rfl) (by kernel_rfl) (by kernel_rfl) (fun _ _ _ h=>h) (Or.inl ⟨by rfl,?hy28b26⟩) (by assumption) ?_
        case hy28b26=>(intro w hSw;(try dsimp only at hSw);simp only[List.getElem_toArray,List.getElem_cons_zero,List.getElem_cons_succ];go_simp;try with_reducible rfl)
        try simp only[Act.put,List.getElem_toArray,List.getElem_cons_zero,List.getElem_cons_succ,List.setIfInBounds_toArray,List.set_cons_zero,List.set_cons_succ]
        refine wpAnyH_done (by kernel_rfl) ?_ _
        have BW:Hid (Below w.heap.size w y3):=qAa BW.out c
        have e:dmJ d=((u.n:Int)==(d.bs.n:Int)):=by
          unfold dmJ
          simp only[K1.out,KM.out,KJ.out,Bool.true_and,cond_true,cond_false]
          unfold ksB
          rw[HU.out]
        rw[hR.out]at e
        clear hR c Ah
        subst e
        go_wp2_with fail
        go_ret
        exact⟨rfl,BW.out⟩
  | true =>
    have c22:=LA.out.cell 22
    simp only[List.getElem?_cons_succ,List.getElem?_cons_zero]at c22
    obtain⟨R2,k2⟩: ∃R:Bool,((d.bs.n:Int)==0)=R:=⟨_,rfl⟩
    have K2:Hid (((d.bs.n:Int)==0)=R2):=k2
    cases R2 with
    | false =>
      have e:dmJ d=false:=by
        unfold dmJ
        simp only[K1.out,K2.out,Bool.false_and,Bool.true_and,Bool.and_false,Bool.and_true,Bool.not_true,Bool.not_false,Bool.or_true,Bool.true_or,Bool.or_false,Bool.false_or,cond_true,cond_false]
      rw[hR.out]at e
      clear hR
      subst e
      go_wp2_with fail
      go_ret
      exact⟨rfl,BW.out⟩
    | true =>
      have e:dmJ d=true:=by
        unfold dmJ
        simp only[K1.out,K2.out,Bool.false_and,Bool.true_and,Bool.and_false,Bool.and_true,Bool.not_true,Bool.not_false,Bool.or_true,Bool.true_or,Bool.or_false,Bool.false_or,cond_true,cond_false]
      rw[hR.out]at e
      clear hR
      subst e
      go_wp2_with fail
      go_ret
      exact⟨rfl,BW.out⟩
theorem qBq(d:Dm)(w:World)(hdd:Hid (d.dead=false))(hj:Hid (RI w d.js.v d.jms))(hb:Hid (BusR w d.bs d.bu))(hs:Hid (DmS d))(ho:0≤d.old∧d.old≤9):
    Calls Tryz.prog 81 #[.agg #[.int .i64 d.id,.bool false,.int .i64 d.m.id,.int .i64 d.m.rid,.slice d.mv.ms.a d.mv.ms.n d.mv.ms.c,.slice d.mv.its.a d.mv.its.n d.mv.its.c,.slice d.mv.lv.a d.mv.lv.n d.mv.lv.c,.slice d.mv.tx.a d.mv.tx.n d.mv.tx.c,.int .i64 d.m.rd,.int .i64 d.m.se,.int .i64 d.m.li,.int .i64 d.m.he,.int .i64 d.m.la.c,.int .i64 d.m.la.r,.int .i64 d.m.la.q,.int .i64 d.m.la.a,.int .i64 d.m.la.b,.slice d.mv.ws.a d.mv.ws.n d.mv.ws.c,.int .i64 d.most,.int .i64 d.old,.int .i64 d.jid,.slice d.js.a d.js.n d.js.c,.slice d.bs.a d.bs.n d.bs.c,.slice d.ls.a d.ls.n d.ls.c]] w fun e w'=>e=.returned (.bool (dmJ d))∧Below w.heap.size w w':=by
  obtain⟨R,hR0⟩: ∃R,dmJ d=R:=⟨_,rfl⟩
  rw[hR0]
  have hR:Hid (dmJ d=R):=hR0
  clear hR0
  have LA:Hid (Bx (w.alloc (.cells #[.int .i64 d.id,.bool false,.int .i64 d.m.id,.int .i64 d.m.rid,.slice d.mv.ms.a d.mv.ms.n d.mv.ms.c,.slice d.mv.its.a d.mv.its.n d.mv.its.c,.slice d.mv.lv.a d.mv.lv.n d.mv.lv.c,.slice d.mv.tx.a d.mv.tx.n d.mv.tx.c,.int .i64 d.m.rd,.int .i64 d.m.se,.int .i64 d.m.li,.int .i64 d.m.he,.int .i64 d.m.la.c,.int .i64 d.m.la.r,.int .i64 d.m.la.q,.int .i64 d.m.la.a,.int .i64 d.m.la.b,.slice d.mv.ws.a d.mv.ws.n d.mv.ws.c,.int .i64 d.most,.int .i64 d.old,.int .i64 d.jid,.slice d.js.a d.js.n d.js.c,.slice d.bs.a d.bs.n d.bs.c,.slice d.ls.a d.ls.n d.ls.c] 45)) w.heap.size 45 [.int .i64 d.id,.bool false,.int .i64 d.m.id,.int .i64 d.m.rid,.slice d.mv.ms.a d.mv.ms.n d.mv.ms.c,.slice d.mv.its.a d.mv.its.n d.mv.its.c,.slice d.mv.lv.a d.mv.lv.n d.mv.lv.c,.slice d.mv.tx.a d.mv.tx.n d.mv.tx.c,.int .i64 d.m.rd,.int .i64 d.m.se,.int .i64 d.m.li,.int .i64 d.m.he,.int .i64 d.m.la.c,.int .i64 d.m.la.r,.int .i64 d.m.la.q,.int .i64 d.m.la.a,.int .i64 d.m.la.b,.slice d.mv.ws.a d.mv.ws.n d.mv.ws.c,.int .i64 d.most,.int .i64 d.old,.int .i64 d.jid,.slice d.js.a d.js.n d.js.c,.slice d.bs.a d.bs.n d.bs.c,.slice d.ls.a d.ls.n d.ls.c]):=by
    have h:=Bx.new w 45 [.int .i64 d.id,.bool false,.int .i64 d.m.id,.int .i64 d.m.rid,.slice d.mv.ms.a d.mv.ms.n d.mv.ms.c,.slice d.mv.its.a d.mv.its.n d.mv.its.c,.slice d.mv.lv.a d.mv.lv.n d.mv.lv.c,.slice d.mv.tx.a d.mv.tx.n d.mv.tx.c,.int .i64 d.m.rd,.int .i64 d.m.se,.int .i64 d.m.li,.int .i64 d.m.he,.int .i64 d.m.la.c,.int .i64 d.m.la.r,.int .i64 d.m.la.q,.int .i64 d.m.la.a,.int .i64 d.m.la.b,.slice d.mv.ws.a d.mv.ws.n d.mv.ws.c,.int .i64 d.most,.int .i64 d.old,.int .i64 d.jid,.slice d.js.a d.js.n d.js.c,.slice d.bs.a d.bs.n d.bs.c,.slice d.ls.a d.ls.n d.ls.c]
    exact h
  have BW:Hid (Below w.heap.size w (w.alloc (.cells #[.int .i64 d.id,.bool false,.int .i64 d.m.id,.int .i64 d.m.rid,.slice d.mv.ms.a d.mv.ms.n d.mv.ms.c,.slice d.mv.its.a d.mv.its.n d.mv.its.c,.slice d.mv.lv.a d.mv.lv.n d.mv.lv.c,.slice d.mv.tx.a d.mv.tx.n d.mv.tx.c,.int .i64 d.m.rd,.int .i64 d.m.se,.int .i64 d.m.li,.int .i64 d.m.he,.int .i64 d.m.la.c,.int .i64 d.m.la.r,.int .i64 d.m.la.q,.int .i64 d.m.la.a,.int .i64 d.m.la.b,.slice d.mv.ws.a d.mv.ws.n d.mv.ws.c,.int .i64 d.most,.int .i64 d.old,.int .i64 d.jid,.slice d.js.a d.js.n d.js.c,.slice d.bs.a d.bs.n d.bs.c,.slice d.ls.a d.ls.n d.ls.c] 45))):=((Below.refl _ _).alloc (by simp) _)
  have HJ:Hid (RI (w.alloc (.cells #[.int .i64 d.id,.bool false,.int .i64 d.m.id,.int .i64 d.m.rid,.slice d.mv.ms.a d.mv.ms.n d.mv.ms.c,.slice d.mv.its.a d.mv.its.n d.mv.its.c,.slice d.mv.lv.a d.mv.lv.n d.mv.lv.c,.slice d.mv.tx.a d.mv.tx.n d.mv.tx.c,.int .i64 d.m.rd,.int .i64 d.m.se,.int .i64 d.m.li,.int .i64 d.m.he,.int .i64 d.m.la.c,.int .i64 d.m.la.r,.int .i64 d.m.la.q,.int .i64 d.m.la.a,.int .i64 d.m.la.b,.slice d.mv.ws.a d.mv.ws.n d.mv.ws.c,.int .i64 d.most,.int .i64 d.old,.int .i64 d.jid,.slice d.js.a d.js.n d.js.c,.slice d.bs.a d.bs.n d.bs.c,.slice d.ls.a d.ls.n d.ls.c] 45)) d.js.v d.jms):=hj.out.stays BW.out
  have HB:Hid (BusR (w.alloc (.cells #[.int .i64 d.id,.bool false,.int .i64 d.m.id,.int .i64 d.m.rid,.slice d.mv.ms.a d.mv.ms.n d.mv.ms.c,.slice d.mv.its.a d.mv.its.n d.mv.its.c,.slice d.mv.lv.a d.mv.lv.n d.mv.lv.c,.slice d.mv.tx.a d.mv.tx.n d.mv.tx.c,.int .i64 d.m.rd,.int .i64 d.m.se,.int .i64 d.m.li,.int .i64 d.m.he,.int .i64 d.m.la.c,.int .i64 d.m.la.r,.int .i64 d.m.la.q,.int .i64 d.m.la.a,.int .i64 d.m.la.b,.slice d.mv.ws.a d.mv.ws.n d.mv.ws.c,.int .i64 d.most,.int .i64 d.old,.int .i64 d.jid,.slice d.js.a d.js.n d.js.c,.slice d.bs.a d.bs.n d.bs.c,.slice d.ls.a d.ls.n d.ls.c] 45)) d.bs d.bu):=hb.out.stays BW.out
  have HO:Hid (0≤d.old∧d.old≤9):=ho
  clear hj hb ho
  go_enter Tryz.func81,Tryz.ntmps81
  go_wp2_with (first|(refine qAb rfl 37 _ rfl w.heap.size 20 rfl 45 _ LA.out [.int .i64 d.jid,.slice d.js.a d.js.n d.js.c] rfl _ Tryz.underlying37 rfl Tryz.sizeR ?_))
  refine(qCa d.jid d.js _).mono ?_
  rintro e t1 ⟨rfl,b⟩
  have LA:Hid (Bx t1 w.heap.size 45 [.int .i64 d.id,.bool false,.int .i64 d.m.id,.int .i64 d.m.rid,.slice d.mv.ms.a d.mv.ms.n d.mv.ms.c,.slice d.mv.its.a d.mv.its.n d.mv.its.c,.slice d.mv.lv.a d.mv.lv.n d.mv.lv.c,.slice d.mv.tx.a d.mv.tx.n d.mv.tx.c,.int .i64 d.m.rd,.int .i64 d.m.se,.int .i64 d.m.li,.int .i64 d.m.he,.int .i64 d.m.la.c,.int .i64 d.m.la.r,.int .i64 d.m.la.q,.int .i64 d.m.la.a,.int .i64 d.m.la.b,.slice d.mv.ws.a d.mv.ws.n d.mv.ws.c,.int .i64 d.most,.int .i64 d.old,.int .i64 d.jid,.slice d.js.a d.js.n d.js.c,.slice d.bs.a d.bs.n d.bs.c,.slice d.ls.a d.ls.n d.ls.c]):=LA.out.later b
  have BW:Hid (Below w.heap.size w t1):=qAa BW.out b
  have HJ:Hid (RI t1 d.js.v d.jms):=HJ.out.stays b
  have HB:Hid (BusR t1 d.bs d.bu):=HB.out.stays b
  clear b
  obtain⟨R1,k1⟩: ∃R:Bool,(nrB d.jid d.js.n)=R:=⟨_,rfl⟩
  rw[k1]
  have K1:Hid ((nrB d.jid d.js.n)=R1):=k1
  clear k1
  cases R1 with
  | false =>
    obtain⟨M,kM⟩: ∃M,mbB d=M:=⟨_,rfl⟩
    have KM:Hid (mbB d=M):=kM
    obtain⟨J,kJ⟩: ∃J,jnB d=J:=⟨_,rfl⟩
    have KJ:Hid (jnB d=J):=kJ
    clear kM kJ
    have hjl:=hs.out.jo
    have ho1:=HO.out
    have hwr:IntKind.i64.wrap (d.old+1)=d.old+1:=by simp[IntKind.wrap,IntKind.signed,IntKind.bits];omega
    go_wp2_with fail
    cases M with
    | false =>
      have e:dmJ d=false:=by
        unfold dmJ
        simp only[K1.out,KM.out,Bool.false_and,Bool.true_and,Bool.and_false,Bool.and_true,cond_true,cond_false]
      rw[hR.out]at e
      clear hR
      subst e
      refine qBd (C:=fun w'=>Below t1.heap.size t1 w') (by kernel_rfl) (by kernel_rfl) (Below.refl _ _).drew ?_
      go_big_quiet_want
      refine qAd (.pointer (some ⟨w.heap.size,0,none⟩)) (fun w' hw'=>by go_simp) ?_
      go_big_quiet_on
      simp only[Act.put,List.setIfInBounds_toArray,List.set_cons_zero,List.set_cons_succ]
      go_big_quiet_want
      refine qAd (.int .i64 d.id) (fun w' hw'=>by have r0:w'.cell? ⟨w.heap.size,0,none⟩=some (.int .i64 d.id):=(LA.out.later hw').cell 0;go_simp) ?_
      go_big_quiet_on
      simp only[Act.put,List.setIfInBounds_toArray,List.set_cons_zero,List.set_cons_succ]
      go_big_quiet_want
      refine qAd (.pointer (some ⟨w.heap.size,20,none⟩)) (fun w' hw'=>by go_simp) ?_
      go_big_quiet_on
      simp only[Act.put,List.setIfInBounds_toArray,List.set_cons_zero,List.set_cons_succ]
      go_big_quiet_want
      refine qAd (.agg #[.int .i64 d.jid,.slice d.js.a d.js.n d.js.c]) (fun w' hw'=>by have r20:w'.cell? ⟨w.heap.size,20,none⟩=some (.int .i64 d.jid):=(LA.out.later hw').cell 20;have r21:w'.cell? ⟨w.heap.size,21,none⟩=some (.slice d.js.a d.js.n d.js.c):=(LA.out.later hw').cell 21;go_simp) ?_
      go_big_quiet_on
      simp only[Act.put,List.setIfInBounds_toArray,List.set_cons_zero,List.set_cons_succ]
      go_big_quiet_want
      refine qBf (W:=t1) (.bool false) 38 #[(.int .i64 d.id),(.agg #[.int .i64 d.jid,.slice d.js.a d.js.n d.js.c])] (fun w' hw'=>by go_simp) (fun w' hw'=>(qAt d.id d.jid d.js.v d.jms w' (show Hid (RI w' d.js.v d.jms)from HJ.out.stays hw') hjl).mono fun e w1 ⟨he,hb⟩=>⟨by rw[he];exact congrArg (fun b=>Ending.returned (Value.bool b)) KM.out,hb⟩) ?_
      go_big_quiet_on
      simp only[Act.put,List.setIfInBounds_toArray,List.set_cons_zero,List.set_cons_succ]
      go_big_quiet_want
      refine qAd (.bool false) (fun w' hw'=>by go_simp) ?_
      go_big_quiet_on
      simp only[Act.put,List.setIfInBounds_toArray,List.set_cons_zero,List.set_cons_succ]
      go_big_quiet_skip
      go_big_quiet_skip
      go_big_quiet_skip
      go_big_quiet_skip
      go_big_quiet_skip
      go_big_quiet_skip
      go_big_quiet_skip
      go_big_quiet_skip
      go_big_quiet_skip
      go_big_quiet_want
      refine qAd (.bool false) (fun w' hw'=>by go_simp) ?_
      go_big_quiet_on
      simp only[Act.put,List.setIfInBounds_toArray,List.set_cons_zero,List.set_cons_succ]
      go_big_quiet_want
      refine qAd (.bool false) (fun w' hw'=>by go_simp) ?_
      go_big_quiet_on
      simp only[Act.put,List.setIfInBounds_toArray,List.set_cons_zero,List.set_cons_succ]
      go_big_quiet_skip
      go_big_quiet_skip
      go_big_quiet_skip
      go_big_quiet_skip
      go_big_quiet_skip
      go_big_quiet_skip
      go_big_quiet_skip
      go_big_quiet_skip
      go_big_quiet_skip
      go_big_quiet_skip
      go_big_quiet_want
      refine qAd (.bool false) (fun w' hw'=>by go_simp) ?_
      go_big_quiet_on
      simp only[Act.put,List.setIfInBounds_toArray,List.set_cons_zero,List.set_cons_succ]
      go_big_quiet_want
      refine qAd (.bool false) (fun w' hw'=>by go_simp) ?_
      go_big_quiet_on
      simp only[Act.put,List.setIfInBounds_toArray,List.set_cons_zero,List.set_cons_succ]
      refine wpQuiet_nil ?_
      intro w9 h9
      have BW:Hid (Below w.heap.size w w9):=qAa BW.out h9
      clear h9
      go_wp2_with fail
      go_ret
      exact⟨rfl,BW.out⟩
    | true =>
      cases J with
      | false =>
        have e:dmJ d=false:=by
          unfold dmJ
          simp only[K1.out,KM.out,KJ.out,Bool.false_and,Bool.true_and,Bool.and_false,Bool.and_true,cond_true,cond_false]
        rw[hR.out]at e
        clear hR
        subst e
        refine qBd (C:=fun w'=>Below t1.heap.size t1 w') (by kernel_rfl) (by kernel_rfl) (Below.refl _ _).drew ?_
        go_big_quiet_want
        refine qAd (.pointer (some ⟨w.heap.size,0,none⟩)) (fun w' hw'=>by go_simp) ?_
        go_big_quiet_on
        simp only[Act.put,List.setIfInBounds_toArray,List.set_cons_zero,List.set_cons_succ]
        go_big_quiet_want
        refine qAd (.int .i64 d.id) (fun w' hw'=>by have r0:w'.cell? ⟨w.heap.size,0,none⟩=some (.int .i64 d.id):=(LA.out.later hw').cell 0;go_simp) ?_
        go_big_quiet_on
        simp only[Act.put,List.setIfInBounds_toArray,List.set_cons_zero,List.set_cons_succ]
        go_big_quiet_want
        refine qAd (.pointer (some ⟨w.heap.size,20,none⟩)) (fun w' hw'=>by go_simp) ?_
        go_big_quiet_on
        simp only[Act.put,List.setIfInBounds_toArray,List.set_cons_zero,List.set_cons_succ]
        go_big_quiet_want
        refine qAd (.agg #[.int .i64 d.jid,.slice d.js.a d.js.n d.js.c]) (fun w' hw'=>by have r20:w'.cell? ⟨w.heap.size,20,none⟩=some (.int .i64 d.jid):=(LA.out.later hw').cell 20;have r21:w'.cell? ⟨w.heap.size,21,none⟩=some (.slice d.js.a d.js.n d.js.c):=(LA.out.later hw').cell 21;go_simp) ?_
        go_big_quiet_on
        simp only[Act.put,List.setIfInBounds_toArray,List.set_cons_zero,List.set_cons_succ]
        go_big_quiet_want
        refine qBf (W:=t1) (.bool true) 38 #[(.int .i64 d.id),(.agg #[.int .i64 d.jid,.slice d.js.a d.js.n d.js.c])] (fun w' hw'=>by go_simp) (fun w' hw'=>(qAt d.id d.jid d.js.v d.jms w' (show Hid (RI w' d.js.v d.jms)from HJ.out.stays hw') hjl).mono fun e w1 ⟨he,hb⟩=>⟨by rw[he];exact congrArg (fun b=>Ending.returned (Value.bool b)) KM.out,hb⟩) ?_
        go_big_quiet_on
        simp only[Act.put,List.setIfInBounds_toArray,List.set_cons_zero,List.set_cons_succ]
        go_big_quiet_want
        refine qAd (.bool true) (fun w' hw'=>by go_simp) ?_
        go_big_quiet_on
        simp only[Act.put,List.setIfInBounds_toArray,List.set_cons_zero,List.set_cons_succ]
        go_big_quiet_want
        refine qAd (.pointer (some ⟨w.heap.size,20,none⟩)) (fun w' hw'=>by go_simp) ?_
        go_big_quiet_on
        simp only[Act.put,List.setIfInBounds_toArray,List.set_cons_zero,List.set_cons_succ]
        go_big_quiet_want
        refine qAd (.pointer (some ⟨w.heap.size,20,none⟩)) (fun w' hw'=>by go_simp) ?_
        go_big_quiet_on
        simp only[Act.put,List.setIfInBounds_toArray,List.set_cons_zero,List.set_cons_succ]
        go_big_quiet_want
        refine qAd (.int .i64 d.jid) (fun w' hw'=>by have r20:w'.cell? ⟨w.heap.size,20,none⟩=some (.int .i64 d.jid):=(LA.out.later hw').cell 20;go_simp) ?_
        go_big_quiet_on
        simp only[Act.put,List.setIfInBounds_toArray,List.set_cons_zero,List.set_cons_succ]
        go_big_quiet_want
        refine qAd (.pointer (some ⟨w.heap.size,19,none⟩)) (fun w' hw'=>by go_simp) ?_
        go_big_quiet_on
        simp only[Act.put,List.setIfInBounds_toArray,List.set_cons_zero,List.set_cons_succ]
        go_big_quiet_want
        refine qAd (.int .i64 d.old) (fun w' hw'=>by have r19:w'.cell? ⟨w.heap.size,19,none⟩=some (.int .i64 d.old):=(LA.out.later hw').cell 19;go_simp) ?_
        go_big_quiet_on
        simp only[Act.put,List.setIfInBounds_toArray,List.set_cons_zero,List.set_cons_succ]
        go_big_quiet_want
        refine qAd (.int .i64 ((d.old+1))) (fun w' hw'=>by go_simp) ?_
        go_big_quiet_on
        simp only[Act.put,List.setIfInBounds_toArray,List.set_cons_zero,List.set_cons_succ]
        go_big_quiet_want
        refine qAd (.pointer (some ⟨w.heap.size,18,none⟩)) (fun w' hw'=>by go_simp) ?_
        go_big_quiet_on
        simp only[Act.put,List.setIfInBounds_toArray,List.set_cons_zero,List.set_cons_succ]
        go_big_quiet_want
        refine qAd (.int .i64 d.most) (fun w' hw'=>by have r18:w'.cell? ⟨w.heap.size,18,none⟩=some (.int .i64 d.most):=(LA.out.later hw').cell 18;go_simp) ?_
        go_big_quiet_on
        simp only[Act.put,List.setIfInBounds_toArray,List.set_cons_zero,List.set_cons_succ]
        go_big_quiet_want
        refine qBf (W:=t1) (.bool false) 79 #[(.int .i64 d.jid),(.int .i64 ((d.old+1))),(.int .i64 d.most)] (fun w' hw'=>by go_simp) (fun w' hw'=>(qAj d.jid (d.old+1) d.most w').mono fun e w1 ⟨he,hb⟩=>⟨by rw[he];exact congrArg (fun b=>Ending.returned (Value.bool b)) KJ.out,hb⟩) ?_
        go_big_quiet_on
        simp only[Act.put,List.setIfInBounds_toArray,List.set_cons_zero,List.set_cons_succ]
        go_big_quiet_want
        refine qAd (.bool false) (fun w' hw'=>by go_simp) ?_
        go_big_quiet_on
        simp only[Act.put,List.setIfInBounds_toArray,List.set_cons_zero,List.set_cons_succ]
        go_big_quiet_want
        refine qAd (.bool false) (fun w' hw'=>by go_simp) ?_
        go_big_quiet_on
        simp only[Act.put,List.setIfInBounds_toArray,List.set_cons_zero,List.set_cons_succ]
        go_big_quiet_skip
        go_big_quiet_skip
        go_big_quiet_skip
        go_big_quiet_skip
        go_big_quiet_skip
        go_big_quiet_skip
        go_big_quiet_skip
        go_big_quiet_skip
        go_big_quiet_skip
        go_big_quiet_skip
        go_big_quiet_want
        refine qAd (.bool false) (fun w' hw'=>by go_simp) ?_
        go_big_quiet_on
        simp only[Act.put,List.setIfInBounds_toArray,List.set_cons_zero,List.set_cons_succ]
        go_big_quiet_want
        refine qAd (.bool false) (fun w' hw'=>by go_simp) ?_
        go_big_quiet_on
        simp only[Act.put,List.setIfInBounds_toArray,List.set_cons_zero,List.set_cons_succ]
        refine wpQuiet_nil ?_
        intro w9 h9
        have BW:Hid (Below w.heap.size w w9):=qAa BW.out h9
        clear h9
        go_wp2_with fail
        go_ret
        exact⟨rfl,BW.out⟩
      | true =>
        have c:Below t1.heap.size t1 t1.drew:=(Below.refl _ _).drew
        refine wp_region_held_drew (S:=fun w'=>Below t1.heap.size t1 w') (by kernel_rfl) c (fun Ah=>?_)
        refine wpAnyH_take (i:=0) (v:=?v0b27) rfl (by kernel_rfl) (by kernel_rfl) (by kernel_rfl) (fun _ _ _ h=>h) (Or.inl ⟨by rfl,?hy0b27⟩) (by assumption) ?_
        case hy0b27=>(intro w hSw;(try dsimp only at hSw);simp only[List.getElem_toArray,List.getElem_cons_zero,List.getElem_cons_succ];go_simp;try with_reducible rfl)
        try simp only[Act.put,List.getElem_toArray,List.getElem_cons_zero,List.getElem_cons_succ,List.setIfInBounds_toArray,List.set_cons_zero,List.set_cons_succ]
        refine wpAnyH_take (i:=1) (v:=_) rfl (by kernel_rfl) (by kernel_rfl) (by kernel_rfl) (fun _ _ _ h=>h) (qAp (by rfl) 3 _ rfl w.heap.size 0 rfl 45 _ (fun w hS=>LA.out.later hS) (.int .i64 d.id) rfl _ Tryz.underlying3 rfl) (by assumption) ?_
        try simp only[Act.put,List.getElem_toArray,List.getElem_cons_zero,List.getElem_cons_succ,List.setIfInBounds_toArray,List.set_cons_zero,List.set_cons_succ]
        refine wpAnyH_take (i:=2) (v:=?v2b29) rfl (by kernel_rfl) (by kernel_rfl) (by kernel_rfl) (fun _ _ _ h=>h) (Or.inl ⟨by rfl,?hy2b29⟩) (by assumption) ?_
        case hy2b29=>(intro w hSw;(try dsimp only at hSw);simp only[List.getElem_toArray,List.getElem_cons_zero,List.getElem_cons_succ];go_simp;try with_reducible rfl)
        try simp only[Act.put,List.getElem_toArray,List.getElem_cons_zero,List.getElem_cons_succ,List.setIfInBounds_toArray,List.set_cons_zero,List.set_cons_succ]
        refine wpAnyH_take (i:=3) (v:=_) rfl (by kernel_rfl) (by kernel_rfl) (by kernel_rfl) (fun _ _ _ h=>h) (qBx (by rfl) 37 _ rfl w.heap.size 20 rfl 45 _ (fun w hS=>LA.out.later hS) [.int .i64 d.jid,.slice d.js.a d.js.n d.js.c] rfl _ Tryz.underlying37 rfl Tryz.sizeR) (by assumption) ?_
        try simp only[Act.put,List.getElem_toArray,List.getElem_cons_zero,List.getElem_cons_succ,List.setIfInBounds_toArray,List.set_cons_zero,List.set_cons_succ]
        refine wpAnyH_ready (rs:=[4]) (by kernel_rfl) (by simp) ?_
        refine AllReadyH.cons (i:=4) rfl (fun K hK=>?_) AllReadyH.nil
        rw[if_pos (by rfl)]
        simp only[List.getElem_toArray,List.getElem_cons_zero,List.getElem_cons_succ]
        go_simp
        refine(qAt d.id d.jid d.js.v d.jms _ (show Hid (RI t1.drew d.js.v d.jms)from HJ.out.stays c) hjl).mono ?_
        rintro e y1 ⟨rfl,b⟩
        rw[show(qBc d.jid d.jms&&inB d.jms d.id)=true from KM.out]
        have c:Below t1.heap.size t1 y1:=qAa c b
        refine hK.out _ _ (c) (fun Ah=>?_)
        clear hK K
        try simp only[Act.put,List.getElem_toArray,List.getElem_cons_zero,List.getElem_cons_succ,List.setIfInBounds_toArray,List.set_cons_zero,List.set_cons_succ]
        clear b
        refine wpAnyH_take (i:=5) (v:=?v5b31) rfl (by kernel_rfl) (by kernel_rfl) (by kernel_rfl) (fun _ _ _ h=>h) (Or.inl ⟨by rfl,?hy5b31⟩) (by assumption) ?_
        case hy5b31=>(intro w hSw;(try dsimp only at hSw);simp only[List.getElem_toArray,List.getElem_cons_zero,List.getElem_cons_succ];go_simp;try with_reducible rfl)
        try simp only[Act.put,List.getElem_toArray,List.getElem_cons_zero,List.getElem_cons_succ,List.setIfInBounds_toArray,List.set_cons_zero,List.set_cons_succ]
        refine wpAnyH_take (i:=6) (v:=?v6b32) rfl (by kernel_rfl) (by kernel_rfl) (by kernel_rfl) (fun _ _ _ h=>h) (Or.inl ⟨by rfl,?hy6b32⟩) (by assumption) ?_
        case hy6b32=>(intro w hSw;(try dsimp only at hSw);simp only[List.getElem_toArray,List.getElem_cons_zero,List.getElem_cons_succ];go_simp;try with_reducible rfl)
        try simp only[Act.put,List.getElem_toArray,List.getElem_cons_zero,List.getElem_cons_succ,List.setIfInBounds_toArray,List.set_cons_zero,List.set_cons_succ]
        refine wpAnyH_take (i:=7) (v:=?v7b33) rfl (by kernel_rfl) (by kernel_rfl) (by kernel_rfl) (fun _ _ _ h=>h) (Or.inl ⟨by rfl,?hy7b33⟩) (by assumption) ?_
        case hy7b33=>(intro w hSw;(try dsimp only at hSw);simp only[List.getElem_toArray,List.getElem_cons_zero,List.getElem_cons_succ];go_simp;try with_reducible rfl)
        try simp only[Act.put,List.getElem_toArray,List.getElem_cons_zero,List.getElem_cons_succ,List.setIfInBounds_toArray,List.set_cons_zero,List.set_cons_succ]
        refine wpAnyH_take (i:=8) (v:=_) rfl (by kernel_rfl) (by kernel_rfl) (by kernel_rfl) (fun _ _ _ h=>h) (qAp (by rfl) 3 _ rfl w.heap.size 20 rfl 45 _ (fun w hS=>LA.out.later hS) (.int .i64 d.jid) rfl _ Tryz.underlying3 rfl) (by assumption) ?_
        try simp only[Act.put,List.getElem_toArray,List.getElem_cons_zero,List.getElem_cons_succ,List.setIfInBounds_toArray,List.set_cons_zero,List.set_cons_succ]
        refine wpAnyH_take (i:=9) (v:=?v9b35) rfl (by kernel_rfl) (by kernel_rfl) (by kernel_rfl) (fun _ _ _ h=>h) (Or.inl ⟨by rfl,?hy9b35⟩) (by assumption) ?_
        case hy9b35=>(intro w hSw;(try dsimp only at hSw);simp only[List.getElem_toArray,List.getElem_cons_zero,List.getElem_cons_succ];go_simp;try with_reducible rfl)
        try simp only[Act.put,List.getElem_toArray,List.getElem_cons_zero,List.getElem_cons_succ,List.setIfInBounds_toArray,List.set_cons_zero,List.set_cons_succ]
        refine wpAnyH_take (i:=10) (v:=_) rfl (by kernel_rfl) (by kernel_rfl) (by kernel_rfl) (fun _ _ _ h=>h) (qAp (by rfl) 3 _ rfl w.heap.size 19 rfl 45 _ (fun w hS=>LA.out.later hS) (.int .i64 d.old) rfl _ Tryz.underlying3 rfl) (by assumption) ?_
        try simp only[Act.put,List.getElem_toArray,List.getElem_cons_zero,List.getElem_cons_succ,List.setIfInBounds_toArray,List.set_cons_zero,List.set_cons_succ]
        refine wpAnyH_take (i:=11) (v:=?v11b37) rfl (by kernel_rfl) (by kernel_rfl) (by kernel_rfl) (fun _ _ _ h=>h) (Or.inl ⟨by rfl,?hy11b37⟩) (by assumption) ?_
        case hy11b37=>(intro w hSw;(try dsimp only at hSw);simp only[List.getElem_toArray,List.getElem_cons_zero,List.getElem_cons_succ];go_simp;try with_reducible rfl)
        try simp only[Act.put,List.getElem_toArray,List.getElem_cons_zero,List.getElem_cons_succ,List.setIfInBounds_toArray,List.set_cons_zero,List.set_cons_succ]
        refine wpAnyH_take (i:=12) (v:=?v12b38) rfl (by kernel_rfl) (by kernel_rfl) (by kernel_rfl) (fun _ _ _ h=>h) (Or.inl ⟨by rfl,?hy12b38⟩) (by assumption) ?_
        case hy12b38=>(intro w hSw;(try dsimp only at hSw);simp only[List.getElem_toArray,List.getElem_cons_zero,List.getElem_cons_succ];go_simp;try with_reducible rfl)
        try simp only[Act.put,List.getElem_toArray,List.getElem_cons_zero,List.getElem_cons_succ,List.setIfInBounds_toArray,List.set_cons_zero,List.set_cons_succ]
        refine wpAnyH_take (i:=13) (v:=_) rfl (by kernel_rfl) (by kernel_rfl) (by kernel_rfl) (fun _ _ _ h=>h) (qAp (by rfl) 3 _ rfl w.heap.size 18 rfl 45 _ (fun w hS=>LA.out.later hS) (.int .i64 d.most) rfl _ Tryz.underlying3 rfl) (by assumption) ?_
        try simp only[Act.put,List.getElem_toArray,List.getElem_cons_zero,List.getElem_cons_succ,List.setIfInBounds_toArray,List.set_cons_zero,List.set_cons_succ]
        refine wpAnyH_ready (rs:=[14]) (by kernel_rfl) (by simp) ?_
        refine AllReadyH.cons (i:=14) rfl (fun K hK=>?_) AllReadyH.nil
        rw[if_pos (by rfl)]
        simp only[List.getElem_toArray,List.getElem_cons_zero,List.getElem_cons_succ]
        go_simp
        refine(qAj d.jid (d.old+1) d.most _).mono ?_
        rintro e y2 ⟨rfl,b⟩
        rw[show decide (d.old+1≤d.jid∧d.jid≤d.most)=true from KJ.out]
        have c:Below t1.heap.size t1 y2:=qAa c b
        refine hK.out _ _ (c) (fun Ah=>?_)
        clear hK K
        try simp only[Act.put,List.getElem_toArray,List.getElem_cons_zero,List.getElem_cons_succ,List.setIfInBounds_toArray,List.set_cons_zero,List.set_cons_succ]
        clear b
        refine wpAnyH_take (i:=15) (v:=?v15b40) rfl (by kernel_rfl) (by kernel_rfl) (by kernel_rfl) (fun _ _ _ h=>h) (Or.inl ⟨by rfl,?hy15b40⟩) (by assumption) ?_
        case hy15b40=>(intro w hSw;(try dsimp only at hSw);simp only[List.getElem_toArray,List.getElem_cons_zero,List.getElem_cons_succ];go_simp;try with_reducible rfl)
        try simp only[Act.put,List.getElem_toArray,List.getElem_cons_zero,List.getElem_cons_succ,List.setIfInBounds_toArray,List.set_cons_zero,List.set_cons_succ]
        refine wpAnyH_take (i:=16) (v:=?v16b41) rfl (by kernel_rfl) (by kernel_rfl) (by kernel_rfl) (fun _ _ _ h=>h) (Or.inl ⟨by rfl,?hy16b41⟩) (by assumption) ?_
        case hy16b41=>(intro w hSw;(try dsimp only at hSw);simp only[List.getElem_toArray,List.getElem_cons_zero,List.getElem_cons_succ];go_simp;try with_reducible rfl)
        try simp only[Act.put,List.getElem_toArray,List.getElem_cons_zero,List.getElem_cons_succ,List.setIfInBounds_toArray,List.set_cons_zero,List.set_cons_succ]
        refine wpAnyH_take (i:=17) (v:=?v17b42) rfl (by kernel_rfl) (by kernel_rfl) (by kernel_rfl) (fun _ _ _ h=>h) (Or.inl ⟨by rfl,?hy17b42⟩) (by assumption) ?_
        case hy17b42=>(intro w hSw;(try dsimp only at hSw);simp only[List.getElem_toArray,List.getElem_cons_zero,List.getElem_cons_succ];go_simp;try with_reducible rfl)
        try simp only[Act.put,List.getElem_toArray,List.getElem_cons_zero,List.getElem_cons_succ,List.setIfInBounds_toArray,List.set_cons_zero,List.set_cons_succ]
        refine wpAnyH_take (i:=18) (v:=_) rfl (by kernel_rfl) (by kernel_rfl) (by kernel_rfl) (fun _ _ _ h=>h) (qAp (by rfl) 42 _ rfl w.heap.size 22 rfl 45 _ (fun w hS=>LA.out.later hS) (.slice d.bs.a d.bs.n d.bs.c) rfl _ Tryz.underlying42 rfl) (by assumption) ?_
        try simp only[Act.put,List.getElem_toArray,List.getElem_cons_zero,List.getElem_cons_succ,List.setIfInBounds_toArray,List.set_cons_zero,List.set_cons_succ]
        refine wpAnyH_take (i:=19) (v:=_) rfl (by kernel_rfl) (by kernel_rfl) (by kernel_rfl) (fun _ _ _ h=>h) (qBx (by rfl) 45 _ rfl w.heap.size 0 rfl 45 _ (fun w hS=>LA.out.later hS) [.int .i64 d.id,.bool false,.int .i64 d.m.id,.int .i64 d.m.rid,.slice d.mv.ms.a d.mv.ms.n d.mv.ms.c,.slice d.mv.its.a d.mv.its.n d.mv.its.c,.slice d.mv.lv.a d.mv.lv.n d.mv.lv.c,.slice d.mv.tx.a d.mv.tx.n d.mv.tx.c,.int .i64 d.m.rd,.int .i64 d.m.se,.int .i64 d.m.li,.int .i64 d.m.he,.int .i64 d.m.la.c,.int .i64 d.m.la.r,.int .i64 d.m.la.q,.int .i64 d.m.la.a,.int .i64 d.m.la.b,.slice d.mv.ws.a d.mv.ws.n d.mv.ws.c,.int .i64 d.most,.int .i64 d.old,.int .i64 d.jid,.slice d.js.a d.js.n d.js.c,.slice d.bs.a d.bs.n d.bs.c,.slice d.ls.a d.ls.n d.ls.c] rfl _ Tryz.underlying45 rfl Tryz.sizeDa) (by assumption) ?_
        try simp only[Act.put,List.getElem_toArray,List.getElem_cons_zero,List.getElem_cons_succ,List.setIfInBounds_toArray,List.set_cons_zero,List.set_cons_succ]
        refine wpAnyH_take (i:=20) (v:=?v20b45) rfl (by kernel_rfl) (by kernel_rfl) (by kernel_rfl) (fun _ _ _ h=>h) (Or.inl ⟨by rfl,?hy20b45⟩) (by assumption) ?_
        case hy20b45=>(intro w hSw;(try dsimp only at hSw);simp only[List.getElem_toArray,List.getElem_cons_zero,List.getElem_cons_succ];go_simp;try with_reducible rfl)
        try simp only[Act.put,List.getElem_toArray,List.getElem_cons_zero,List.getElem_cons_succ,List.setIfInBounds_toArray,List.set_cons_zero,List.set_cons_succ]
        refine wpAnyH_take (i:=23) (v:=?v23b46) rfl (by kernel_rfl) (by kernel_rfl) (by kernel_rfl) (fun _ _ _ h=>h) (Or.inl ⟨by rfl,?hy23b46⟩) (by assumption) ?_
        case hy23b46=>(intro w hSw;(try dsimp only at hSw);simp only[List.getElem_toArray,List.getElem_cons_zero,List.getElem_cons_succ];go_simp;try with_reducible rfl)
        try simp only[Act.put,List.getElem_toArray,List.getElem_cons_zero,List.getElem_cons_succ,List.setIfInBounds_toArray,List.set_cons_zero,List.set_cons_succ]
        refine wpAnyH_take (i:=24) (v:=_) rfl (by kernel_rfl) (by kernel_rfl) (by kernel_rfl) (fun _ _ _ h=>h) (qAp (by rfl) 42 _ rfl w.heap.size 22 rfl 45 _ (fun w hS=>LA.out.later hS) (.slice d.bs.a d.bs.n d.bs.c) rfl _ Tryz.underlying42 rfl) (by assumption) ?_
        try simp only[Act.put,List.getElem_toArray,List.getElem_cons_zero,List.getElem_cons_succ,List.setIfInBounds_toArray,List.set_cons_zero,List.set_cons_succ]
        refine wpAnyH_take (i:=25) (v:=?v25b48) rfl (by kernel_rfl) (by kernel_rfl) (by kernel_rfl) (fun _ _ _ h=>h) (Or.inl ⟨by rfl,?hy25b48⟩) (by assumption) ?_
        case hy25b48=>(intro w hSw;(try dsimp only at hSw);simp only[List.getElem_toArray,List.getElem_cons_zero,List.getElem_cons_succ];go_simp;try with_reducible rfl)
        try simp only[Act.put,List.getElem_toArray,List.getElem_cons_zero,List.getElem_cons_succ,List.setIfInBounds_toArray,List.set_cons_zero,List.set_cons_succ]
        refine wpAnyH_ready (rs:=[21]) (by kernel_rfl) (by simp) ?_
        refine AllReadyH.cons (i:=21) rfl (fun K hK=>?_) AllReadyH.nil
        rw[if_pos (by rfl)]
        simp only[List.getElem_toArray,List.getElem_cons_zero,List.getElem_cons_succ]
        go_simp
        have hk:=keptM_any d d.bs d.bu y2 (show Hid (BusR y2 d.bs d.bu)from HB.out.stays c) hs.out.bus.1 hs.out.bus.2
        rw[hdd.out]at hk
        refine hk.mono ?_
        clear hk
        rintro e y3 ⟨u,rfl,hu,b⟩
        have HU:Hid (u.n=(d.bu.filter (myB d)).length):=hu
        have c:Below t1.heap.size t1 y3:=qAa c b
        refine hK.out _ _ (c) (fun Ah=>?_)
        clear hK K
        try simp only[Act.put,List.getElem_toArray,List.getElem_cons_zero,List.getElem_cons_succ,List.setIfInBounds_toArray,List.set_cons_zero,List.set_cons_succ]
        clear b hu
        refine wpAnyH_take (i:=22) (v:=?v22b49) rfl (by kernel_rfl) (by kernel_rfl) (by kernel_rfl) (fun _ _ _ h=>h) (Or.inl ⟨by rfl,?hy22b49⟩) (by assumption) ?_
        case hy22b49=>(intro w hSw;(try dsimp only at hSw);simp only[List.getElem_toArray,List.getElem_cons_zero,List.getElem_cons_succ];go_simp;try with_reducible rfl)
        try simp only[Act.put,List.getElem_toArray,List.getElem_cons_zero,List.getElem_cons_succ,List.setIfInBounds_toArray,List.set_cons_zero,List.set_cons_succ]
        refine wpAnyH_take (i:=26) (v:=?v26b50) rfl (by kernel_rfl) (by kernel_rfl) (by kernel_rfl) (fun _ _ _ h=>h) (Or.inl ⟨by rfl,?hy26b50⟩) (by assumption) ?_
        case hy26b50=>(intro w hSw;(try dsimp only at hSw);simp only[List.getElem_toArray,List.getElem_cons_zero,List.getElem_cons_succ];go_simp;try with_reducible rfl)
        try simp only[Act.put,List.getElem_toArray,List.getElem_cons_zero,List.getElem_cons_succ,List.setIfInBounds_toArray,List.set_cons_zero,List.set_cons_succ]
        refine wpAnyH_take (i:=27) (v:=?v27b51) rfl (by kernel_rfl) (by kernel_rfl) (by kernel_rfl) (fun _ _ _ h=>h) (Or.inl ⟨by rfl,?hy27b51⟩) (by assumption) ?_
        case hy27b51=>(intro w hSw;(try dsimp only at hSw);simp only[List.getElem_toArray,List.getElem_cons_zero,List.getElem_cons_succ];go_simp;try with_reducible rfl)
        try simp only[Act.put,List.getElem_toArray,List.getElem_cons_zero,List.getElem_cons_succ,List.setIfInBounds_toArray,List.set_cons_zero,List.set_cons_succ]
        refine wpAnyH_take (i:=28) (v:=?v28b52) rfl (by kernel_rfl) (by kernel_rfl) (by kernel_rfl) (fun _ _ _ h=>h) (Or.inl ⟨by rfl,?hy28b52⟩) (by assumption) ?_
        case hy28b52=>(intro w hSw;(try dsimp only at hSw);simp only[List.getElem_toArray,List.getElem_cons_zero,List.getElem_cons_succ];go_simp;try with_reducible rfl)
        try simp only[Act.put,List.getElem_toArray,List.getElem_cons_zero,List.getElem_cons_succ,List.setIfInBounds_toArray,List.set_cons_zero,List.set_cons_succ]
        refine wpAnyH_done (by kernel_rfl) ?_ _
        have BW:Hid (Below w.heap.size w y3):=qAa BW.out c
        have e:dmJ d=((u.n:Int)==(d.bs.n:Int)):=by
          unfold dmJ
          simp only[K1.out,KM.out,KJ.out,Bool.true_and,cond_true,cond_false]
          unfold ksB
          rw[HU.out]
        rw[hR.out]at e
        clear hR c Ah
        subst e
        go_wp2_with fail
        go_ret
        exact⟨rfl,BW.out⟩
  | true =>
    have c22:=LA.out.cell 22
    simp only[List.getElem?_cons_succ,List.getElem?_cons_zero]at c22
    obtain⟨R2,k2⟩: ∃R:Bool,((d.bs.n:Int)==0)=R:=⟨_,rfl⟩
    have K2:Hid (((d.bs.n:Int)==0)=R2):=k2
    cases R2 with
    | false =>
      have e:dmJ d=false:=by
        unfold dmJ
        simp only[K1.out,K2.out,Bool.false_and,Bool.true_and,Bool.and_false,Bool.and_true,Bool.not_true,Bool.not_false,Bool.or_true,Bool.true_or,Bool.or_false,Bool.false_or,cond_true,cond_false]
      rw[hR.out]at e
      clear hR
      subst e
      go_wp2_with fail
      go_ret
      exact⟨rfl,BW.out⟩
    | true =>
      have e:dmJ d=true:=by
        unfold dmJ
        simp only[K1.out,K2.out,Bool.false_and,Bool.true_and,Bool.and_false,Bool.and_true,Bool.not_true,Bool.not_false,Bool.or_true,Bool.true_or,Bool.or_false,Bool.false_or,cond_true,cond_false]
      rw[hR.out]at e
      clear hR
      subst e
      go_wp2_with fail
      go_ret
      exact⟨rfl,BW.out⟩
theorem qAh{P:Program}{w:World}{ops:Array Oper}{rest:List Oper}{o:Oper}{a:Act}{Q:Exit→Act→World→Prop}(t:TypeId)(x:Operand)(ho:o.op=.load t x)(h:Stp (wpList P ops Q (o::rest) a w)):wpList P ops Q (o::rest) a w:=h.out
def idB(d:Dm):Bool:=decide (1≤d.id∧d.id≤5)
def moB(d:Dm):Bool:=decide (0≤d.most∧d.most≤9)
def olB(d:Dm):Bool:=decide (0≤d.old∧d.old≤d.most)
def dmI(d:Dm):Bool:=idB d&&(moB d&&(olB d&&(((nmS d.m d.mv&&nrB d.jid d.js.n)|| !d.dead)&&(dmM d&&dmJ d))))
def aokB(d:Dm)(bs:List Bu):Bool:=bs.all fun b=>bunB b.f b.n b.o b.ts&& !(b.n !=d.jid)
def dmS(d:Dm):Bool:=bif idB d&&moB d then(bif d.dead then(nmS d.m d.mv&&((d.old==0)&&(nrB d.jid d.js.n&&((d.bs.n:Int)==0))))else(bif (nmS d.m d.mv||(d.m.ok&& !(d.m.id !=d.id)))&&(!(d.old !=d.m.rid)&& !(decide (d.most<d.old)))then(bif nrB d.jid d.js.n then((d.bs.n:Int)==0)else(qBc d.jid d.jms&&(inB d.jms d.id&&(jnB d&&aokB d d.bu))))else false))else false
theorem qDp(d:Dm)(b:Bool)(w:World)(hdd:Hid (d.dead=b))(h:Hid (MtR w d.m d.mv))(hs:Hid (MtS d.m)):Calls Tryz.prog 80 #[.agg #[.int .i64 d.id,.bool b,.int .i64 d.m.id,.int .i64 d.m.rid,.slice d.mv.ms.a d.mv.ms.n d.mv.ms.c,.slice d.mv.its.a d.mv.its.n d.mv.its.c,.slice d.mv.lv.a d.mv.lv.n d.mv.lv.c,.slice d.mv.tx.a d.mv.tx.n d.mv.tx.c,.int .i64 d.m.rd,.int .i64 d.m.se,.int .i64 d.m.li,.int .i64 d.m.he,.int .i64 d.m.la.c,.int .i64 d.m.la.r,.int .i64 d.m.la.q,.int .i64 d.m.la.a,.int .i64 d.m.la.b,.slice d.mv.ws.a d.mv.ws.n d.mv.ws.c,.int .i64 d.most,.int .i64 d.old,.int .i64 d.jid,.slice d.js.a d.js.n d.js.c,.slice d.bs.a d.bs.n d.bs.c,.slice d.ls.a d.ls.n d.ls.c]] w fun e w'=>e=.returned (.bool (dmM d))∧Below w.heap.size w w':=by
  have k:=dmateOk_any d w h hs
  rw[hdd.out]at k
  exact k
theorem nm_rid{m:Mt}{v:Mv}(h:nmS m v=true):m.rid=0:=by
  simp[nmS,nrB]at h
  exact h.2.1.1
theorem ok_rid{m:Mt}(h:m.ok=true):1≤m.rid∧m.rid≤9:=by
  have h1:qBc m.rid m.ms=true:=by unfold Mt.ok at h;simp only[Bool.and_eq_true]at h;exact h.1
  unfold qBc at h1
  simp only[Bool.and_eq_true,decide_eq_true_eq]at h1
  exact h1.1
theorem rid_rng{d:Dm}(h:nmS d.m d.mv=true∨d.m.ok=true):0≤d.m.rid∧d.m.rid≤9:=by
  rcases h with h|h
  · rw[nm_rid h];omega
  · have:=ok_rid h;omega
theorem qGx(d:Dm)(w:World)(hdd:Hid (d.dead=true))(h:Hid (DmR w d))(hs:Hid (DmS d)):Calls Tryz.prog 37 #[.agg #[.int .i64 d.id,.bool true,.int .i64 d.m.id,.int .i64 d.m.rid,.slice d.mv.ms.a d.mv.ms.n d.mv.ms.c,.slice d.mv.its.a d.mv.its.n d.mv.its.c,.slice d.mv.lv.a d.mv.lv.n d.mv.lv.c,.slice d.mv.tx.a d.mv.tx.n d.mv.tx.c,.int .i64 d.m.rd,.int .i64 d.m.se,.int .i64 d.m.li,.int .i64 d.m.he,.int .i64 d.m.la.c,.int .i64 d.m.la.r,.int .i64 d.m.la.q,.int .i64 d.m.la.a,.int .i64 d.m.la.b,.slice d.mv.ws.a d.mv.ws.n d.mv.ws.c,.int .i64 d.most,.int .i64 d.old,.int .i64 d.jid,.slice d.js.a d.js.n d.js.c,.slice d.bs.a d.bs.n d.bs.c,.slice d.ls.a d.ls.n d.ls.c]] w fun e w'=>e=.returned (.bool (dmI d))∧Below w.heap.size w w':=by
  obtain⟨R,hR0⟩: ∃R,dmI d=R:=⟨_,rfl⟩
  rw[hR0]
  have hR:Hid (dmI d=R):=hR0
  clear hR0
  have LA:Hid (Bx (w.alloc (.cells #[.int .i64 d.id,.bool true,.int .i64 d.m.id,.int .i64 d.m.rid,.slice d.mv.ms.a d.mv.ms.n d.mv.ms.c,.slice d.mv.its.a d.mv.its.n d.mv.its.c,.slice d.mv.lv.a d.mv.lv.n d.mv.lv.c,.slice d.mv.tx.a d.mv.tx.n d.mv.tx.c,.int .i64 d.m.rd,.int .i64 d.m.se,.int .i64 d.m.li,.int .i64 d.m.he,.int .i64 d.m.la.c,.int .i64 d.m.la.r,.int .i64 d.m.la.q,.int .i64 d.m.la.a,.int .i64 d.m.la.b,.slice d.mv.ws.a d.mv.ws.n d.mv.ws.c,.int .i64 d.most,.int .i64 d.old,.int .i64 d.jid,.slice d.js.a d.js.n d.js.c,.slice d.bs.a d.bs.n d.bs.c,.slice d.ls.a d.ls.n d.ls.c] 45)) w.heap.size 45 [.int .i64 d.id,.bool true,.int .i64 d.m.id,.int .i64 d.m.rid,.slice d.mv.ms.a d.mv.ms.n d.mv.ms.c,.slice d.mv.its.a d.mv.its.n d.mv.its.c,.slice d.mv.lv.a d.mv.lv.n d.mv.lv.c,.slice d.mv.tx.a d.mv.tx.n d.mv.tx.c,.int .i64 d.m.rd,.int .i64 d.m.se,.int .i64 d.m.li,.int .i64 d.m.he,.int .i64 d.m.la.c,.int .i64 d.m.la.r,.int .i64 d.m.la.q,.int .i64 d.m.la.a,.int .i64 d.m.la.b,.slice d.mv.ws.a d.mv.ws.n d.mv.ws.c,.int .i64 d.most,.int .i64 d.old,.int .i64 d.jid,.slice d.js.a d.js.n d.js.c,.slice d.bs.a d.bs.n d.bs.c,.slice d.ls.a d.ls.n d.ls.c]):=by
    have h:=Bx.new w 45 [.int .i64 d.id,.bool true,.int .i64 d.m.id,.int .i64 d.m.rid,.slice d.mv.ms.a d.mv.ms.n d.mv.ms.c,.slice d.mv.its.a d.mv.its.n d.mv.its.c,.slice d.mv.lv.a d.mv.lv.n d.mv.lv.c,.slice d.mv.tx.a d.mv.tx.n d.mv.tx.c,.int .i64 d.m.rd,.int .i64 d.m.se,.int .i64 d.m.li,.int .i64 d.m.he,.int .i64 d.m.la.c,.int .i64 d.m.la.r,.int .i64 d.m.la.q,.int .i64 d.m.la.a,.int .i64 d.m.la.b,.slice d.mv.ws.a d.mv.ws.n d.mv.ws.c,.int .i64 d.most,.int .i64 d.old,.int .i64 d.jid,.slice d.js.a d.js.n d.js.c,.slice d.bs.a d.bs.n d.bs.c,.slice d.ls.a d.ls.n d.ls.c]
    exact h
  have BW:Hid (Below w.heap.size w (w.alloc (.cells #[.int .i64 d.id,.bool true,.int .i64 d.m.id,.int .i64 d.m.rid,.slice d.mv.ms.a d.mv.ms.n d.mv.ms.c,.slice d.mv.its.a d.mv.its.n d.mv.its.c,.slice d.mv.lv.a d.mv.lv.n d.mv.lv.c,.slice d.mv.tx.a d.mv.tx.n d.mv.tx.c,.int .i64 d.m.rd,.int .i64 d.m.se,.int .i64 d.m.li,.int .i64 d.m.he,.int .i64 d.m.la.c,.int .i64 d.m.la.r,.int .i64 d.m.la.q,.int .i64 d.m.la.a,.int .i64 d.m.la.b,.slice d.mv.ws.a d.mv.ws.n d.mv.ws.c,.int .i64 d.most,.int .i64 d.old,.int .i64 d.jid,.slice d.js.a d.js.n d.js.c,.slice d.bs.a d.bs.n d.bs.c,.slice d.ls.a d.ls.n d.ls.c] 45))):=((Below.refl _ _).alloc (by simp) _)
  have HR:Hid (DmR (w.alloc (.cells #[.int .i64 d.id,.bool true,.int .i64 d.m.id,.int .i64 d.m.rid,.slice d.mv.ms.a d.mv.ms.n d.mv.ms.c,.slice d.mv.its.a d.mv.its.n d.mv.its.c,.slice d.mv.lv.a d.mv.lv.n d.mv.lv.c,.slice d.mv.tx.a d.mv.tx.n d.mv.tx.c,.int .i64 d.m.rd,.int .i64 d.m.se,.int .i64 d.m.li,.int .i64 d.m.he,.int .i64 d.m.la.c,.int .i64 d.m.la.r,.int .i64 d.m.la.q,.int .i64 d.m.la.a,.int .i64 d.m.la.b,.slice d.mv.ws.a d.mv.ws.n d.mv.ws.c,.int .i64 d.most,.int .i64 d.old,.int .i64 d.jid,.slice d.js.a d.js.n d.js.c,.slice d.bs.a d.bs.n d.bs.c,.slice d.ls.a d.ls.n d.ls.c] 45)) d):=h.out.stays BW.out
  have HW:Hid (d.mv.ws.n=d.m.la.ws.length):=h.out.mt.ws.len
  have HJN:Hid (d.bs.n=d.bu.length):=h.out.bu.1
  clear h
  go_enter Tryz.func37,Tryz.ntmps37
  go_wp2_with (first|(with_reducible refine qAh 41 _ rfl ?_))
  refine Stp.go ?_
  refine qAb rfl 41 _ rfl w.heap.size 2 rfl 45 _ LA.out [.int .i64 d.m.id,.int .i64 d.m.rid,.slice d.mv.ms.a d.mv.ms.n d.mv.ms.c,.slice d.mv.its.a d.mv.its.n d.mv.its.c,.slice d.mv.lv.a d.mv.lv.n d.mv.lv.c,.slice d.mv.tx.a d.mv.tx.n d.mv.tx.c,.int .i64 d.m.rd,.int .i64 d.m.se,.int .i64 d.m.li,.int .i64 d.m.he,.int .i64 d.m.la.c,.int .i64 d.m.la.r,.int .i64 d.m.la.q,.int .i64 d.m.la.a,.int .i64 d.m.la.b,.slice d.mv.ws.a d.mv.ws.n d.mv.ws.c] rfl _ Tryz.underlying41 rfl Tryz.sizeM ?_
  go_wp2_with fail
  refine(qDv d.m d.mv _ HW.out).mono ?_
  rintro e t1 ⟨rfl,b⟩
  have LA:Hid (Bx t1 w.heap.size 45 [.int .i64 d.id,.bool true,.int .i64 d.m.id,.int .i64 d.m.rid,.slice d.mv.ms.a d.mv.ms.n d.mv.ms.c,.slice d.mv.its.a d.mv.its.n d.mv.its.c,.slice d.mv.lv.a d.mv.lv.n d.mv.lv.c,.slice d.mv.tx.a d.mv.tx.n d.mv.tx.c,.int .i64 d.m.rd,.int .i64 d.m.se,.int .i64 d.m.li,.int .i64 d.m.he,.int .i64 d.m.la.c,.int .i64 d.m.la.r,.int .i64 d.m.la.q,.int .i64 d.m.la.a,.int .i64 d.m.la.b,.slice d.mv.ws.a d.mv.ws.n d.mv.ws.c,.int .i64 d.most,.int .i64 d.old,.int .i64 d.jid,.slice d.js.a d.js.n d.js.c,.slice d.bs.a d.bs.n d.bs.c,.slice d.ls.a d.ls.n d.ls.c]):=LA.out.later b
  have BW:Hid (Below w.heap.size w t1):=qAa BW.out b
  have HR:Hid (DmR t1 d):=HR.out.stays b
  clear b
  obtain⟨R1,k1⟩: ∃R:Bool,(nmS d.m d.mv)=R:=⟨_,rfl⟩
  rw[k1]
  have K1:Hid ((nmS d.m d.mv)=R1):=k1
  clear k1
  cases R1 with
  | false =>
    have c0:=LA.out.cell 0
    simp only[List.getElem?_cons_succ,List.getElem?_cons_zero]at c0
    go_wp2_with fail
    refine(qAj d.id 1 5 _).mono ?_
    rintro e t2 ⟨rfl,b⟩
    have LA:Hid (Bx t2 w.heap.size 45 [.int .i64 d.id,.bool true,.int .i64 d.m.id,.int .i64 d.m.rid,.slice d.mv.ms.a d.mv.ms.n d.mv.ms.c,.slice d.mv.its.a d.mv.its.n d.mv.its.c,.slice d.mv.lv.a d.mv.lv.n d.mv.lv.c,.slice d.mv.tx.a d.mv.tx.n d.mv.tx.c,.int .i64 d.m.rd,.int .i64 d.m.se,.int .i64 d.m.li,.int .i64 d.m.he,.int .i64 d.m.la.c,.int .i64 d.m.la.r,.int .i64 d.m.la.q,.int .i64 d.m.la.a,.int .i64 d.m.la.b,.slice d.mv.ws.a d.mv.ws.n d.mv.ws.c,.int .i64 d.most,.int .i64 d.old,.int .i64 d.jid,.slice d.js.a d.js.n d.js.c,.slice d.bs.a d.bs.n d.bs.c,.slice d.ls.a d.ls.n d.ls.c]):=LA.out.later b
    have BW:Hid (Below w.heap.size w t2):=qAa BW.out b
    have HR:Hid (DmR t2 d):=HR.out.stays b
    clear b
    obtain⟨R2,k2⟩: ∃R:Bool,(decide (1≤d.id∧d.id≤5))=R:=⟨_,rfl⟩
    rw[k2]
    have K2:Hid ((decide (1≤d.id∧d.id≤5))=R2):=k2
    clear k2
    cases R2 with
    | false =>
      have e:dmI d=false:=by
        unfold dmI idB moB olB
        simp only[hdd.out,K1.out,K2.out,bne_self_eq_false,Bool.false_and,Bool.true_and,Bool.and_false,Bool.and_true,Bool.not_true,Bool.not_false,Bool.or_true,Bool.true_or,Bool.or_false,Bool.false_or,cond_true,cond_false]
      rw[hR.out]at e
      clear hR
      subst e
      go_wp2_with fail
      go_ret
      exact⟨rfl,BW.out⟩
    | true =>
      have c18:=LA.out.cell 18
      simp only[List.getElem?_cons_succ,List.getElem?_cons_zero]at c18
      go_wp2_with fail
      refine(qAj d.most 0 9 _).mono ?_
      rintro e t3 ⟨rfl,b⟩
      have LA:Hid (Bx t3 w.heap.size 45 [.int .i64 d.id,.bool true,.int .i64 d.m.id,.int .i64 d.m.rid,.slice d.mv.ms.a d.mv.ms.n d.mv.ms.c,.slice d.mv.its.a d.mv.its.n d.mv.its.c,.slice d.mv.lv.a d.mv.lv.n d.mv.lv.c,.slice d.mv.tx.a d.mv.tx.n d.mv.tx.c,.int .i64 d.m.rd,.int .i64 d.m.se,.int .i64 d.m.li,.int .i64 d.m.he,.int .i64 d.m.la.c,.int .i64 d.m.la.r,.int .i64 d.m.la.q,.int .i64 d.m.la.a,.int .i64 d.m.la.b,.slice d.mv.ws.a d.mv.ws.n d.mv.ws.c,.int .i64 d.most,.int .i64 d.old,.int .i64 d.jid,.slice d.js.a d.js.n d.js.c,.slice d.bs.a d.bs.n d.bs.c,.slice d.ls.a d.ls.n d.ls.c]):=LA.out.later b
      have BW:Hid (Below w.heap.size w t3):=qAa BW.out b
      have HR:Hid (DmR t3 d):=HR.out.stays b
      clear b
      obtain⟨R3,k3⟩: ∃R:Bool,(decide (0≤d.most∧d.most≤9))=R:=⟨_,rfl⟩
      rw[k3]
      have K3:Hid ((decide (0≤d.most∧d.most≤9))=R3):=k3
      clear k3
      cases R3 with
      | false =>
        have e:dmI d=false:=by
          unfold dmI idB moB olB
          simp only[hdd.out,K1.out,K2.out,K3.out,bne_self_eq_false,Bool.false_and,Bool.true_and,Bool.and_false,Bool.and_true,Bool.not_true,Bool.not_false,Bool.or_true,Bool.true_or,Bool.or_false,Bool.false_or,cond_true,cond_false]
        rw[hR.out]at e
        clear hR
        subst e
        go_wp2_with fail
        go_ret
        exact⟨rfl,BW.out⟩
      | true =>
        have c19:=LA.out.cell 19
        have c18:=LA.out.cell 18
        simp only[List.getElem?_cons_succ,List.getElem?_cons_zero]at c19 c18
        go_wp2_with fail
        refine(qAj d.old 0 d.most _).mono ?_
        rintro e t4 ⟨rfl,b⟩
        have LA:Hid (Bx t4 w.heap.size 45 [.int .i64 d.id,.bool true,.int .i64 d.m.id,.int .i64 d.m.rid,.slice d.mv.ms.a d.mv.ms.n d.mv.ms.c,.slice d.mv.its.a d.mv.its.n d.mv.its.c,.slice d.mv.lv.a d.mv.lv.n d.mv.lv.c,.slice d.mv.tx.a d.mv.tx.n d.mv.tx.c,.int .i64 d.m.rd,.int .i64 d.m.se,.int .i64 d.m.li,.int .i64 d.m.he,.int .i64 d.m.la.c,.int .i64 d.m.la.r,.int .i64 d.m.la.q,.int .i64 d.m.la.a,.int .i64 d.m.la.b,.slice d.mv.ws.a d.mv.ws.n d.mv.ws.c,.int .i64 d.most,.int .i64 d.old,.int .i64 d.jid,.slice d.js.a d.js.n d.js.c,.slice d.bs.a d.bs.n d.bs.c,.slice d.ls.a d.ls.n d.ls.c]):=LA.out.later b
        have BW:Hid (Below w.heap.size w t4):=qAa BW.out b
        have HR:Hid (DmR t4 d):=HR.out.stays b
        clear b
        obtain⟨R4,k4⟩: ∃R:Bool,(decide (0≤d.old∧d.old≤d.most))=R:=⟨_,rfl⟩
        rw[k4]
        have K4:Hid ((decide (0≤d.old∧d.old≤d.most))=R4):=k4
        clear k4
        cases R4 with
        | false =>
          have e:dmI d=false:=by
            unfold dmI idB moB olB
            simp only[hdd.out,K1.out,K2.out,K3.out,K4.out,bne_self_eq_false,Bool.false_and,Bool.true_and,Bool.and_false,Bool.and_true,Bool.not_true,Bool.not_false,Bool.or_true,Bool.true_or,Bool.or_false,Bool.false_or,cond_true,cond_false]
          rw[hR.out]at e
          clear hR
          subst e
          go_wp2_with fail
          go_ret
          exact⟨rfl,BW.out⟩
        | true =>
          have c1:=LA.out.cell 1
          simp only[List.getElem?_cons_succ,List.getElem?_cons_zero]at c1
          have e:dmI d=false:=by
            unfold dmI idB moB olB
            simp only[hdd.out,K1.out,K2.out,K3.out,K4.out,bne_self_eq_false,Bool.false_and,Bool.true_and,Bool.and_false,Bool.and_true,Bool.not_true,Bool.not_false,Bool.or_true,Bool.true_or,Bool.or_false,Bool.false_or,cond_true,cond_false]
          rw[hR.out]at e
          clear hR
          subst e
          go_wp2_with fail
          go_ret
          exact⟨rfl,BW.out⟩
  | true =>
    go_wp2_with (first|(with_reducible refine qAh 37 _ rfl ?_))
    refine Stp.go ?_
    refine qAb rfl 37 _ rfl w.heap.size 20 rfl 45 _ LA.out [.int .i64 d.jid,.slice d.js.a d.js.n d.js.c] rfl _ Tryz.underlying37 rfl Tryz.sizeR ?_
    go_wp2_with fail
    refine(qCa d.jid d.js _).mono ?_
    rintro e t5 ⟨rfl,b⟩
    have LA:Hid (Bx t5 w.heap.size 45 [.int .i64 d.id,.bool true,.int .i64 d.m.id,.int .i64 d.m.rid,.slice d.mv.ms.a d.mv.ms.n d.mv.ms.c,.slice d.mv.its.a d.mv.its.n d.mv.its.c,.slice d.mv.lv.a d.mv.lv.n d.mv.lv.c,.slice d.mv.tx.a d.mv.tx.n d.mv.tx.c,.int .i64 d.m.rd,.int .i64 d.m.se,.int .i64 d.m.li,.int .i64 d.m.he,.int .i64 d.m.la.c,.int .i64 d.m.la.r,.int .i64 d.m.la.q,.int .i64 d.m.la.a,.int .i64 d.m.la.b,.slice d.mv.ws.a d.mv.ws.n d.mv.ws.c,.int .i64 d.most,.int .i64 d.old,.int .i64 d.jid,.slice d.js.a d.js.n d.js.c,.slice d.bs.a d.bs.n d.bs.c,.slice d.ls.a d.ls.n d.ls.c]):=LA.out.later b
    have BW:Hid (Below w.heap.size w t5):=qAa BW.out b
    have HR:Hid (DmR t5 d):=HR.out.stays b
    clear b
    obtain⟨R5,k5⟩: ∃R:Bool,(nrB d.jid d.js.n)=R:=⟨_,rfl⟩
    rw[k5]
    have K5:Hid ((nrB d.jid d.js.n)=R5):=k5
    clear k5
    cases R5 with
    | false =>
      have c0:=LA.out.cell 0
      simp only[List.getElem?_cons_succ,List.getElem?_cons_zero]at c0
      go_wp2_with fail
      refine(qAj d.id 1 5 _).mono ?_
      rintro e t6 ⟨rfl,b⟩
      have LA:Hid (Bx t6 w.heap.size 45 [.int .i64 d.id,.bool true,.int .i64 d.m.id,.int .i64 d.m.rid,.slice d.mv.ms.a d.mv.ms.n d.mv.ms.c,.slice d.mv.its.a d.mv.its.n d.mv.its.c,.slice d.mv.lv.a d.mv.lv.n d.mv.lv.c,.slice d.mv.tx.a d.mv.tx.n d.mv.tx.c,.int .i64 d.m.rd,.int .i64 d.m.se,.int .i64 d.m.li,.int .i64 d.m.he,.int .i64 d.m.la.c,.int .i64 d.m.la.r,.int .i64 d.m.la.q,.int .i64 d.m.la.a,.int .i64 d.m.la.b,.slice d.mv.ws.a d.mv.ws.n d.mv.ws.c,.int .i64 d.most,.int .i64 d.old,.int .i64 d.jid,.slice d.js.a d.js.n d.js.c,.slice d.bs.a d.bs.n d.bs.c,.slice d.ls.a d.ls.n d.ls.c]):=LA.out.later b
      have BW:Hid (Below w.heap.size w t6):=qAa BW.out b
      have HR:Hid (DmR t6 d):=HR.out.stays b
      clear b
      obtain⟨R6,k6⟩: ∃R:Bool,(decide (1≤d.id∧d.id≤5))=R:=⟨_,rfl⟩
      rw[k6]
      have K6:Hid ((decide (1≤d.id∧d.id≤5))=R6):=k6
      clear k6
      cases R6 with
      | false =>
        have e:dmI d=false:=by
          unfold dmI idB moB olB
          simp only[hdd.out,K1.out,K5.out,K6.out,bne_self_eq_false,Bool.false_and,Bool.true_and,Bool.and_false,Bool.and_true,Bool.not_true,Bool.not_false,Bool.or_true,Bool.true_or,Bool.or_false,Bool.false_or,cond_true,cond_false]
        rw[hR.out]at e
        clear hR
        subst e
        go_wp2_with fail
        go_ret
        exact⟨rfl,BW.out⟩
      | true =>
        have c18:=LA.out.cell 18
        simp only[List.getElem?_cons_succ,List.getElem?_cons_zero]at c18
        go_wp2_with fail
        refine(qAj d.most 0 9 _).mono ?_
        rintro e t7 ⟨rfl,b⟩
        have LA:Hid (Bx t7 w.heap.size 45 [.int .i64 d.id,.bool true,.int .i64 d.m.id,.int .i64 d.m.rid,.slice d.mv.ms.a d.mv.ms.n d.mv.ms.c,.slice d.mv.its.a d.mv.its.n d.mv.its.c,.slice d.mv.lv.a d.mv.lv.n d.mv.lv.c,.slice d.mv.tx.a d.mv.tx.n d.mv.tx.c,.int .i64 d.m.rd,.int .i64 d.m.se,.int .i64 d.m.li,.int .i64 d.m.he,.int .i64 d.m.la.c,.int .i64 d.m.la.r,.int .i64 d.m.la.q,.int .i64 d.m.la.a,.int .i64 d.m.la.b,.slice d.mv.ws.a d.mv.ws.n d.mv.ws.c,.int .i64 d.most,.int .i64 d.old,.int .i64 d.jid,.slice d.js.a d.js.n d.js.c,.slice d.bs.a d.bs.n d.bs.c,.slice d.ls.a d.ls.n d.ls.c]):=LA.out.later b
        have BW:Hid (Below w.heap.size w t7):=qAa BW.out b
        have HR:Hid (DmR t7 d):=HR.out.stays b
        clear b
        obtain⟨R7,k7⟩: ∃R:Bool,(decide (0≤d.most∧d.most≤9))=R:=⟨_,rfl⟩
        rw[k7]
        have K7:Hid ((decide (0≤d.most∧d.most≤9))=R7):=k7
        clear k7
        cases R7 with
        | false =>
          have e:dmI d=false:=by
            unfold dmI idB moB olB
            simp only[hdd.out,K1.out,K5.out,K6.out,K7.out,bne_self_eq_false,Bool.false_and,Bool.true_and,Bool.and_false,Bool.and_true,Bool.not_true,Bool.not_false,Bool.or_true,Bool.true_or,Bool.or_false,Bool.false_or,cond_true,cond_false]
          rw[hR.out]at e
          clear hR
          subst e
          go_wp2_with fail
          go_ret
          exact⟨rfl,BW.out⟩
        | true =>
          have c19:=LA.out.cell 19
          have c18:=LA.out.cell 18
          simp only[List.getElem?_cons_succ,List.getElem?_cons_zero]at c19 c18
          go_wp2_with fail
          refine(qAj d.old 0 d.most _).mono ?_
          rintro e t8 ⟨rfl,b⟩
          have LA:Hid (Bx t8 w.heap.size 45 [.int .i64 d.id,.bool true,.int .i64 d.m.id,.int .i64 d.m.rid,.slice d.mv.ms.a d.mv.ms.n d.mv.ms.c,.slice d.mv.its.a d.mv.its.n d.mv.its.c,.slice d.mv.lv.a d.mv.lv.n d.mv.lv.c,.slice d.mv.tx.a d.mv.tx.n d.mv.tx.c,.int .i64 d.m.rd,.int .i64 d.m.se,.int .i64 d.m.li,.int .i64 d.m.he,.int .i64 d.m.la.c,.int .i64 d.m.la.r,.int .i64 d.m.la.q,.int .i64 d.m.la.a,.int .i64 d.m.la.b,.slice d.mv.ws.a d.mv.ws.n d.mv.ws.c,.int .i64 d.most,.int .i64 d.old,.int .i64 d.jid,.slice d.js.a d.js.n d.js.c,.slice d.bs.a d.bs.n d.bs.c,.slice d.ls.a d.ls.n d.ls.c]):=LA.out.later b
          have BW:Hid (Below w.heap.size w t8):=qAa BW.out b
          have HR:Hid (DmR t8 d):=HR.out.stays b
          clear b
          obtain⟨R8,k8⟩: ∃R:Bool,(decide (0≤d.old∧d.old≤d.most))=R:=⟨_,rfl⟩
          rw[k8]
          have K8:Hid ((decide (0≤d.old∧d.old≤d.most))=R8):=k8
          clear k8
          cases R8 with
          | false =>
            have e:dmI d=false:=by
              unfold dmI idB moB olB
              simp only[hdd.out,K1.out,K5.out,K6.out,K7.out,K8.out,bne_self_eq_false,Bool.false_and,Bool.true_and,Bool.and_false,Bool.and_true,Bool.not_true,Bool.not_false,Bool.or_true,Bool.true_or,Bool.or_false,Bool.false_or,cond_true,cond_false]
            rw[hR.out]at e
            clear hR
            subst e
            go_wp2_with fail
            go_ret
            exact⟨rfl,BW.out⟩
          | true =>
            have c1:=LA.out.cell 1
            simp only[List.getElem?_cons_succ,List.getElem?_cons_zero]at c1
            have e:dmI d=false:=by
              unfold dmI idB moB olB
              simp only[hdd.out,K1.out,K5.out,K6.out,K7.out,K8.out,bne_self_eq_false,Bool.false_and,Bool.true_and,Bool.and_false,Bool.and_true,Bool.not_true,Bool.not_false,Bool.or_true,Bool.true_or,Bool.or_false,Bool.false_or,cond_true,cond_false]
            rw[hR.out]at e
            clear hR
            subst e
            go_wp2_with fail
            go_ret
            exact⟨rfl,BW.out⟩
    | true =>
      have c0:=LA.out.cell 0
      simp only[List.getElem?_cons_succ,List.getElem?_cons_zero]at c0
      go_wp2_with fail
      refine(qAj d.id 1 5 _).mono ?_
      rintro e t9 ⟨rfl,b⟩
      have LA:Hid (Bx t9 w.heap.size 45 [.int .i64 d.id,.bool true,.int .i64 d.m.id,.int .i64 d.m.rid,.slice d.mv.ms.a d.mv.ms.n d.mv.ms.c,.slice d.mv.its.a d.mv.its.n d.mv.its.c,.slice d.mv.lv.a d.mv.lv.n d.mv.lv.c,.slice d.mv.tx.a d.mv.tx.n d.mv.tx.c,.int .i64 d.m.rd,.int .i64 d.m.se,.int .i64 d.m.li,.int .i64 d.m.he,.int .i64 d.m.la.c,.int .i64 d.m.la.r,.int .i64 d.m.la.q,.int .i64 d.m.la.a,.int .i64 d.m.la.b,.slice d.mv.ws.a d.mv.ws.n d.mv.ws.c,.int .i64 d.most,.int .i64 d.old,.int .i64 d.jid,.slice d.js.a d.js.n d.js.c,.slice d.bs.a d.bs.n d.bs.c,.slice d.ls.a d.ls.n d.ls.c]):=LA.out.later b
      have BW:Hid (Below w.heap.size w t9):=qAa BW.out b
      have HR:Hid (DmR t9 d):=HR.out.stays b
      clear b
      obtain⟨R9,k9⟩: ∃R:Bool,(decide (1≤d.id∧d.id≤5))=R:=⟨_,rfl⟩
      rw[k9]
      have K9:Hid ((decide (1≤d.id∧d.id≤5))=R9):=k9
      clear k9
      cases R9 with
      | false =>
        have e:dmI d=false:=by
          unfold dmI idB moB olB
          simp only[hdd.out,K1.out,K5.out,K9.out,bne_self_eq_false,Bool.false_and,Bool.true_and,Bool.and_false,Bool.and_true,Bool.not_true,Bool.not_false,Bool.or_true,Bool.true_or,Bool.or_false,Bool.false_or,cond_true,cond_false]
        rw[hR.out]at e
        clear hR
        subst e
        go_wp2_with fail
        go_ret
        exact⟨rfl,BW.out⟩
      | true =>
        have c18:=LA.out.cell 18
        simp only[List.getElem?_cons_succ,List.getElem?_cons_zero]at c18
        go_wp2_with fail
        refine(qAj d.most 0 9 _).mono ?_
        rintro e t10 ⟨rfl,b⟩
        have LA:Hid (Bx t10 w.heap.size 45 [.int .i64 d.id,.bool true,.int .i64 d.m.id,.int .i64 d.m.rid,.slice d.mv.ms.a d.mv.ms.n d.mv.ms.c,.slice d.mv.its.a d.mv.its.n d.mv.its.c,.slice d.mv.lv.a d.mv.lv.n d.mv.lv.c,.slice d.mv.tx.a d.mv.tx.n d.mv.tx.c,.int .i64 d.m.rd,.int .i64 d.m.se,.int .i64 d.m.li,.int .i64 d.m.he,.int .i64 d.m.la.c,.int .i64 d.m.la.r,.int .i64 d.m.la.q,.int .i64 d.m.la.a,.int .i64 d.m.la.b,.slice d.mv.ws.a d.mv.ws.n d.mv.ws.c,.int .i64 d.most,.int .i64 d.old,.int .i64 d.jid,.slice d.js.a d.js.n d.js.c,.slice d.bs.a d.bs.n d.bs.c,.slice d.ls.a d.ls.n d.ls.c]):=LA.out.later b
        have BW:Hid (Below w.heap.size w t10):=qAa BW.out b
        have HR:Hid (DmR t10 d):=HR.out.stays b
        clear b
        obtain⟨R10,k10⟩: ∃R:Bool,(decide (0≤d.most∧d.most≤9))=R:=⟨_,rfl⟩
        rw[k10]
        have K10:Hid ((decide (0≤d.most∧d.most≤9))=R10):=k10
        clear k10
        cases R10 with
        | false =>
          have e:dmI d=false:=by
            unfold dmI idB moB olB
            simp only[hdd.out,K1.out,K5.out,K9.out,K10.out,bne_self_eq_false,Bool.false_and,Bool.true_and,Bool.and_false,Bool.and_true,Bool.not_true,Bool.not_false,Bool.or_true,Bool.true_or,Bool.or_false,Bool.false_or,cond_true,cond_false]
          rw[hR.out]at e
          clear hR
          subst e
          go_wp2_with fail
          go_ret
          exact⟨rfl,BW.out⟩
        | true =>
          have c19:=LA.out.cell 19
          have c18:=LA.out.cell 18
          simp only[List.getElem?_cons_succ,List.getElem?_cons_zero]at c19 c18
          go_wp2_with fail
          refine(qAj d.old 0 d.most _).mono ?_
          rintro e t11 ⟨rfl,b⟩
          have LA:Hid (Bx t11 w.heap.size 45 [.int .i64 d.id,.bool true,.int .i64 d.m.id,.int .i64 d.m.rid,.slice d.mv.ms.a d.mv.ms.n d.mv.ms.c,.slice d.mv.its.a d.mv.its.n d.mv.its.c,.slice d.mv.lv.a d.mv.lv.n d.mv.lv.c,.slice d.mv.tx.a d.mv.tx.n d.mv.tx.c,.int .i64 d.m.rd,.int .i64 d.m.se,.int .i64 d.m.li,.int .i64 d.m.he,.int .i64 d.m.la.c,.int .i64 d.m.la.r,.int .i64 d.m.la.q,.int .i64 d.m.la.a,.int .i64 d.m.la.b,.slice d.mv.ws.a d.mv.ws.n d.mv.ws.c,.int .i64 d.most,.int .i64 d.old,.int .i64 d.jid,.slice d.js.a d.js.n d.js.c,.slice d.bs.a d.bs.n d.bs.c,.slice d.ls.a d.ls.n d.ls.c]):=LA.out.later b
          have BW:Hid (Below w.heap.size w t11):=qAa BW.out b
          have HR:Hid (DmR t11 d):=HR.out.stays b
          clear b
          obtain⟨R11,k11⟩: ∃R:Bool,(decide (0≤d.old∧d.old≤d.most))=R:=⟨_,rfl⟩
          rw[k11]
          have K11:Hid ((decide (0≤d.old∧d.old≤d.most))=R11):=k11
          clear k11
          cases R11 with
          | false =>
            have e:dmI d=false:=by
              unfold dmI idB moB olB
              simp only[hdd.out,K1.out,K5.out,K9.out,K10.out,K11.out,bne_self_eq_false,Bool.false_and,Bool.true_and,Bool.and_false,Bool.and_true,Bool.not_true,Bool.not_false,Bool.or_true,Bool.true_or,Bool.or_false,Bool.false_or,cond_true,cond_false]
            rw[hR.out]at e
            clear hR
            subst e
            go_wp2_with fail
            go_ret
            exact⟨rfl,BW.out⟩
          | true =>
            have c1:=LA.out.cell 1
            simp only[List.getElem?_cons_succ,List.getElem?_cons_zero]at c1
            go_wp2_with (first|(with_reducible refine qAh 45 _ rfl ?_))
            refine Stp.go ?_
            refine qAb rfl 45 _ rfl w.heap.size 0 rfl 45 _ LA.out [.int .i64 d.id,.bool true,.int .i64 d.m.id,.int .i64 d.m.rid,.slice d.mv.ms.a d.mv.ms.n d.mv.ms.c,.slice d.mv.its.a d.mv.its.n d.mv.its.c,.slice d.mv.lv.a d.mv.lv.n d.mv.lv.c,.slice d.mv.tx.a d.mv.tx.n d.mv.tx.c,.int .i64 d.m.rd,.int .i64 d.m.se,.int .i64 d.m.li,.int .i64 d.m.he,.int .i64 d.m.la.c,.int .i64 d.m.la.r,.int .i64 d.m.la.q,.int .i64 d.m.la.a,.int .i64 d.m.la.b,.slice d.mv.ws.a d.mv.ws.n d.mv.ws.c,.int .i64 d.most,.int .i64 d.old,.int .i64 d.jid,.slice d.js.a d.js.n d.js.c,.slice d.bs.a d.bs.n d.bs.c,.slice d.ls.a d.ls.n d.ls.c] rfl _ Tryz.underlying45 rfl Tryz.sizeDa ?_
            go_wp2_with fail
            refine(qDp d true _ hdd HR.out.mt hs.out.mt).mono ?_
            rintro e t12 ⟨rfl,b⟩
            have LA:Hid (Bx t12 w.heap.size 45 [.int .i64 d.id,.bool true,.int .i64 d.m.id,.int .i64 d.m.rid,.slice d.mv.ms.a d.mv.ms.n d.mv.ms.c,.slice d.mv.its.a d.mv.its.n d.mv.its.c,.slice d.mv.lv.a d.mv.lv.n d.mv.lv.c,.slice d.mv.tx.a d.mv.tx.n d.mv.tx.c,.int .i64 d.m.rd,.int .i64 d.m.se,.int .i64 d.m.li,.int .i64 d.m.he,.int .i64 d.m.la.c,.int .i64 d.m.la.r,.int .i64 d.m.la.q,.int .i64 d.m.la.a,.int .i64 d.m.la.b,.slice d.mv.ws.a d.mv.ws.n d.mv.ws.c,.int .i64 d.most,.int .i64 d.old,.int .i64 d.jid,.slice d.js.a d.js.n d.js.c,.slice d.bs.a d.bs.n d.bs.c,.slice d.ls.a d.ls.n d.ls.c]):=LA.out.later b
            have BW:Hid (Below w.heap.size w t12):=qAa BW.out b
            have HR:Hid (DmR t12 d):=HR.out.stays b
            clear b
            obtain⟨R12,k12⟩: ∃R:Bool,(dmM d)=R:=⟨_,rfl⟩
            rw[k12]
            have K12:Hid ((dmM d)=R12):=k12
            clear k12
            cases R12 with
            | false =>
              have e:dmI d=false:=by
                unfold dmI idB moB olB
                simp only[hdd.out,K1.out,K5.out,K9.out,K10.out,K11.out,K12.out,bne_self_eq_false,Bool.false_and,Bool.true_and,Bool.and_false,Bool.and_true,Bool.not_true,Bool.not_false,Bool.or_true,Bool.true_or,Bool.or_false,Bool.false_or,cond_true,cond_false]
              rw[hR.out]at e
              clear hR
              subst e
              go_wp2_with fail
              go_ret
              exact⟨rfl,BW.out⟩
            | true =>
              go_wp2_with (first|(with_reducible refine qAh 45 _ rfl ?_))
              refine Stp.go ?_
              refine qAb rfl 45 _ rfl w.heap.size 0 rfl 45 _ LA.out [.int .i64 d.id,.bool true,.int .i64 d.m.id,.int .i64 d.m.rid,.slice d.mv.ms.a d.mv.ms.n d.mv.ms.c,.slice d.mv.its.a d.mv.its.n d.mv.its.c,.slice d.mv.lv.a d.mv.lv.n d.mv.lv.c,.slice d.mv.tx.a d.mv.tx.n d.mv.tx.c,.int .i64 d.m.rd,.int .i64 d.m.se,.int .i64 d.m.li,.int .i64 d.m.he,.int .i64 d.m.la.c,.int .i64 d.m.la.r,.int .i64 d.m.la.q,.int .i64 d.m.la.a,.int .i64 d.m.la.b,.slice d.mv.ws.a d.mv.ws.n d.mv.ws.c,.int .i64 d.most,.int .i64 d.old,.int .i64 d.jid,.slice d.js.a d.js.n d.js.c,.slice d.bs.a d.bs.n d.bs.c,.slice d.ls.a d.ls.n d.ls.c] rfl _ Tryz.underlying45 rfl Tryz.sizeDa ?_
              go_wp2_with fail
              refine(qFr d _ hdd HR.out.jo HR.out.bu hs ⟨(of_decide_eq_true (show decide (0≤d.old∧d.old≤d.most)=true from K11.out)).1,by have h1:=(of_decide_eq_true (show decide (0≤d.old∧d.old≤d.most)=true from K11.out)).2;have h2:=(of_decide_eq_true (show decide (0≤d.most∧d.most≤9)=true from K10.out)).2;omega⟩).mono ?_
              rintro e t13 ⟨rfl,b⟩
              have LA:Hid (Bx t13 w.heap.size 45 [.int .i64 d.id,.bool true,.int .i64 d.m.id,.int .i64 d.m.rid,.slice d.mv.ms.a d.mv.ms.n d.mv.ms.c,.slice d.mv.its.a d.mv.its.n d.mv.its.c,.slice d.mv.lv.a d.mv.lv.n d.mv.lv.c,.slice d.mv.tx.a d.mv.tx.n d.mv.tx.c,.int .i64 d.m.rd,.int .i64 d.m.se,.int .i64 d.m.li,.int .i64 d.m.he,.int .i64 d.m.la.c,.int .i64 d.m.la.r,.int .i64 d.m.la.q,.int .i64 d.m.la.a,.int .i64 d.m.la.b,.slice d.mv.ws.a d.mv.ws.n d.mv.ws.c,.int .i64 d.most,.int .i64 d.old,.int .i64 d.jid,.slice d.js.a d.js.n d.js.c,.slice d.bs.a d.bs.n d.bs.c,.slice d.ls.a d.ls.n d.ls.c]):=LA.out.later b
              have BW:Hid (Below w.heap.size w t13):=qAa BW.out b
              have HR:Hid (DmR t13 d):=HR.out.stays b
              clear b
              obtain⟨R13,k13⟩: ∃R:Bool,(dmJ d)=R:=⟨_,rfl⟩
              rw[k13]
              have K13:Hid ((dmJ d)=R13):=k13
              clear k13
              cases R13 with
              | false =>
                have e:dmI d=false:=by
                  unfold dmI idB moB olB
                  simp only[hdd.out,K1.out,K5.out,K9.out,K10.out,K11.out,K12.out,K13.out,bne_self_eq_false,Bool.false_and,Bool.true_and,Bool.and_false,Bool.and_true,Bool.not_true,Bool.not_false,Bool.or_true,Bool.true_or,Bool.or_false,Bool.false_or,cond_true,cond_false]
                rw[hR.out]at e
                clear hR
                subst e
                go_wp2_with fail
                go_ret
                exact⟨rfl,BW.out⟩
              | true =>
                have e:dmI d=true:=by
                  unfold dmI idB moB olB
                  simp only[hdd.out,K1.out,K5.out,K9.out,K10.out,K11.out,K12.out,K13.out,bne_self_eq_false,Bool.false_and,Bool.true_and,Bool.and_false,Bool.and_true,Bool.not_true,Bool.not_false,Bool.or_true,Bool.true_or,Bool.or_false,Bool.false_or,cond_true,cond_false]
                rw[hR.out]at e
                clear hR
                subst e
                go_wp2_with fail
                go_ret
                exact⟨rfl,BW.out⟩
theorem qFt(d:Dm)(w:World)(hdd:Hid (d.dead=false))(h:Hid (DmR w d))(hs:Hid (DmS d)):Calls Tryz.prog 37 #[.agg #[.int .i64 d.id,.bool false,.int .i64 d.m.id,.int .i64 d.m.rid,.slice d.mv.ms.a d.mv.ms.n d.mv.ms.c,.slice d.mv.its.a d.mv.its.n d.mv.its.c,.slice d.mv.lv.a d.mv.lv.n d.mv.lv.c,.slice d.mv.tx.a d.mv.tx.n d.mv.tx.c,.int .i64 d.m.rd,.int .i64 d.m.se,.int .i64 d.m.li,.int .i64 d.m.he,.int .i64 d.m.la.c,.int .i64 d.m.la.r,.int .i64 d.m.la.q,.int .i64 d.m.la.a,.int .i64 d.m.la.b,.slice d.mv.ws.a d.mv.ws.n d.mv.ws.c,.int .i64 d.most,.int .i64 d.old,.int .i64 d.jid,.slice d.js.a d.js.n d.js.c,.slice d.bs.a d.bs.n d.bs.c,.slice d.ls.a d.ls.n d.ls.c]] w fun e w'=>e=.returned (.bool (dmI d))∧Below w.heap.size w w':=by
  obtain⟨R,hR0⟩: ∃R,dmI d=R:=⟨_,rfl⟩
  rw[hR0]
  have hR:Hid (dmI d=R):=hR0
  clear hR0
  have LA:Hid (Bx (w.alloc (.cells #[.int .i64 d.id,.bool false,.int .i64 d.m.id,.int .i64 d.m.rid,.slice d.mv.ms.a d.mv.ms.n d.mv.ms.c,.slice d.mv.its.a d.mv.its.n d.mv.its.c,.slice d.mv.lv.a d.mv.lv.n d.mv.lv.c,.slice d.mv.tx.a d.mv.tx.n d.mv.tx.c,.int .i64 d.m.rd,.int .i64 d.m.se,.int .i64 d.m.li,.int .i64 d.m.he,.int .i64 d.m.la.c,.int .i64 d.m.la.r,.int .i64 d.m.la.q,.int .i64 d.m.la.a,.int .i64 d.m.la.b,.slice d.mv.ws.a d.mv.ws.n d.mv.ws.c,.int .i64 d.most,.int .i64 d.old,.int .i64 d.jid,.slice d.js.a d.js.n d.js.c,.slice d.bs.a d.bs.n d.bs.c,.slice d.ls.a d.ls.n d.ls.c] 45)) w.heap.size 45 [.int .i64 d.id,.bool false,.int .i64 d.m.id,.int .i64 d.m.rid,.slice d.mv.ms.a d.mv.ms.n d.mv.ms.c,.slice d.mv.its.a d.mv.its.n d.mv.its.c,.slice d.mv.lv.a d.mv.lv.n d.mv.lv.c,.slice d.mv.tx.a d.mv.tx.n d.mv.tx.c,.int .i64 d.m.rd,.int .i64 d.m.se,.int .i64 d.m.li,.int .i64 d.m.he,.int .i64 d.m.la.c,.int .i64 d.m.la.r,.int .i64 d.m.la.q,.int .i64 d.m.la.a,.int .i64 d.m.la.b,.slice d.mv.ws.a d.mv.ws.n d.mv.ws.c,.int .i64 d.most,.int .i64 d.old,.int .i64 d.jid,.slice d.js.a d.js.n d.js.c,.slice d.bs.a d.bs.n d.bs.c,.slice d.ls.a d.ls.n d.ls.c]):=by
    have h:=Bx.new w 45 [.int .i64 d.id,.bool false,.int .i64 d.m.id,.int .i64 d.m.rid,.slice d.mv.ms.a d.mv.ms.n d.mv.ms.c,.slice d.mv.its.a d.mv.its.n d.mv.its.c,.slice d.mv.lv.a d.mv.lv.n d.mv.lv.c,.slice d.mv.tx.a d.mv.tx.n d.mv.tx.c,.int .i64 d.m.rd,.int .i64 d.m.se,.int .i64 d.m.li,.int .i64 d.m.he,.int .i64 d.m.la.c,.int .i64 d.m.la.r,.int .i64 d.m.la.q,.int .i64 d.m.la.a,.int .i64 d.m.la.b,.slice d.mv.ws.a d.mv.ws.n d.mv.ws.c,.int .i64 d.most,.int .i64 d.old,.int .i64 d.jid,.slice d.js.a d.js.n d.js.c,.slice d.bs.a d.bs.n d.bs.c,.slice d.ls.a d.ls.n d.ls.c]
    exact h
  have BW:Hid (Below w.heap.size w (w.alloc (.cells #[.int .i64 d.id,.bool false,.int .i64 d.m.id,.int .i64 d.m.rid,.slice d.mv.ms.a d.mv.ms.n d.mv.ms.c,.slice d.mv.its.a d.mv.its.n d.mv.its.c,.slice d.mv.lv.a d.mv.lv.n d.mv.lv.c,.slice d.mv.tx.a d.mv.tx.n d.mv.tx.c,.int .i64 d.m.rd,.int .i64 d.m.se,.int .i64 d.m.li,.int .i64 d.m.he,.int .i64 d.m.la.c,.int .i64 d.m.la.r,.int .i64 d.m.la.q,.int .i64 d.m.la.a,.int .i64 d.m.la.b,.slice d.mv.ws.a d.mv.ws.n d.mv.ws.c,.int .i64 d.most,.int .i64 d.old,.int .i64 d.jid,.slice d.js.a d.js.n d.js.c,.slice d.bs.a d.bs.n d.bs.c,.slice d.ls.a d.ls.n d.ls.c] 45))):=((Below.refl _ _).alloc (by simp) _)
  have HR:Hid (DmR (w.alloc (.cells #[.int .i64 d.id,.bool false,.int .i64 d.m.id,.int .i64 d.m.rid,.slice d.mv.ms.a d.mv.ms.n d.mv.ms.c,.slice d.mv.its.a d.mv.its.n d.mv.its.c,.slice d.mv.lv.a d.mv.lv.n d.mv.lv.c,.slice d.mv.tx.a d.mv.tx.n d.mv.tx.c,.int .i64 d.m.rd,.int .i64 d.m.se,.int .i64 d.m.li,.int .i64 d.m.he,.int .i64 d.m.la.c,.int .i64 d.m.la.r,.int .i64 d.m.la.q,.int .i64 d.m.la.a,.int .i64 d.m.la.b,.slice d.mv.ws.a d.mv.ws.n d.mv.ws.c,.int .i64 d.most,.int .i64 d.old,.int .i64 d.jid,.slice d.js.a d.js.n d.js.c,.slice d.bs.a d.bs.n d.bs.c,.slice d.ls.a d.ls.n d.ls.c] 45)) d):=h.out.stays BW.out
  have HW:Hid (d.mv.ws.n=d.m.la.ws.length):=h.out.mt.ws.len
  have HJN:Hid (d.bs.n=d.bu.length):=h.out.bu.1
  clear h
  go_enter Tryz.func37,Tryz.ntmps37
  go_wp2_with (first|(with_reducible refine qAh 41 _ rfl ?_))
  refine Stp.go ?_
  refine qAb rfl 41 _ rfl w.heap.size 2 rfl 45 _ LA.out [.int .i64 d.m.id,.int .i64 d.m.rid,.slice d.mv.ms.a d.mv.ms.n d.mv.ms.c,.slice d.mv.its.a d.mv.its.n d.mv.its.c,.slice d.mv.lv.a d.mv.lv.n d.mv.lv.c,.slice d.mv.tx.a d.mv.tx.n d.mv.tx.c,.int .i64 d.m.rd,.int .i64 d.m.se,.int .i64 d.m.li,.int .i64 d.m.he,.int .i64 d.m.la.c,.int .i64 d.m.la.r,.int .i64 d.m.la.q,.int .i64 d.m.la.a,.int .i64 d.m.la.b,.slice d.mv.ws.a d.mv.ws.n d.mv.ws.c] rfl _ Tryz.underlying41 rfl Tryz.sizeM ?_
  go_wp2_with fail
  refine(qDv d.m d.mv _ HW.out).mono ?_
  rintro e t1 ⟨rfl,b⟩
  have LA:Hid (Bx t1 w.heap.size 45 [.int .i64 d.id,.bool false,.int .i64 d.m.id,.int .i64 d.m.rid,.slice d.mv.ms.a d.mv.ms.n d.mv.ms.c,.slice d.mv.its.a d.mv.its.n d.mv.its.c,.slice d.mv.lv.a d.mv.lv.n d.mv.lv.c,.slice d.mv.tx.a d.mv.tx.n d.mv.tx.c,.int .i64 d.m.rd,.int .i64 d.m.se,.int .i64 d.m.li,.int .i64 d.m.he,.int .i64 d.m.la.c,.int .i64 d.m.la.r,.int .i64 d.m.la.q,.int .i64 d.m.la.a,.int .i64 d.m.la.b,.slice d.mv.ws.a d.mv.ws.n d.mv.ws.c,.int .i64 d.most,.int .i64 d.old,.int .i64 d.jid,.slice d.js.a d.js.n d.js.c,.slice d.bs.a d.bs.n d.bs.c,.slice d.ls.a d.ls.n d.ls.c]):=LA.out.later b
  have BW:Hid (Below w.heap.size w t1):=qAa BW.out b
  have HR:Hid (DmR t1 d):=HR.out.stays b
  clear b
  obtain⟨R1,k1⟩: ∃R:Bool,(nmS d.m d.mv)=R:=⟨_,rfl⟩
  rw[k1]
  have K1:Hid ((nmS d.m d.mv)=R1):=k1
  clear k1
  cases R1 with
  | false =>
    have c0:=LA.out.cell 0
    simp only[List.getElem?_cons_succ,List.getElem?_cons_zero]at c0
    go_wp2_with fail
    refine(qAj d.id 1 5 _).mono ?_
    rintro e t2 ⟨rfl,b⟩
    have LA:Hid (Bx t2 w.heap.size 45 [.int .i64 d.id,.bool false,.int .i64 d.m.id,.int .i64 d.m.rid,.slice d.mv.ms.a d.mv.ms.n d.mv.ms.c,.slice d.mv.its.a d.mv.its.n d.mv.its.c,.slice d.mv.lv.a d.mv.lv.n d.mv.lv.c,.slice d.mv.tx.a d.mv.tx.n d.mv.tx.c,.int .i64 d.m.rd,.int .i64 d.m.se,.int .i64 d.m.li,.int .i64 d.m.he,.int .i64 d.m.la.c,.int .i64 d.m.la.r,.int .i64 d.m.la.q,.int .i64 d.m.la.a,.int .i64 d.m.la.b,.slice d.mv.ws.a d.mv.ws.n d.mv.ws.c,.int .i64 d.most,.int .i64 d.old,.int .i64 d.jid,.slice d.js.a d.js.n d.js.c,.slice d.bs.a d.bs.n d.bs.c,.slice d.ls.a d.ls.n d.ls.c]):=LA.out.later b
    have BW:Hid (Below w.heap.size w t2):=qAa BW.out b
    have HR:Hid (DmR t2 d):=HR.out.stays b
    clear b
    obtain⟨R2,k2⟩: ∃R:Bool,(decide (1≤d.id∧d.id≤5))=R:=⟨_,rfl⟩
    rw[k2]
    have K2:Hid ((decide (1≤d.id∧d.id≤5))=R2):=k2
    clear k2
    cases R2 with
    | false =>
      have e:dmI d=false:=by
        unfold dmI idB moB olB
        simp only[hdd.out,K1.out,K2.out,bne_self_eq_false,Bool.false_and,Bool.true_and,Bool.and_false,Bool.and_true,Bool.not_true,Bool.not_false,Bool.or_true,Bool.true_or,Bool.or_false,Bool.false_or,cond_true,cond_false]
      rw[hR.out]at e
      clear hR
      subst e
      go_wp2_with fail
      go_ret
      exact⟨rfl,BW.out⟩
    | true =>
      have c18:=LA.out.cell 18
      simp only[List.getElem?_cons_succ,List.getElem?_cons_zero]at c18
      go_wp2_with fail
      refine(qAj d.most 0 9 _).mono ?_
      rintro e t3 ⟨rfl,b⟩
      have LA:Hid (Bx t3 w.heap.size 45 [.int .i64 d.id,.bool false,.int .i64 d.m.id,.int .i64 d.m.rid,.slice d.mv.ms.a d.mv.ms.n d.mv.ms.c,.slice d.mv.its.a d.mv.its.n d.mv.its.c,.slice d.mv.lv.a d.mv.lv.n d.mv.lv.c,.slice d.mv.tx.a d.mv.tx.n d.mv.tx.c,.int .i64 d.m.rd,.int .i64 d.m.se,.int .i64 d.m.li,.int .i64 d.m.he,.int .i64 d.m.la.c,.int .i64 d.m.la.r,.int .i64 d.m.la.q,.int .i64 d.m.la.a,.int .i64 d.m.la.b,.slice d.mv.ws.a d.mv.ws.n d.mv.ws.c,.int .i64 d.most,.int .i64 d.old,.int .i64 d.jid,.slice d.js.a d.js.n d.js.c,.slice d.bs.a d.bs.n d.bs.c,.slice d.ls.a d.ls.n d.ls.c]):=LA.out.later b
      have BW:Hid (Below w.heap.size w t3):=qAa BW.out b
      have HR:Hid (DmR t3 d):=HR.out.stays b
      clear b
      obtain⟨R3,k3⟩: ∃R:Bool,(decide (0≤d.most∧d.most≤9))=R:=⟨_,rfl⟩
      rw[k3]
      have K3:Hid ((decide (0≤d.most∧d.most≤9))=R3):=k3
      clear k3
      cases R3 with
      | false =>
        have e:dmI d=false:=by
          unfold dmI idB moB olB
          simp only[hdd.out,K1.out,K2.out,K3.out,bne_self_eq_false,Bool.false_and,Bool.true_and,Bool.and_false,Bool.and_true,Bool.not_true,Bool.not_false,Bool.or_true,Bool.true_or,Bool.or_false,Bool.false_or,cond_true,cond_false]
        rw[hR.out]at e
        clear hR
        subst e
        go_wp2_with fail
        go_ret
        exact⟨rfl,BW.out⟩
      | true =>
        have c19:=LA.out.cell 19
        have c18:=LA.out.cell 18
        simp only[List.getElem?_cons_succ,List.getElem?_cons_zero]at c19 c18
        go_wp2_with fail
        refine(qAj d.old 0 d.most _).mono ?_
        rintro e t4 ⟨rfl,b⟩
        have LA:Hid (Bx t4 w.heap.size 45 [.int .i64 d.id,.bool false,.int .i64 d.m.id,.int .i64 d.m.rid,.slice d.mv.ms.a d.mv.ms.n d.mv.ms.c,.slice d.mv.its.a d.mv.its.n d.mv.its.c,.slice d.mv.lv.a d.mv.lv.n d.mv.lv.c,.slice d.mv.tx.a d.mv.tx.n d.mv.tx.c,.int .i64 d.m.rd,.int .i64 d.m.se,.int .i64 d.m.li,.int .i64 d.m.he,.int .i64 d.m.la.c,.int .i64 d.m.la.r,.int .i64 d.m.la.q,.int .i64 d.m.la.a,.int .i64 d.m.la.b,.slice d.mv.ws.a d.mv.ws.n d.mv.ws.c,.int .i64 d.most,.int .i64 d.old,.int .i64 d.jid,.slice d.js.a d.js.n d.js.c,.slice d.bs.a d.bs.n d.bs.c,.slice d.ls.a d.ls.n d.ls.c]):=LA.out.later b
        have BW:Hid (Below w.heap.size w t4):=qAa BW.out b
        have HR:Hid (DmR t4 d):=HR.out.stays b
        clear b
        obtain⟨R4,k4⟩: ∃R:Bool,(decide (0≤d.old∧d.old≤d.most))=R:=⟨_,rfl⟩
        rw[k4]
        have K4:Hid ((decide (0≤d.old∧d.old≤d.most))=R4):=k4
        clear k4
        cases R4 with
        | false =>
          have e:dmI d=false:=by
            unfold dmI idB moB olB
            simp only[hdd.out,K1.out,K2.out,K3.out,K4.out,bne_self_eq_false,Bool.false_and,Bool.true_and,Bool.and_false,Bool.and_true,Bool.not_true,Bool.not_false,Bool.or_true,Bool.true_or,Bool.or_false,Bool.false_or,cond_true,cond_false]
          rw[hR.out]at e
          clear hR
          subst e
          go_wp2_with fail
          go_ret
          exact⟨rfl,BW.out⟩
        | true =>
          have c1:=LA.out.cell 1
          simp only[List.getElem?_cons_succ,List.getElem?_cons_zero]at c1
          go_wp2_with (first|(with_reducible refine qAh 45 _ rfl ?_))
          refine Stp.go ?_
          refine qAb rfl 45 _ rfl w.heap.size 0 rfl 45 _ LA.out [.int .i64 d.id,.bool false,.int .i64 d.m.id,.int .i64 d.m.rid,.slice d.mv.ms.a d.mv.ms.n d.mv.ms.c,.slice d.mv.its.a d.mv.its.n d.mv.its.c,.slice d.mv.lv.a d.mv.lv.n d.mv.lv.c,.slice d.mv.tx.a d.mv.tx.n d.mv.tx.c,.int .i64 d.m.rd,.int .i64 d.m.se,.int .i64 d.m.li,.int .i64 d.m.he,.int .i64 d.m.la.c,.int .i64 d.m.la.r,.int .i64 d.m.la.q,.int .i64 d.m.la.a,.int .i64 d.m.la.b,.slice d.mv.ws.a d.mv.ws.n d.mv.ws.c,.int .i64 d.most,.int .i64 d.old,.int .i64 d.jid,.slice d.js.a d.js.n d.js.c,.slice d.bs.a d.bs.n d.bs.c,.slice d.ls.a d.ls.n d.ls.c] rfl _ Tryz.underlying45 rfl Tryz.sizeDa ?_
          go_wp2_with fail
          refine(qDp d false _ hdd HR.out.mt hs.out.mt).mono ?_
          rintro e t5 ⟨rfl,b⟩
          have LA:Hid (Bx t5 w.heap.size 45 [.int .i64 d.id,.bool false,.int .i64 d.m.id,.int .i64 d.m.rid,.slice d.mv.ms.a d.mv.ms.n d.mv.ms.c,.slice d.mv.its.a d.mv.its.n d.mv.its.c,.slice d.mv.lv.a d.mv.lv.n d.mv.lv.c,.slice d.mv.tx.a d.mv.tx.n d.mv.tx.c,.int .i64 d.m.rd,.int .i64 d.m.se,.int .i64 d.m.li,.int .i64 d.m.he,.int .i64 d.m.la.c,.int .i64 d.m.la.r,.int .i64 d.m.la.q,.int .i64 d.m.la.a,.int .i64 d.m.la.b,.slice d.mv.ws.a d.mv.ws.n d.mv.ws.c,.int .i64 d.most,.int .i64 d.old,.int .i64 d.jid,.slice d.js.a d.js.n d.js.c,.slice d.bs.a d.bs.n d.bs.c,.slice d.ls.a d.ls.n d.ls.c]):=LA.out.later b
          have BW:Hid (Below w.heap.size w t5):=qAa BW.out b
          have HR:Hid (DmR t5 d):=HR.out.stays b
          clear b
          obtain⟨R5,k5⟩: ∃R:Bool,(dmM d)=R:=⟨_,rfl⟩
          rw[k5]
          have K5:Hid ((dmM d)=R5):=k5
          clear k5
          cases R5 with
          | false =>
            have e:dmI d=false:=by
              unfold dmI idB moB olB
              simp only[hdd.out,K1.out,K2.out,K3.out,K4.out,K5.out,bne_self_eq_false,Bool.false_and,Bool.true_and,Bool.and_false,Bool.and_true,Bool.not_true,Bool.not_false,Bool.or_true,Bool.true_or,Bool.or_false,Bool.false_or,cond_true,cond_false]
            rw[hR.out]at e
            clear hR
            subst e
            go_wp2_with fail
            go_ret
            exact⟨rfl,BW.out⟩
          | true =>
            go_wp2_with (first|(with_reducible refine qAh 45 _ rfl ?_))
            refine Stp.go ?_
            refine qAb rfl 45 _ rfl w.heap.size 0 rfl 45 _ LA.out [.int .i64 d.id,.bool false,.int .i64 d.m.id,.int .i64 d.m.rid,.slice d.mv.ms.a d.mv.ms.n d.mv.ms.c,.slice d.mv.its.a d.mv.its.n d.mv.its.c,.slice d.mv.lv.a d.mv.lv.n d.mv.lv.c,.slice d.mv.tx.a d.mv.tx.n d.mv.tx.c,.int .i64 d.m.rd,.int .i64 d.m.se,.int .i64 d.m.li,.int .i64 d.m.he,.int .i64 d.m.la.c,.int .i64 d.m.la.r,.int .i64 d.m.la.q,.int .i64 d.m.la.a,.int .i64 d.m.la.b,.slice d.mv.ws.a d.mv.ws.n d.mv.ws.c,.int .i64 d.most,.int .i64 d.old,.int .i64 d.jid,.slice d.js.a d.js.n d.js.c,.slice d.bs.a d.bs.n d.bs.c,.slice d.ls.a d.ls.n d.ls.c] rfl _ Tryz.underlying45 rfl Tryz.sizeDa ?_
            go_wp2_with fail
            refine(qBq d _ hdd HR.out.jo HR.out.bu hs ⟨(of_decide_eq_true (show decide (0≤d.old∧d.old≤d.most)=true from K4.out)).1,by have h1:=(of_decide_eq_true (show decide (0≤d.old∧d.old≤d.most)=true from K4.out)).2;have h2:=(of_decide_eq_true (show decide (0≤d.most∧d.most≤9)=true from K3.out)).2;omega⟩).mono ?_
            rintro e t6 ⟨rfl,b⟩
            have LA:Hid (Bx t6 w.heap.size 45 [.int .i64 d.id,.bool false,.int .i64 d.m.id,.int .i64 d.m.rid,.slice d.mv.ms.a d.mv.ms.n d.mv.ms.c,.slice d.mv.its.a d.mv.its.n d.mv.its.c,.slice d.mv.lv.a d.mv.lv.n d.mv.lv.c,.slice d.mv.tx.a d.mv.tx.n d.mv.tx.c,.int .i64 d.m.rd,.int .i64 d.m.se,.int .i64 d.m.li,.int .i64 d.m.he,.int .i64 d.m.la.c,.int .i64 d.m.la.r,.int .i64 d.m.la.q,.int .i64 d.m.la.a,.int .i64 d.m.la.b,.slice d.mv.ws.a d.mv.ws.n d.mv.ws.c,.int .i64 d.most,.int .i64 d.old,.int .i64 d.jid,.slice d.js.a d.js.n d.js.c,.slice d.bs.a d.bs.n d.bs.c,.slice d.ls.a d.ls.n d.ls.c]):=LA.out.later b
            have BW:Hid (Below w.heap.size w t6):=qAa BW.out b
            have HR:Hid (DmR t6 d):=HR.out.stays b
            clear b
            obtain⟨R6,k6⟩: ∃R:Bool,(dmJ d)=R:=⟨_,rfl⟩
            rw[k6]
            have K6:Hid ((dmJ d)=R6):=k6
            clear k6
            cases R6 with
            | false =>
              have e:dmI d=false:=by
                unfold dmI idB moB olB
                simp only[hdd.out,K1.out,K2.out,K3.out,K4.out,K5.out,K6.out,bne_self_eq_false,Bool.false_and,Bool.true_and,Bool.and_false,Bool.and_true,Bool.not_true,Bool.not_false,Bool.or_true,Bool.true_or,Bool.or_false,Bool.false_or,cond_true,cond_false]
              rw[hR.out]at e
              clear hR
              subst e
              go_wp2_with fail
              go_ret
              exact⟨rfl,BW.out⟩
            | true =>
              have e:dmI d=true:=by
                unfold dmI idB moB olB
                simp only[hdd.out,K1.out,K2.out,K3.out,K4.out,K5.out,K6.out,bne_self_eq_false,Bool.false_and,Bool.true_and,Bool.and_false,Bool.and_true,Bool.not_true,Bool.not_false,Bool.or_true,Bool.true_or,Bool.or_false,Bool.false_or,cond_true,cond_false]
              rw[hR.out]at e
              clear hR
              subst e
              go_wp2_with fail
              go_ret
              exact⟨rfl,BW.out⟩
  | true =>
    go_wp2_with (first|(with_reducible refine qAh 37 _ rfl ?_))
    refine Stp.go ?_
    refine qAb rfl 37 _ rfl w.heap.size 20 rfl 45 _ LA.out [.int .i64 d.jid,.slice d.js.a d.js.n d.js.c] rfl _ Tryz.underlying37 rfl Tryz.sizeR ?_
    go_wp2_with fail
    refine(qCa d.jid d.js _).mono ?_
    rintro e t7 ⟨rfl,b⟩
    have LA:Hid (Bx t7 w.heap.size 45 [.int .i64 d.id,.bool false,.int .i64 d.m.id,.int .i64 d.m.rid,.slice d.mv.ms.a d.mv.ms.n d.mv.ms.c,.slice d.mv.its.a d.mv.its.n d.mv.its.c,.slice d.mv.lv.a d.mv.lv.n d.mv.lv.c,.slice d.mv.tx.a d.mv.tx.n d.mv.tx.c,.int .i64 d.m.rd,.int .i64 d.m.se,.int .i64 d.m.li,.int .i64 d.m.he,.int .i64 d.m.la.c,.int .i64 d.m.la.r,.int .i64 d.m.la.q,.int .i64 d.m.la.a,.int .i64 d.m.la.b,.slice d.mv.ws.a d.mv.ws.n d.mv.ws.c,.int .i64 d.most,.int .i64 d.old,.int .i64 d.jid,.slice d.js.a d.js.n d.js.c,.slice d.bs.a d.bs.n d.bs.c,.slice d.ls.a d.ls.n d.ls.c]):=LA.out.later b
    have BW:Hid (Below w.heap.size w t7):=qAa BW.out b
    have HR:Hid (DmR t7 d):=HR.out.stays b
    clear b
    obtain⟨R7,k7⟩: ∃R:Bool,(nrB d.jid d.js.n)=R:=⟨_,rfl⟩
    rw[k7]
    have K7:Hid ((nrB d.jid d.js.n)=R7):=k7
    clear k7
    cases R7 with
    | false =>
      have c0:=LA.out.cell 0
      simp only[List.getElem?_cons_succ,List.getElem?_cons_zero]at c0
      go_wp2_with fail
      refine(qAj d.id 1 5 _).mono ?_
      rintro e t8 ⟨rfl,b⟩
      have LA:Hid (Bx t8 w.heap.size 45 [.int .i64 d.id,.bool false,.int .i64 d.m.id,.int .i64 d.m.rid,.slice d.mv.ms.a d.mv.ms.n d.mv.ms.c,.slice d.mv.its.a d.mv.its.n d.mv.its.c,.slice d.mv.lv.a d.mv.lv.n d.mv.lv.c,.slice d.mv.tx.a d.mv.tx.n d.mv.tx.c,.int .i64 d.m.rd,.int .i64 d.m.se,.int .i64 d.m.li,.int .i64 d.m.he,.int .i64 d.m.la.c,.int .i64 d.m.la.r,.int .i64 d.m.la.q,.int .i64 d.m.la.a,.int .i64 d.m.la.b,.slice d.mv.ws.a d.mv.ws.n d.mv.ws.c,.int .i64 d.most,.int .i64 d.old,.int .i64 d.jid,.slice d.js.a d.js.n d.js.c,.slice d.bs.a d.bs.n d.bs.c,.slice d.ls.a d.ls.n d.ls.c]):=LA.out.later b
      have BW:Hid (Below w.heap.size w t8):=qAa BW.out b
      have HR:Hid (DmR t8 d):=HR.out.stays b
      clear b
      obtain⟨R8,k8⟩: ∃R:Bool,(decide (1≤d.id∧d.id≤5))=R:=⟨_,rfl⟩
      rw[k8]
      have K8:Hid ((decide (1≤d.id∧d.id≤5))=R8):=k8
      clear k8
      cases R8 with
      | false =>
        have e:dmI d=false:=by
          unfold dmI idB moB olB
          simp only[hdd.out,K1.out,K7.out,K8.out,bne_self_eq_false,Bool.false_and,Bool.true_and,Bool.and_false,Bool.and_true,Bool.not_true,Bool.not_false,Bool.or_true,Bool.true_or,Bool.or_false,Bool.false_or,cond_true,cond_false]
        rw[hR.out]at e
        clear hR
        subst e
        go_wp2_with fail
        go_ret
        exact⟨rfl,BW.out⟩
      | true =>
        have c18:=LA.out.cell 18
        simp only[List.getElem?_cons_succ,List.getElem?_cons_zero]at c18
        go_wp2_with fail
        refine(qAj d.most 0 9 _).mono ?_
        rintro e t9 ⟨rfl,b⟩
        have LA:Hid (Bx t9 w.heap.size 45 [.int .i64 d.id,.bool false,.int .i64 d.m.id,.int .i64 d.m.rid,.slice d.mv.ms.a d.mv.ms.n d.mv.ms.c,.slice d.mv.its.a d.mv.its.n d.mv.its.c,.slice d.mv.lv.a d.mv.lv.n d.mv.lv.c,.slice d.mv.tx.a d.mv.tx.n d.mv.tx.c,.int .i64 d.m.rd,.int .i64 d.m.se,.int .i64 d.m.li,.int .i64 d.m.he,.int .i64 d.m.la.c,.int .i64 d.m.la.r,.int .i64 d.m.la.q,.int .i64 d.m.la.a,.int .i64 d.m.la.b,.slice d.mv.ws.a d.mv.ws.n d.mv.ws.c,.int .i64 d.most,.int .i64 d.old,.int .i64 d.jid,.slice d.js.a d.js.n d.js.c,.slice d.bs.a d.bs.n d.bs.c,.slice d.ls.a d.ls.n d.ls.c]):=LA.out.later b
        have BW:Hid (Below w.heap.size w t9):=qAa BW.out b
        have HR:Hid (DmR t9 d):=HR.out.stays b
        clear b
        obtain⟨R9,k9⟩: ∃R:Bool,(decide (0≤d.most∧d.most≤9))=R:=⟨_,rfl⟩
        rw[k9]
        have K9:Hid ((decide (0≤d.most∧d.most≤9))=R9):=k9
        clear k9
        cases R9 with
        | false =>
          have e:dmI d=false:=by
            unfold dmI idB moB olB
            simp only[hdd.out,K1.out,K7.out,K8.out,K9.out,bne_self_eq_false,Bool.false_and,Bool.true_and,Bool.and_false,Bool.and_true,Bool.not_true,Bool.not_false,Bool.or_true,Bool.true_or,Bool.or_false,Bool.false_or,cond_true,cond_false]
          rw[hR.out]at e
          clear hR
          subst e
          go_wp2_with fail
          go_ret
          exact⟨rfl,BW.out⟩
        | true =>
          have c19:=LA.out.cell 19
          have c18:=LA.out.cell 18
          simp only[List.getElem?_cons_succ,List.getElem?_cons_zero]at c19 c18
          go_wp2_with fail
          refine(qAj d.old 0 d.most _).mono ?_
          rintro e t10 ⟨rfl,b⟩
          have LA:Hid (Bx t10 w.heap.size 45 [.int .i64 d.id,.bool false,.int .i64 d.m.id,.int .i64 d.m.rid,.slice d.mv.ms.a d.mv.ms.n d.mv.ms.c,.slice d.mv.its.a d.mv.its.n d.mv.its.c,.slice d.mv.lv.a d.mv.lv.n d.mv.lv.c,.slice d.mv.tx.a d.mv.tx.n d.mv.tx.c,.int .i64 d.m.rd,.int .i64 d.m.se,.int .i64 d.m.li,.int .i64 d.m.he,.int .i64 d.m.la.c,.int .i64 d.m.la.r,.int .i64 d.m.la.q,.int .i64 d.m.la.a,.int .i64 d.m.la.b,.slice d.mv.ws.a d.mv.ws.n d.mv.ws.c,.int .i64 d.most,.int .i64 d.old,.int .i64 d.jid,.slice d.js.a d.js.n d.js.c,.slice d.bs.a d.bs.n d.bs.c,.slice d.ls.a d.ls.n d.ls.c]):=LA.out.later b
          have BW:Hid (Below w.heap.size w t10):=qAa BW.out b
          have HR:Hid (DmR t10 d):=HR.out.stays b
          clear b
          obtain⟨R10,k10⟩: ∃R:Bool,(decide (0≤d.old∧d.old≤d.most))=R:=⟨_,rfl⟩
          rw[k10]
          have K10:Hid ((decide (0≤d.old∧d.old≤d.most))=R10):=k10
          clear k10
          cases R10 with
          | false =>
            have e:dmI d=false:=by
              unfold dmI idB moB olB
              simp only[hdd.out,K1.out,K7.out,K8.out,K9.out,K10.out,bne_self_eq_false,Bool.false_and,Bool.true_and,Bool.and_false,Bool.and_true,Bool.not_true,Bool.not_false,Bool.or_true,Bool.true_or,Bool.or_false,Bool.false_or,cond_true,cond_false]
            rw[hR.out]at e
            clear hR
            subst e
            go_wp2_with fail
            go_ret
            exact⟨rfl,BW.out⟩
          | true =>
            have c1:=LA.out.cell 1
            simp only[List.getElem?_cons_succ,List.getElem?_cons_zero]at c1
            go_wp2_with (first|(with_reducible refine qAh 45 _ rfl ?_))
            refine Stp.go ?_
            refine qAb rfl 45 _ rfl w.heap.size 0 rfl 45 _ LA.out [.int .i64 d.id,.bool false,.int .i64 d.m.id,.int .i64 d.m.rid,.slice d.mv.ms.a d.mv.ms.n d.mv.ms.c,.slice d.mv.its.a d.mv.its.n d.mv.its.c,.slice d.mv.lv.a d.mv.lv.n d.mv.lv.c,.slice d.mv.tx.a d.mv.tx.n d.mv.tx.c,.int .i64 d.m.rd,.int .i64 d.m.se,.int .i64 d.m.li,.int .i64 d.m.he,.int .i64 d.m.la.c,.int .i64 d.m.la.r,.int .i64 d.m.la.q,.int .i64 d.m.la.a,.int .i64 d.m.la.b,.slice d.mv.ws.a d.mv.ws.n d.mv.ws.c,.int .i64 d.most,.int .i64 d.old,.int .i64 d.jid,.slice d.js.a d.js.n d.js.c,.slice d.bs.a d.bs.n d.bs.c,.slice d.ls.a d.ls.n d.ls.c] rfl _ Tryz.underlying45 rfl Tryz.sizeDa ?_
            go_wp2_with fail
            refine(qDp d false _ hdd HR.out.mt hs.out.mt).mono ?_
            rintro e t11 ⟨rfl,b⟩
            have LA:Hid (Bx t11 w.heap.size 45 [.int .i64 d.id,.bool false,.int .i64 d.m.id,.int .i64 d.m.rid,.slice d.mv.ms.a d.mv.ms.n d.mv.ms.c,.slice d.mv.its.a d.mv.its.n d.mv.its.c,.slice d.mv.lv.a d.mv.lv.n d.mv.lv.c,.slice d.mv.tx.a d.mv.tx.n d.mv.tx.c,.int .i64 d.m.rd,.int .i64 d.m.se,.int .i64 d.m.li,.int .i64 d.m.he,.int .i64 d.m.la.c,.int .i64 d.m.la.r,.int .i64 d.m.la.q,.int .i64 d.m.la.a,.int .i64 d.m.la.b,.slice d.mv.ws.a d.mv.ws.n d.mv.ws.c,.int .i64 d.most,.int .i64 d.old,.int .i64 d.jid,.slice d.js.a d.js.n d.js.c,.slice d.bs.a d.bs.n d.bs.c,.slice d.ls.a d.ls.n d.ls.c]):=LA.out.later b
            have BW:Hid (Below w.heap.size w t11):=qAa BW.out b
            have HR:Hid (DmR t11 d):=HR.out.stays b
            clear b
            obtain⟨R11,k11⟩: ∃R:Bool,(dmM d)=R:=⟨_,rfl⟩
            rw[k11]
            have K11:Hid ((dmM d)=R11):=k11
            clear k11
            cases R11 with
            | false =>
              have e:dmI d=false:=by
                unfold dmI idB moB olB
                simp only[hdd.out,K1.out,K7.out,K8.out,K9.out,K10.out,K11.out,bne_self_eq_false,Bool.false_and,Bool.true_and,Bool.and_false,Bool.and_true,Bool.not_true,Bool.not_false,Bool.or_true,Bool.true_or,Bool.or_false,Bool.false_or,cond_true,cond_false]
              rw[hR.out]at e
              clear hR
              subst e
              go_wp2_with fail
              go_ret
              exact⟨rfl,BW.out⟩
            | true =>
              go_wp2_with (first|(with_reducible refine qAh 45 _ rfl ?_))
              refine Stp.go ?_
              refine qAb rfl 45 _ rfl w.heap.size 0 rfl 45 _ LA.out [.int .i64 d.id,.bool false,.int .i64 d.m.id,.int .i64 d.m.rid,.slice d.mv.ms.a d.mv.ms.n d.mv.ms.c,.slice d.mv.its.a d.mv.its.n d.mv.its.c,.slice d.mv.lv.a d.mv.lv.n d.mv.lv.c,.slice d.mv.tx.a d.mv.tx.n d.mv.tx.c,.int .i64 d.m.rd,.int .i64 d.m.se,.int .i64 d.m.li,.int .i64 d.m.he,.int .i64 d.m.la.c,.int .i64 d.m.la.r,.int .i64 d.m.la.q,.int .i64 d.m.la.a,.int .i64 d.m.la.b,.slice d.mv.ws.a d.mv.ws.n d.mv.ws.c,.int .i64 d.most,.int .i64 d.old,.int .i64 d.jid,.slice d.js.a d.js.n d.js.c,.slice d.bs.a d.bs.n d.bs.c,.slice d.ls.a d.ls.n d.ls.c] rfl _ Tryz.underlying45 rfl Tryz.sizeDa ?_
              go_wp2_with fail
              refine(qBq d _ hdd HR.out.jo HR.out.bu hs ⟨(of_decide_eq_true (show decide (0≤d.old∧d.old≤d.most)=true from K10.out)).1,by have h1:=(of_decide_eq_true (show decide (0≤d.old∧d.old≤d.most)=true from K10.out)).2;have h2:=(of_decide_eq_true (show decide (0≤d.most∧d.most≤9)=true from K9.out)).2;omega⟩).mono ?_
              rintro e t12 ⟨rfl,b⟩
              have LA:Hid (Bx t12 w.heap.size 45 [.int .i64 d.id,.bool false,.int .i64 d.m.id,.int .i64 d.m.rid,.slice d.mv.ms.a d.mv.ms.n d.mv.ms.c,.slice d.mv.its.a d.mv.its.n d.mv.its.c,.slice d.mv.lv.a d.mv.lv.n d.mv.lv.c,.slice d.mv.tx.a d.mv.tx.n d.mv.tx.c,.int .i64 d.m.rd,.int .i64 d.m.se,.int .i64 d.m.li,.int .i64 d.m.he,.int .i64 d.m.la.c,.int .i64 d.m.la.r,.int .i64 d.m.la.q,.int .i64 d.m.la.a,.int .i64 d.m.la.b,.slice d.mv.ws.a d.mv.ws.n d.mv.ws.c,.int .i64 d.most,.int .i64 d.old,.int .i64 d.jid,.slice d.js.a d.js.n d.js.c,.slice d.bs.a d.bs.n d.bs.c,.slice d.ls.a d.ls.n d.ls.c]):=LA.out.later b
              have BW:Hid (Below w.heap.size w t12):=qAa BW.out b
              have HR:Hid (DmR t12 d):=HR.out.stays b
              clear b
              obtain⟨R12,k12⟩: ∃R:Bool,(dmJ d)=R:=⟨_,rfl⟩
              rw[k12]
              have K12:Hid ((dmJ d)=R12):=k12
              clear k12
              cases R12 with
              | false =>
                have e:dmI d=false:=by
                  unfold dmI idB moB olB
                  simp only[hdd.out,K1.out,K7.out,K8.out,K9.out,K10.out,K11.out,K12.out,bne_self_eq_false,Bool.false_and,Bool.true_and,Bool.and_false,Bool.and_true,Bool.not_true,Bool.not_false,Bool.or_true,Bool.true_or,Bool.or_false,Bool.false_or,cond_true,cond_false]
                rw[hR.out]at e
                clear hR
                subst e
                go_wp2_with fail
                go_ret
                exact⟨rfl,BW.out⟩
              | true =>
                have e:dmI d=true:=by
                  unfold dmI idB moB olB
                  simp only[hdd.out,K1.out,K7.out,K8.out,K9.out,K10.out,K11.out,K12.out,bne_self_eq_false,Bool.false_and,Bool.true_and,Bool.and_false,Bool.and_true,Bool.not_true,Bool.not_false,Bool.or_true,Bool.true_or,Bool.or_false,Bool.false_or,cond_true,cond_false]
                rw[hR.out]at e
                clear hR
                subst e
                go_wp2_with fail
                go_ret
                exact⟨rfl,BW.out⟩
    | true =>
      have c0:=LA.out.cell 0
      simp only[List.getElem?_cons_succ,List.getElem?_cons_zero]at c0
      go_wp2_with fail
      refine(qAj d.id 1 5 _).mono ?_
      rintro e t13 ⟨rfl,b⟩
      have LA:Hid (Bx t13 w.heap.size 45 [.int .i64 d.id,.bool false,.int .i64 d.m.id,.int .i64 d.m.rid,.slice d.mv.ms.a d.mv.ms.n d.mv.ms.c,.slice d.mv.its.a d.mv.its.n d.mv.its.c,.slice d.mv.lv.a d.mv.lv.n d.mv.lv.c,.slice d.mv.tx.a d.mv.tx.n d.mv.tx.c,.int .i64 d.m.rd,.int .i64 d.m.se,.int .i64 d.m.li,.int .i64 d.m.he,.int .i64 d.m.la.c,.int .i64 d.m.la.r,.int .i64 d.m.la.q,.int .i64 d.m.la.a,.int .i64 d.m.la.b,.slice d.mv.ws.a d.mv.ws.n d.mv.ws.c,.int .i64 d.most,.int .i64 d.old,.int .i64 d.jid,.slice d.js.a d.js.n d.js.c,.slice d.bs.a d.bs.n d.bs.c,.slice d.ls.a d.ls.n d.ls.c]):=LA.out.later b
      have BW:Hid (Below w.heap.size w t13):=qAa BW.out b
      have HR:Hid (DmR t13 d):=HR.out.stays b
      clear b
      obtain⟨R13,k13⟩: ∃R:Bool,(decide (1≤d.id∧d.id≤5))=R:=⟨_,rfl⟩
      rw[k13]
      have K13:Hid ((decide (1≤d.id∧d.id≤5))=R13):=k13
      clear k13
      cases R13 with
      | false =>
        have e:dmI d=false:=by
          unfold dmI idB moB olB
          simp only[hdd.out,K1.out,K7.out,K13.out,bne_self_eq_false,Bool.false_and,Bool.true_and,Bool.and_false,Bool.and_true,Bool.not_true,Bool.not_false,Bool.or_true,Bool.true_or,Bool.or_false,Bool.false_or,cond_true,cond_false]
        rw[hR.out]at e
        clear hR
        subst e
        go_wp2_with fail
        go_ret
        exact⟨rfl,BW.out⟩
      | true =>
        have c18:=LA.out.cell 18
        simp only[List.getElem?_cons_succ,List.getElem?_cons_zero]at c18
        go_wp2_with fail
        refine(qAj d.most 0 9 _).mono ?_
        rintro e t14 ⟨rfl,b⟩
        have LA:Hid (Bx t14 w.heap.size 45 [.int .i64 d.id,.bool false,.int .i64 d.m.id,.int .i64 d.m.rid,.slice d.mv.ms.a d.mv.ms.n d.mv.ms.c,.slice d.mv.its.a d.mv.its.n d.mv.its.c,.slice d.mv.lv.a d.mv.lv.n d.mv.lv.c,.slice d.mv.tx.a d.mv.tx.n d.mv.tx.c,.int .i64 d.m.rd,.int .i64 d.m.se,.int .i64 d.m.li,.int .i64 d.m.he,.int .i64 d.m.la.c,.int .i64 d.m.la.r,.int .i64 d.m.la.q,.int .i64 d.m.la.a,.int .i64 d.m.la.b,.slice d.mv.ws.a d.mv.ws.n d.mv.ws.c,.int .i64 d.most,.int .i64 d.old,.int .i64 d.jid,.slice d.js.a d.js.n d.js.c,.slice d.bs.a d.bs.n d.bs.c,.slice d.ls.a d.ls.n d.ls.c]):=LA.out.later b
        have BW:Hid (Below w.heap.size w t14):=qAa BW.out b
        have HR:Hid (DmR t14 d):=HR.out.stays b
        clear b
        obtain⟨R14,k14⟩: ∃R:Bool,(decide (0≤d.most∧d.most≤9))=R:=⟨_,rfl⟩
        rw[k14]
        have K14:Hid ((decide (0≤d.most∧d.most≤9))=R14):=k14
        clear k14
        cases R14 with
        | false =>
          have e:dmI d=false:=by
            unfold dmI idB moB olB
            simp only[hdd.out,K1.out,K7.out,K13.out,K14.out,bne_self_eq_false,Bool.false_and,Bool.true_and,Bool.and_false,Bool.and_true,Bool.not_true,Bool.not_false,Bool.or_true,Bool.true_or,Bool.or_false,Bool.false_or,cond_true,cond_false]
          rw[hR.out]at e
          clear hR
          subst e
          go_wp2_with fail
          go_ret
          exact⟨rfl,BW.out⟩
        | true =>
          have c19:=LA.out.cell 19
          have c18:=LA.out.cell 18
          simp only[List.getElem?_cons_succ,List.getElem?_cons_zero]at c19 c18
          go_wp2_with fail
          refine(qAj d.old 0 d.most _).mono ?_
          rintro e t15 ⟨rfl,b⟩
          have LA:Hid (Bx t15 w.heap.size 45 [.int .i64 d.id,.bool false,.int .i64 d.m.id,.int .i64 d.m.rid,.slice d.mv.ms.a d.mv.ms.n d.mv.ms.c,.slice d.mv.its.a d.mv.its.n d.mv.its.c,.slice d.mv.lv.a d.mv.lv.n d.mv.lv.c,.slice d.mv.tx.a d.mv.tx.n d.mv.tx.c,.int .i64 d.m.rd,.int .i64 d.m.se,.int .i64 d.m.li,.int .i64 d.m.he,.int .i64 d.m.la.c,.int .i64 d.m.la.r,.int .i64 d.m.la.q,.int .i64 d.m.la.a,.int .i64 d.m.la.b,.slice d.mv.ws.a d.mv.ws.n d.mv.ws.c,.int .i64 d.most,.int .i64 d.old,.int .i64 d.jid,.slice d.js.a d.js.n d.js.c,.slice d.bs.a d.bs.n d.bs.c,.slice d.ls.a d.ls.n d.ls.c]):=LA.out.later b
          have BW:Hid (Below w.heap.size w t15):=qAa BW.out b
          have HR:Hid (DmR t15 d):=HR.out.stays b
          clear b
          obtain⟨R15,k15⟩: ∃R:Bool,(decide (0≤d.old∧d.old≤d.most))=R:=⟨_,rfl⟩
          rw[k15]
          have K15:Hid ((decide (0≤d.old∧d.old≤d.most))=R15):=k15
          clear k15
          cases R15 with
          | false =>
            have e:dmI d=false:=by
              unfold dmI idB moB olB
              simp only[hdd.out,K1.out,K7.out,K13.out,K14.out,K15.out,bne_self_eq_false,Bool.false_and,Bool.true_and,Bool.and_false,Bool.and_true,Bool.not_true,Bool.not_false,Bool.or_true,Bool.true_or,Bool.or_false,Bool.false_or,cond_true,cond_false]
            rw[hR.out]at e
            clear hR
            subst e
            go_wp2_with fail
            go_ret
            exact⟨rfl,BW.out⟩
          | true =>
            have c1:=LA.out.cell 1
            simp only[List.getElem?_cons_succ,List.getElem?_cons_zero]at c1
            go_wp2_with (first|(with_reducible refine qAh 45 _ rfl ?_))
            refine Stp.go ?_
            refine qAb rfl 45 _ rfl w.heap.size 0 rfl 45 _ LA.out [.int .i64 d.id,.bool false,.int .i64 d.m.id,.int .i64 d.m.rid,.slice d.mv.ms.a d.mv.ms.n d.mv.ms.c,.slice d.mv.its.a d.mv.its.n d.mv.its.c,.slice d.mv.lv.a d.mv.lv.n d.mv.lv.c,.slice d.mv.tx.a d.mv.tx.n d.mv.tx.c,.int .i64 d.m.rd,.int .i64 d.m.se,.int .i64 d.m.li,.int .i64 d.m.he,.int .i64 d.m.la.c,.int .i64 d.m.la.r,.int .i64 d.m.la.q,.int .i64 d.m.la.a,.int .i64 d.m.la.b,.slice d.mv.ws.a d.mv.ws.n d.mv.ws.c,.int .i64 d.most,.int .i64 d.old,.int .i64 d.jid,.slice d.js.a d.js.n d.js.c,.slice d.bs.a d.bs.n d.bs.c,.slice d.ls.a d.ls.n d.ls.c] rfl _ Tryz.underlying45 rfl Tryz.sizeDa ?_
            go_wp2_with fail
            refine(qDp d false _ hdd HR.out.mt hs.out.mt).mono ?_
            rintro e t16 ⟨rfl,b⟩
            have LA:Hid (Bx t16 w.heap.size 45 [.int .i64 d.id,.bool false,.int .i64 d.m.id,.int .i64 d.m.rid,.slice d.mv.ms.a d.mv.ms.n d.mv.ms.c,.slice d.mv.its.a d.mv.its.n d.mv.its.c,.slice d.mv.lv.a d.mv.lv.n d.mv.lv.c,.slice d.mv.tx.a d.mv.tx.n d.mv.tx.c,.int .i64 d.m.rd,.int .i64 d.m.se,.int .i64 d.m.li,.int .i64 d.m.he,.int .i64 d.m.la.c,.int .i64 d.m.la.r,.int .i64 d.m.la.q,.int .i64 d.m.la.a,.int .i64 d.m.la.b,.slice d.mv.ws.a d.mv.ws.n d.mv.ws.c,.int .i64 d.most,.int .i64 d.old,.int .i64 d.jid,.slice d.js.a d.js.n d.js.c,.slice d.bs.a d.bs.n d.bs.c,.slice d.ls.a d.ls.n d.ls.c]):=LA.out.later b
            have BW:Hid (Below w.heap.size w t16):=qAa BW.out b
            have HR:Hid (DmR t16 d):=HR.out.stays b
            clear b
            obtain⟨R16,k16⟩: ∃R:Bool,(dmM d)=R:=⟨_,rfl⟩
            rw[k16]
            have K16:Hid ((dmM d)=R16):=k16
            clear k16
            cases R16 with
            | false =>
              have e:dmI d=false:=by
                unfold dmI idB moB olB
                simp only[hdd.out,K1.out,K7.out,K13.out,K14.out,K15.out,K16.out,bne_self_eq_false,Bool.false_and,Bool.true_and,Bool.and_false,Bool.and_true,Bool.not_true,Bool.not_false,Bool.or_true,Bool.true_or,Bool.or_false,Bool.false_or,cond_true,cond_false]
              rw[hR.out]at e
              clear hR
              subst e
              go_wp2_with fail
              go_ret
              exact⟨rfl,BW.out⟩
            | true =>
              go_wp2_with (first|(with_reducible refine qAh 45 _ rfl ?_))
              refine Stp.go ?_
              refine qAb rfl 45 _ rfl w.heap.size 0 rfl 45 _ LA.out [.int .i64 d.id,.bool false,.int .i64 d.m.id,.int .i64 d.m.rid,.slice d.mv.ms.a d.mv.ms.n d.mv.ms.c,.slice d.mv.its.a d.mv.its.n d.mv.its.c,.slice d.mv.lv.a d.mv.lv.n d.mv.lv.c,.slice d.mv.tx.a d.mv.tx.n d.mv.tx.c,.int .i64 d.m.rd,.int .i64 d.m.se,.int .i64 d.m.li,.int .i64 d.m.he,.int .i64 d.m.la.c,.int .i64 d.m.la.r,.int .i64 d.m.la.q,.int .i64 d.m.la.a,.int .i64 d.m.la.b,.slice d.mv.ws.a d.mv.ws.n d.mv.ws.c,.int .i64 d.most,.int .i64 d.old,.int .i64 d.jid,.slice d.js.a d.js.n d.js.c,.slice d.bs.a d.bs.n d.bs.c,.slice d.ls.a d.ls.n d.ls.c] rfl _ Tryz.underlying45 rfl Tryz.sizeDa ?_
              go_wp2_with fail
              refine(qBq d _ hdd HR.out.jo HR.out.bu hs ⟨(of_decide_eq_true (show decide (0≤d.old∧d.old≤d.most)=true from K15.out)).1,by have h1:=(of_decide_eq_true (show decide (0≤d.old∧d.old≤d.most)=true from K15.out)).2;have h2:=(of_decide_eq_true (show decide (0≤d.most∧d.most≤9)=true from K14.out)).2;omega⟩).mono ?_
              rintro e t17 ⟨rfl,b⟩
              have LA:Hid (Bx t17 w.heap.size 45 [.int .i64 d.id,.bool false,.int .i64 d.m.id,.int .i64 d.m.rid,.slice d.mv.ms.a d.mv.ms.n d.mv.ms.c,.slice d.mv.its.a d.mv.its.n d.mv.its.c,.slice d.mv.lv.a d.mv.lv.n d.mv.lv.c,.slice d.mv.tx.a d.mv.tx.n d.mv.tx.c,.int .i64 d.m.rd,.int .i64 d.m.se,.int .i64 d.m.li,.int .i64 d.m.he,.int .i64 d.m.la.c,.int .i64 d.m.la.r,.int .i64 d.m.la.q,.int .i64 d.m.la.a,.int .i64 d.m.la.b,.slice d.mv.ws.a d.mv.ws.n d.mv.ws.c,.int .i64 d.most,.int .i64 d.old,.int .i64 d.jid,.slice d.js.a d.js.n d.js.c,.slice d.bs.a d.bs.n d.bs.c,.slice d.ls.a d.ls.n d.ls.c]):=LA.out.later b
              have BW:Hid (Below w.heap.size w t17):=qAa BW.out b
              have HR:Hid (DmR t17 d):=HR.out.stays b
              clear b
              obtain⟨R17,k17⟩: ∃R:Bool,(dmJ d)=R:=⟨_,rfl⟩
              rw[k17]
              have K17:Hid ((dmJ d)=R17):=k17
              clear k17
              cases R17 with
              | false =>
                have e:dmI d=false:=by
                  unfold dmI idB moB olB
                  simp only[hdd.out,K1.out,K7.out,K13.out,K14.out,K15.out,K16.out,K17.out,bne_self_eq_false,Bool.false_and,Bool.true_and,Bool.and_false,Bool.and_true,Bool.not_true,Bool.not_false,Bool.or_true,Bool.true_or,Bool.or_false,Bool.false_or,cond_true,cond_false]
                rw[hR.out]at e
                clear hR
                subst e
                go_wp2_with fail
                go_ret
                exact⟨rfl,BW.out⟩
              | true =>
                have e:dmI d=true:=by
                  unfold dmI idB moB olB
                  simp only[hdd.out,K1.out,K7.out,K13.out,K14.out,K15.out,K16.out,K17.out,bne_self_eq_false,Bool.false_and,Bool.true_and,Bool.and_false,Bool.and_true,Bool.not_true,Bool.not_false,Bool.or_true,Bool.true_or,Bool.or_false,Bool.false_or,cond_true,cond_false]
                rw[hR.out]at e
                clear hR
                subst e
                go_wp2_with fail
                go_ret
                exact⟨rfl,BW.out⟩
theorem qEx(d:Dm)(w:World)(hdd:Hid (d.dead=true))(h:Hid (DmR w d))(hs:Hid (DmS d)):Calls Tryz.prog 25 #[.agg #[.int .i64 d.id,.bool true,.int .i64 d.m.id,.int .i64 d.m.rid,.slice d.mv.ms.a d.mv.ms.n d.mv.ms.c,.slice d.mv.its.a d.mv.its.n d.mv.its.c,.slice d.mv.lv.a d.mv.lv.n d.mv.lv.c,.slice d.mv.tx.a d.mv.tx.n d.mv.tx.c,.int .i64 d.m.rd,.int .i64 d.m.se,.int .i64 d.m.li,.int .i64 d.m.he,.int .i64 d.m.la.c,.int .i64 d.m.la.r,.int .i64 d.m.la.q,.int .i64 d.m.la.a,.int .i64 d.m.la.b,.slice d.mv.ws.a d.mv.ws.n d.mv.ws.c,.int .i64 d.most,.int .i64 d.old,.int .i64 d.jid,.slice d.js.a d.js.n d.js.c,.slice d.bs.a d.bs.n d.bs.c,.slice d.ls.a d.ls.n d.ls.c]] w fun e w'=>e=.returned (.bool (dmS d))∧Below w.heap.size w w':=by
  obtain⟨R,hR0⟩: ∃R,dmS d=R:=⟨_,rfl⟩
  rw[hR0]
  have hR:Hid (dmS d=R):=hR0
  clear hR0
  have LA:Hid (Bx (w.alloc (.cells #[.int .i64 d.id,.bool true,.int .i64 d.m.id,.int .i64 d.m.rid,.slice d.mv.ms.a d.mv.ms.n d.mv.ms.c,.slice d.mv.its.a d.mv.its.n d.mv.its.c,.slice d.mv.lv.a d.mv.lv.n d.mv.lv.c,.slice d.mv.tx.a d.mv.tx.n d.mv.tx.c,.int .i64 d.m.rd,.int .i64 d.m.se,.int .i64 d.m.li,.int .i64 d.m.he,.int .i64 d.m.la.c,.int .i64 d.m.la.r,.int .i64 d.m.la.q,.int .i64 d.m.la.a,.int .i64 d.m.la.b,.slice d.mv.ws.a d.mv.ws.n d.mv.ws.c,.int .i64 d.most,.int .i64 d.old,.int .i64 d.jid,.slice d.js.a d.js.n d.js.c,.slice d.bs.a d.bs.n d.bs.c,.slice d.ls.a d.ls.n d.ls.c] 45)) w.heap.size 45 [.int .i64 d.id,.bool true,.int .i64 d.m.id,.int .i64 d.m.rid,.slice d.mv.ms.a d.mv.ms.n d.mv.ms.c,.slice d.mv.its.a d.mv.its.n d.mv.its.c,.slice d.mv.lv.a d.mv.lv.n d.mv.lv.c,.slice d.mv.tx.a d.mv.tx.n d.mv.tx.c,.int .i64 d.m.rd,.int .i64 d.m.se,.int .i64 d.m.li,.int .i64 d.m.he,.int .i64 d.m.la.c,.int .i64 d.m.la.r,.int .i64 d.m.la.q,.int .i64 d.m.la.a,.int .i64 d.m.la.b,.slice d.mv.ws.a d.mv.ws.n d.mv.ws.c,.int .i64 d.most,.int .i64 d.old,.int .i64 d.jid,.slice d.js.a d.js.n d.js.c,.slice d.bs.a d.bs.n d.bs.c,.slice d.ls.a d.ls.n d.ls.c]):=by
    have h:=Bx.new w 45 [.int .i64 d.id,.bool true,.int .i64 d.m.id,.int .i64 d.m.rid,.slice d.mv.ms.a d.mv.ms.n d.mv.ms.c,.slice d.mv.its.a d.mv.its.n d.mv.its.c,.slice d.mv.lv.a d.mv.lv.n d.mv.lv.c,.slice d.mv.tx.a d.mv.tx.n d.mv.tx.c,.int .i64 d.m.rd,.int .i64 d.m.se,.int .i64 d.m.li,.int .i64 d.m.he,.int .i64 d.m.la.c,.int .i64 d.m.la.r,.int .i64 d.m.la.q,.int .i64 d.m.la.a,.int .i64 d.m.la.b,.slice d.mv.ws.a d.mv.ws.n d.mv.ws.c,.int .i64 d.most,.int .i64 d.old,.int .i64 d.jid,.slice d.js.a d.js.n d.js.c,.slice d.bs.a d.bs.n d.bs.c,.slice d.ls.a d.ls.n d.ls.c]
    exact h
  have BW:Hid (Below w.heap.size w (w.alloc (.cells #[.int .i64 d.id,.bool true,.int .i64 d.m.id,.int .i64 d.m.rid,.slice d.mv.ms.a d.mv.ms.n d.mv.ms.c,.slice d.mv.its.a d.mv.its.n d.mv.its.c,.slice d.mv.lv.a d.mv.lv.n d.mv.lv.c,.slice d.mv.tx.a d.mv.tx.n d.mv.tx.c,.int .i64 d.m.rd,.int .i64 d.m.se,.int .i64 d.m.li,.int .i64 d.m.he,.int .i64 d.m.la.c,.int .i64 d.m.la.r,.int .i64 d.m.la.q,.int .i64 d.m.la.a,.int .i64 d.m.la.b,.slice d.mv.ws.a d.mv.ws.n d.mv.ws.c,.int .i64 d.most,.int .i64 d.old,.int .i64 d.jid,.slice d.js.a d.js.n d.js.c,.slice d.bs.a d.bs.n d.bs.c,.slice d.ls.a d.ls.n d.ls.c] 45))):=((Below.refl _ _).alloc (by simp) _)
  have HR:Hid (DmR (w.alloc (.cells #[.int .i64 d.id,.bool true,.int .i64 d.m.id,.int .i64 d.m.rid,.slice d.mv.ms.a d.mv.ms.n d.mv.ms.c,.slice d.mv.its.a d.mv.its.n d.mv.its.c,.slice d.mv.lv.a d.mv.lv.n d.mv.lv.c,.slice d.mv.tx.a d.mv.tx.n d.mv.tx.c,.int .i64 d.m.rd,.int .i64 d.m.se,.int .i64 d.m.li,.int .i64 d.m.he,.int .i64 d.m.la.c,.int .i64 d.m.la.r,.int .i64 d.m.la.q,.int .i64 d.m.la.a,.int .i64 d.m.la.b,.slice d.mv.ws.a d.mv.ws.n d.mv.ws.c,.int .i64 d.most,.int .i64 d.old,.int .i64 d.jid,.slice d.js.a d.js.n d.js.c,.slice d.bs.a d.bs.n d.bs.c,.slice d.ls.a d.ls.n d.ls.c] 45)) d):=h.out.stays BW.out
  have HW:Hid (d.mv.ws.n=d.m.la.ws.length):=h.out.mt.ws.len
  have HJN:Hid (d.bs.n=d.bu.length):=h.out.bu.1
  clear h
  go_enter Tryz.func25,Tryz.ntmps25
  have c0:=LA.out.cell 0
  simp only[List.getElem?_cons_succ,List.getElem?_cons_zero]at c0
  go_wp2_with fail
  refine(in_b d.id 1 5 _).mono ?_
  rintro e t1 ⟨rfl,b⟩
  have LA:Hid (Bx t1 w.heap.size 45 [.int .i64 d.id,.bool true,.int .i64 d.m.id,.int .i64 d.m.rid,.slice d.mv.ms.a d.mv.ms.n d.mv.ms.c,.slice d.mv.its.a d.mv.its.n d.mv.its.c,.slice d.mv.lv.a d.mv.lv.n d.mv.lv.c,.slice d.mv.tx.a d.mv.tx.n d.mv.tx.c,.int .i64 d.m.rd,.int .i64 d.m.se,.int .i64 d.m.li,.int .i64 d.m.he,.int .i64 d.m.la.c,.int .i64 d.m.la.r,.int .i64 d.m.la.q,.int .i64 d.m.la.a,.int .i64 d.m.la.b,.slice d.mv.ws.a d.mv.ws.n d.mv.ws.c,.int .i64 d.most,.int .i64 d.old,.int .i64 d.jid,.slice d.js.a d.js.n d.js.c,.slice d.bs.a d.bs.n d.bs.c,.slice d.ls.a d.ls.n d.ls.c]):=LA.out.later b
  have BW:Hid (Below w.heap.size w t1):=qAa BW.out b
  have HR:Hid (DmR t1 d):=HR.out.stays b
  clear b
  obtain⟨R1,k1⟩: ∃R:Bool,(decide (1≤d.id∧d.id≤5))=R:=⟨_,rfl⟩
  rw[k1]
  have K1:Hid ((decide (1≤d.id∧d.id≤5))=R1):=k1
  clear k1
  cases R1 with
  | false =>
    have e:dmS d=false:=by
      unfold dmS idB moB jnB
      simp only[hdd.out,K1.out,bne_self_eq_false,Bool.false_and,Bool.true_and,Bool.and_false,Bool.and_true,Bool.not_true,Bool.not_false,Bool.or_true,Bool.true_or,Bool.or_false,Bool.false_or,cond_true,cond_false]
    rw[hR.out]at e
    clear hR
    subst e
    go_wp2_with fail
    go_ret
    exact⟨rfl,BW.out⟩
  | true =>
    have c18:=LA.out.cell 18
    simp only[List.getElem?_cons_succ,List.getElem?_cons_zero]at c18
    go_wp2_with fail
    refine(in_b d.most 0 9 _).mono ?_
    rintro e t2 ⟨rfl,b⟩
    have LA:Hid (Bx t2 w.heap.size 45 [.int .i64 d.id,.bool true,.int .i64 d.m.id,.int .i64 d.m.rid,.slice d.mv.ms.a d.mv.ms.n d.mv.ms.c,.slice d.mv.its.a d.mv.its.n d.mv.its.c,.slice d.mv.lv.a d.mv.lv.n d.mv.lv.c,.slice d.mv.tx.a d.mv.tx.n d.mv.tx.c,.int .i64 d.m.rd,.int .i64 d.m.se,.int .i64 d.m.li,.int .i64 d.m.he,.int .i64 d.m.la.c,.int .i64 d.m.la.r,.int .i64 d.m.la.q,.int .i64 d.m.la.a,.int .i64 d.m.la.b,.slice d.mv.ws.a d.mv.ws.n d.mv.ws.c,.int .i64 d.most,.int .i64 d.old,.int .i64 d.jid,.slice d.js.a d.js.n d.js.c,.slice d.bs.a d.bs.n d.bs.c,.slice d.ls.a d.ls.n d.ls.c]):=LA.out.later b
    have BW:Hid (Below w.heap.size w t2):=qAa BW.out b
    have HR:Hid (DmR t2 d):=HR.out.stays b
    clear b
    obtain⟨R2,k2⟩: ∃R:Bool,(decide (0≤d.most∧d.most≤9))=R:=⟨_,rfl⟩
    rw[k2]
    have K2:Hid ((decide (0≤d.most∧d.most≤9))=R2):=k2
    clear k2
    cases R2 with
    | false =>
      have e:dmS d=false:=by
        unfold dmS idB moB jnB
        simp only[hdd.out,K1.out,K2.out,bne_self_eq_false,Bool.false_and,Bool.true_and,Bool.and_false,Bool.and_true,Bool.not_true,Bool.not_false,Bool.or_true,Bool.true_or,Bool.or_false,Bool.false_or,cond_true,cond_false]
      rw[hR.out]at e
      clear hR
      subst e
      go_wp2_with fail
      go_ret
      exact⟨rfl,BW.out⟩
    | true =>
      have c1:=LA.out.cell 1
      simp only[List.getElem?_cons_succ,List.getElem?_cons_zero]at c1
      go_wp2_with (first|(with_reducible refine qAh 41 _ rfl ?_))
      refine Stp.go ?_
      refine qAb rfl 41 _ rfl w.heap.size 2 rfl 45 _ LA.out [.int .i64 d.m.id,.int .i64 d.m.rid,.slice d.mv.ms.a d.mv.ms.n d.mv.ms.c,.slice d.mv.its.a d.mv.its.n d.mv.its.c,.slice d.mv.lv.a d.mv.lv.n d.mv.lv.c,.slice d.mv.tx.a d.mv.tx.n d.mv.tx.c,.int .i64 d.m.rd,.int .i64 d.m.se,.int .i64 d.m.li,.int .i64 d.m.he,.int .i64 d.m.la.c,.int .i64 d.m.la.r,.int .i64 d.m.la.q,.int .i64 d.m.la.a,.int .i64 d.m.la.b,.slice d.mv.ws.a d.mv.ws.n d.mv.ws.c] rfl _ Tryz.underlying41 rfl Tryz.sizeM ?_
      go_wp2_with fail
      refine(qDa d.m d.mv _ HW.out).mono ?_
      rintro e t3 ⟨rfl,b⟩
      have LA:Hid (Bx t3 w.heap.size 45 [.int .i64 d.id,.bool true,.int .i64 d.m.id,.int .i64 d.m.rid,.slice d.mv.ms.a d.mv.ms.n d.mv.ms.c,.slice d.mv.its.a d.mv.its.n d.mv.its.c,.slice d.mv.lv.a d.mv.lv.n d.mv.lv.c,.slice d.mv.tx.a d.mv.tx.n d.mv.tx.c,.int .i64 d.m.rd,.int .i64 d.m.se,.int .i64 d.m.li,.int .i64 d.m.he,.int .i64 d.m.la.c,.int .i64 d.m.la.r,.int .i64 d.m.la.q,.int .i64 d.m.la.a,.int .i64 d.m.la.b,.slice d.mv.ws.a d.mv.ws.n d.mv.ws.c,.int .i64 d.most,.int .i64 d.old,.int .i64 d.jid,.slice d.js.a d.js.n d.js.c,.slice d.bs.a d.bs.n d.bs.c,.slice d.ls.a d.ls.n d.ls.c]):=LA.out.later b
      have BW:Hid (Below w.heap.size w t3):=qAa BW.out b
      have HR:Hid (DmR t3 d):=HR.out.stays b
      clear b
      obtain⟨R3,k3⟩: ∃R:Bool,(nmS d.m d.mv)=R:=⟨_,rfl⟩
      rw[k3]
      have K3:Hid ((nmS d.m d.mv)=R3):=k3
      clear k3
      cases R3 with
      | false =>
        have e:dmS d=false:=by
          unfold dmS idB moB jnB
          simp only[hdd.out,K1.out,K2.out,K3.out,bne_self_eq_false,Bool.false_and,Bool.true_and,Bool.and_false,Bool.and_true,Bool.not_true,Bool.not_false,Bool.or_true,Bool.true_or,Bool.or_false,Bool.false_or,cond_true,cond_false]
        rw[hR.out]at e
        clear hR
        subst e
        go_wp2_with fail
        go_ret
        exact⟨rfl,BW.out⟩
      | true =>
        have c19:=LA.out.cell 19
        simp only[List.getElem?_cons_succ,List.getElem?_cons_zero]at c19
        obtain⟨R4,k4⟩: ∃R:Bool,(d.old==0)=R:=⟨_,rfl⟩
        have K4:Hid ((d.old==0)=R4):=k4
        cases R4 with
        | false =>
          have e:dmS d=false:=by
            unfold dmS idB moB jnB
            simp only[hdd.out,K1.out,K2.out,K3.out,K4.out,bne_self_eq_false,Bool.false_and,Bool.true_and,Bool.and_false,Bool.and_true,Bool.not_true,Bool.not_false,Bool.or_true,Bool.true_or,Bool.or_false,Bool.false_or,cond_true,cond_false]
          rw[hR.out]at e
          clear hR
          subst e
          go_wp2_with fail
          go_ret
          exact⟨rfl,BW.out⟩
        | true =>
          go_wp2_with (first|(with_reducible refine qAh 37 _ rfl ?_))
          refine Stp.go ?_
          refine qAb rfl 37 _ rfl w.heap.size 20 rfl 45 _ LA.out [.int .i64 d.jid,.slice d.js.a d.js.n d.js.c] rfl _ Tryz.underlying37 rfl Tryz.sizeR ?_
          go_wp2_with fail
          refine(qCi d.jid d.js _).mono ?_
          rintro e t5 ⟨rfl,b⟩
          have LA:Hid (Bx t5 w.heap.size 45 [.int .i64 d.id,.bool true,.int .i64 d.m.id,.int .i64 d.m.rid,.slice d.mv.ms.a d.mv.ms.n d.mv.ms.c,.slice d.mv.its.a d.mv.its.n d.mv.its.c,.slice d.mv.lv.a d.mv.lv.n d.mv.lv.c,.slice d.mv.tx.a d.mv.tx.n d.mv.tx.c,.int .i64 d.m.rd,.int .i64 d.m.se,.int .i64 d.m.li,.int .i64 d.m.he,.int .i64 d.m.la.c,.int .i64 d.m.la.r,.int .i64 d.m.la.q,.int .i64 d.m.la.a,.int .i64 d.m.la.b,.slice d.mv.ws.a d.mv.ws.n d.mv.ws.c,.int .i64 d.most,.int .i64 d.old,.int .i64 d.jid,.slice d.js.a d.js.n d.js.c,.slice d.bs.a d.bs.n d.bs.c,.slice d.ls.a d.ls.n d.ls.c]):=LA.out.later b
          have BW:Hid (Below w.heap.size w t5):=qAa BW.out b
          have HR:Hid (DmR t5 d):=HR.out.stays b
          clear b
          obtain⟨R5,k5⟩: ∃R:Bool,(nrB d.jid d.js.n)=R:=⟨_,rfl⟩
          rw[k5]
          have K5:Hid ((nrB d.jid d.js.n)=R5):=k5
          clear k5
          cases R5 with
          | false =>
            have e:dmS d=false:=by
              unfold dmS idB moB jnB
              simp only[hdd.out,K1.out,K2.out,K3.out,K4.out,K5.out,bne_self_eq_false,Bool.false_and,Bool.true_and,Bool.and_false,Bool.and_true,Bool.not_true,Bool.not_false,Bool.or_true,Bool.true_or,Bool.or_false,Bool.false_or,cond_true,cond_false]
            rw[hR.out]at e
            clear hR
            subst e
            go_wp2_with fail
            go_ret
            exact⟨rfl,BW.out⟩
          | true =>
            have c22:=LA.out.cell 22
            simp only[List.getElem?_cons_succ,List.getElem?_cons_zero]at c22
            obtain⟨R6,k6⟩: ∃R:Bool,((d.bs.n:Int)==0)=R:=⟨_,rfl⟩
            have K6:Hid (((d.bs.n:Int)==0)=R6):=k6
            cases R6 with
            | false =>
              have e:dmS d=false:=by
                unfold dmS idB moB jnB
                simp only[hdd.out,K1.out,K2.out,K3.out,K4.out,K5.out,K6.out,bne_self_eq_false,Bool.false_and,Bool.true_and,Bool.and_false,Bool.and_true,Bool.not_true,Bool.not_false,Bool.or_true,Bool.true_or,Bool.or_false,Bool.false_or,cond_true,cond_false]
              rw[hR.out]at e
              clear hR
              subst e
              go_wp2_with fail
              go_ret
              exact⟨rfl,BW.out⟩
            | true =>
              have e:dmS d=true:=by
                unfold dmS idB moB jnB
                simp only[hdd.out,K1.out,K2.out,K3.out,K4.out,K5.out,K6.out,bne_self_eq_false,Bool.false_and,Bool.true_and,Bool.and_false,Bool.and_true,Bool.not_true,Bool.not_false,Bool.or_true,Bool.true_or,Bool.or_false,Bool.false_or,cond_true,cond_false]
              rw[hR.out]at e
              clear hR
              subst e
              go_wp2_with fail
              go_ret
              exact⟨rfl,BW.out⟩
end Go.Proofs.YtifkopggmjbbeaaGreat
