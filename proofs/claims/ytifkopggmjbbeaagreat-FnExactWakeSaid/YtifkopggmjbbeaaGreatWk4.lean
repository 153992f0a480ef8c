/- Joined texts: CT1 CT3 CIt CJ1. -/
import Derived.Test.YtifkopggmjbbeaaGreatWk2
import Derived.Test.YtifkopggmjbbeaaGreatWk3
import Derived.Test.YtifkopggmjbbeaaGreatWk1
import Derived.Deep.RegionHeld3
import Derived.Deep.QuietTactic
import Derived.Laws.MakeOwn
import Derived.Below
set_option maxRecDepth 100000
set_option maxHeartbeats 16000000
/- The walks over both TokenOk. -/
namespace Go.Proofs.YtifkopggmjbbeaaGreat
open Go.RowKit Pl
set_option linter.unusedVariables false
theorem qAk{B:Nat}{a w:World}(h:Below B a w)(n:Nat):Below B a (w.drewN n):=h.trans ⟨rfl,rfl,rfl,Nat.le_refl _,fun _ _=>rfl⟩
theorem wants_any(ao:Option Addr)(cap:Nat)(ws:List Int)(q:Int)(w:World)(hx:Hid (IntsAt w ao ws))(hl:ws.length≤1048576):
    Calls Tryz.prog 150 #[.slice ao ws.length cap,.int .i64 q] w fun e w'=>e=.returned (.bool (wB ws q))∧w'=w:=by
  unfold wB
  by_cases h20:20<ws.length
  · have hd : decide ((ws.length : Int) ≤ 20) = false := by simp; omega
    rw[hd]
    go_enter Tryz.func150,Tryz.ntmps150
    go_wp2
    go_ret
    exact⟨rfl,rfl⟩
  have hd:decide ((ws.length:Int)≤20)=true:=by simp;omega
  rw[hd,Bool.true_and]
  clear hd
  go_enter Tryz.func150,Tryz.ntmps150
  go_wp2
  go_loop [5,13] (fun L i=>∃(k:Nat) (l:Int),k≤ws.length∧L=.int .i64 l∧i=.int .i64 k∧Hid (WSt ws q k l)) (fun _ i=>ws.length - (intOf i).toNat)
  case atStart=>exact⟨0,0,Nat.zero_le _,rfl,rfl,qDe ws q⟩
  case round=>
    obtain⟨k,l,hk,rfl,rfl,hst⟩:=hrel
    by_cases hlt:k<ws.length
    · obtain ⟨b, off, rfl, hbb, hc⟩ := hx.out k hlt
      obtain⟨x,ht⟩: ∃x,x=ws[k]:=⟨_,rfl⟩
      rw[←ht]at hc
      have HT:Hid (x=ws[k]):=ht
      clear ht
      by_cases h1:x≤l
      · go_wp2
        go_ret
        exact⟨by rw[qBz hst.out hlt HT.out (.inl h1)];rfl,rfl⟩
      · by_cases h2 : q < x
        · go_wp2
          go_ret
          exact⟨by rw[qBz hst.out hlt HT.out (.inr h2)];simp,rfl⟩
        · go_wp2
          go_round
          case rel=>exact⟨k+1,x,by omega,rfl,by go_num,qCu hst.out hlt HT.out (by omega) (by omega)⟩
          case measure=>simp[intOf];omega
    · go_wp2
      go_ret
      exact⟨by rw[qGg hst.out (by omega)];rfl,rfl⟩
/-- the block g is a token. -/
def TokAt(w:World)(g:Nat)(c r q a b:Int)(v:Value):Prop:=w.heap[g]? =some (.cells #[.int .i64 c,.int .i64 r,.int .i64 q,.int .i64 a,.int .i64 b,v] 39 (0,0))
theorem TokAt.cells{w:World}{g:Nat}{c r q a b:Int}{v:Value}(h:TokAt w g c r q a b v):w.cell? ⟨g,0,none⟩=some (.int .i64 c)∧w.cell? ⟨g,1,none⟩=some (.int .i64 r)∧w.cell? ⟨g,2,none⟩=some (.int .i64 q)∧w.cell? ⟨g,3,none⟩=some (.int .i64 a)∧w.cell? ⟨g,4,none⟩=some (.int .i64 b)∧w.cell? ⟨g,5,none⟩=some v:=
  ⟨by rw[cell_of_row w g 0 _ 39 (0,0) h];rfl,by rw[cell_of_row w g 1 _ 39 (0,0) h];rfl,by rw[cell_of_row w g 2 _ 39 (0,0) h];rfl,by rw[cell_of_row w g 3 _ 39 (0,0) h];rfl,by rw[cell_of_row w g 4 _ 39 (0,0) h];rfl,by rw[cell_of_row w g 5 _ 39 (0,0) h];rfl⟩
theorem TokAt.stays{w w':World}{B g:Nat}{c r q a b:Int}{v:Value}(h:TokAt w g c r q a b v)(hb:Below B w w')(hg:g<B):TokAt w' g c r q a b v:=(hb.block g hg).trans h
theorem TokAt.lt{w:World}{g:Nat}{c r q a b:Int}{v:Value}(h:TokAt w g c r q a b v):g<w.heap.size:=(Array.getElem?_eq_some_iff.1 h).1
theorem TokAt.frozen{w:World}{g:Nat}{c r q a b:Int}{v:Value}(h:TokAt w g c r q a b v)(i:Nat):w.frozen? ⟨g,i,none⟩=false:=frozen_of_row w g i _ 39 h
theorem tokenOk_0(c r q a b:Int)(ao:Option Addr)(cap:Nat)(ws:List Int)(w:World)(h1:decide (1≤c∧c≤9)=false):
    Calls Tryz.prog 136 #[.agg #[.int .i64 c,.int .i64 r,.int .i64 q,.int .i64 a,.int .i64 b,.slice ao ws.length cap]] w fun e w'=>e=.returned (.bool false)∧Below w.heap.size w w':=by
  go_enter Tryz.func136,Tryz.ntmps136
  go_wp2_with fail
  refine(qAe _ h1).mono ?_
  rintro e w1 ⟨rfl,rfl⟩
  go_wp2_with fail
  go_ret
  exact⟨rfl,(Below.refl _ _).alloc (Nat.le_refl _) _⟩
theorem tokenOk_1(c r q a b:Int)(ao:Option Addr)(cap:Nat)(ws:List Int)(w:World)(h1:decide (1≤c∧c≤9)=true)(h2:decide (1≤r∧r≤1000000000)=false):
    Calls Tryz.prog 136 #[.agg #[.int .i64 c,.int .i64 r,.int .i64 q,.int .i64 a,.int .i64 b,.slice ao ws.length cap]] w fun e w'=>e=.returned (.bool false)∧Below w.heap.size w w':=by
  go_enter Tryz.func136,Tryz.ntmps136
  go_wp2_with fail
  refine(qAe _ h1).mono ?_
  rintro e w1 ⟨rfl,rfl⟩
  go_wp2_with fail
  refine(qAe _ h2).mono ?_
  rintro e w1 ⟨rfl,rfl⟩
  go_wp2_with fail
  go_ret
  exact⟨rfl,(Below.refl _ _).alloc (Nat.le_refl _) _⟩
theorem tokenOk_2(c r q a b:Int)(ao:Option Addr)(cap:Nat)(ws:List Int)(w:World)(h1:decide (1≤c∧c≤9)=true)(h2:decide (1≤r∧r≤1000000000)=true)(h3:decide (0≤q∧q≤60)=false):
    Calls Tryz.prog 136 #[.agg #[.int .i64 c,.int .i64 r,.int .i64 q,.int .i64 a,.int .i64 b,.slice ao ws.length cap]] w fun e w'=>e=.returned (.bool false)∧Below w.heap.size w w':=by
  go_enter Tryz.func136,Tryz.ntmps136
  go_wp2_with fail
  refine(qAe _ h1).mono ?_
  rintro e w1 ⟨rfl,rfl⟩
  go_wp2_with fail
  refine(qAe _ h2).mono ?_
  rintro e w1 ⟨rfl,rfl⟩
  go_wp2_with fail
  refine(qAe _ h3).mono ?_
  rintro e w1 ⟨rfl,rfl⟩
  go_wp2_with fail
  go_ret
  exact⟨rfl,(Below.refl _ _).alloc (Nat.le_refl _) _⟩
theorem tokenOk_3(c r q a b:Int)(ao:Option Addr)(cap:Nat)(ws:List Int)(w:World)(h1:decide (1≤c∧c≤9)=true)(h2:decide (1≤r∧r≤1000000000)=true)(h3:decide (0≤q∧q≤60)=true)(h4:decide (0≤a∧a≤q)=false):
    Calls Tryz.prog 136 #[.agg #[.int .i64 c,.int .i64 r,.int .i64 q,.int .i64 a,.int .i64 b,.slice ao ws.length cap]] w fun e w'=>e=.returned (.bool false)∧Below w.heap.size w w':=by
  go_enter Tryz.func136,Tryz.ntmps136
  go_wp2_with fail
  refine(qAe _ h1).mono ?_
  rintro e w1 ⟨rfl,rfl⟩
  go_wp2_with fail
  refine(qAe _ h2).mono ?_
  rintro e w1 ⟨rfl,rfl⟩
  go_wp2_with fail
  refine(qAe _ h3).mono ?_
  rintro e w1 ⟨rfl,rfl⟩
  go_wp2_with fail
  refine(qAe _ h4).mono ?_
  rintro e w1 ⟨rfl,rfl⟩
  go_wp2_with fail
  go_ret
  exact⟨rfl,(Below.refl _ _).alloc (Nat.le_refl _) _⟩
theorem tokenOk_4(c r q a b:Int)(ao:Option Addr)(cap:Nat)(ws:List Int)(w:World)(h1:decide (1≤c∧c≤9)=true)(h2:decide (1≤r∧r≤1000000000)=true)(h3:decide (0≤q∧q≤60)=true)(h4:decide (0≤a∧a≤q)=true)(h5:decide (0≤b∧b≤5)=false):
    Calls Tryz.prog 136 #[.agg #[.int .i64 c,.int .i64 r,.int .i64 q,.int .i64 a,.int .i64 b,.slice ao ws.length cap]] w fun e w'=>e=.returned (.bool false)∧Below w.heap.size w w':=by
  go_enter Tryz.func136,Tryz.ntmps136
  go_wp2_with fail
  refine(qAe _ h1).mono ?_
  rintro e w1 ⟨rfl,rfl⟩
  go_wp2_with fail
  refine(qAe _ h2).mono ?_
  rintro e w1 ⟨rfl,rfl⟩
  go_wp2_with fail
  refine(qAe _ h3).mono ?_
  rintro e w1 ⟨rfl,rfl⟩
  go_wp2_with fail
  refine(qAe _ h4).mono ?_
  rintro e w1 ⟨rfl,rfl⟩
  go_wp2_with fail
  refine(qAe _ h5).mono ?_
  rintro e w1 ⟨rfl,rfl⟩
  go_wp2_with fail
  go_ret
  exact⟨rfl,(Below.refl _ _).alloc (Nat.le_refl _) _⟩
theorem tokenOk_5(c r q a b:Int)(ao:Option Addr)(cap:Nat)(ws:List Int)(w:World)(hx:Hid (IntsAt w ao ws))(hl:ws.length≤1048576)(h1:decide (1≤c∧c≤9)=true)(h2:decide (1≤r∧r≤1000000000)=true)(h3:decide (0≤q∧q≤60)=true)(h4:decide (0≤a∧a≤q)=true)(h5:decide (0≤b∧b≤5)=true):
    Calls Tryz.prog 136 #[.agg #[.int .i64 c,.int .i64 r,.int .i64 q,.int .i64 a,.int .i64 b,.slice ao ws.length cap]] w fun e w'=>e=.returned (.bool (wB ws q))∧Below w.heap.size w w':=by
  have HX: ∀o,Hid (IntsAt (w.alloc o) ao ws):=fun o=>hx.out.stays ((Below.refl _ _).alloc (Nat.le_refl _) _)
  go_enter Tryz.func136,Tryz.ntmps136
  go_wp2_with fail
  refine(qAe _ h1).mono ?_
  rintro e w1 ⟨rfl,rfl⟩
  go_wp2_with fail
  refine(qAe _ h2).mono ?_
  rintro e w1 ⟨rfl,rfl⟩
  go_wp2_with fail
  refine(qAe _ h3).mono ?_
  rintro e w1 ⟨rfl,rfl⟩
  go_wp2_with fail
  refine(qAe _ h4).mono ?_
  rintro e w1 ⟨rfl,rfl⟩
  go_wp2_with fail
  refine(qAe _ h5).mono ?_
  rintro e w1 ⟨rfl,rfl⟩
  go_wp2_with fail
  refine(wants_any ao cap ws q _ (HX _) hl).mono ?_
  rintro e w1 ⟨rfl,rfl⟩
  go_wp2_with fail
  go_ret
  exact⟨rfl,(Below.refl _ _).alloc (Nat.le_refl _) _⟩
theorem tokenOk_any(c r q a b:Int)(ao:Option Addr)(cap:Nat)(ws:List Int)(w:World)(hx:Hid (IntsAt w ao ws))(hl:ws.length≤1048576):
    Calls Tryz.prog 136 #[.agg #[.int .i64 c,.int .i64 r,.int .i64 q,.int .i64 a,.int .i64 b,.slice ao ws.length cap]] w fun e w'=>e=.returned (.bool (tkB c r q a b ws))∧Below w.heap.size w w':=by
  unfold tkB
  cases h1:decide (1≤c∧c≤9)with
  |false=>exact tokenOk_0 c r q a b ao cap ws w h1
  | true =>
    cases h2:decide (1≤r∧r≤1000000000)with
    |false=>exact tokenOk_1 c r q a b ao cap ws w h1 h2
    | true =>
      cases h3:decide (0≤q∧q≤60)with
      |false=>exact tokenOk_2 c r q a b ao cap ws w h1 h2 h3
      | true =>
        cases h4:decide (0≤a∧a≤q)with
        |false=>exact tokenOk_3 c r q a b ao cap ws w h1 h2 h3 h4
        | true =>
          cases h5:decide (0≤b∧b≤5)with
          |false=>exact tokenOk_4 c r q a b ao cap ws w h1 h2 h3 h4 h5
          |true=>exact tokenOk_5 c r q a b ao cap ws w hx hl h1 h2 h3 h4 h5
theorem spTokenOk_0(c r q a b:Int)(ao:Option Addr)(cap:Nat)(ws:List Int)(w:World)(h1:decide (1≤c∧c≤9)=false):
    Calls Tryz.prog 107 #[.agg #[.int .i64 c,.int .i64 r,.int .i64 q,.int .i64 a,.int .i64 b,.slice ao ws.length cap]] w fun e w'=>e=.returned (.bool false)∧Below w.heap.size w w':=by
  go_enter Tryz.func107,Tryz.ntmps107
  go_wp2_with fail
  refine(qAi _ h1).mono ?_
  rintro e w1 ⟨rfl,rfl⟩
  go_wp2_with fail
  go_ret
  exact⟨rfl,(Below.refl _ _).alloc (Nat.le_refl _) _⟩
theorem spTokenOk_1(c r q a b:Int)(ao:Option Addr)(cap:Nat)(ws:List Int)(w:World)(h1:decide (1≤c∧c≤9)=true)(h2:decide (1≤r∧r≤1000000000)=false):
    Calls Tryz.prog 107 #[.agg #[.int .i64 c,.int .i64 r,.int .i64 q,.int .i64 a,.int .i64 b,.slice ao ws.length cap]] w fun e w'=>e=.returned (.bool false)∧Below w.heap.size w w':=by
  go_enter Tryz.func107,Tryz.ntmps107
  go_wp2_with fail
  refine(qAi _ h1).mono ?_
  rintro e w1 ⟨rfl,rfl⟩
  go_wp2_with fail
  refine(qAi _ h2).mono ?_
  rintro e w1 ⟨rfl,rfl⟩
  go_wp2_with fail
  go_ret
  exact⟨rfl,(Below.refl _ _).alloc (Nat.le_refl _) _⟩
theorem spTokenOk_2(c r q a b:Int)(ao:Option Addr)(cap:Nat)(ws:List Int)(w:World)(h1:decide (1≤c∧c≤9)=true)(h2:decide (1≤r∧r≤1000000000)=true)(h3:decide (0≤q∧q≤60)=false):
    Calls Tryz.prog 107 #[.agg #[.int .i64 c,.int .i64 r,.int .i64 q,.int .i64 a,.int .i64 b,.slice ao ws.length cap]] w fun e w'=>e=.returned (.bool false)∧Below w.heap.size w w':=by
  go_enter Tryz.func107,Tryz.ntmps107
  go_wp2_with fail
  refine(qAi _ h1).mono ?_
  rintro e w1 ⟨rfl,rfl⟩
  go_wp2_with fail
  refine(qAi _ h2).mono ?_
  rintro e w1 ⟨rfl,rfl⟩
  go_wp2_with fail
  refine(qAi _ h3).mono ?_
  rintro e w1 ⟨rfl,rfl⟩
  go_wp2_with fail
  go_ret
  exact⟨rfl,(Below.refl _ _).alloc (Nat.le_refl _) _⟩
theorem spTokenOk_3(c r q a b:Int)(ao:Option Addr)(cap:Nat)(ws:List Int)(w:World)(h1:decide (1≤c∧c≤9)=true)(h2:decide (1≤r∧r≤1000000000)=true)(h3:decide (0≤q∧q≤60)=true)(h4:decide (0≤a∧a≤q)=false):
    Calls Tryz.prog 107 #[.agg #[.int .i64 c,.int .i64 r,.int .i64 q,.int .i64 a,.int .i64 b,.slice ao ws.length cap]] w fun e w'=>e=.returned (.bool false)∧Below w.heap.size w w':=by
  go_enter Tryz.func107,Tryz.ntmps107
  go_wp2_with fail
  refine(qAi _ h1).mono ?_
  rintro e w1 ⟨rfl,rfl⟩
  go_wp2_with fail
  refine(qAi _ h2).mono ?_
  rintro e w1 ⟨rfl,rfl⟩
  go_wp2_with fail
  refine(qAi _ h3).mono ?_
  rintro e w1 ⟨rfl,rfl⟩
  go_wp2_with fail
  refine(qAi _ h4).mono ?_
  rintro e w1 ⟨rfl,rfl⟩
  go_wp2_with fail
  go_ret
  exact⟨rfl,(Below.refl _ _).alloc (Nat.le_refl _) _⟩
theorem spTokenOk_4(c r q a b:Int)(ao:Option Addr)(cap:Nat)(ws:List Int)(w:World)(h1:decide (1≤c∧c≤9)=true)(h2:decide (1≤r∧r≤1000000000)=true)(h3:decide (0≤q∧q≤60)=true)(h4:decide (0≤a∧a≤q)=true)(h5:decide (0≤b∧b≤5)=false):
    Calls Tryz.prog 107 #[.agg #[.int .i64 c,.int .i64 r,.int .i64 q,.int .i64 a,.int .i64 b,.slice ao ws.length cap]] w fun e w'=>e=.returned (.bool false)∧Below w.heap.size w w':=by
  go_enter Tryz.func107,Tryz.ntmps107
  go_wp2_with fail
  refine(qAi _ h1).mono ?_
  rintro e w1 ⟨rfl,rfl⟩
  go_wp2_with fail
  refine(qAi _ h2).mono ?_
  rintro e w1 ⟨rfl,rfl⟩
  go_wp2_with fail
  refine(qAi _ h3).mono ?_
  rintro e w1 ⟨rfl,rfl⟩
  go_wp2_with fail
  refine(qAi _ h4).mono ?_
  rintro e w1 ⟨rfl,rfl⟩
  go_wp2_with fail
  refine(qAi _ h5).mono ?_
  rintro e w1 ⟨rfl,rfl⟩
  go_wp2_with fail
  go_ret
  exact⟨rfl,(Below.refl _ _).alloc (Nat.le_refl _) _⟩
theorem spTokenOk_6(c r q a b:Int)(ao:Option Addr)(cap:Nat)(ws:List Int)(w:World)(h20:20<ws.length)(h1:decide (1≤c∧c≤9)=true)(h2:decide (1≤r∧r≤1000000000)=true)(h3:decide (0≤q∧q≤60)=true)(h4:decide (0≤a∧a≤q)=true)(h5:decide (0≤b∧b≤5)=true):
    Calls Tryz.prog 107 #[.agg #[.int .i64 c,.int .i64 r,.int .i64 q,.int .i64 a,.int .i64 b,.slice ao ws.length cap]] w fun e w'=>e=.returned (.bool false)∧Below w.heap.size w w':=by
  go_enter Tryz.func107,Tryz.ntmps107
  go_wp2_with fail
  refine(qAi _ h1).mono ?_
  rintro e w1 ⟨rfl,rfl⟩
  go_wp2_with fail
  refine(qAi _ h2).mono ?_
  rintro e w1 ⟨rfl,rfl⟩
  go_wp2_with fail
  refine(qAi _ h3).mono ?_
  rintro e w1 ⟨rfl,rfl⟩
  go_wp2_with fail
  refine(qAi _ h4).mono ?_
  rintro e w1 ⟨rfl,rfl⟩
  go_wp2_with fail
  refine(qAi _ h5).mono ?_
  rintro e w1 ⟨rfl,rfl⟩
  go_wp2_with fail
  go_ret
  exact⟨rfl,(Below.refl _ _).alloc (Nat.le_refl _) _⟩
theorem Tryz.info3':(Tryz.prog.info? 3).map (fun i=>(i.zero,i.size,i.bytes))=some (some (.int .i64 0),1,8):=by kernel_rfl
theorem toI_any(w:World)(ao:Option Addr)(cap:Nat)(ts:List Int)(hx:Hid (IntsAt w ao ts))(hl:ts.length≤1048576):
    Calls Tryz.prog 36 #[.slice ao ts.length cap] w fun e w'=>∃v,e=.returned v∧OwnI w' w.heap.size v ts∧Below w.heap.size w w':=by
  obtain⟨i0,hi,hz0,hz1,hz2⟩:=info_parts Tryz.info3'
  have hM:madeCells (Value.int .i64 0).cells ts.length=((List.replicate ts.length (0:Int)).map (Value.int .i64)).toArray:=by
    apply Array.ext'
    rw[show(Value.int .i64 0).cells= #[Value.int .i64 0]from rfl,toList_madeCells_one]
    simp
  have hmk: ∀W:World,(Instr.makeSlice 22 (.int .i64 (ts.length:Int)) (.int .i64 (ts.length:Int))).run Tryz.prog W=.ok (.slice (some ⟨W.heap.size,0,none⟩) ts.length ts.length) (W.alloc (.cells ((List.replicate ts.length (0:Int)).map (Value.int .i64)).toArray 3)):=fun W=>by
    have h:=run_make (P:=Tryz.prog) W 22 3 i0 (.int .i64 0) Tryz.underlying22 hi hz0 .i64 .i64 (ts.length:Int) (ts.length:Int) (by omega) (by omega) (by rw[hz2];omega) (by omega)
    rw[hz1,Int.toNat_natCast,Nat.mul_one,hM]at h
    simpa using h
  clear hM
  have H0:Hid (OwnI (w.alloc (.cells ((List.replicate ts.length (0:Int)).map (Value.int .i64)).toArray 3)) w.heap.size (.slice (some ⟨w.heap.size,0,none⟩) ts.length ts.length) (List.replicate ts.length 0)):=by
    have:=OwnI.lit w w.heap.size (List.replicate ts.length 0) (Nat.le_refl _) (by rw[List.length_replicate];omega)
    rw[List.length_replicate]at this
    exact this
  generalize hA:((List.replicate ts.length (0:Int)).map (Value.int .i64)).toArray=A at hmk H0
  clear hA
  go_enter Tryz.func36,Tryz.ntmps36
  go_wp2
  go_loopw [4] (fun i wr=>∃(k:Nat) (xs:List Int),k≤ts.length∧i=.int .i64 k∧Hid (xs.length=ts.length)∧Hid (xs.take k=ts.take k)∧Hid (OwnI wr w.heap.size (.slice (some ⟨w.heap.size,0,none⟩) ts.length ts.length) xs)∧w.heap.size<wr.heap.size∧Below w.heap.size w wr) (fun i _=>ts.length - (intOf i).toNat)
  case atStart=>exact⟨0,_,by omega,rfl,List.length_replicate,rfl,H0.out,by simp,(Below.refl _ _).alloc (Nat.le_refl _) _⟩
  case round=>
    obtain⟨k,xs,hk,rfl,hxl,htk,hown,hsz,hb⟩:=hrel
    by_cases hlt:k<ts.length
    · obtain ⟨b, off, rfl, hbb, hc⟩ := hx.out k hlt
      have hc':wr.cell? ⟨b,off+k,none⟩=some (.int .i64 ts[k]):=(hb.cell (p:=⟨b,off+k,none⟩) hbb).trans hc
      obtain⟨t,ht⟩: ∃t,t=ts[k]:=⟨_,rfl⟩
      rw[←ht]at hc'
      have HT:Hid (t=ts[k]):=ht
      clear ht hc
      have hown2:OwnI wr w.heap.size (.slice (some ⟨w.heap.size,0,none⟩) xs.length ts.length) xs:=by rw[hxl.out];exact hown.out
      obtain⟨x,hce⟩: ∃x,wr.cell? ⟨w.heap.size,k,none⟩=some (.int .i64 x):=⟨xs[k]'(by rw[hxl.out];exact hlt),by
        have:=World.ownsRow.cellAt hown2 k (by rw[hxl.out];omega)
        rw[this]
        simp[hxl.out,hlt]⟩
      have hfz:wr.frozen? ⟨w.heap.size,k,none⟩=false:=World.ownsRow.frozenAt hown2 k
      have HO:Hid _:=hown2.store k t
      clear hown2
      go_wp2
      go_roundw
      case rel=>
        refine⟨k+1,xs.set k t,by omega,by go_num,by rw[List.length_set];exact hxl.out,?_,?_,?_,hb.setCell (Nat.le_refl _) _⟩
        · show (xs.set k t).take (k + 1) = ts.take (k + 1)
          have hkx:k<xs.length:=by rw[hxl.out];exact hlt
          rw[List.take_succ_eq_append_getElem (by rw[List.length_set];exact hkx),List.take_succ_eq_append_getElem hlt,List.take_set_of_le (Nat.le_refl _),htk.out,HT.out]
          simp
        · show OwnI _ _ _ _
          have:=HO.out.1
          rw[hxl.out]at this
          exact this
        · have := HO.out.2.size
          omega
      case measure=>simp[intOf];omega
    · obtain rfl : k = ts.length := by omega
      go_wp2
      go_ret
      refine⟨_,rfl,?_,hb⟩
      have e:xs=ts:=by
        have:=htk.out
        rwa [List.take_of_length_le (by rw[hxl.out];exact Nat.le_refl _),List.take_of_length_le (Nat.le_refl _)]at this
      rw[←e,hxl.out]
      exact hown.out
theorem qEs(v1 v2:Value)(ss:List Int)(B1 B2:Nat)(w:World)(h1:OwnI w B1 v1 ss)(h2:OwnI w B2 v2 ss)(hl:ss.length≤1048576):
    Calls Tryz.prog 46 #[v1,v2] w fun e w'=>e=.returned (.bool true)∧Below w.heap.size w w':=by
  by_cases h0:ss.length=0
  · obtain ⟨ao1, cap1, rfl⟩ := h1.form
    obtain⟨ao2,cap2,rfl⟩:=h2.form
    rw[h0]
    clear h1 h2
    go_enter Tryz.func46,Tryz.ntmps46
    go_wp2
    refine wp_loop_rounds 1 ?_
    rw[rounds_succ]
    go_wp2
    go_ret
    exact⟨rfl,Below.refl _ _⟩
  · obtain ⟨g1, cap1, rfl, _, hg1, hc1, _⟩ := h1.some (by omega)
    obtain⟨g2,cap2,rfl,_,hg2,hc2,_⟩:=h2.some (by omega)
    clear h1 h2
    go_enter Tryz.func46,Tryz.ntmps46
    go_wp2
    go_loopw [5] (fun i wr=>∃k:Nat,k≤ss.length∧i=.int .i64 k∧Below w.heap.size w wr) (fun i _=>ss.length - (intOf i).toNat)
    case atStart=>exact⟨0,by omega,rfl,Below.refl _ _⟩
    case round=>
      obtain⟨k,hk,rfl,hb⟩:=hrel
      by_cases hlt:k<ss.length
      · have hce1 : wr.cell? ⟨g1, k, none⟩ = some (.int .i64 ss[k]) := (hb.cell (p := ⟨g1, k, none⟩) hg1).trans (hc1 k hlt)
        have hce2:wr.cell? ⟨g2,k,none⟩=some (.int .i64 ss[k]):=(hb.cell (p:=⟨g2,k,none⟩) hg2).trans (hc2 k hlt)
        have hq1:(0:Int)≤(k:Int):=by omega
        have hq2:(k:Int)<(ss.length:Int):=by omega
        clear hc1 hc2
        go_wp2
        go_quiet (fail)
        go_wp2
        go_roundw
        case rel=>exact⟨k+1,by omega,by go_num,qAk hb _⟩
        case measure=>simp[intOf];omega
      · go_wp2
        go_ret
        exact⟨rfl,hb⟩
theorem TokAt.set5{w:World}{g:Nat}{c r q a b:Int}{v:Value}(h:TokAt w g c r q a b v)(u:Value):TokAt (w.setCell ⟨g,5,none⟩ u) g c r q a b u:=by
  have:=heap_setCell_same w g 5 _ 39 u h
  unfold TokAt;rw[this];rfl
theorem TokAt.turn{w w':World}{g k:Nat}{c r q a b:Int}{v:Value}(h:TokAt w g c r q a b v)(hk:TurnAt k w w')(hg:g≠k):TokAt w' g c r q a b v:=(hk.block g hg).trans h
theorem TokAt.agg{w:World}{g:Nat}{c r q a b:Int}{v:Value}(h:TokAt w g c r q a b v)(c' r' q' a' b':Int)(v':Value):
    TokAt ((((((w.setCell ⟨g,0,none⟩ (.int .i64 c')).setCell ⟨g,1,none⟩ (.int .i64 r')).setCell ⟨g,2,none⟩ (.int .i64 q')).setCell ⟨g,3,none⟩ (.int .i64 a')).setCell ⟨g,4,none⟩ (.int .i64 b')).setCell ⟨g,5,none⟩ v') g c' r' q' a' b' v':=by
  have h0:=heap_setCell_same w g 0 _ 39 (.int .i64 c') h
  have h1:=heap_setCell_same _ g 1 _ 39 (.int .i64 r') h0
  have h2:=heap_setCell_same _ g 2 _ 39 (.int .i64 q') h1
  have h3:=heap_setCell_same _ g 3 _ 39 (.int .i64 a') h2
  have h4:=heap_setCell_same _ g 4 _ 39 (.int .i64 b') h3
  have h5:=heap_setCell_same _ g 5 _ 39 v' h4
  unfold TokAt;rw[h5];rfl
/-- a list's block is no token's. -/
theorem qDu{w w':World}{B g:Nat}{v:Value}{xs:List Int}{c r q a b:Int}{u:Value}(h:OwnI w B v xs)(hu:TokAt w g c r q a b u)(ht:TurnAt g w w'):OwnI w' B v xs:=by
  refine⟨h.1,?_⟩
  rcases h.2 with hn|⟨k,cap,cur,rfl,hbg,hk,rest⟩
  · exact .inl hn
  · have hne:k≠g:=by
      rintro rfl
      unfold TokAt at hu
      rw[hk]at hu
      simp at hu
    exact .inr ⟨k,cap,cur,rfl,hbg,(ht.block k hne).trans hk,rest⟩
theorem toTok_any(c r q a b:Int)(ao:Option Addr)(cap:Nat)(ws:List Int)(w:World)(hx:Hid (IntsAt w ao ws))(hl:ws.length≤1048576):
    Calls Tryz.prog 74 #[.agg #[.int .i64 c,.int .i64 r,.int .i64 q,.int .i64 a,.int .i64 b,.slice ao ws.length cap]] w fun e w'=>∃v,e=.returned (.agg #[.int .i64 c,.int .i64 r,.int .i64 q,.int .i64 a,.int .i64 b,v])∧OwnI w' w.heap.size v ws∧Below w.heap.size w w':=by
  have hn1:(w.alloc (.cells #[.int .i64 c,.int .i64 r,.int .i64 q,.int .i64 a,.int .i64 b,.slice ao ws.length cap] 28)).heap.size=w.heap.size+1:=by simp
  have hn2:((w.alloc (.cells #[.int .i64 c,.int .i64 r,.int .i64 q,.int .i64 a,.int .i64 b,.slice ao ws.length cap] 28)).alloc (.cells #[.int .i64 0,.int .i64 0,.int .i64 0,.int .i64 0,.int .i64 0,.slice none 0 0] 39)).heap.size=w.heap.size+2:=by simp
  have HR:Hid (TokAt (((w.alloc (.cells #[.int .i64 c,.int .i64 r,.int .i64 q,.int .i64 a,.int .i64 b,.slice ao ws.length cap] 28)).alloc (.cells #[.int .i64 0,.int .i64 0,.int .i64 0,.int .i64 0,.int .i64 0,.slice none 0 0] 39)).alloc (.cells #[.int .i64 c,.int .i64 r,.int .i64 q,.int .i64 a,.int .i64 b,.slice none 0 0] 39)) (w.heap.size+1) 0 0 0 0 0 (.slice none 0 0)):=by
    have h:=heap_alloc_new (w.alloc (.cells #[.int .i64 c,.int .i64 r,.int .i64 q,.int .i64 a,.int .i64 b,.slice ao ws.length cap] 28)) (.cells #[.int .i64 0,.int .i64 0,.int .i64 0,.int .i64 0,.int .i64 0,.slice none 0 0] 39)
    rw[hn1]at h
    exact TokAt.stays (B:=w.heap.size+2) h ((Below.refl _ _).alloc (by rw[hn2];exact Nat.le_refl _) _) (by omega)
  have HO:Hid (TokAt (((w.alloc (.cells #[.int .i64 c,.int .i64 r,.int .i64 q,.int .i64 a,.int .i64 b,.slice ao ws.length cap] 28)).alloc (.cells #[.int .i64 0,.int .i64 0,.int .i64 0,.int .i64 0,.int .i64 0,.slice none 0 0] 39)).alloc (.cells #[.int .i64 c,.int .i64 r,.int .i64 q,.int .i64 a,.int .i64 b,.slice none 0 0] 39)) (w.heap.size+2) c r q a b (.slice none 0 0)):=by
    have h:=heap_alloc_new ((w.alloc (.cells #[.int .i64 c,.int .i64 r,.int .i64 q,.int .i64 a,.int .i64 b,.slice ao ws.length cap] 28)).alloc (.cells #[.int .i64 0,.int .i64 0,.int .i64 0,.int .i64 0,.int .i64 0,.slice none 0 0] 39)) (.cells #[.int .i64 c,.int .i64 r,.int .i64 q,.int .i64 a,.int .i64 b,.slice none 0 0] 39)
    rw[hn2]at h
    exact h
  have HB:Hid (Below w.heap.size w (((w.alloc (.cells #[.int .i64 c,.int .i64 r,.int .i64 q,.int .i64 a,.int .i64 b,.slice ao ws.length cap] 28)).alloc (.cells #[.int .i64 0,.int .i64 0,.int .i64 0,.int .i64 0,.int .i64 0,.slice none 0 0] 39)).alloc (.cells #[.int .i64 c,.int .i64 r,.int .i64 q,.int .i64 a,.int .i64 b,.slice none 0 0] 39))):=(((Below.refl _ _).alloc (Nat.le_refl _) _).alloc (by simp) _).alloc (by simp;omega) _
  have HX:Hid (IntsAt (((w.alloc (.cells #[.int .i64 c,.int .i64 r,.int .i64 q,.int .i64 a,.int .i64 b,.slice ao ws.length cap] 28)).alloc (.cells #[.int .i64 0,.int .i64 0,.int .i64 0,.int .i64 0,.int .i64 0,.slice none 0 0] 39)).alloc (.cells #[.int .i64 c,.int .i64 r,.int .i64 q,.int .i64 a,.int .i64 b,.slice none 0 0] 39)) ao ws):=hx.out.stays HB.out
  clear hn1 hn2 hx
  go_enter Tryz.func74,Tryz.ntmps74
  go_wp2_with fail
  generalize (((w.alloc (.cells #[.int .i64 c,.int .i64 r,.int .i64 q,.int .i64 a,.int .i64 b,.slice ao ws.length cap] 28)).alloc (.cells #[.int .i64 0,.int .i64 0,.int .i64 0,.int .i64 0,.int .i64 0,.slice none 0 0] 39)).alloc (.cells #[.int .i64 c,.int .i64 r,.int .i64 q,.int .i64 a,.int .i64 b,.slice none 0 0] 39))=W at *
  refine(toI_any W ao cap ws HX hl).mono ?_
  rintro e w1 ⟨v,rfl,hv,hb1⟩
  have R1:Hid (TokAt w1 (w.heap.size+1) 0 0 0 0 0 (.slice none 0 0)):=HR.out.stays hb1 HR.out.lt
  have O1:Hid (TokAt w1 (w.heap.size+2) c r q a b (.slice none 0 0)):=HO.out.stays hb1 HO.out.lt
  have B1:Hid (Below w.heap.size w w1):=HB.out.trans (hb1.mono HB.out.size)
  have V1:Hid (OwnI w1 w.heap.size v ws):=hv.down HB.out.size
  obtain⟨ao',cap',rfl⟩:=hv.form
  have c5:=O1.out.cells.2.2.2.2.2
  have f5:=O1.out.frozen 5
  clear hv hb1 HR HO HB HX
  have T2:=(TurnAt.refl (w.heap.size+2) w1).setCell 5 (.slice ao' ws.length cap')
  have R2:Hid (TokAt (w1.setCell ⟨w.heap.size+2,5,none⟩ (.slice ao' ws.length cap')) (w.heap.size+1) 0 0 0 0 0 (.slice none 0 0)):=R1.out.turn T2 (by omega)
  have O2:Hid (TokAt (w1.setCell ⟨w.heap.size+2,5,none⟩ (.slice ao' ws.length cap')) (w.heap.size+2) c r q a b (.slice ao' ws.length cap')):=O1.out.set5 _
  have B2:Hid (Below w.heap.size w (w1.setCell ⟨w.heap.size+2,5,none⟩ (.slice ao' ws.length cap'))):=B1.out.trans (T2.below (by omega))
  have V2:Hid (OwnI (w1.setCell ⟨w.heap.size+2,5,none⟩ (.slice ao' ws.length cap')) w.heap.size (.slice ao' ws.length cap') ws):=qDu V1.out O1.out T2
  clear T2 R1 O1 B1 V1
  obtain⟨o0,o1,o2,o3,o4,o5⟩:=O2.out.cells
  obtain⟨r0,r1,r2,r3,r4,r5⟩:=R2.out.cells
  have z0:=R2.out.frozen 0
  have z1:=R2.out.frozen 1
  have z2:=R2.out.frozen 2
  have z3:=R2.out.frozen 3
  have z4:=R2.out.frozen 4
  have z5:=R2.out.frozen 5
  have R3:TokAt _ (w.heap.size+1) c r q a b (.slice ao' ws.length cap'):=R2.out.agg c r q a b (.slice ao' ws.length cap')
  have T3:=((((((TurnAt.refl (w.heap.size+1) (w1.setCell ⟨w.heap.size+2,5,none⟩ (.slice ao' ws.length cap'))).setCell 0 (.int .i64 c)).setCell 1 (.int .i64 r)).setCell 2 (.int .i64 q)).setCell 3 (.int .i64 a)).setCell 4 (.int .i64 b)).setCell 5 (.slice ao' ws.length cap')
  have V3:=qDu V2.out R2.out T3
  have B3:=B2.out.trans (T3.below (by omega))
  clear T3 R2 O2 B2 V2
  go_wp2_with fail
  generalize ((((((((w1.setCell ⟨w.heap.size+2,5,none⟩ (.slice ao' ws.length cap')).setCell ⟨w.heap.size+1,0,none⟩ (.int .i64 c)).setCell ⟨w.heap.size+1,1,none⟩ (.int .i64 r)).setCell ⟨w.heap.size+1,2,none⟩ (.int .i64 q)).setCell ⟨w.heap.size+1,3,none⟩ (.int .i64 a)).setCell ⟨w.heap.size+1,4,none⟩ (.int .i64 b)).setCell ⟨w.heap.size+1,5,none⟩ (.slice ao' ws.length cap')))=W3 at *
  obtain⟨q0,q1,q2,q3,q4,q5⟩:=R3.cells
  refine bodyPost_ret (v:=.agg #[.int .i64 c,.int .i64 r,.int .i64 q,.int .i64 a,.int .i64 b,.slice ao' ws.length cap']) (by simp[results,Tryz.results74,go_sem,q0,q1,q2,q3,q4,q5]) rfl ?_
  exact⟨_,rfl,V3,B3⟩
theorem eqTok_same(c r q a b:Int)(v1 v2:Value)(ws:List Int)(B1 B2:Nat)(w:World)(h1:Hid (OwnI w B1 v1 ws))(h2:Hid (OwnI w B2 v2 ws))(hl:ws.length≤1048576):
    Calls Tryz.prog 94 #[.agg #[.int .i64 c,.int .i64 r,.int .i64 q,.int .i64 a,.int .i64 b,v1],.agg #[.int .i64 c,.int .i64 r,.int .i64 q,.int .i64 a,.int .i64 b,v2]] w fun e w'=>e=.returned (.bool true)∧Below w.heap.size w w':=by
  obtain⟨ao1,cap1,rfl⟩:=h1.out.form
  obtain⟨ao2,cap2,rfl⟩:=h2.out.form
  go_enter Tryz.func94,Tryz.ntmps94
  go_wp2_with fail
  refine(qEs _ _ ws B1 B2 _ ((h1.out.alloc _).alloc _) ((h2.out.alloc _).alloc _) hl).mono ?_
  rintro e w1 ⟨rfl,hb1⟩
  go_wp2_with fail
  go_ret
  exact⟨rfl,(((Below.refl _ _).alloc (Nat.le_refl _) _).alloc (by simp) _).trans (hb1.mono (by simp;omega))⟩
/-- the block g is a token that was handed in. -/
def LtokAt(w:World)(g:Nat)(c r q a b:Int)(v:Value):Prop:=w.heap[g]? =some (.cells #[.int .i64 c,.int .i64 r,.int .i64 q,.int .i64 a,.int .i64 b,v] 28 (0,0))
theorem LtokAt.cells{w:World}{g:Nat}{c r q a b:Int}{v:Value}(h:LtokAt w g c r q a b v):w.cell? ⟨g,0,none⟩=some (.int .i64 c)∧w.cell? ⟨g,1,none⟩=some (.int .i64 r)∧w.cell? ⟨g,2,none⟩=some (.int .i64 q)∧w.cell? ⟨g,3,none⟩=some (.int .i64 a)∧w.cell? ⟨g,4,none⟩=some (.int .i64 b)∧w.cell? ⟨g,5,none⟩=some v:=
  ⟨by rw[cell_of_row w g 0 _ 28 (0,0) h];rfl,by rw[cell_of_row w g 1 _ 28 (0,0) h];rfl,by rw[cell_of_row w g 2 _ 28 (0,0) h];rfl,by rw[cell_of_row w g 3 _ 28 (0,0) h];rfl,by rw[cell_of_row w g 4 _ 28 (0,0) h];rfl,by rw[cell_of_row w g 5 _ 28 (0,0) h];rfl⟩
theorem LtokAt.stays{w w':World}{B g:Nat}{c r q a b:Int}{v:Value}(h:LtokAt w g c r q a b v)(hb:Below B w w')(hg:g<B):LtokAt w' g c r q a b v:=(hb.block g hg).trans h
end Go.Proofs.YtifkopggmjbbeaaGreat
/- Items: when one is right, copied, measured, compared. -/
namespace Go.Proofs.YtifkopggmjbbeaaGreat.Pl
/-- when an item is right. -/
def ItOk(q f l:Int)(t:ByteArray):Prop:=(1≤q∧q≤60)∧(1≤f∧f≤5)∧(1≤l∧l≤2)∧t.size≤60
end Go.Proofs.YtifkopggmjbbeaaGreat.Pl
namespace Go.Proofs.YtifkopggmjbbeaaGreat
open Go.RowKit Pl
set_option linter.unusedVariables false
/-- whether an item is right. -/
def itB(q f l:Int)(t:ByteArray):Bool:=decide (1≤q∧q≤60)&&(decide (1≤f∧f≤5)&&(decide (1≤l∧l≤2)&&decide ((t.size:Int)≤60)))
theorem itB_true{q f l:Int}{t:ByteArray}:itB q f l t=true↔ItOk q f l t:=by
  unfold itB ItOk
  simp only[Bool.and_eq_true,decide_eq_true_eq]
  omega
theorem itemOk_0(q f l:Int)(t:ByteArray)(w:World)(h1:decide (1≤q∧q≤60)=false):
    Calls Tryz.prog 146 #[.agg #[.int .i64 q,.int .i64 f,.int .i64 l,.string t]] w fun e w'=>e=.returned (.bool (false))∧Below w.heap.size w w':=by
  go_enter Tryz.func146,Tryz.ntmps146
  go_wp2_with fail
  refine(qAe _ h1).mono ?_
  rintro e w1 ⟨rfl,rfl⟩
  go_wp2_with fail
  go_ret
  exact⟨rfl,(Below.refl _ _).alloc (Nat.le_refl _) _⟩
theorem itemOk_1(q f l:Int)(t:ByteArray)(w:World)(h1:decide (1≤q∧q≤60)=true)(h2:decide (1≤f∧f≤5)=false):
    Calls Tryz.prog 146 #[.agg #[.int .i64 q,.int .i64 f,.int .i64 l,.string t]] w fun e w'=>e=.returned (.bool (false))∧Below w.heap.size w w':=by
  go_enter Tryz.func146,Tryz.ntmps146
  go_wp2_with fail
  refine(qAe _ h1).mono ?_
  rintro e w1 ⟨rfl,rfl⟩
  go_wp2_with fail
  refine(qAe _ h2).mono ?_
  rintro e w1 ⟨rfl,rfl⟩
  go_wp2_with fail
  go_ret
  exact⟨rfl,(Below.refl _ _).alloc (Nat.le_refl _) _⟩
theorem itemOk_2(q f l:Int)(t:ByteArray)(w:World)(h1:decide (1≤q∧q≤60)=true)(h2:decide (1≤f∧f≤5)=true)(h3: ¬l=1)(h4: ¬l=2):
    Calls Tryz.prog 146 #[.agg #[.int .i64 q,.int .i64 f,.int .i64 l,.string t]] w fun e w'=>e=.returned (.bool (false))∧Below w.heap.size w w':=by
  go_enter Tryz.func146,Tryz.ntmps146
  go_wp2_with fail
  refine(qAe _ h1).mono ?_
  rintro e w1 ⟨rfl,rfl⟩
  go_wp2_with fail
  refine(qAe _ h2).mono ?_
  rintro e w1 ⟨rfl,rfl⟩
  go_wp2_with fail
  go_ret
  exact⟨rfl,(Below.refl _ _).alloc (Nat.le_refl _) _⟩
theorem itemOk_3(q f l:Int)(t:ByteArray)(w:World)(h1:decide (1≤q∧q≤60)=true)(h2:decide (1≤f∧f≤5)=true)(h3:l=1):
    Calls Tryz.prog 146 #[.agg #[.int .i64 q,.int .i64 f,.int .i64 l,.string t]] w fun e w'=>e=.returned (.bool (decide ((t.size:Int)≤60)))∧Below w.heap.size w w':=by
  go_enter Tryz.func146,Tryz.ntmps146
  go_wp2_with fail
  refine(qAe _ h1).mono ?_
  rintro e w1 ⟨rfl,rfl⟩
  go_wp2_with fail
  refine(qAe _ h2).mono ?_
  rintro e w1 ⟨rfl,rfl⟩
  go_wp2_with fail
  go_ret
  exact⟨rfl,(Below.refl _ _).alloc (Nat.le_refl _) _⟩
theorem itemOk_4(q f l:Int)(t:ByteArray)(w:World)(h1:decide (1≤q∧q≤60)=true)(h2:decide (1≤f∧f≤5)=true)(h3: ¬l=1)(h4:l=2):
    Calls Tryz.prog 146 #[.agg #[.int .i64 q,.int .i64 f,.int .i64 l,.string t]] w fun e w'=>e=.returned (.bool (decide ((t.size:Int)≤60)))∧Below w.heap.size w w':=by
  go_enter Tryz.func146,Tryz.ntmps146
  go_wp2_with fail
  refine(qAe _ h1).mono ?_
  rintro e w1 ⟨rfl,rfl⟩
  go_wp2_with fail
  refine(qAe _ h2).mono ?_
  rintro e w1 ⟨rfl,rfl⟩
  go_wp2_with fail
  go_ret
  exact⟨rfl,(Below.refl _ _).alloc (Nat.le_refl _) _⟩
theorem itemOk_any(q f l:Int)(t:ByteArray)(w:World):
    Calls Tryz.prog 146 #[.agg #[.int .i64 q,.int .i64 f,.int .i64 l,.string t]] w fun e w'=>e=.returned (.bool (itB q f l t))∧Below w.heap.size w w':=by
  unfold itB
  cases h1:decide (1≤q∧q≤60)with
  |false=>exact itemOk_0 q f l t w h1
  | true =>
    cases h2:decide (1≤f∧f≤5)with
    |false=>exact itemOk_1 q f l t w h1 h2
    | true =>
      by_cases h3:l=1
      · have h5 : decide (1 ≤ l ∧ l ≤ 2) = true := by simp; omega
        rw[h5]
        exact itemOk_3 q f l t w h1 h2 h3
      · by_cases h4 : l = 2
        · have h5 : decide (1 ≤ l ∧ l ≤ 2) = true := by simp; omega
          rw[h5]
          exact itemOk_4 q f l t w h1 h2 h3 h4
        · have h5 : decide (1 ≤ l ∧ l ≤ 2) = false := by simp; omega
          rw[h5]
          exact itemOk_2 q f l t w h1 h2 h3 h4
theorem spItemOk_0(q f l:Int)(t:ByteArray)(w:World)(h1:decide (1≤q∧q≤60)=false):
    Calls Tryz.prog 130 #[.agg #[.int .i64 q,.int .i64 f,.int .i64 l,.string t]] w fun e w'=>e=.returned (.bool (false))∧Below w.heap.size w w':=by
  go_enter Tryz.func130,Tryz.ntmps130
  go_wp2_with fail
  refine(qAi _ h1).mono ?_
  rintro e w1 ⟨rfl,rfl⟩
  go_wp2_with fail
  go_ret
  exact⟨rfl,(Below.refl _ _).alloc (Nat.le_refl _) _⟩
theorem spItemOk_1(q f l:Int)(t:ByteArray)(w:World)(h1:decide (1≤q∧q≤60)=true)(h2:decide (1≤f∧f≤5)=false):
    Calls Tryz.prog 130 #[.agg #[.int .i64 q,.int .i64 f,.int .i64 l,.string t]] w fun e w'=>e=.returned (.bool (false))∧Below w.heap.size w w':=by
  go_enter Tryz.func130,Tryz.ntmps130
  go_wp2_with fail
  refine(qAi _ h1).mono ?_
  rintro e w1 ⟨rfl,rfl⟩
  go_wp2_with fail
  refine(qAi _ h2).mono ?_
  rintro e w1 ⟨rfl,rfl⟩
  go_wp2_with fail
  go_ret
  exact⟨rfl,(Below.refl _ _).alloc (Nat.le_refl _) _⟩
theorem spItemOk_2(q f l:Int)(t:ByteArray)(w:World)(h1:decide (1≤q∧q≤60)=true)(h2:decide (1≤f∧f≤5)=true)(h3:decide (1≤l∧l≤2)=false):
    Calls Tryz.prog 130 #[.agg #[.int .i64 q,.int .i64 f,.int .i64 l,.string t]] w fun e w'=>e=.returned (.bool (false))∧Below w.heap.size w w':=by
  go_enter Tryz.func130,Tryz.ntmps130
  go_wp2_with fail
  refine(qAi _ h1).mono ?_
  rintro e w1 ⟨rfl,rfl⟩
  go_wp2_with fail
  refine(qAi _ h2).mono ?_
  rintro e w1 ⟨rfl,rfl⟩
  go_wp2_with fail
  refine(qAi _ h3).mono ?_
  rintro e w1 ⟨rfl,rfl⟩
  go_wp2_with fail
  go_ret
  exact⟨rfl,(Below.refl _ _).alloc (Nat.le_refl _) _⟩
theorem spItemOk_3(q f l:Int)(t:ByteArray)(w:World)(h1:decide (1≤q∧q≤60)=true)(h2:decide (1≤f∧f≤5)=true)(h3:decide (1≤l∧l≤2)=true):
    Calls Tryz.prog 130 #[.agg #[.int .i64 q,.int .i64 f,.int .i64 l,.string t]] w fun e w'=>e=.returned (.bool (decide ((t.size:Int)≤60)))∧Below w.heap.size w w':=by
  go_enter Tryz.func130,Tryz.ntmps130
  go_wp2_with fail
  refine(qAi _ h1).mono ?_
  rintro e w1 ⟨rfl,rfl⟩
  go_wp2_with fail
  refine(qAi _ h2).mono ?_
  rintro e w1 ⟨rfl,rfl⟩
  go_wp2_with fail
  refine(qAi _ h3).mono ?_
  rintro e w1 ⟨rfl,rfl⟩
  go_wp2_with fail
  go_ret
  exact⟨rfl,(Below.refl _ _).alloc (Nat.le_refl _) _⟩
theorem spItemOk_any(q f l:Int)(t:ByteArray)(w:World):
    Calls Tryz.prog 130 #[.agg #[.int .i64 q,.int .i64 f,.int .i64 l,.string t]] w fun e w'=>e=.returned (.bool (itB q f l t))∧Below w.heap.size w w':=by
  unfold itB
  cases h1:decide (1≤q∧q≤60)with
  |false=>exact spItemOk_0 q f l t w h1
  | true =>
    cases h2:decide (1≤f∧f≤5)with
    |false=>exact spItemOk_1 q f l t w h1 h2
    | true =>
      cases h3:decide (1≤l∧l≤2)with
      |false=>exact spItemOk_2 q f l t w h1 h2 h3
      |true=>exact spItemOk_3 q f l t w h1 h2 h3
theorem qFx(q f l:Int)(t:ByteArray)(w:World):
    Calls Tryz.prog 111 #[.agg #[.int .i64 q,.int .i64 f,.int .i64 l,.string t]] w fun e w'=>e=.returned (.agg #[.int .i64 q,.int .i64 f,.int .i64 l,.string t])∧Below w.heap.size w w':=by
  go_enter Tryz.func111,Tryz.ntmps111
  go_wp2
  refine bodyPost_ret (v:=.agg #[.int .i64 q,.int .i64 f,.int .i64 l,.string t]) (by simp[results,Tryz.results111,go_sem]) rfl ⟨rfl,?_⟩
  exact(((Below.refl _ w).alloc (Nat.le_refl _) _).alloc (by simp) _).alloc (by simp;omega) _
theorem qEw(q f l:Int)(t:ByteArray)(k:Nat)(w:World)(h:k<t.size)(h2:t.size≤9223372036854775807)(hk:k≤1048576):
    Calls Tryz.prog 102 #[.agg #[.int .i64 q,.int .i64 f,.int .i64 l,.string t],.int .i64 k] w fun e w'=>e=.returned (.int .i64 (-1))∧Below w.heap.size w w':=by
  have hd:decide ((k:Int) - (t.size:Int)<0)=true:=by simp;omega
  go_enter Tryz.func102,Tryz.ntmps102
  go_wp2
  go_ret
  exact⟨rfl,(Below.refl _ _).alloc (Nat.le_refl _) _⟩
theorem qFy(q f l:Int)(t:ByteArray)(k:Nat)(w:World)(h:t.size≤k)(hk:k≤1048576):
    Calls Tryz.prog 102 #[.agg #[.int .i64 q,.int .i64 f,.int .i64 l,.string t],.int .i64 k] w fun e w'=>e=.returned (.int .i64 ((k - t.size:Nat):Int))∧Below w.heap.size w w':=by
  have hd:decide ((k:Int) - (t.size:Int)<0)=false:=by simp;omega
  go_enter Tryz.func102,Tryz.ntmps102
  go_wp2
  go_ret
  refine⟨?_,(Below.refl _ _).alloc (Nat.le_refl _) _⟩
  rw[show((k - t.size:Nat):Int)=(k:Int) - (t.size:Int) by omega]
  rfl
/-- the block g is an item that was handed in. -/
def LitAt(w:World)(g:Nat)(q f l:Int)(t:ByteArray):Prop:=w.heap[g]? =some (.cells #[.int .i64 q,.int .i64 f,.int .i64 l,.string t] 96 (0,0))
theorem LitAt.cells{w:World}{g:Nat}{q f l:Int}{t:ByteArray}(h:LitAt w g q f l t):w.cell? ⟨g,0,none⟩=some (.int .i64 q)∧w.cell? ⟨g,1,none⟩=some (.int .i64 f)∧w.cell? ⟨g,2,none⟩=some (.int .i64 l)∧w.cell? ⟨g,3,none⟩=some (.string t):=
  ⟨by rw[cell_of_row w g 0 _ 96 (0,0) h];rfl,by rw[cell_of_row w g 1 _ 96 (0,0) h];rfl,by rw[cell_of_row w g 2 _ 96 (0,0) h];rfl,by rw[cell_of_row w g 3 _ 96 (0,0) h];rfl⟩
theorem LitAt.stays{w w':World}{B g:Nat}{q f l:Int}{t:ByteArray}(h:LitAt w g q f l t)(hb:Below B w w')(hg:g<B):LitAt w' g q f l t:=(hb.block g hg).trans h
/-- the block g is an item. -/
def ItAt(w:World)(g:Nat)(q f l:Int)(t:ByteArray):Prop:=w.heap[g]? =some (.cells #[.int .i64 q,.int .i64 f,.int .i64 l,.string t] 108 (0,0))
theorem ItAt.cells{w:World}{g:Nat}{q f l:Int}{t:ByteArray}(h:ItAt w g q f l t):w.cell? ⟨g,0,none⟩=some (.int .i64 q)∧w.cell? ⟨g,1,none⟩=some (.int .i64 f)∧w.cell? ⟨g,2,none⟩=some (.int .i64 l)∧w.cell? ⟨g,3,none⟩=some (.string t):=
  ⟨by rw[cell_of_row w g 0 _ 108 (0,0) h];rfl,by rw[cell_of_row w g 1 _ 108 (0,0) h];rfl,by rw[cell_of_row w g 2 _ 108 (0,0) h];rfl,by rw[cell_of_row w g 3 _ 108 (0,0) h];rfl⟩
theorem ItAt.stays{w w':World}{B g:Nat}{q f l:Int}{t:ByteArray}(h:ItAt w g q f l t)(hb:Below B w w')(hg:g<B):ItAt w' g q f l t:=(hb.block g hg).trans h
theorem ItAt.lt{w:World}{g:Nat}{q f l:Int}{t:ByteArray}(h:ItAt w g q f l t):g<w.heap.size:=(Array.getElem?_eq_some_iff.1 h).1
theorem qFh(q f l:Int)(t:ByteArray)(w:World):
    Calls Tryz.prog 128 #[.agg #[.int .i64 q,.int .i64 f,.int .i64 l,.string t],.agg #[.int .i64 q,.int .i64 f,.int .i64 l,.string t]] w fun e w'=>e=.returned (.bool true)∧Below w.heap.size w w':=by
  go_enter Tryz.func128,Tryz.ntmps128
  go_wp2
  go_ret
  exact⟨rfl,((Below.refl _ _).alloc (Nat.le_refl _) _).alloc (by simp) _⟩
/-- an item, plain. -/
abbrev It:=Int × Int × Int × ByteArray
/-- the items' cells of a slice. -/
def ItemsAt(w:World)(ao:Option Addr)(ts:List It):Prop:=
  ∀i (h:i<ts.length),∃b off,ao=some ⟨b,off,none⟩∧b<w.heap.size∧w.cell? ⟨b,off+i * 4,none⟩=some (.int .i64 ts[i].1)∧w.cell? ⟨b,off+i * 4+1,none⟩=some (.int .i64 ts[i].2.1)∧w.cell? ⟨b,off+i * 4+2,none⟩=some (.int .i64 ts[i].2.2.1)∧w.cell? ⟨b,off+i * 4+3,none⟩=some (.string ts[i].2.2.2)
theorem ItemsAt.stays{w w':World}{ao:Option Addr}{ts:List It}(h:ItemsAt w ao ts)(hb:Below w.heap.size w w'):ItemsAt w' ao ts:=by
  intro i hi
  obtain⟨b,off,h1,h2,h3,h4,h5,h6⟩:=h i hi
  exact⟨b,off,h1,Nat.lt_of_lt_of_le h2 hb.size,(hb.cell (p:=⟨b,off+i * 4,none⟩) h2).trans h3,(hb.cell (p:=⟨b,off+i * 4+1,none⟩) h2).trans h4,(hb.cell (p:=⟨b,off+i * 4+2,none⟩) h2).trans h5,(hb.cell (p:=⟨b,off+i * 4+3,none⟩) h2).trans h6⟩
/-- whether items ascend from behind 'last', each right. -/
def iGo(last:Int):List It→Bool
  | []=>true
  |x::xs=>if itB x.1 x.2.1 x.2.2.1 x.2.2.2=false∨x.1≤last then false else iGo x.1 xs
theorem iGo_step{L:Int}{x:It}{xs:List It}(h1:itB x.1 x.2.1 x.2.2.1 x.2.2.2=true)(h2:L<x.1):iGo L (x::xs)=iGo x.1 xs:=by
  rw[iGo,if_neg (by rw[h1];simp;omega)]
theorem iGo_bad{L:Int}{x:It}{xs:List It}(h:itB x.1 x.2.1 x.2.2.1 x.2.2.2=false∨x.1≤L):iGo L (x::xs)=false:=by
  rw[iGo,if_pos h]
/-- the state of a loop over items. -/
def ISt(ts:List It)(k:Nat)(L:Int):Prop:=iGo L (ts.drop k)=iGo 0 ts∧0≤L∧(k=0→L=0)∧∀j (h:j<ts.length),k=j+1→L=ts[j].1
theorem iSt_start(ts:List It):ISt ts 0 0:=⟨rfl,by omega,fun _=>rfl,fun j _ h=>by omega⟩
theorem qGq{ts:List It}{L:Int}{k:Nat}(h:ISt ts k L)(hk:k<ts.length)(h1:itB ts[k].1 ts[k].2.1 ts[k].2.2.1 ts[k].2.2.2=true)(h2:L<ts[k].1):ISt ts (k+1) ts[k].1:=by
  obtain⟨a,b,c,d⟩:=h
  refine⟨?_,by omega,fun h=>by omega,fun j hj e=>?_⟩
  · rw[←a,List.drop_eq_getElem_cons hk,iGo_step h1 h2]
  · obtain rfl : j = k := by omega
    rfl
theorem qGr{ts:List It}{L:Int}{k:Nat}(h:ISt ts k L)(hk:k<ts.length)(h1:itB ts[k].1 ts[k].2.1 ts[k].2.2.1 ts[k].2.2.2=false∨ts[k].1≤L):iGo 0 ts=false:=by
  rw[←h.1,List.drop_eq_getElem_cons hk,iGo_bad h1]
theorem iSt_end{ts:List It}{L:Int}{k:Nat}(h:ISt ts k L)(hk:ts.length≤k):iGo 0 ts=true:=by
  rw[←h.1,List.drop_eq_nil_of_le hk];rfl
theorem itB_is{q f l:Int}{t:ByteArray}{b:Bool}(w:World)(h:itB q f l t=b):
    Calls Tryz.prog 146 #[.agg #[.int .i64 q,.int .i64 f,.int .i64 l,.string t]] w fun e w'=>e=.returned (.bool b)∧Below w.heap.size w w':=by rw[←h];exact itemOk_any q f l t w
theorem qEq{q f l:Int}{t:ByteArray}{b:Bool}(w:World)(h:itB q f l t=b):
    Calls Tryz.prog 130 #[.agg #[.int .i64 q,.int .i64 f,.int .i64 l,.string t]] w fun e w'=>e=.returned (.bool b)∧Below w.heap.size w w':=by rw[←h];exact spItemOk_any q f l t w
theorem qFe(ao:Option Addr)(cap:Nat)(ts:List It)(w:World)(hx:Hid (ItemsAt w ao ts))(hl:ts.length≤1048576):
    Calls Tryz.prog 134 #[.slice ao ts.length cap] w fun e w'=>e=.returned (.bool (iGo 0 ts))∧Below w.heap.size w w':=by
  go_enter Tryz.func134,Tryz.ntmps134
  go_wp2
  go_loopw [3,8] (fun L i wr=>∃(k:Nat) (l:Int),k≤ts.length∧L=.int .i64 l∧i=.int .i64 k∧Hid (ISt ts k l)∧Below w.heap.size w wr) (fun _ i _=>ts.length - (intOf i).toNat)
  case atStart=>exact⟨0,0,Nat.zero_le _,rfl,rfl,iSt_start ts,Below.refl _ _⟩
  case round=>
    obtain⟨k,l,hk,rfl,rfl,hst,hb⟩:=hrel
    by_cases hlt:k<ts.length
    · obtain ⟨b, off, rfl, hbb, h0, h1, h2, h3⟩ := hx.out.stays hb k hlt
      have HP:Hid (∃x:It,x=ts[k]):=⟨_,rfl⟩
      obtain⟨⟨q,f,lv,tx⟩,hp⟩:=HP.out
      rw[←hp]at h0 h1 h2 h3
      have HQ:Hid ((q,f,lv,tx)=ts[k]):=hp
      clear hp HP
      dsimp only at h0 h1 h2 h3
      have I0:Hid (ItAt (wr.alloc (.cells #[.int .i64 q,.int .i64 f,.int .i64 lv,.string tx] 108)) wr.heap.size q f lv tx):=heap_alloc_new wr _
      have B0:Hid (Below w.heap.size w (wr.alloc (.cells #[.int .i64 q,.int .i64 f,.int .i64 lv,.string tx] 108))):=hb.alloc hb.size _
      go_wp2_with fail
      generalize wr.alloc (.cells #[.int .i64 q,.int .i64 f,.int .i64 lv,.string tx] 108)=W0 at *
      clear h0 h1 h2 h3
      cases hit:itB q f lv tx with
      | false =>
        refine(itB_is _ hit).mono ?_
        rintro e w1 ⟨rfl,hb1⟩
        have hbad:iGo 0 ts=false:=qGr hst.out hlt (.inl (by rw[←HQ.out];exact hit))
        have HBAD:Hid (iGo 0 ts=false):=hbad
        clear hbad hit
        go_wp2_with fail
        go_ret
        exact⟨by rw[HBAD.out];rfl,B0.out.trans (hb1.mono B0.out.size)⟩
      | true =>
        refine(itB_is _ hit).mono ?_
        rintro e w1 ⟨rfl,hb1⟩
        have I1:=I0.out.stays hb1 I0.out.lt
        have c0:=I1.cells.1
        have HIT:Hid (itB q f lv tx=true):=hit
        have B1:Hid (Below w.heap.size w w1):=B0.out.trans (hb1.mono B0.out.size)
        clear hit hb1 I1 I0 B0
        by_cases hle:q≤l
        · have HBAD : Hid (iGo 0 ts = false) := qGr hst.out hlt (.inr (by rw [← HQ.out]; exact hle))
          go_wp2_with fail
          go_ret
          exact⟨by rw[HBAD.out];rfl,B1.out⟩
        · have HN:Hid (ISt ts (k+1) q):=by
            have:=qGq hst.out hlt (by rw[←HQ.out];exact HIT.out) (by rw[←HQ.out];show l<q;omega)
            rw[←HQ.out]at this
            exact this
          go_wp2_with fail
          go_roundw
          case rel=>exact⟨k+1,q,by omega,rfl,by go_num,HN.out,B1.out⟩
          case measure=>simp[intOf];omega
    · go_wp2_with fail
      go_ret
      exact⟨by rw[iSt_end hst.out (by omega)];rfl,hb⟩
end Go.Proofs.YtifkopggmjbbeaaGreat
