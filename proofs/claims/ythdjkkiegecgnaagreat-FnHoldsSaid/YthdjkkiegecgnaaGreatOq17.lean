/- Joined texts: CIn CIa CPu CPu2 CPt CPs CAr2 CDi. -/
import Derived.Test.YthdjkkiegecgnaaGreatOq10
import Derived.Shelf.RegionOpenPlain
import Derived.Laws.IdiomCopy
import Derived.Laws.Externs
import Derived.Laws.NewBlocks
import Derived.Lib.Overlaps
import Derived.Lib.AppendZeros
import Derived.Lib.AppendZerosOnto
import Derived.Lib.SliceRun
import Derived.Test.YthdjkkiegecgnaaGreatOq1
import Derived.BigQuiet
set_option maxRecDepth 100000
set_option maxHeartbeats 16000000
namespace Go.Proofs.YthdjkkiegecgnaaGreat
open Go.RowKit Pl
set_option linter.unusedVariables false
theorem qFt{P:Program}(w:World)(dT sT ty elem:TypeId)(size b o dLen dCap:Nat)(a:Addr)(sLen sCap n:Nat)(cs:List Value)
  (hu:P.underlying dT=some (.slice elem)) (hs:(P.info? elem).map (·.size)=some size) (hn:n=Nat.min sLen dLen) (hcl:cs.length=n * size)
  (hsrc: ∀j v,cs[j]? =some v→w.cell? (a.add j)=some v) (hc: ∀j,j<cs.length→(w.cell? ⟨b,o+j,none⟩).isSome=true) (hf: ∀j,j<cs.length→w.frozen? ⟨b,o+j,none⟩=false) (h1: ∀v∈cs,v.oneCell'=true):
  (Builtin.copy_ #[dT,sT] ty #[.slice (some ⟨b,o,none⟩) dLen dCap,.slice (some a) sLen sCap]).run P w=.ok (goInt (n:Int)) (w.setCells b o cs):=by
 have hl:=run_loadCells_list (P:=P) w a cs hsrc
 have hst:=run_storeCells_cells (P:=P) b o cs 0 w (by simpa using hc) (by simpa using hf) h1
 rw[hcl]at hl
 cases hq:P.info? elem with
 |none=>simp[hq]at hs
 |some i=>
  have hi:i.size=size:=by simpa [hq] using hs
  simp[Builtin.copy_,run_underlying hu,Builtin.lenOf,Builtin.firstCells,sizeOf,typeInfo,hq,hi,←hn,hl,hst]
theorem wp_copyR{P:Program}(w:World){o:Oper}{a:Act}{K:Act→World→Prop}{Q:Exit→Act→World→Prop}(d s:Operand)(t t':TypeId)
  (ho:o.op=.call {callee:=.builtin .copy,args:=#[d,s],argTypes:=#[t,t']}) (v u:Value) (hd:a.eval d=v) (hs:a.eval s=u) {v':Value} {w':World}
  (hr:(Builtin.copy_ #[t,t'] o.type #[v,u]).run P w=.ok v' w') (h:K (a.put o.dst v') w'):o.wp P a w K Q:=by
 unfold Oper.wp execOp
 simp only[ho,resolve,invoke,builtin,Sem.run_bind,Sem.run_pure,Result.andThen_ok,List.map_toArray,List.map_cons,List.map_nil,hd,hs,hr]
 exact h
theorem qGn{P:Program}(w:World){ops:Array Oper}{rest:List Oper}{o:Oper}{a:Act}{Q:Exit→Act→World→Prop}(hgd:o.guard=none)(d s:Operand)(t t':TypeId)
  (ho:o.op=.call {callee:=.builtin .copy,args:=#[d,s],argTypes:=#[t,t']}) (v u:Value) (hd:a.eval d=v) (hs:a.eval s=u) {v':Value} {w':World}
  (hr:(Builtin.copy_ #[t,t'] o.type #[v,u]).run P w=.ok v' w') (h:wpList P ops Q rest (a.put o.dst v') w'):wpList P ops Q (o::rest) a w:=
 wpList_plain hgd fun _ hK=>wp_copyR w d s t t' ho v u hd hs hr (hK _ _ h)
theorem qJf{P:Program}{ops:Array Oper}{o:Oper}{a:Act}{w:World}{K:Act→World→Prop}{Q:Exit→Act→World→Prop}{E:Prop}
  (hg:o.guard=none) (d x:Operand) (dT sT:TypeId) (hop:o.op=Op.call {callee:=Callee.builtin Builtin.copy,args:=#[d,x],argTypes:=#[dT,sT]})
  (v u:Value) (hd:a.eval d=v) (hx:a.eval x=u) {v':Value} {w':World} (hr:(Builtin.copy_ #[dT,sT] o.type #[v,u]).run P w=.ok v' w') (hK:K (a.put o.dst v') w'):
  if Region.wanted o (yielded ops a.tmps)=true then Oper.wp P o a w K Q else E:=by
 have hw:Region.wanted o (yielded ops a.tmps)=true:=by simp[Region.wanted,hg]
 rw[if_pos hw]
 unfold Oper.wp
 simp[execOp,hop,resolve,invoke,builtin,hd,hx,hr,Result.andThen]
 exact hK
theorem qFq(b:Nat)(vs:List Value)(o:Nat)(w:World)(h: ∀j,j<vs.length→(w.cell? ⟨b,o+j,none⟩).isSome=true)(k:Nat)(hk:(w.cell? ⟨b,k,none⟩).isSome=true):((w.setCells b o vs).cell? ⟨b,k,none⟩).isSome=true:=by
 by_cases hin:o≤k∧k<o+vs.length
 ·have:=World.cell?_setCells_in b vs o w h (k - o) (by omega)
  rw[show o+(k - o)=k by omega]at this
  rw[this];rfl
 ·rw[World.cell?_setCells_out b vs o w ⟨b,k,none⟩ (fun _ _=>by show k<o∨o+vs.length≤k;omega)]
  exact hk
theorem Tryz.sizeIn:(Tryz.prog.info? 41).map (·.size)=some 4:=by
 obtain⟨i0,hi,hz0,hz1,hz2⟩:=info_parts Tryz.infoI
 rw[hi]
 simp[hz1]
theorem Tryz.szI(w:World):(sizeOf 41).run Tryz.prog w=.ok 4 w:=by
 obtain⟨i0,hi,hz0,hz1,hz2⟩:=info_parts Tryz.infoI
 simp[sizeOf,typeInfo,hi,hz1]
theorem insert_shift(b off n c i vb:Nat)(cs vs:List Value)(w:World)(hi:i<n)(hroom:n+1≤c)(hc63:c≤9223372036854775807)(hvb:vb≠b)
  (hcl:cs.length=n * 4) (hvl:vs.length=4)
  (hcs: ∀j v,cs[j]? =some v→w.cell? ⟨b,off+j,none⟩=some v) (hsp: ∀j,j<(n+1) * 4→(w.cell? ⟨b,off+j,none⟩).isSome=true) (hfz: ∀j,w.frozen? ⟨b,j,none⟩=false)
  (hvs: ∀j v,vs[j]? =some v→w.cell? ⟨vb,j,none⟩=some v) (h1c: ∀v∈cs,v.oneCell'=true) (h1v: ∀v∈vs,v.oneCell'=true)
  (tA tB:TypeId) (kB:Nat) (hsa:w.shape? vb=some (tA,4)) (hsb:w.shape? b=some (tB,kB)) (hkB:kB≠0) (hfa: ∀j,w.frozen? ⟨vb,j,none⟩=false):
  Calls Tryz.prog 180 #[.slice (some ⟨b,off,none⟩) n c,.int .i64 i,.slice (some ⟨vb,0,none⟩) 1 1] w fun e w'=>
   e=.returned (.slice (some ⟨b,off,none⟩) (n+1) c)∧w'=(w.drew.setCells b (off+(i+1) * 4) (cs.drop (i * 4))).setCells b (off+i * 4) vs:=by
 have hz2: ¬((i:Int)=(n:Int)):=by omega
 have hov: ∀lb cb,(callFunc 213 #[.slice (some ⟨vb,0,none⟩) 1 1,.slice (some ⟨b,off+(i+1) * 4,none⟩) lb cb]).run Tryz.prog w=.ok (.value (.bool false)) w:=fun lb cb=>by
  rw[run_callFunc_extern Tryz.func213 (by kernel_rfl) (by kernel_rfl) (by kernel_rfl) (e:=Extern.SlicesOverlaps.overlaps #[27,27] #[4]) (by kernel_rfl),
   Lib.run_overlaps_apart w 27 4 41 Tryz.underlying27 4 Tryz.szI ⟨vb,0,none⟩ ⟨b,off+(i+1) * 4,none⟩ 1 1 lb cb hvb tA tB 4 kB hsa hsb hkB (hfa 0) (hfa 4)]
  rfl
 have hdl:(cs.drop (i * 4)).length=(n - i) * 4:=by rw[List.length_drop,hcl];omega
 have mixed:Tryz.prog.follows .mixedOrders=true:=by kernel_rfl
 have hw1:IntKind.i64.wrap ((i:Int)+1)=(i:Int)+1:=by rw[IntKind.wrap_i64];omega
 have hb1:(0:Int)≤(i:Int)+1:=by omega
 have htn:((i:Int)+1).toNat=i+1:=by omega
 have hin:i≤n:=by omega
 have hb2: ¬(c=i+1):=by omega
 have hb3:(i:Int)≤(n:Int)+1:=by omega
 have hb4: ¬(c=i):=by omega
 have hcp1: ∀ty dc sc,(Builtin.copy_ #[94,94] ty #[.slice (some ⟨b,off+(i+1) * 4,none⟩) (n - i) dc,.slice (some ⟨b,off+i * 4,none⟩) (n+1 - i) sc]).run Tryz.prog w.drew=.ok (goInt ((n - i:Nat):Int)) (w.drew.setCells b (off+(i+1) * 4) (cs.drop (i * 4))):=fun ty dc sc=>
  qFt w.drew _ _ ty 41 4 b (off+(i+1) * 4) (n - i) dc ⟨b,off+i * 4,none⟩ (n+1 - i) sc (n - i) (cs.drop (i * 4)) Tryz.underlying94 Tryz.sizeIn (by simp only[Nat.min_def];split<;>omega) hdl
   (fun j v hj=>by rw[Addr.add_lit,Nat.add_assoc];exact hcs (i * 4+j) v (by rwa [List.getElem?_drop]at hj))
   (fun j hj=>by rw[Nat.add_assoc];exact hsp _ (by omega)) (fun j hj=>hfz _) (fun v hv=>h1c v (List.mem_of_mem_drop hv))
 obtain⟨W1,hW1⟩: ∃W1,W1=w.drew.setCells b (off+(i+1) * 4) (cs.drop (i * 4)):=⟨_,rfl⟩
 have hsp1: ∀k,k<(n+1) * 4→(W1.cell? ⟨b,off+k,none⟩).isSome=true:=fun k hk=>by
  rw[hW1]
  exact qFq b _ _ _ (fun j hj=>by rw[Nat.add_assoc];exact hsp _ (by omega)) _ (hsp k hk)
 have hcp2: ∀(W:World),(∀x,W.cell? x=W1.cell? x)→(∀x,W.frozen? x=W1.frozen? x)→∀ty dc,(Builtin.copy_ #[94,27] ty #[.slice (some ⟨b,off+i * 4,none⟩) (n+1 - i) dc,.slice (some ⟨vb,0,none⟩) 1 1]).run Tryz.prog W=.ok (goInt 1) (W.setCells b (off+i * 4) vs):=fun W hWc hWf ty dc=>
  qFt W _ _ ty 41 4 b (off+i * 4) (n+1 - i) dc ⟨vb,0,none⟩ 1 1 1 vs Tryz.underlying94 Tryz.sizeIn (by simp only[Nat.min_def];split<;>omega) hvl
   (fun j v hj=>by
    rw[Addr.add_lit,hWc,hW1,World.cell?_setCells_out b _ _ _ _ (fun h _=>absurd h hvb),Nat.zero_add]
    exact hvs j v hj)
   (fun j hj=>by rw[hWc,Nat.add_assoc];exact hsp1 _ (by omega)) (fun j hj=>by rw[hWf,hW1,World.frozen?_setCells];exact hfz _) h1v
 rw[←hW1]at hcp1
 go_enter Tryz.func180,Tryz.ntmps180
 go_wp2_with (simp only[hov])
 go_region_law_o (refine qJf rfl _ _ 94 94 rfl _ _ (by simp[Act.eval,Act.put]) (by simp[Act.eval,Act.put]) (hcp1 _ _ _) ?_)
 go_wp2_with (at_builtin;refine qGn _ rfl _ _ 94 27 rfl _ _ rfl rfl (hcp2 _ (fun _=>rfl) (fun _=>rfl) _ _) ?_)
 go_ret
 first|exact⟨rfl,rfl⟩|exact⟨rfl,by rw[hW1]⟩
def zc:Value:=.agg #[.int .i64 0,.int .i64 0,.int .i64 0,.string ⟨#[]⟩]
theorem insert_grow(b off n c i vb:Nat)(cs vs:List Value)(w:World)(hi:i<n)(hnc:n≤c)(hroom:c<n+1)(hbig:n≤1048576)
  (hcl:cs.length=n * 4) (hvl:vs.length=4)
  (hcs: ∀j v,cs[j]? =some v→w.cell? ⟨b,off+j,none⟩=some v)
  (hvs: ∀j v,vs[j]? =some v→w.cell? ⟨vb,j,none⟩=some v) (h1c: ∀v∈cs,v.oneCell'=true) (h1v: ∀v∈vs,v.oneCell'=true):
  Calls Tryz.prog 180 #[.slice (some ⟨b,off,none⟩) n c,.int .i64 i,.slice (some ⟨vb,0,none⟩) 1 1] w fun e w'=>
   e=.returned (.slice (some ⟨w.heap.size,0,none⟩) (n+1) (grownCap w (n+1) c 41))∧
   w'=(((w.alloc (.cells ((cs.take (i * 4)).toArray++Builtin.zeroCells zc.cells (n+1 - i)++Builtin.zeroCells zc.cells (grownCap w (n+1) c 41 - (n+1))) 41)).drew.setCells w.heap.size (i * 4) vs).drew).setCells w.heap.size ((i+1) * 4) (cs.drop (i * 4)):=by
 have mixed:Tryz.prog.follows .mixedOrders=true:=by kernel_rfl
 obtain⟨i0,hi0,hz0,hzs,hzb⟩:=info_parts Tryz.infoI
 have hz0:i0.zero=some zc:=hz0
 have hz2: ¬((i:Int)=(n:Int)):=by omega
 have hz3:(c:Int)<(n:Int)+1:=by omega
 have hbw:b<w.heap.size:=block_lt_of_cell (hcs 0 _ (List.getElem?_eq_getElem (by omega)))
 have hvw:vb<w.heap.size:=block_lt_of_cell (hvs 0 _ (List.getElem?_eq_getElem (by omega)))
 have hkk:(n:Int)+1 - (i:Int)=((n+1 - i:Nat):Int):=by omega
 have hik:i+(n+1 - i)=n+1:=by omega
 have hold:(Builtin.firstCells i0.size i (.slice (some ⟨b,off,none⟩) i c)).run Tryz.prog w.drew=.ok (cs.take (i * 4)).toArray w.drew:=by
  rw[hzs]
  exact run_firstCells_some w.drew 4 i ⟨b,off,none⟩ i c (cs.take (i * 4)) (by rw[List.length_take];omega) (fun j v hj=>by
   rw[Addr.add_lit]
   rw[List.getElem?_take]at hj
   split at hj
   ·exact hcs j v hj
   ·cases hj)
 have hrz: ∀ty,(Builtin.append_ #[94,3] ty #[.slice (some ⟨b,off,none⟩) i c,.int .i64 ((n:Int)+1 - (i:Int))]).run Tryz.prog w=
   .ok (.slice (some ⟨w.heap.size,0,none⟩) (n+1) (grownCap w (n+1) c 41)) (w.drew.alloc (.cells ((cs.take (i * 4)).toArray++Builtin.zeroCells zc.cells (n+1 - i)++Builtin.zeroCells zc.cells (grownCap w (n+1) c 41 - (n+1))) 41)):=fun ty=>by
  have h:=Lib.run_append_grow_zeros w 94 3 ty 41 i0 _ .i64 .i64 Tryz.underlying94 Tryz.underlying3 hi0 hz0 (some ⟨b,off,none⟩) i c (cs.take (i * 4)) hold (n+1 - i) (by omega) (by omega) (by omega) (by omega) (by rw[hzb];omega) (by rw[hzb,hik];exact growslice_fits hroom (by omega))
  rw[hik]at h
  rw[hkk]
  exact h
 obtain⟨G,hG⟩: ∃G,G=grownCap w (n+1) c 41:=⟨_,rfl⟩
 obtain⟨ROW,hROW⟩: ∃ROW:Array Value,ROW=(cs.take (i * 4)).toArray++Builtin.zeroCells zc.cells (n+1 - i)++Builtin.zeroCells zc.cells (G - (n+1)):=⟨_,rfl⟩
 rw[←hG]at hrz⊢
 rw[←hROW]at hrz⊢
 have hRl:(n+1) * 4≤ROW.size:=by
  rw[hROW]
  simp only[Array.size_append,List.size_toArray,size_zeroCells,List.length_take]
  have hzz:zc.cells.size=4:=rfl
  rw[hzz]
  omega
 obtain⟨W1,hW1⟩: ∃W1,W1=w.drew.alloc (.cells ROW 41):=⟨_,rfl⟩
 rw[←hW1]at hrz
 have hN: ∀j,j<(n+1) * 4→(W1.cell? ⟨w.heap.size,j,none⟩).isSome=true:=fun j hj=>by
  rw[hW1,World.cell?_alloc_at (w:=w.drew) ROW _ w.heap.size j rfl,Array.getElem?_eq_getElem (by omega)];rfl
 have hNf: ∀j,W1.frozen? ⟨w.heap.size,j,none⟩=false:=fun j=>by rw[hW1];exact World.frozen?_alloc_at (w:=w.drew) ROW _ w.heap.size j rfl
 have hOb: ∀j v,w.cell? ⟨b,j,none⟩=some v→W1.cell? ⟨b,j,none⟩=some v:=fun j v h=>by rw[hW1,World.cell?_alloc_past (w:=w.drew) _ b j hbw];exact h
 have hOv: ∀j v,w.cell? ⟨vb,j,none⟩=some v→W1.cell? ⟨vb,j,none⟩=some v:=fun j v h=>by rw[hW1,World.cell?_alloc_past (w:=w.drew) _ vb j hvw];exact h
 have hcpA: ∀(W:World),(∀x,W.cell? x=W1.cell? x)→(∀x,W.frozen? x=W1.frozen? x)→∀ty dc,(Builtin.copy_ #[94,27] ty #[.slice (some ⟨w.heap.size,i * 4,none⟩) (n+1 - i) dc,.slice (some ⟨vb,0,none⟩) 1 1]).run Tryz.prog W=.ok (goInt 1) (W.setCells w.heap.size (i * 4) vs):=fun W hWc hWf ty dc=>
  qFt W _ _ ty 41 4 w.heap.size (i * 4) (n+1 - i) dc ⟨vb,0,none⟩ 1 1 1 vs Tryz.underlying94 Tryz.sizeIn (by simp only[Nat.min_def];split<;>omega) hvl
   (fun j v hj=>by rw[Addr.add_lit,hWc,Nat.zero_add];exact hOv _ v (hvs j v hj))
   (fun j hj=>by rw[hWc];exact hN _ (by omega)) (fun j hj=>by rw[hWf];exact hNf _) h1v
 have hGn:n+1≤G:=by rw[hG];exact grownCap_ge w _ _ _
 have hG63:G≤9223372036854775807:=by
  have:=grownCap_le_maxLen w (n+1) c 41 (by unfold maxLen;omega)
  rw[←hG]at this
  unfold maxLen at this
  omega
 have hGi: ¬(G=i):=by omega
 have hGim: ¬(G=i+1):=by omega
 have hci: ¬(c=i):=by omega
 have hbN:b≠w.heap.size:=by omega
 have hdl:(cs.drop (i * 4)).length=(n - i) * 4:=by rw[List.length_drop,hcl];omega
 have hcpB: ∀(W:World),(∀x,W.cell? x=(W1.setCells w.heap.size (i * 4) vs).cell? x)→(∀x,W.frozen? x=(W1.setCells w.heap.size (i * 4) vs).frozen? x)→∀ty dc sc,(Builtin.copy_ #[94,94] ty #[.slice (some ⟨w.heap.size,(i+1) * 4,none⟩) (n - i) dc,.slice (some ⟨b,off+i * 4,none⟩) (n - i) sc]).run Tryz.prog W=.ok (goInt ((n - i:Nat):Int)) (W.setCells w.heap.size ((i+1) * 4) (cs.drop (i * 4))):=fun W hWc hWf ty dc sc=>
  qFt W _ _ ty 41 4 w.heap.size ((i+1) * 4) (n - i) dc ⟨b,off+i * 4,none⟩ (n - i) sc (n - i) (cs.drop (i * 4)) Tryz.underlying94 Tryz.sizeIn (by simp only[Nat.min_def];split<;>omega) hdl
   (fun j v hj=>by
    rw[Addr.add_lit,hWc,World.cell?_setCells_out _ _ _ _ _ (fun h _=>absurd h hbN),Nat.add_assoc]
    exact hOb _ v (hcs (i * 4+j) v (by rwa [List.getElem?_drop]at hj)))
   (fun j hj=>by rw[hWc];exact qFq _ _ _ _ (fun t ht=>hN _ (by omega)) _ (hN _ (by omega)))
   (fun j hj=>by rw[hWf,World.frozen?_setCells];exact hNf _) (fun v hv=>h1c v (List.mem_of_mem_drop hv))
 subst hW1
 have hE1: ∀x,((w.alloc (.cells ROW 41)).drew).cell? x=(w.drew.alloc (.cells ROW 41)).cell? x:=fun x=>rfl
 have hE2: ∀x,((w.alloc (.cells ROW 41)).drew).frozen? x=(w.drew.alloc (.cells ROW 41)).frozen? x:=fun x=>rfl
 have hF1: ∀x,(((w.alloc (.cells ROW 41)).drew.setCells w.heap.size (i * 4) vs).drew).cell? x=((w.drew.alloc (.cells ROW 41)).setCells w.heap.size (i * 4) vs).cell? x:=fun x=>rfl
 have hF2: ∀x,(((w.alloc (.cells ROW 41)).drew.setCells w.heap.size (i * 4) vs).drew).frozen? x=((w.drew.alloc (.cells ROW 41)).setCells w.heap.size (i * 4) vs).frozen? x:=fun x=>rfl
 have hw1:IntKind.i64.wrap ((i:Int)+1)=(i:Int)+1:=by rw[IntKind.wrap_i64];omega
 have hb1:(0:Int)≤(i:Int)+1:=by omega
 have htn:((i:Int)+1).toNat=i+1:=by omega
 have hin:i≤n:=by omega
 have hb3:(i:Int)≤(n:Int):=by omega
 clear hkk hik hold hROW hG hRl
 go_enter Tryz.func180,Tryz.ntmps180
 go_wp2_with (first
  |(at_builtin;refine Lib.wpList_append_run _ rfl _ _ _ _ rfl _ _ rfl rfl _ _ (hrz _) ?_)
  |(at_builtin;refine qGn _ rfl _ _ 94 27 rfl _ _ rfl rfl (hcpA _ hE1 hE2 _ _) ?_))
 go_region_law_o (refine qJf rfl _ _ 94 94 rfl (.slice (some ⟨w.heap.size,(i+1) * 4,none⟩) (n - i) (G - (i+1))) (.slice (some ⟨b,off+i * 4,none⟩) (n - i) (c - i)) (by simp[Act.eval,Act.put]) (by simp[Act.eval,Act.put]) (hcpB _ hF1 hF2 3 (G - (i+1)) (c - i)) ?_)
 go_wp2
 go_ret
 exact⟨rfl,rfl⟩
theorem qDh: ∀(vs:List Value) (w:World) (g o:Nat) (cur:Array Value) (e:TypeId),w.heap[g]? =some (.cells cur e (0,0))→o+vs.length≤cur.size→
  ∃cur':Array Value,(w.setCells g o vs).heap[g]? =some (.cells cur' e (0,0))∧cur'.size=cur.size∧∀j,cur'[j]? =if o≤j∧j<o+vs.length then vs[j - o]? else cur[j]? :=by
 intro vs
 induction vs with
 |nil=>intro w g o cur e hg _;exact⟨cur,hg,rfl,fun j=>by rw[if_neg (by simp only[List.length_nil];omega)]⟩
 |cons x vs ih=>
  intro w g o cur e hg hs
  simp only[List.length_cons]at hs
  have h1:=heap_setCell_same w g o _ e x hg
  obtain⟨cur',h2,h3,h4⟩:=ih (w.setCell ⟨g,o,none⟩ x) g (o+1) _ e h1 (by simp;omega)
  refine⟨cur',h2,by rw[h3];simp,fun j=>?_⟩
  rw[h4,Array.getElem?_setIfInBounds]
  by_cases hj:j=o
  ·subst hj
   have hjs:j<cur.size:=by omega
   rw[if_neg (by omega),if_pos (by simp)]
   simp[hjs]
  ·by_cases hj2:o+1≤j∧j<o+1+vs.length
   ·rw[if_pos hj2,if_pos (by simp only[List.length_cons];omega),show j - o=(j - (o+1))+1 by omega,List.getElem?_cons_succ]
   ·rw[if_neg hj2,if_neg (fun h=>hj h.symm),if_neg (by simp only[List.length_cons];omega)]
theorem qEz{P:Program}{w:World}{e:TypeId}{size B n:Nat}{v:Value}{xs:List Value}{ops:Array Oper}{rest:List Oper}{o:Oper}{a:Act}{Q:Exit→Act→World→Prop}(hgd:o.guard=none)(s x:Operand)(t tx:TypeId)
  (ho:o.op=.call {callee:=.builtin .append,args:=#[s,x],argTypes:=#[t,tx]}) (z:Value) (bytes:Nat) (ht:P.underlying t=some (.slice e)) (hinfo:(P.info? e).map (fun i=>(i.zero,i.size,i.bytes))=some (some z,size,bytes))
  (hzs:z.cells.size=size) (hs:a.eval s=v) (h:Sl w e size B v n xs) (u:Value) (m:Nat) (news:List Value) (hx:a.eval x=u) (hsrc:Src P size tx u m news w)
  (h63:n+m≤maxLen) (hbytes:(n+m) * bytes≤140737488355328) (hB:B≤w.heap.size)
  (hh: ∀v' w',Sl w' e size B v' (n+m) (xs++news)→w.grownBy w' v.ownBlock→(v'.ownBlock=v.ownBlock∨v'.ownBlock=some w.heap.size)→wpList P ops Q rest (a.put o.dst v') w'):wpList P ops Q (o::rest) a w:=by
 refine wpList_plain hgd fun _ hK=>?_
 obtain⟨i0,hi,hz0,hz1,hz2⟩:=info_parts hinfo
 obtain⟨v',w',hr,h2,h3,h4⟩:=qFg (P:=P) t tx o.type i0 z bytes ht hi hz0 hz1 hz2 hzs h u m news hsrc h63 hbytes hB
 unfold Oper.wp execOp
 simp only[ho,resolve,invoke,builtin,Sem.run_bind,Sem.run_pure,Result.andThen_ok,List.map_toArray,List.map_cons,List.map_nil,hs,hx,hr]
 exact hK _ _ (hh v' w' h2 h3 h4)
theorem ItAt.cellsL{w:World}{g:Nat}{y:It}(h:ItAt w g y.1 y.2.1 y.2.2.1 y.2.2.2): ∀j v,(cels [y])[j]? =some v→w.cell? ⟨g,j,none⟩=some v:=by
 intro j v hj
 have hl:j<4:=(List.getElem?_eq_some_iff.1 hj).1
 obtain⟨c0,c1,c2,c3⟩:=h.cells
 match j,hl with
 |0,_=>rw[c0,←hj];rfl
 |1,_=>rw[c1,←hj];rfl
 |2,_=>rw[c2,←hj];rfl
 |3,_=>rw[c3,←hj];rfl
def InsPost(w:World)(B:Nat)(v:Value)(ls:List It)(e:Ending)(w':World):Prop:=
 ∃v',e=.returned v'∧SlI w' B v' ls∧w.grownBy w' v.ownBlock∧(v'.ownBlock=v.ownBlock∨ ∃nb,v'.ownBlock=some nb∧w.heap.size≤nb)
theorem insert_end(v:Value)(ts:List It)(y:It)(B vb:Nat)(w:World)(hS:SlI w B v ts)(hy:ItAt w vb y.1 y.2.1 y.2.2.1 y.2.2.2)(hl:ts.length≤1048576)(hB:B≤w.heap.size):
  Calls Tryz.prog 180 #[v,.int .i64 (ts.length:Int),.slice (some ⟨vb,0,none⟩) 1 1] w (InsPost w B v (ts++[y])):=by
 obtain⟨ao,cap,rfl⟩:=Sl.form hS
 have hsrc:Src Tryz.prog 4 27 (.slice (some ⟨vb,0,none⟩) 1 1) 1 (cels [y]) w:=Src.ofSlice w Tryz.underlying27 ⟨vb,0,none⟩ 1 1 (cels [y]) rfl (fun j u hj=>by rw[Addr.add_lit,Nat.zero_add];exact hy.cellsL j u hj) qDk
 have HS:=Ag hS
 have HSR:Hid (Src Tryz.prog 4 27 (.slice (some ⟨vb,0,none⟩) 1 1) 1 (cels [y]) w):=hsrc
 have hcap:ts.length≤cap:=by
  rcases hS.2 with⟨hv,hn⟩|⟨g,off,cap',cur,hv,hb,hg,hc,_⟩
  ·omega
  ·simp at hv;omega
 clear hS hsrc hy
 go_enter Tryz.func180,Tryz.ntmps180
 by_cases hcc:cap=ts.length
 ·go_wp2_with (at_builtin;refine qEz rfl _ _ 94 27 rfl _ 40 Tryz.underlying94 Tryz.infoI rfl rfl HS.out _ 1 (cels [y]) rfl HSR.out (by unfold maxLen;omega) (by omega) hB ?_;intro v2 w2 S2 g2 o2)
  go_ret
  refine⟨_,rfl,?_,g2,o2.imp id (fun h=>⟨_,h,Nat.le_refl _⟩)⟩
  unfold SlI
  rw[List.length_append,qCe]
  exact S2
 ·go_wp2_with (at_builtin;refine qEz rfl _ _ 94 27 rfl _ 40 Tryz.underlying94 Tryz.infoI rfl rfl HS.out _ 1 (cels [y]) rfl HSR.out (by unfold maxLen;omega) (by omega) hB ?_;intro v2 w2 S2 g2 o2)
  go_ret
  refine⟨_,rfl,?_,g2,o2.imp id (fun h=>⟨_,h,Nat.le_refl _⟩)⟩
  unfold SlI
  rw[List.length_append,qCe]
  exact S2
theorem qFa(ts:List It)(y:It)(p:Nat)(hp:p≤ts.length)(j:Nat):(cels (ts.take p++y::ts.drop p))[j]? =if j<p * 4 then(cels ts)[j]? else if j<(p+1) * 4 then(cels [y])[j - p * 4]? else(cels ts)[j - 4]? :=by
 have hl:(cels (ts.take p)).length=p * 4:=by rw[qBq,List.length_take,Nat.min_eq_left hp]
 rw[qCe,show y::ts.drop p=[y]++ts.drop p from rfl,qCe,List.getElem?_append,hl]
 by_cases h1:j<p * 4
 ·rw[if_pos h1,if_pos h1,←cels_take,List.getElem?_take,if_pos h1]
 ·rw[if_neg h1,if_neg h1,List.getElem?_append]
  have hy:(cels [y]).length=4:=rfl
  rw[hy]
  by_cases h2:j<(p+1) * 4
  ·rw[if_pos h2,if_pos (by omega)]
  ·rw[if_neg h2,if_neg (by omega),←qHz,List.getElem?_drop]
   congr 1
   omega
theorem shift_cells{cur c1 c2:Array Value}{ts:List It}{y:It}{p off k:Nat}(hp:p≤ts.length)(htk: ∀j,j<p * 4→cur[k+j]? =(cels ts)[j]?)
  (q3: ∀j,c1[j]? =if k+(p+1) * 4≤j∧j<k+(p+1) * 4+((cels ts).drop (p * 4)).length then((cels ts).drop (p * 4))[j - (k+(p+1) * 4)]? else cur[j]?)
  (r3: ∀j,c2[j]? =if k+p * 4≤j∧j<k+p * 4+(cels [y]).length then(cels [y])[j - (k+p * 4)]? else c1[j]?) (j:Nat) (hj:j<(ts.length+1) * 4):
  c2[k+j]? =(cels (ts.take p++y::ts.drop p))[j]? :=by
 have hcl:=qBq ts
 have hy4:(cels [y]).length=4:=rfl
 rw[r3,q3,qFa ts y p hp,List.length_drop,hy4]
 by_cases h1:j<p * 4
 ·rw[if_neg (by omega),if_neg (by omega),if_pos h1,htk j h1]
 ·rw[if_neg h1]
  by_cases h2:j<(p+1) * 4
  ·rw[if_pos (by omega),if_pos h2,show k+j - (k+p * 4)=j - p * 4 by omega]
  ·rw[if_neg (by omega),if_pos (by omega),if_neg h2,List.getElem?_drop,show p * 4+(k+j - (k+(p+1) * 4))=j - 4 by omega]
theorem grown_tr2{a b c:World}{row:Option Nat}(h:a.grownBy b row)(k:b.grownBy c row):a.grownBy c row:=
 ⟨k.os.trans h.os,k.tape.trans h.tape,k.output.trans h.output,Nat.le_trans h.size k.size,fun i hi hn=>(k.block i (Nat.lt_of_lt_of_le hi h.size) hn).trans (h.block i hi hn)⟩
theorem grown_drew{a b:World}{row:Option Nat}(h:a.drew.grownBy b row):a.grownBy b row:=⟨h.os,h.tape,h.output,h.size,fun i hi hn=>h.block i hi hn⟩
theorem insert_any(v:Value)(ts:List It)(p:Nat)(y:It)(B vb:Nat)(w:World)(hS:SlI w B v ts)(hy:ItAt w vb y.1 y.2.1 y.2.2.1 y.2.2.2)(hne: ∀k,v.ownBlock=some k→k≠vb)(hl:ts.length≤1048576)(hB:B≤w.heap.size)(hp:p≤ts.length):
  Calls Tryz.prog 180 #[v,.int .i64 (p:Int),.slice (some ⟨vb,0,none⟩) 1 1] w (InsPost w B v (ts.take p++y::ts.drop p)):=by
 by_cases hpe:p=ts.length
 ·subst hpe
  rw[List.take_length,List.drop_length]
  exact insert_end v ts y B vb w hS hy hl hB
 have hpl:p<ts.length:=by omega
 have hlen:(ts.take p++y::ts.drop p).length=ts.length+1:=by simp;omega
 rcases hS.2 with⟨hv,hn⟩|⟨g,off,cap,cur,rfl,hb,hg,hc,hm,hcs,htk⟩
 ·omega
 have hgl:g<w.heap.size:=(Array.getElem?_eq_some_iff.1 hg).1
 have hcl:=qBq ts
 have hcell: ∀j u,(cels ts)[j]? =some u→w.cell? ⟨g,off+j,none⟩=some u:=fun j u hj=>by
  rw[cell_of_row w g _ _ 41 (0,0) hg,htk j (by rw[←hcl];exact(List.getElem?_eq_some_iff.1 hj).1),hj]
 have hm':cap≤9223372036854775807:=by unfold maxLen at hm;omega
 by_cases hroom:ts.length+1≤cap
 ·refine(insert_shift g off ts.length cap p vb (cels ts) (cels [y]) w hpl hroom hm' (fun e=>hne g rfl e.symm) hcl rfl hcell
   (fun j hj=>by
    rw[cell_of_row w g _ _ 41 (0,0) hg,Array.getElem?_eq_getElem (by omega)];rfl)
   (fun j=>frozen_of_row w g j _ 41 hg) hy.cellsL qDk qDk 41 41 cur.size ?_ ?_ (by omega) (fun j=>frozen_of_row w vb j _ 41 hy)).mono ?_
  ·simp[World.shape?,show w.heap[vb]? =_ from hy]
  ·simp[World.shape?,hg]
  ·rintro e w' ⟨rfl,rfl⟩
   obtain⟨c1,q1,q2,q3⟩:=qDh ((cels ts).drop (p * 4)) w.drew g (off+(p+1) * 4) cur 41 hg (by rw[List.length_drop];omega)
   obtain⟨c2,r1,r2,r3⟩:=qDh (cels [y]) _ g (off+p * 4) c1 41 q1 (by show off+p * 4+4≤_;omega)
   refine⟨_,rfl,⟨by rw[qBq],.inr ⟨g,off,cap,c2,by rw[hlen],hb,r1,by rw[hlen];omega,hm,by omega,fun j hj=>?_⟩⟩,?_,.inl rfl⟩
   ·rw[hlen]at hj
    exact shift_cells (off:=off) hp (fun j hj=>htk j (by omega)) q3 r3 j hj
   ·exact grown_tr2 (grown_drew (qCa ((cels ts).drop (p * 4)) w.drew g _)) (qCa _ _ _ _)
 ·refine(insert_grow g off ts.length cap p vb (cels ts) (cels [y]) w hpl hc (by omega) hl hcl rfl hcell hy.cellsL qDk qDk).mono ?_
  rintro e w' ⟨rfl,rfl⟩
  obtain⟨ROW,hROW⟩: ∃ROW:Array Value,ROW=((cels ts).take (p * 4)).toArray++Builtin.zeroCells zc.cells (ts.length+1 - p)++Builtin.zeroCells zc.cells (grownCap w (ts.length+1) cap 41 - (ts.length+1)):=⟨_,rfl⟩
  rw[←hROW]
  have hGn:ts.length+1≤grownCap w (ts.length+1) cap 41:=grownCap_ge w _ _ _
  have hG63:grownCap w (ts.length+1) cap 41≤maxLen:=grownCap_le_maxLen w (ts.length+1) cap 41 (by unfold maxLen;omega)
  generalize grownCap w (ts.length+1) cap 41=G at *
  have hRl:ROW.size=G * 4:=by
   rw[hROW]
   simp only[Array.size_append,List.size_toArray,size_zeroCells,List.length_take]
   have hzz:zc.cells.size=4:=rfl
   rw[hzz]
   omega
  have hRc: ∀j,j<p * 4→ROW[0+j]? =(cels ts)[j]? :=fun j hj=>by
   rw[hROW,Nat.zero_add,Array.append_assoc,Array.getElem?_append_left (by simp;omega)]
   simp[hj]
  have h0:((w.alloc (.cells ROW 41)).drew).heap[w.heap.size]? =some (.cells ROW 41 (0,0)):=heap_alloc_new w _
  obtain⟨c1,q1,q2,q3⟩:=qDh (cels [y]) _ w.heap.size (p * 4) ROW 41 h0 (by show p * 4+4≤_;omega)
  have q1':((((w.alloc (.cells ROW 41)).drew).setCells w.heap.size (p * 4) (cels [y])).drew).heap[w.heap.size]? =some (.cells c1 41 (0,0)):=q1
  obtain⟨c2,r1,r2,r3⟩:=qDh ((cels ts).drop (p * 4)) _ w.heap.size ((p+1) * 4) c1 41 q1' (by rw[List.length_drop];omega)
  refine⟨_,rfl,⟨by rw[qBq],.inr ⟨w.heap.size,0,G,c2,by rw[hlen],hB,r1,by rw[hlen];exact hGn,hG63,by omega,fun j hj=>?_⟩⟩,?_,.inr ⟨_,rfl,Nat.le_refl _⟩⟩
  ·rw[hlen]at hj
   rw[Nat.zero_add]
   have hy4:(cels [y]).length=4:=rfl
   rw[r3,q3,qFa ts y p hp,List.length_drop,hy4]
   by_cases h1:j<p * 4
   ·rw[if_neg (by omega),if_neg (by omega),if_pos h1]
    have:=hRc j h1
    rwa [Nat.zero_add]at this
   ·rw[if_neg h1]
    by_cases h2:j<(p+1) * 4
    ·rw[if_neg (by omega),if_pos (by omega),if_pos h2]
    ·rw[if_pos (by omega),if_neg h2,List.getElem?_drop,show p * 4+(j - (p+1) * 4)=j - 4 by omega]
  ·have G1:=qCa (cels [y]) (w.alloc (.cells ROW 41)).drew w.heap.size (p * 4)
   have G2:=qCa ((cels ts).drop (p * 4)) (((w.alloc (.cells ROW 41)).drew).setCells w.heap.size (p * 4) (cels [y])).drew w.heap.size ((p+1) * 4)
   have hsz:(w.alloc (.cells ROW 41)).drew.heap.size=w.heap.size+1:=by show(w.alloc (.cells ROW 41)).heap.size=_;simp
   have z1:w.heap.size+1≤(((w.alloc (.cells ROW 41)).drew).setCells w.heap.size (p * 4) (cels [y])).heap.size:=by rw[←hsz];exact G1.size
   have z2:w.heap.size+1≤((((w.alloc (.cells ROW 41)).drew).setCells w.heap.size (p * 4) (cels [y])).drew.setCells w.heap.size ((p+1) * 4) ((cels ts).drop (p * 4))).heap.size:=Nat.le_trans z1 G2.size
   refine⟨G2.os.trans G1.os,G2.tape.trans G1.tape,G2.output.trans G1.output,by omega,fun k hk hne=>?_⟩
   have hkn:some k≠some w.heap.size:=by intro h;simp at h;omega
   refine(G2.block k (Nat.lt_of_lt_of_le (by omega:k<w.heap.size+1) z1) hkn).trans ?_
   refine(G1.block k (by omega) hkn).trans ?_
   exact heap_alloc_old w _ hk
def ins1(ts:List It)(y:It):List It:=if hasP ts y.1=true then ts else ts.filter (fun x=>decide (x.1<y.1))++y::ts.filter (fun x=>decide (y.1<x.1))
theorem qDy{ts:List It}{n:Int}:hasP ts n=false↔ ∀x∈ts,¬x.1=n:=by
 constructor
 ·intro h x hx he
  have:=qCr.2 ⟨x,hx,he⟩
  rw[h]at this
  cases this
 ·intro h
  cases hh:hasP ts n with
  |false=>rfl
  |true=>
   obtain⟨x,hx,he⟩:=qCr.1 hh
   exact absurd he (h x hx)
theorem parts_has{ts:List It}{n:Int}{p:Nat}(h:Asc ts)(hp:Parts ts n p):hasP ts n=decide (∃h:p<ts.length,ts[p].1=n):=by
 obtain⟨h1,h2,h3⟩:=hp
 rw[Bool.eq_iff_iff,qCr,decide_eq_true_iff]
 constructor
 ·rintro⟨x,hx,he⟩
  rw[←List.take_append_drop p ts]at hx
  rcases List.mem_append.1 hx with h4|h4
  ·have:=h2 x h4;omega
  ·obtain⟨i,hi,rfl⟩:=List.mem_drop_iff_getElem.1 h4
   have hpl:p<ts.length:=by omega
   refine⟨hpl,?_⟩
   by_cases hi0:i=0
   ·subst hi0;simpa using he
   ·have h5:=h.at (i:=p) (j:=p+i) (by omega) (by omega)
    have h6:=h3 ts[p] (List.mem_drop_iff_getElem.2 ⟨0,by omega,by simp⟩)
    omega
 ·rintro⟨hl,he⟩
  exact⟨_,List.getElem_mem hl,he⟩
theorem parts_lt{ts:List It}{n:Int}{p:Nat}(hp:Parts ts n p):ts.filter (fun x=>decide (x.1<n))=ts.take p:=by
 obtain⟨h1,h2,h3⟩:=hp
 have e:ts.filter (fun x=>decide (x.1<n))=(ts.take p++ts.drop p).filter (fun x=>decide (x.1<n)):=by rw[List.take_append_drop]
 rw[e,List.filter_append,List.filter_eq_self.2 (fun x hx=>by simpa using h2 x hx),List.filter_eq_nil_iff.2 (fun x hx=>by have:=h3 x hx;simp;omega),List.append_nil]
theorem parts_gt{ts:List It}{n:Int}{p:Nat}(hp:Parts ts n p)(hh:hasP ts n=false):ts.filter (fun x=>decide (n<x.1))=ts.drop p:=by
 obtain⟨h1,h2,h3⟩:=hp
 have e:ts.filter (fun x=>decide (n<x.1))=(ts.take p++ts.drop p).filter (fun x=>decide (n<x.1)):=by rw[List.take_append_drop]
 rw[e,List.filter_append,List.filter_eq_nil_iff.2 (fun x hx=>by have:=h2 x hx;simp;omega),List.filter_eq_self.2 (fun x hx=>by
  have h4:=h3 x hx
  have h5:=qDy.1 hh x (List.mem_of_mem_drop hx)
  simp;omega),List.nil_append]
theorem ins1_has{ts:List It}{y:It}(h:hasP ts y.1=true):ins1 ts y=ts:=by unfold ins1;rw[if_pos h]
theorem ins1_not{ts:List It}{y:It}{p:Nat}(hp:Parts ts y.1 p)(h:hasP ts y.1=false):ins1 ts y=ts.take p++y::ts.drop p:=by
 unfold ins1
 rw[if_neg (by rw[h];simp),parts_lt hp,parts_gt hp h]
theorem qKu{ts:List It}{y:It}(h:Asc ts):Asc (ins1 ts y):=by
 unfold ins1
 split
 ·exact h
 ·unfold Asc
  rw[List.pairwise_append]
  refine⟨h.filter _,?_,?_⟩
  ·rw[List.pairwise_cons]
   exact⟨fun x hx=>by simpa using (List.mem_filter.1 hx).2,h.filter _⟩
  ·intro a ha b hb
   have h1:a.1<y.1:=by simpa using (List.mem_filter.1 ha).2
   rcases List.mem_cons.1 hb with rfl|hb
   ·exact h1
   ·have h2:y.1<b.1:=by simpa using (List.mem_filter.1 hb).2
    omega
theorem ins1_len(ts:List It)(y:It)(h:Asc ts):(ins1 ts y).length≤ts.length+1:=by
 unfold ins1
 split
 ·omega
 ·have h2: ∀l:List It,(l.filter (fun x=>decide (x.1<y.1))).length+(l.filter (fun x=>decide (y.1<x.1))).length≤l.length:=by
   intro l
   induction l with
   |nil=>simp
   |cons a l ih=>
    rw[List.filter_cons,List.filter_cons]
    by_cases h1:a.1<y.1
    ·have: ¬y.1<a.1:=by omega
     simp[h1,this];omega
    ·by_cases h2:y.1<a.1
     ·simp[h1,h2];omega
     ·simp[h1,h2];omega
  have:=h2 ts
  simp;omega
def qBc(ts xs:List It):List It:=xs.foldl ins1 ts
theorem qJp: ∀(xs ts:List It),Asc ts→Asc (qBc ts xs)
 | [],_,h=>h
 |x::xs,ts,h=>qJp xs (ins1 ts x) (qKu h)
theorem qGe: ∀(xs ts:List It),Asc ts→(qBc ts xs).length≤ts.length+xs.length
 | [],_,_=>by simp[qBc]
 |x::xs,ts,h=>by
  have h1:=qGe xs (ins1 ts x) (qKu h)
  have h2:=ins1_len ts x h
  show(qBc (ins1 ts x) xs).length≤_
  simp only[List.length_cons]
  omega
theorem putAll_step{ts xs:List It}{k:Nat}(hk:k<xs.length):qBc ts (xs.take (k+1))=ins1 (qBc ts (xs.take k)) xs[k]:=by
 unfold qBc
 rw[List.take_succ_eq_append_getElem hk,List.foldl_append]
 rfl
theorem ItemsAt.kept{w w':World}{row:Option Nat}{ao:Option Addr}{ts:List It}(h:ItemsAt w ao ts)(hg:w.grownBy w' row)(hne: ∀b off,ao=some ⟨b,off,none⟩→some b≠row):ItemsAt w' ao ts:=by
 intro i hi
 obtain⟨b,off,h1,h2,h3,h4,h5,h6⟩:=h i hi
 have e:=hg.block b h2 (hne b off h1)
 have ec: ∀o,w'.cell? ⟨b,o,none⟩=w.cell? ⟨b,o,none⟩:=fun o=>by simp only[World.cell?,e]
 exact⟨b,off,h1,Nat.lt_of_lt_of_le h2 hg.size,(ec _).trans h3,(ec _).trans h4,(ec _).trans h5,(ec _).trans h6⟩
def Apart(v:Value)(ao:Option Addr):Prop:=∀k b off,v.ownBlock=some k→ao=some ⟨b,off,none⟩→k≠b
structure PutK (w:World) (v u:Value) (w':World):Prop where
 g:w.grownBy w' v.ownBlock
 o:u.ownBlock=v.ownBlock∨ ∃nb,u.ownBlock=some nb∧w.heap.size≤nb
theorem PutK.refl(w:World)(v:Value):PutK w v v w:=⟨⟨rfl,rfl,rfl,Nat.le_refl _,fun _ _ _=>rfl⟩,.inl rfl⟩
theorem PutK.later{w a b:World}{v u:Value}(h:PutK w v u a)(k:Below a.heap.size a b):PutK w v u b:=
 ⟨⟨k.os.trans h.g.os,k.tape.trans h.g.tape,k.output.trans h.g.output,Nat.le_trans h.g.size k.size,fun i hi hn=>(k.block i (Nat.lt_of_lt_of_le hi h.g.size)).trans (h.g.block i hi hn)⟩,h.o⟩
theorem PutK.put{w a b:World}{v u x:Value}(h:PutK w v u a)(k:a.grownBy b u.ownBlock)(o:x.ownBlock=u.ownBlock∨ ∃nb,x.ownBlock=some nb∧a.heap.size≤nb):PutK w v x b:=by
 refine⟨⟨k.os.trans h.g.os,k.tape.trans h.g.tape,k.output.trans h.g.output,Nat.le_trans h.g.size k.size,fun i hi hn=>(k.block i (Nat.lt_of_lt_of_le hi h.g.size) ?_).trans (h.g.block i hi hn)⟩,?_⟩
 ·rcases h.o with e|⟨nb,e,z⟩
  ·rw[e];exact hn
  ·rw[e];intro e2;cases e2;omega
 ·rcases o with e|⟨nb,e,z⟩
  ·rcases h.o with e2|⟨nb,e2,z⟩
   ·exact .inl (e.trans e2)
   ·exact .inr ⟨nb,e.trans e2,z⟩
  ·exact .inr ⟨nb,e,Nat.le_trans h.g.size z⟩
theorem put2_any(v:Value)(ts:List It)(lo:Option Addr)(lc:Nat)(xs:List It)(B:Nat)(w:World)(hS:Hid (SlI w B v ts))(hA:Hid (Asc ts))(hx:Hid (ItemsAt w lo xs))(hap:Hid (Apart v lo))(hB:B≤w.heap.size)(hl:ts.length+xs.length≤1048576):
  Calls Tryz.prog 143 #[v,.slice lo xs.length lc] w fun e w'=>∃v',e=.returned v'∧SlI w' B v' (qBc ts xs)∧PutK w v v' w':=by
 go_enter Tryz.func143,Tryz.ntmps143
 go_wp2
 go_loopw [0,11] (fun u i wr=>∃(k:Nat),k≤xs.length∧i=.int .i64 k∧Hid (SlI wr B u (qBc ts (xs.take k)))∧Hid (ItemsAt wr lo xs)∧Hid (Apart u lo)∧Hid (PutK w v u wr)) (fun _ i _=>xs.length - (intOf i).toNat)
 case atStart=>exact⟨0,Nat.zero_le _,rfl,hS,hx,hap,PutK.refl _ _⟩
 case round=>
  clear hS hx hap
  obtain⟨k,hk,rfl,hS,hx,hap,hb⟩:=hrel
  by_cases hlt:k<xs.length
  ·obtain⟨L,hL⟩: ∃L:List It,L=qBc ts (xs.take k):=⟨_,rfl⟩
   have HL:Hid (qBc ts (xs.take (k+1))=ins1 L xs[k]):=by rw[hL];exact putAll_step hlt
   have HA:Hid (Asc L):=by rw[hL];exact qJp _ _ hA.out
   have hll:L.length≤1048575:=by
    rw[hL]
    have:=qGe (xs.take k) ts hA.out
    rw[List.length_take]at this
    omega
   rw[←hL]at hS
   clear hL
   obtain⟨b,off,hlo,hbb,h0,h1,h2,h3⟩:=hx.out k hlt
   subst hlo
   have HP:Hid (∃x:It,x=xs[k]):=⟨_,rfl⟩
   obtain⟨⟨q,f,lv,tx⟩,hp⟩:=HP.out
   rw[←hp]at h0 h1 h2 h3
   have HQ:Hid ((q,f,lv,tx)=xs[k]):=hp
   clear hp HP
   dsimp only at h0 h1 h2 h3
   have zB:B≤wr.heap.size:=Nat.le_trans hB hb.out.g.size
   have b0:=bA wr (.cells #[.int .i64 q,.int .i64 f,.int .i64 lv,.string tx] 41)
   obtain⟨S0,X0⟩:=cy2 (hS.out.below b0) (hx.out.stays b0)
   have I0:Hid (ItAt (wr.alloc (.cells #[.int .i64 q,.int .i64 f,.int .i64 lv,.string tx] 41)) wr.heap.size q f lv tx):=heap_alloc_new wr _
   have B0:=Ag (hb.out.later b0)
   have mn:=mNum (wr.alloc (.cells #[.int .i64 q,.int .i64 f,.int .i64 lv,.string tx] 41)) (.agg #[.int .i64 q,.int .i64 f,.int .i64 lv,.string tx])
   clear b0
   go_wp2_with fail
   clear mn
   have z0:wr.heap.size<(wr.alloc (.cells #[.int .i64 q,.int .i64 f,.int .i64 lv,.string tx] 41)).heap.size:=by simp
   generalize wr.alloc (.cells #[.int .i64 q,.int .i64 f,.int .i64 lv,.string tx] 41)=W0 at *
   clear h0 h1 h2 h3
   refine(qDs q f lv tx _).mono ?_
   rintro e w1 ⟨rfl,b1⟩
   have S1:SlI w1 B u0 L:=S0.out.below b1
   obtain⟨X1,I1,B1⟩:=cy3 (X0.out.stays b1) (I0.out.stays b1 I0.out.lt) (B0.out.later b1)
   have z1:=b1.size
   clear b1 S0 X0 I0 B0 hS hx hb
   obtain⟨uo,uc,rfl,Y1⟩:=S1.items
   have S1:Hid (SlI w1 B (.slice uo L.length uc) L):=S1
   have Y1:Hid (ItemsAt w1 uo L):=Y1
   go_wp2_with fail
   refine(bsf_any uo uc L q w1 Y1 (by omega) HA).mono ?_
   rintro e w2 ⟨⟨p,hpp,rfl⟩,b2⟩
   have HPP:Hid (Parts L q p):=hpp
   have hpl:p≤L.length:=hpp.1
   have HHA:Hid (hasP L q=decide (∃h:p<L.length,L[p].1=q)):=parts_has HA.out hpp
   obtain⟨S2,X2,I2,B2⟩:=cy4 (S1.out.below b2) (X1.out.stays b2) (I1.out.stays b2 I1.out.lt) (B1.out.later b2)
   have z2:=b2.size
   clear b2 S1 X1 I1 B1 Y1 hpp
   cases hh:decide (∃h:p<L.length,L[p].1=q)with
   |true=>
    have HN:Hid (qBc ts (xs.take (k+1))=L):=by
     show _=_
     rw[HL.out,←HQ.out,ins1_has (by show hasP L q=true;rw[HHA.out,hh])]
    clear hh HHA
    go_wp2_with fail
    go_roundw
    case rel=>exact⟨k+1,by omega,by go_num,by rw[HN.out];exact S2,X2,hap,B2⟩
    case measure=>simp[intOf];omega
   |false=>
    have HN:Hid (qBc ts (xs.take (k+1))=L.take p++(q,f,lv,tx)::L.drop p):=by
     show _=_
     rw[HL.out,←HQ.out,ins1_not (y:=(q,f,lv,tx)) HPP.out (by show hasP L q=false;rw[HHA.out,hh])]
    clear hh HHA
    obtain⟨c0,c1,c2,c3⟩:=I2.out.cells
    have b3:=bA w2 (.cells #[.int .i64 q,.int .i64 f,.int .i64 lv,.string tx] 41)
    obtain⟨S3,X3⟩:=cy2 (S2.out.below b3) (X2.out.stays b3)
    have I3:Hid (ItAt (w2.alloc (.cells #[.int .i64 q,.int .i64 f,.int .i64 lv,.string tx] 41)) w2.heap.size q f lv tx):=heap_alloc_new w2 _
    have B3:=Ag (B2.out.later b3)
    have z3:w2.heap.size≤(w2.alloc (.cells #[.int .i64 q,.int .i64 f,.int .i64 lv,.string tx] 41)).heap.size:=b3.size
    have N3:Hid (∀k,(Value.slice uo L.length uc).ownBlock=some k→k≠w2.heap.size):=fun k hk=>by have:=(S2.out.lt k hk).2;omega
    clear b3 S2 X2 B2
    go_wp2_with fail
    generalize w2.alloc (.cells #[.int .i64 q,.int .i64 f,.int .i64 lv,.string tx] 41)=W3 at *
    clear c0 c1 c2 c3
    refine(insert_any (.slice uo L.length uc) L p (q,f,lv,tx) B w2.heap.size W3 S3.out I3.out N3.out (by omega) (by omega) hpl).mono ?_
    rintro e w4 ⟨v4,rfl,S4,G4,O4⟩
    have S4:Hid (SlI w4 B v4 (qBc ts (xs.take (k+1)))):=by rw[HN.out];exact S4
    have X4:Hid (ItemsAt w4 (some ⟨b,off,none⟩) xs):=X3.out.kept G4 (fun b' off' e he=>hap.out b' b' off' he.symm e rfl)
    have A4:Hid (Apart v4 (some ⟨b,off,none⟩)):=fun k' b' off' hk' e=>by
     rcases O4 with h|⟨nb,h,hnb⟩
     ·exact hap.out k' b' off' (h ▸ hk') e
     ·rw[h]at hk'
      simp at hk' e
      omega
    have B4:Hid (PutK w v v4 w4):=B3.out.put G4 O4
    clear S3 X3 I3 B3 G4 O4 N3
    go_wp2_with fail
    go_roundw
    case rel=>exact⟨k+1,by omega,by go_num,S4,X4,A4,B4⟩
    case measure=>simp[intOf];omega
  ·obtain rfl:k=xs.length:=by omega
   go_wp2_with fail
   go_ret
   exact⟨_,rfl,by have:=hS.out;rwa [List.take_length]at this,hb.out⟩
def putP(ts:List It)(y:It):List It:=if iGo 0 ts=true∧itB y.1 y.2.1 y.2.2.1 y.2.2.2=true then ins1 ts y else ts
theorem qEb: ∀(ts:List It) (L:Int),iGo L ts=true→Asc ts∧∀x∈ts,L<x.1∧itB x.1 x.2.1 x.2.2.1 x.2.2.2=true
 | [],_,_=>⟨List.Pairwise.nil,fun x hx=>by cases hx⟩
 |x::xs,L,h=>by
  rw[iGo]at h
  split at h
  ·cases h
  ·rename_i hn
   have h1:itB x.1 x.2.1 x.2.2.1 x.2.2.2=true:=by
    cases hb:itB x.1 x.2.1 x.2.2.1 x.2.2.2 with
    |true=>rfl
    |false=>exact absurd (.inl hb) hn
   have h2:L<x.1:=by
    rcases Int.lt_or_le L x.1 with h|h
    ·exact h
    ·exact absurd (.inr h) hn
   obtain⟨ha,hb⟩:=qEb xs x.1 h
   refine⟨List.pairwise_cons.2 ⟨fun y hy=>(hb y hy).1,ha⟩,fun y hy=>?_⟩
   rcases List.mem_cons.1 hy with rfl|hy
   ·exact⟨h2,h1⟩
   ·have:=hb y hy
    exact⟨by omega,this.2⟩
theorem iGo_of: ∀(ts:List It) (L:Int),Asc ts→(∀x∈ts,L<x.1∧itB x.1 x.2.1 x.2.2.1 x.2.2.2=true)→iGo L ts=true
 | [],_,_,_=>rfl
 |x::xs,L,ha,h=>by
  obtain⟨h1,h2⟩:=h x (List.mem_cons_self ..)
  rw[iGo_step h2 h1]
  obtain⟨h3,h4⟩:=List.pairwise_cons.1 ha
  exact iGo_of xs x.1 h4 fun y hy=>⟨h3 y hy,(h y (List.mem_cons_of_mem _ hy)).2⟩
theorem asc_bound: ∀(ts:List It) (L M:Int),Asc ts→(∀x∈ts,L<x.1∧x.1≤M)→(ts.length:Int)≤M - L∨ts=[]
 | [],_,_,_,_=>.inr rfl
 |x::xs,L,M,ha,h=>by
  obtain⟨h1,h2⟩:=h x (List.mem_cons_self ..)
  obtain⟨h3,h4⟩:=List.pairwise_cons.1 ha
  rcases asc_bound xs x.1 M h4 (fun y hy=>⟨h3 y hy,(h y (List.mem_cons_of_mem _ hy)).2⟩)with h5|h5
  ·left;simp only[List.length_cons];omega
  ·subst h5;left;simp;omega
theorem itB_range{q f l:Int}{t:ByteArray}(h:itB q f l t=true):1≤q∧q≤60:=by
 have:=itB_true.1 h
 unfold ItOk at this
 omega
theorem qCt{ts:List It}(h:iGo 0 ts=true):ts.length≤60:=by
 obtain⟨ha,hb⟩:=qEb ts 0 h
 rcases asc_bound ts 0 60 ha (fun x hx=>⟨(hb x hx).1,(itB_range (hb x hx).2).2⟩)with h1|h1
 ·omega
 ·subst h1;simp
theorem putP_len(ts:List It)(y:It):(putP ts y).length≤ts.length+1:=by
 unfold putP
 split
 ·rename_i h
  exact ins1_len ts y (qEb ts 0 h.1).1
 ·omega
theorem qHg{ts:List It}{b:Bool}(ao:Option Addr)(cap:Nat)(w:World)(hx:Hid (ItemsAt w ao ts))(hl:ts.length≤1048576)(h:iGo 0 ts=b):
  Calls Tryz.prog 133 #[.slice ao ts.length cap] w fun e w'=>e=.returned (.bool b)∧Below w.heap.size w w':=by rw[←h];exact qFp ao cap ts w hx hl
def Stop(p:Prop):Prop:=p
theorem Stop.mk{p:Prop}(h:Stop p):p:=h
theorem Stop.go{p:Prop}(h:p):Stop p:=h
theorem filt_step{ts:List It}{k:Nat}(hk:k<ts.length)(g:It→Bool):(ts.take (k+1)).filter g=(ts.take k).filter g++if g ts[k]=true then[ts[k]]else[]:=by
 rw[List.take_succ_eq_append_getElem hk,List.filter_append]
 congr 1
 by_cases h:g ts[k]=true<;>simp[h]
theorem filt_len(ts:List It)(k:Nat)(g:It→Bool):((ts.take k).filter g).length≤ts.length:=
 Nat.le_trans (List.length_filter_le _ _) (by rw[List.length_take];omega)
theorem both_le(q:Int): ∀l:List It,(l.filter (fun x=>decide (x.1<q))).length+(l.filter (fun x=>decide (q<x.1))).length≤l.length
 | []=>by simp
 |a::l=>by
  have ih:=both_le q l
  rw[List.filter_cons,List.filter_cons]
  by_cases h1:a.1<q
  ·have: ¬q<a.1:=by omega
   simp[h1,this];omega
  ·by_cases h2:q<a.1
   ·simp[h1,h2];omega
   ·simp[h1,h2];omega
theorem both_len(ts:List It)(q:Int)(y:It)(k:Nat)(h:ts.length≤1048575):(ts.filter (fun x=>decide (x.1<q))++y::(ts.take k).filter fun x=>decide (q<x.1)).length≤1048576:=by
 have h1:=both_le q ts
 have h2:((ts.take k).filter fun x=>decide (q<x.1)).length≤(ts.filter fun x=>decide (q<x.1)).length:=((List.take_sublist k ts).filter _).length_le
 simp only[List.length_append,List.length_cons]
 omega
theorem qKh(ao:Option Addr)(cap:Nat)(ts:List It)(q f l:Int)(t:ByteArray)(w:World)(hx:Hid (ItemsAt w ao ts))(hl:ts.length≤1048576):
  Calls Tryz.prog 66 #[.slice ao ts.length cap,.agg #[.int .i64 q,.int .i64 f,.int .i64 l,.string t]] w fun e w'=>∃v,e=.returned v∧SlI w' w.heap.size v (putP ts (q,f,l,t))∧Below w.heap.size w w':=by
 obtain⟨W0,hW0⟩: ∃W0,W0=(w.alloc (.cells #[.int .i64 q,.int .i64 f,.int .i64 l,.string t] 41)).alloc (.cells #[] 41):=⟨_,rfl⟩
 have I0:Hid (ItAt W0 w.heap.size q f l t):=by
  rw[hW0]
  exact ItAt.stays (show ItAt (w.alloc (.cells #[.int .i64 q,.int .i64 f,.int .i64 l,.string t] 41)) w.heap.size q f l t from heap_alloc_new w _) ((Below.refl _ _).alloc (Nat.le_refl _) _) (by simp)
 have B0:Hid (Below w.heap.size w W0):=by
  rw[hW0]
  exact((Below.refl _ _).alloc (Nat.le_refl _) _).alloc (by simp) _
 have S0:Hid (Sl W0 41 4 w.heap.size (.slice (some ⟨w.heap.size+1,0,none⟩) 0 0) 0 []):=by
  rw[hW0]
  have h:=Sl.made (w.alloc (.cells #[.int .i64 q,.int .i64 f,.int .i64 l,.string t] 41)) 41 4 w.heap.size (by simp)
  rw[show(w.alloc (.cells #[.int .i64 q,.int .i64 f,.int .i64 l,.string t] 41)).heap.size=w.heap.size+1 by simp]at h
  exact h
 have X0:=Ag (hx.out.stays B0.out)
 have N0:Hid (∀b off,ao=some ⟨b,off,none⟩→0<ts.length→b<w.heap.size):=fun b off e h0=>by
  obtain⟨b',off',e',hb',_⟩:=hx.out 0 h0
  rw[e]at e'
  simp at e'
  omega
 have R0:Hid (Src Tryz.prog 4 27 (.slice ao ts.length cap) ts.length (cels ts) W0):=src_items 27 Tryz.underlying27 cap X0.out
 have zw0:w.heap.size+2≤W0.heap.size:=by rw[hW0];simp
 have HW:Hid (W0=(w.alloc (.cells #[.int .i64 q,.int .i64 f,.int .i64 l,.string t] 41)).alloc (.cells #[] 41)):=hW0
 clear hW0
 go_enter Tryz.func66,Tryz.ntmps66
 go_wp2_with (at_builtin;refine Stop.mk ?_)
 refine Stop.go ?_
 rw[←HW.out]
 clear HW
 refine qCp rfl _ _ 27 rfl _ 40 Tryz.underlying27 Tryz.infoI rfl rfl S0.out _ ts.length (cels ts) rfl R0.out (by unfold maxLen;omega) (by omega) (by omega) ?_
 intro v1 w1 S1 g1 o1
 have g1:W0.grownBy w1 (some (w.heap.size+1)):=g1
 have S1:Hid (SlI w1 w.heap.size v1 ts):=by
  unfold SlI
  rw[show ts.length=0+ts.length by omega]
  exact S1
 have I1:Hid (ItAt w1 w.heap.size q f l t):=(g1.block w.heap.size I0.out.lt (by simp)).trans I0.out
 have B1:Hid (Below w.heap.size w w1):=B0.out.grown g1 (by omega) (fun k hk=>by simp at hk;omega)
 have X1:=Ag (hx.out.stays B1.out)
 clear S0 g1 o1 I0 B0 X0 N0 R0 zw0
 cases hi:iGo 0 ts with
 |false=>
  have HR:Hid (putP ts (q,f,l,t)=ts):=by show _=_;unfold putP;rw[if_neg (by rw[hi];simp)]
  go_wp2_with fail
  refine(qHg ao cap w1 X1 (by omega) hi).mono ?_
  rintro e w2 ⟨rfl,b2⟩
  obtain⟨S2,B2⟩:=cy2 (S1.out.below b2) (B1.out.trans (b2.mono B1.out.size))
  clear b2 hi
  go_wp2_with fail
  go_ret
  exact⟨_,rfl,by rw[HR.out];exact S2.out,B2.out⟩
 |true=>
  go_wp2_with fail
  refine(qHg ao cap w1 X1 (by omega) hi).mono ?_
  rintro e w2 ⟨rfl,b2⟩
  have S2:=Ag (S1.out.below b2)
  have I2:=I1.out.stays b2 I1.out.lt
  have B2:=Ag (B1.out.trans (b2.mono B1.out.size))
  obtain⟨c0,c1,c2,c3⟩:=I2.cells
  have I2:Hid (ItAt w2 w.heap.size q f l t):=I2
  clear b2 S1 I1 X1 B1
  cases hm:itB q f l t with
  |false=>
   have HR:Hid (putP ts (q,f,l,t)=ts):=by show _=_;unfold putP;rw[if_neg (by dsimp only;rw[hm];simp)]
   clear hi
   go_wp2_with fail
   refine(qEs _ hm).mono ?_
   rintro e w3 ⟨rfl,b3⟩
   obtain⟨S3,B3⟩:=cy2 (S2.out.below b3) (B2.out.trans (b3.mono B2.out.size))
   clear b3 hm
   go_wp2_with fail
   go_ret
   exact⟨_,rfl,by rw[HR.out];exact S3.out,B3.out⟩
  |true=>
   have HR:Hid (putP ts (q,f,l,t)=ins1 ts (q,f,l,t)):=by show _=_;unfold putP;rw[if_pos ⟨hi,hm⟩]
   have hl60:ts.length≤60:=qCt hi
   clear hi
   go_wp2_with fail
   refine(qEs _ hm).mono ?_
   rintro e w3 ⟨rfl,b3⟩
   obtain⟨S3,I3,B3⟩:=cy3 (S2.out.below b3) (I2.out.stays b3 I2.out.lt) (B2.out.trans (b3.mono B2.out.size))
   have O0:Hid (SlI (w3.alloc (.cells #[] 41)) w3.heap.size (.slice (some ⟨w3.heap.size,0,none⟩) 0 0) []):=SlI.made w3 w3.heap.size (Nat.le_refl _)
   have C0:=Ag (bA w3 (.cells #[] 41))
   have z3:=I3.out.lt
   clear c0 c1 c2 c3 b3 hm S2 I2 B2
   go_wp2
   go_loopw [6,7] (fun u i wr=>∃(k:Nat),k≤ts.length∧i=.int .i64 k∧Hid (∀x∈ts.take k,¬x.1=q)∧Hid (SlI wr w3.heap.size u ((ts.take k).filter fun x=>decide (x.1<q)))∧Hid (Below w3.heap.size w3 wr)) (fun _ i _=>ts.length - (intOf i).toNat)
   case atStart=>exact⟨0,Nat.zero_le _,rfl,(fun x hx=>by simp at hx: ∀x∈ts.take 0,¬x.1=q),O0,C0⟩
   case round=>
    clear O0 C0
    obtain⟨k,hk,rfl,hst,hS,hb⟩:=hrel
    have Br:Below w.heap.size w wr:=B3.out.trans (hb.out.mono (by omega))
    have zr:w3.heap.size≤wr.heap.size:=hb.out.size
    by_cases hlt:k<ts.length
    ·obtain⟨b,off,rfl,hbb,h0,h1,h2,h3⟩:=hx.out.stays Br k hlt
     have HP:Hid (∃x:It,x=ts[k]):=⟨_,rfl⟩
     obtain⟨⟨q',f',lv,tx⟩,hp⟩:=HP.out
     rw[←hp]at h0 h1 h2 h3
     have HQ:Hid ((q',f',lv,tx)=ts[k]):=hp
     have hfs:=filt_step hlt (fun x=>decide (x.1<q))
     rw[←hp]at hfs
     have HFS:Hid _:=hfs
     clear hp HP hfs
     dsimp only at h0 h1 h2 h3
     obtain⟨m0,m1,m2,m3⟩:=(I3.out.stays hb.out (by omega)).cells
     have i0:(0:Int)≤(k:Int):=by omega
     have i1:(k:Int)<(ts.length:Int):=by omega
     by_cases hq:q'=q
     ·subst hq
      have HHA:Hid (hasP ts q'=true):=qCr.2 ⟨ts[k],List.getElem_mem hlt,by rw[←HQ.out]⟩
      have S4:Hid (SlI wr w.heap.size v1 ts):=S3.out.keep (fun k hk hl=>hb.out.block k hl)
      go_wp2_with fail
      go_region
      go_wp2_with fail
      go_ret
      refine⟨_,rfl,?_,(Br.drew:Below w.heap.size w wr.drew)⟩
      rw[HR.out,ins1_has HHA.out]
      exact S4.out.drew
     ·have HST:Hid (∀x∈ts.take (k+1),¬x.1=q):=qHd hlt hst.out (by rw[←HQ.out];exact hq)
      obtain⟨S4,B4⟩:=cy2 (hS.out.drew.drew) (hb.out.drew.drew)
      have z4:w3.heap.size≤wr.drew.drew.heap.size:=zr
      have e0:wr.drew.drew.cell? ⟨b,off+k * 4,none⟩=some (.int .i64 q'):=h0
      have e1:wr.drew.drew.cell? ⟨b,off+k * 4+1,none⟩=some (.int .i64 f'):=h1
      have e2:wr.drew.drew.cell? ⟨b,off+k * 4+2,none⟩=some (.int .i64 lv):=h2
      have e3:wr.drew.drew.cell? ⟨b,off+k * 4+3,none⟩=some (.string tx):=h3
      have hlk:((ts.take k).filter fun x=>decide (x.1<q)).length≤1048576:=Nat.le_trans (filt_len ts k _) (by omega)
      by_cases hq2:q'<q
      ·have HLS:Hid ((ts.take (k+1)).filter (fun x=>decide (x.1<q))=(ts.take k).filter (fun x=>decide (x.1<q))++[(q',f',lv,tx)]):=by
        have:=HFS.out
        rwa [if_pos (by simpa using hq2)]at this
       go_wp2_with fail
       go_region
       go_wp2_with fail
       go_region
       clear h0 h1 h2 h3 m0 m1 m2 m3 HFS
       generalize wr.drew.drew=W4 at *
       go_wp2_with (at_builtin;refine qAu rfl _ _ 27 rfl Tryz.underlying27 w3.heap.size u6 _ rfl S4.out (q',f',lv,tx) rfl hlk z4 ?_;intro v2 w5 S5 g5 b5 _)
       have S5:Hid (SlI w5 w3.heap.size v2 ((ts.take (k+1)).filter fun x=>decide (x.1<q))):=by
        rw[HLS.out]
        exact S5
       have B5:=Ag (B4.out.trans b5)
       go_roundw
       case rel=>exact⟨k+1,by omega,by go_num,HST,S5,B5⟩
       case measure=>simp[intOf];omega
      ·have HLS:Hid ((ts.take (k+1)).filter (fun x=>decide (x.1<q))=(ts.take k).filter (fun x=>decide (x.1<q))):=by
        have:=HFS.out
        rwa [if_neg (by simpa using hq2),List.append_nil]at this
       have S5:Hid (SlI wr.drew.drew w3.heap.size u6 ((ts.take (k+1)).filter fun x=>decide (x.1<q))):=by
        rw[HLS.out]
        exact S4
       go_wp2_with fail
       go_region
       go_wp2_with fail
       go_region
       clear h0 h1 h2 h3 m0 m1 m2 m3 HFS e0 e1 e2 e3 S4
       generalize wr.drew.drew=W4 at *
       go_wp2_with fail
       go_roundw
       case rel=>exact⟨k+1,by omega,by go_num,HST,S5,B4⟩
       case measure=>simp[intOf];omega
    ·have HNO:Hid (hasP ts q=false):=qDy.2 (by have:=hst.out;rwa [List.take_of_length_le (by omega)]at this)
     have S4:Hid (SlI wr w3.heap.size u6 (ts.filter fun x=>decide (x.1<q))):=by
      have:=hS.out
      rw[List.take_of_length_le (by omega)]at this
      exact this
     obtain⟨m0,m1,m2,m3⟩:=(I3.out.stays hb.out (by omega)).cells
     have hlk:(ts.filter fun x=>decide (x.1<q)).length≤1048576:=Nat.le_trans (List.length_filter_le _ _) (by omega)
     clear hst hS
     go_wp2_with (at_builtin;refine qAu rfl _ _ 27 rfl Tryz.underlying27 w3.heap.size u6 _ rfl S4.out (q,f,l,t) rfl hlk zr ?_;intro v5 w5 S5 g5 b5 _)
     have S5:Hid (SlI w5 w3.heap.size v5 (ts.filter (fun x=>decide (x.1<q))++(q,f,l,t)::(ts.take 0).filter fun x=>decide (q<x.1))):=S5
     have B5:=Ag (hb.out.trans b5)
     clear S4 m0 m1 m2 m3 g5 b5 hb Br zr hlt hlk
     go_loopw [6,8] (fun u i wr=>∃(k:Nat),k≤ts.length∧i=.int .i64 k∧Hid (SlI wr w3.heap.size u (ts.filter (fun x=>decide (x.1<q))++(q,f,l,t)::(ts.take k).filter fun x=>decide (q<x.1)))∧Hid (Below w3.heap.size w3 wr)) (fun _ i _=>ts.length - (intOf i).toNat)
     case atStart=>exact⟨0,Nat.zero_le _,rfl,S5,B5⟩
     case round=>
      clear S5 B5
      obtain⟨k,hk,rfl,hS,hb⟩:=hrel
      have Br:Below w.heap.size w wr:=B3.out.trans (hb.out.mono (by omega))
      have zr:w3.heap.size≤wr.heap.size:=hb.out.size
      have hlk:(ts.filter (fun x=>decide (x.1<q))++(q,f,l,t)::(ts.take k).filter fun x=>decide (q<x.1)).length≤1048576:=both_len ts q (q,f,l,t) k (by omega)
      by_cases hlt:k<ts.length
      ·obtain⟨b,off,rfl,hbb,h0,h1,h2,h3⟩:=hx.out.stays Br k hlt
       have HP:Hid (∃x:It,x=ts[k]):=⟨_,rfl⟩
       obtain⟨⟨q',f',lv,tx⟩,hp⟩:=HP.out
       rw[←hp]at h0 h1 h2 h3
       have hfs:=filt_step hlt (fun x=>decide (q<x.1))
       rw[←hp]at hfs
       have HFS:Hid _:=hfs
       clear hp HP hfs
       dsimp only at h0 h1 h2 h3
       obtain⟨m0,m1,m2,m3⟩:=(I3.out.stays hb.out (by omega)).cells
       have i0:(0:Int)≤(k:Int):=by omega
       have i1:(k:Int)<(ts.length:Int):=by omega
       obtain⟨S4,B4⟩:=cy2 (hS.out.drew) (hb.out.drew)
       have z4:w3.heap.size≤wr.drew.heap.size:=zr
       have e0:wr.drew.cell? ⟨b,off+k * 4,none⟩=some (.int .i64 q'):=h0
       have e1:wr.drew.cell? ⟨b,off+k * 4+1,none⟩=some (.int .i64 f'):=h1
       have e2:wr.drew.cell? ⟨b,off+k * 4+2,none⟩=some (.int .i64 lv):=h2
       have e3:wr.drew.cell? ⟨b,off+k * 4+3,none⟩=some (.string tx):=h3
       by_cases hq2:q<q'
       ·have HLS:Hid (ts.filter (fun x=>decide (x.1<q))++(q,f,l,t)::(ts.take (k+1)).filter (fun x=>decide (q<x.1))=(ts.filter (fun x=>decide (x.1<q))++(q,f,l,t)::(ts.take k).filter (fun x=>decide (q<x.1)))++[(q',f',lv,tx)]):=by
         have:=HFS.out
         rw[if_pos (by simpa using hq2)]at this
         show _=_
         rw[this]
         simp
        go_wp2_with fail
        go_region
        clear h0 h1 h2 h3 m0 m1 m2 m3 HFS
        generalize wr.drew=W4 at *
        go_wp2_with (at_builtin;refine qAu rfl _ _ 27 rfl Tryz.underlying27 w3.heap.size u6 _ rfl S4.out (q',f',lv,tx) rfl hlk z4 ?_;intro v2 w5 S5 g5 b5 _)
        have S5:Hid (SlI w5 w3.heap.size v2 (ts.filter (fun x=>decide (x.1<q))++(q,f,l,t)::(ts.take (k+1)).filter (fun x=>decide (q<x.1)))):=by
         rw[HLS.out]
         exact S5
        have B5:=Ag (B4.out.trans b5)
        go_roundw
        case rel=>exact⟨k+1,by omega,by go_num,S5,B5⟩
        case measure=>simp[intOf];omega
       ·have HLS:Hid ((ts.take (k+1)).filter (fun x=>decide (q<x.1))=(ts.take k).filter (fun x=>decide (q<x.1))):=by
         have:=HFS.out
         rwa [if_neg (by simpa using hq2),List.append_nil]at this
        have S5:Hid (SlI wr.drew w3.heap.size u6 (ts.filter (fun x=>decide (x.1<q))++(q,f,l,t)::(ts.take (k+1)).filter (fun x=>decide (q<x.1)))):=by
         rw[HLS.out]
         exact S4
        go_wp2_with fail
        go_region
        clear h0 h1 h2 h3 m0 m1 m2 m3 HFS e0 e1 e2 e3 S4
        generalize wr.drew=W4 at *
        go_wp2_with fail
        go_roundw
        case rel=>exact⟨k+1,by omega,by go_num,S5,B4⟩
        case measure=>simp[intOf];omega
      ·go_wp2_with fail
       go_ret
       refine⟨_,rfl,?_,Br⟩
       have:=hS.out
       rw[List.take_of_length_le (by omega)]at this
       rw[HR.out]
       unfold ins1
       rw[if_neg (by dsimp only;rw[HNO.out];simp)]
       exact this.down (by omega)
theorem aruGo_all(ts:List It): ∀(f n:Nat),(∀k:Nat,1≤k→k≤n→hasP ts (k:Int)=true)→(∀k:Nat,1≤k→k≤qDe ts f n→hasP ts (k:Int)=true)∧(qDe ts f n=n+f∨hasP ts ((qDe ts f n+1:Nat):Int)=false)
 |0,n,h=>⟨h,.inl rfl⟩
 |f+1,n,h=>by
  rw[qDe]
  by_cases hh:hasP ts ((n+1:Nat):Int)=true
  ·rw[if_pos hh]
   have h2: ∀k:Nat,1≤k→k≤n+1→hasP ts (k:Int)=true:=fun k h1 h3=>by
    by_cases e:k=n+1
    ·subst e;exact hh
    ·exact h k h1 (by omega)
   obtain⟨a,b⟩:=aruGo_all ts f (n+1) h2
   refine⟨a,?_⟩
   rcases b with b|b
   ·left;omega
   ·right;exact b
  ·rw[if_neg hh]
   refine⟨h,.inr ?_⟩
   cases hx:hasP ts ((n+1:Nat):Int)with
   |true=>exact absurd hx hh
   |false=>rfl
theorem asc_head{x:It}{xs:List It}(h:Asc (x::xs)):Asc xs∧∀y∈xs,x.1<y.1:=⟨(List.pairwise_cons.1 h).2,(List.pairwise_cons.1 h).1⟩
theorem qGr: ∀(a:Nat) (L:Int) (ts:List It),Asc ts→(∀x∈ts,L<x.1)→(∀k:Nat,1≤k→k≤a→hasP ts (L+k)=true)→(ts.filter fun x=>decide (x.1≤L+a)).length=a
 |0,L,ts,ha,h1,_=>by
  rw[List.filter_eq_nil_iff.2 (fun x hx=>by have:=h1 x hx;simp;omega)]
  rfl
 |a+1,L,ts,ha,h1,h2=>by
  have h3:=h2 1 (by omega) (by omega)
  obtain⟨y,hy,hye⟩:=qCr.1 h3
  match ts,ha,h1,h2,hy with
  |x::xs,ha,h1,h2,hy=>
   obtain⟨hax,hxl⟩:=asc_head ha
   have hx1:x.1=L+1:=by
    have hxL:=h1 x (List.mem_cons_self ..)
    rcases List.mem_cons.1 hy with rfl|hy
    ·exact hye
    ·have:=hxl y hy
     omega
   have ih:=qGr a (L+1) xs hax (fun y hy=>by have:=hxl y hy;omega) (fun k hk1 hk2=>by
    have h4:=h2 (k+1) (by omega) (by omega)
    obtain⟨z,hz,hze⟩:=qCr.1 h4
    refine qCr.2 ⟨z,?_,by omega⟩
    rcases List.mem_cons.1 hz with rfl|hz
    ·omega
    ·exact hz)
   have e:L+((a+1:Nat):Int)=L+1+(a:Int):=by omega
   rw[e,List.filter_cons,if_pos (by simp;omega),List.length_cons,ih]
theorem qJb{ts:List It}(h:iGo 0 ts=true):(∀k:Nat,1≤k→k≤aruP ts→hasP ts (k:Int)=true)∧hasP ts ((aruP ts+1:Nat):Int)=false∧(qGz ts).length=aruP ts:=by
 obtain⟨ha,hb⟩:=qEb ts 0 h
 obtain⟨h1,h2⟩:=aruGo_all ts ts.length 0 (fun k h1 h2=>by omega)
 have hc:=qGr (aruP ts) 0 ts ha (fun x hx=>(hb x hx).1) (fun k hk1 hk2=>by rw[Int.zero_add];exact h1 k hk1 hk2)
 have hw:(qGz ts).length=aruP ts:=by
  unfold qGz
  rw[Int.zero_add]at hc
  exact hc
 refine⟨h1,?_,hw⟩
 rcases h2 with h2|h2
 ·have hA:aruP ts=ts.length:=by unfold aruP;omega
  rw[hA,qDy]
  intro x hx he
  have hf:qGz ts=ts:=by
   unfold qGz
   exact(List.filter_sublist).eq_of_length (by unfold qGz at hw;omega)
  have hxf:x∈qGz ts:=by rw[hf];exact hx
  have:=(List.mem_filter.1 hxf).2
  simp at this
  omega
 ·exact h2
theorem Drw.push{w0 w w':World}{B g n cap:Nat}{ao:Option Addr}(h:Drw w0 w B g ao n cap)(hb:Below w0.heap.size w w')(hg:g<w0.heap.size)(hB:B≤g):Hid (Drw w0 w' B g ao n cap):=
 ⟨CurAt.stays h.1 hb hg,h.2.1.stays hb (by omega),⟨hb.os.trans h.2.2.os,hb.tape.trans h.2.2.tape,hb.output.trans h.2.2.output,Nat.le_trans h.2.2.size hb.size,fun k hk hkg=>(hb.block k hk).trans (h.2.2.block k hk hkg)⟩⟩
def Upto(ts:List It)(i:Nat):Prop:=iGo 0 ts=true∧(∀x∈ts,x.1<(i:Int))∧ts.length<i∧∀x∈ts,x.2.2.2.size≤13
end Go.Proofs.YthdjkkiegecgnaaGreat
