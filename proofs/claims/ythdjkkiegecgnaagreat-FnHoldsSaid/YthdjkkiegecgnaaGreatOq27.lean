/- Joined texts: CCmp. -/
import Derived.Lib.SlicesCompact
namespace Go.Proofs.YthdjkkiegecgnaaGreat
open Go
set_option linter.unusedVariables false
theorem qLe(d:Array Int)(x:Int): ∀m,x∈Lib.compactUpTo d m↔ ∃j,j<m∧d[j]! =x
 |0=>by simp[Lib.compactUpTo]
 |m+1=>by
  rw[Lib.compactUpTo_succ,List.mem_append,qLe d x m]
  constructor
  ·rintro(⟨j,h1,h2⟩|h)
   ·exact⟨j,by omega,h2⟩
   ·by_cases hk:Lib.keeps d m
    ·rw[if_pos hk]at h
     exact⟨m,by omega,(List.mem_singleton.1 h).symm⟩
    ·rw[if_neg hk]at h
     cases h
  ·rintro⟨j,h1,h2⟩
   by_cases e:j=m
   ·subst e
    by_cases hk:Lib.keeps d j
    ·rw[if_pos hk]
     exact .inr (List.mem_singleton.2 h2.symm)
    ·have h3: ¬(j=0∨d[j]! ≠d[j - 1]!):=by simpa [Lib.keeps] using hk
     refine .inl ⟨j - 1,by omega,?_⟩
     by_cases h4:d[j]! =d[j - 1]!
     ·rw[←h4];exact h2
     ·exact absurd (Or.inr h4) h3
   ·exact .inl ⟨j,by omega,h2⟩
theorem comp_asc(d:Array Int)(hs: ∀i j,i<j→j<d.size→d[i]! ≤d[j]!): ∀m,m≤d.size→(Lib.compactUpTo d m).Pairwise (· < ·)
 |0,_=>by simp[Lib.compactUpTo]
 |m+1,hm=>by
  rw[Lib.compactUpTo_succ,List.pairwise_append]
  refine⟨comp_asc d hs m (by omega),?_,?_⟩
  ·by_cases hk:Lib.keeps d m
   ·rw[if_pos hk];exact List.pairwise_singleton _ _
   ·rw[if_neg hk];exact List.Pairwise.nil
  ·intro x hx y hy
   by_cases hk:Lib.keeps d m
   ·rw[if_pos hk]at hy
    obtain rfl:=List.mem_singleton.1 hy
    obtain⟨j,h1,rfl⟩:=(qLe d x m).1 hx
    have h3:m=0∨d[m]! ≠d[m - 1]! :=by simpa [Lib.keeps] using hk
    have h4:d[m]! ≠d[m - 1]! :=by
     rcases h3 with h|h
     ·omega
     ·exact h
    have h5:d[m - 1]! ≤d[m]! :=hs (m - 1) m (by omega) (by omega)
    have h6:d[j]! ≤d[m - 1]! :=by
     by_cases e:j=m - 1
     ·rw[e];exact Int.le_refl _
     ·exact hs j (m - 1) (by omega) (by omega)
    omega
   ·rw[if_neg hk]at hy
    cases hy
theorem sorted_comp(zs:List Int):(Lib.compact (zs.mergeSort fun x y=>decide (x≤y))).Pairwise (· < ·)∧∀x,x∈Lib.compact (zs.mergeSort fun x y=>decide (x≤y))↔x∈zs:=by
 have hsort:(zs.mergeSort fun x y=>decide (x≤y)).Pairwise (fun x y=>decide (x≤y)=true):=
  List.pairwise_mergeSort (fun a b c h1 h2=>by simp at *;omega) (fun a b=>by simp;omega) zs
 generalize hm:(zs.mergeSort fun x y=>decide (x≤y))=ms at hsort
 have hmem: ∀x,x∈ms↔x∈zs:=fun x=>by rw[←hm];exact List.mem_mergeSort
 clear hm
 unfold Lib.compact
 refine⟨comp_asc _ ?_ _ (by simp),fun x=>?_⟩
 ·intro i j hij hj
  have hj':j<ms.length:=by simpa using hj
  have:=List.pairwise_iff_getElem.1 hsort i j (by omega) hj' hij
  simp only[decide_eq_true_eq]at this
  rw[getElem!_pos ms.toArray j (by simpa using hj),getElem!_pos ms.toArray i (by simp;omega)]
  simpa using this
 ·rw[qLe,←hmem]
  constructor
  ·rintro⟨j,h1,rfl⟩
   rw[getElem!_pos _ _ (by simpa using h1)]
   simp
  ·intro hx
   obtain⟨j,hj,rfl⟩:=List.getElem_of_mem hx
   exact⟨j,hj,by rw[getElem!_pos _ _ (by simpa using hj)];simp⟩
end Go.Proofs.YthdjkkiegecgnaaGreat
