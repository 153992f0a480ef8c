/- One element put behind a slice. -/
import Derived.Test.YtlfgglmgajcpoaaH1
import Derived.Deep.RegionLaw
namespace Go.Proofs.Ytlfgglmgajcpoaa.Pl
open Go Go.RowKit
set_option linter.unusedVariables false

theorem src_new {P : Program} {W : World} {e e' tx : TypeId} {size H : Nat} (hk : P.underlying tx = some (.slice e')) (hH : W.heap.size = H) (news : List Value) (hl : news.length = size) (h1 : ∀ u ∈ news, u.oneCell' = true) :
    Src P size tx (.slice (some ⟨H, 0, none⟩) 1 1) 1 news (W.alloc (.cells news.toArray e)) := by
  subst hH
  refine Src.ofSlice _ hk ⟨W.heap.size, 0, none⟩ 1 1 news (by rw [hl, Nat.one_mul]) (fun j u hu => ?_) h1
  have ha : (⟨W.heap.size, 0, none⟩ : Addr).add j = ⟨W.heap.size, j, none⟩ := by unfold Addr.add; split <;> simp_all
  rw [ha, cell_of_row _ W.heap.size j _ e (0, 0) (heap_alloc_new W _)]
  simpa using hu

theorem grown_after {W w' : World} {o : Obj} {row : Option Nat} (h : (W.alloc o).grownBy w' row) : W.grownBy w' row := by
  have h1 : W.grownBy (W.alloc o) row := World.grownBy_alloc W o row
  exact ⟨h.os.trans h1.os, h.tape.trans h1.tape, h.output.trans h1.output, Nat.le_trans h1.size h.size, fun k hk hne => (h.block k (Nat.lt_of_lt_of_le hk h1.size) hne).trans (h1.block k hk hne)⟩

section
variable {P : Program} {W : World} {B H : Nat} {v : Value} {ops : Array Oper} {rest : List Oper} {o : Oper} {a : Act} {Q : Exit → Act → World → Prop}
/-- one element: what is asked and what is had, at 'Oper.wp'. -/
theorem wp_pushE {e t : TypeId} {size n : Nat} {xs : List Value} {K : Act → World → Prop} (s x : Operand) (ho : o.op = .call { callee := .builtin .append, args := #[s, x], argTypes := #[t, t] }) (z : Value) (bytes : Nat)
    (ht : P.underlying t = some (.slice e)) (hinfo : (P.info? e).map (fun i => (i.zero, i.size, i.bytes)) = some (some z, size, bytes)) (hzs : z.cells.size = size) (hs : a.eval s = v) (h : Sl W e size B v n xs) (news : List Value) (hnl : news.length = size) (h1 : ∀ u ∈ news, u.oneCell' = true)
    (hH : W.heap.size = H) (hx : a.eval x = .slice (some ⟨H, 0, none⟩) 1 1) (hn : n < 4000000) (hby : bytes ≤ 1000) (hB : B ≤ W.heap.size)
    (hh : ∀ v' w', Sl w' e size B v' (n + 1) (xs ++ news) → W.grownBy w' v.ownBlock → W.heap.size + 1 ≤ w'.heap.size → (v'.ownBlock = v.ownBlock ∨ v'.ownBlock = some (H + 1)) → K (a.put o.dst v') w') : o.wp P a (W.alloc (.cells news.toArray e)) K Q := by
  refine wp_appendS s x t ho z bytes ht hinfo hzs hs (h.alloc _) _ 1 news hx (src_new ht hH news hnl h1) (by unfold maxLen; omega) ?_ (by simp; omega) ?_
  · have : (n + 1) * bytes ≤ 4000000 * 1000 := Nat.mul_le_mul (by omega) hby
    omega
  · intro v' w' h2 h3 h4
    refine hh v' w' h2 (grown_after h3) (by have := h3.size; simpa using this) ?_
    rcases h4 with h4 | h4
    · exact .inl h4
    · exact .inr (by rw [h4, ← hH]; simp)


/-- one element put behind, at a step of a statement that leaves its order open. -/
theorem step_push1 {e : TypeId} {n : Nat} {xs : List Value} {K : Act → World → Prop} {E : Prop} (hgd : o.guard = none) (s x : Operand) (t : TypeId) (ho : o.op = .call { callee := .builtin .append, args := #[s, x], argTypes := #[t, t] }) (z : Value) (bytes : Nat)
    (ht : P.underlying t = some (.slice e)) (hinfo : (P.info? e).map (fun i => (i.zero, i.size, i.bytes)) = some (some z, 1, bytes)) (hzs : z.cells.size = 1) (hs : a.eval s = v) (h : Sl W e 1 B v n xs) (u : Value) (h1 : u.oneCell' = true)
    (hH : W.heap.size = H) (hx : a.eval x = .slice (some ⟨H, 0, none⟩) 1 1) (hn : n < 4000000) (hby : bytes ≤ 1000) (hB : B ≤ W.heap.size)
    (hh : ∀ v' w', Sl w' e 1 B v' (n + 1) (xs ++ [u]) → W.grownBy w' v.ownBlock → W.heap.size + 1 ≤ w'.heap.size → (v'.ownBlock = v.ownBlock ∨ v'.ownBlock = some (H + 1)) → K (a.put o.dst v') w') :
    if Region.wanted o (yielded ops a.tmps) = true then Oper.wp P o a (W.alloc (.cells #[u] e)) K Q else E := by
  rw [if_pos (by simp [Region.wanted, hgd])]
  exact wp_pushE s x ho z bytes ht hinfo hzs hs h [u] rfl (fun y hy => by simp at hy; subst hy; exact h1) hH hx hn hby hB hh
theorem wpList_push1 {e : TypeId} {n : Nat} {xs : List Value} (hgd : o.guard = none) (s x : Operand) (t : TypeId) (ho : o.op = .call { callee := .builtin .append, args := #[s, x], argTypes := #[t, t] }) (z : Value) (bytes : Nat)
    (ht : P.underlying t = some (.slice e)) (hinfo : (P.info? e).map (fun i => (i.zero, i.size, i.bytes)) = some (some z, 1, bytes)) (hzs : z.cells.size = 1) (hs : a.eval s = v) (h : Sl W e 1 B v n xs) (u : Value) (h1 : u.oneCell' = true)
    (hH : W.heap.size = H) (hx : a.eval x = .slice (some ⟨H, 0, none⟩) 1 1) (hn : n < 4000000) (hby : bytes ≤ 1000) (hB : B ≤ W.heap.size)
    (hh : ∀ v' w', Sl w' e 1 B v' (n + 1) (xs ++ [u]) → W.grownBy w' v.ownBlock → W.heap.size + 1 ≤ w'.heap.size → (v'.ownBlock = v.ownBlock ∨ v'.ownBlock = some (H + 1)) → wpList P ops Q rest (a.put o.dst v') w') :
    wpList P ops Q (o :: rest) a (W.alloc (.cells #[u] e)) :=
  wpList_plain hgd fun _ hK => wp_pushE s x ho z bytes ht hinfo hzs hs h [u] rfl (fun y hy => by simp at hy; subst hy; exact h1) hH hx hn hby hB fun v' w' h2 h3 h4 h5 => hK _ _ (hh v' w' h2 h3 h4 h5)
end
end Go.Proofs.Ytlfgglmgajcpoaa.Pl
namespace Go.Proofs.Ytlfgglmgajcpoaa
open Go.RowKit Pl

theorem Try.infoPs : (Try.prog.info? 56).map (fun i => (i.zero, i.size, i.bytes)) = some (some (.pointer none), 1, 8) := by kernel_rfl
theorem under_stops : Try.prog.underlying 60 = some (.slice 56) := by kernel_rfl

@[go_sem] theorem assertStop (v : Value) (w : World) : (Instr.typeAssert (.iface 56 v) 20 56 false).run Try.prog w = .ok v w := by kernel_rfl

/-- one stop put behind. -/
theorem HpAt.pushed {w w' : World} {B c : Nat} {v v' : Value} {L : List St} {x : St} (h : HpAt w B c v L) (hx : B ≤ x.1 ∧ StAt w x) (hs : Sl w' 56 1 B v' (L.length + 1) (vals L ++ [.pointer (some ⟨x.1, 0, none⟩)])) (hg : w.grownBy w' v.ownBlock) (hn : v'.ownBlock = v.ownBlock ∨ v'.ownBlock = some (w.heap.size + 1)) :
    HpAt (w'.setCell ⟨c, 0, none⟩ v') B c v' (L ++ [x]) ∧ KeepT w (w'.setCell ⟨c, 0, none⟩ v') ∧ Below B w (w'.setCell ⟨c, 0, none⟩ v') ∧ (∃ u, w'.cell? ⟨c, 0, none⟩ = some u) ∧ w'.frozen? ⟨c, 0, none⟩ = false := by
  have hc := (Array.getElem?_eq_some_iff.1 h.var).1
  have typ : ∀ k, v.ownBlock = some k → ∃ arr, w.heap[k]? = some (.cells arr 56 (0, 0)) := by
    intro k hk
    obtain ⟨ao, cap, rfl⟩ := h.form
    rcases h.row.2 with ⟨hv, _⟩ | ⟨g', off', cap', cur, hv, _, hg', _⟩
    · rw [hv] at hk; simp [Value.ownBlock] at hk
    · rw [hv] at hk; simp [Value.ownBlock] at hk; subst hk; exact ⟨cur, hg'⟩
  have hcv : v.ownBlock ≠ some c := by
    intro he
    obtain ⟨arr, ha⟩ := typ c he
    rw [h.var] at ha
    simp at ha
  have hvar : w'.heap[c]? = some (.cells #[v] 60 (0, 0)) := (hg.block c hc (fun he => hcv he.symm)).trans h.var
  have hcv' : ∀ k, v'.ownBlock = some k → k ≠ c := by
    rintro k hk rfl
    rcases hn with hn | hn
    · exact hcv (hn ▸ hk)
    · rw [hn] at hk; simp at hk; omega
  have K1 : KeepT w w' := ⟨hg.os, hg.tape, hg.output, hg.size, fun k arr t hk h1 h2 => hg.block k (Array.getElem?_eq_some_iff.1 hk).1 (fun he => by
    obtain ⟨arr', ha⟩ := typ k he.symm
    rw [hk] at ha
    simp at ha
    exact h2 ha.2)⟩
  have B1 : Below B w w' := ⟨hg.os, hg.tape, hg.output, hg.size, fun k hk => hg.block k (by have := h.bc; omega) (fun he => by have := (h.row.lt k he.symm).1; omega)⟩
  have K2 : KeepT w (w'.setCell ⟨c, 0, none⟩ v') := K1.setCell hvar (Or.inl rfl)
  refine ⟨⟨?_, ?_, fun y hy => ?_, h.bc⟩, K2, B1.setCell h.bc _, ⟨v, ?_⟩, frozen_of_row w' c 0 _ 60 hvar⟩
  · have := heap_setCell_same w' c 0 _ 60 v' hvar
    simpa using this
  · have e : vals (L ++ [x]) = vals L ++ [.pointer (some ⟨x.1, 0, none⟩)] := by simp [vals]
    rw [e, List.length_append]
    exact hs.keep fun k hk _ => Below.heap_setCell w' ⟨c, 0, none⟩ v' k (hcv' k hk)
  · rcases List.mem_append.1 hy with hy | hy
    · exact ⟨(h.st y hy).1, (h.st y hy).2.keep K2⟩
    · simp at hy; subst hy; exact ⟨hx.1, hx.2.keep K2⟩
  · rw [cell_of_row w' c _ _ 60 (0, 0) hvar]; rfl

set_option maxRecDepth 100000 in
set_option maxHeartbeats 4000000 in
theorem spush_any {w : World} {B c : Nat} {v : Value} {L : List St} {x : St} (h : HpAt w B c v L) (hl : L.length ≤ 1000) (hx : B ≤ x.1 ∧ StAt w x) :
    Calls Try.prog 105 #[.pointer (some ⟨c, 0, none⟩), .iface 56 (.pointer (some ⟨x.1, 0, none⟩))] w fun e w' => (∃ u, e = .returned u) ∧ (∃ v', HpAt w' B c v' (L ++ [x])) ∧ KeepT w w' ∧ Below B w w' := by
  have c0 := h.cell
  have hcw := (Array.getElem?_eq_some_iff.1 h.var).1
  obtain ⟨xb, xs, xc⟩ := x
  have HX : Hid (B ≤ xb ∧ StAt w (xb, xs, xc)) := hx
  have HH : Hid (HpAt w B c v L) := h
  obtain ⟨ao, cap, rfl⟩ := h.form
  have S0 : Sl w.drew 56 1 B (.slice ao L.length cap) L.length (vals L) := h.row.keep fun _ _ _ => rfl
  have hBw : B ≤ w.drew.heap.size := by have := h.bc; show B ≤ w.heap.size; omega
  clear h hx
  go_enter Try.func105, Try.ntmps105
  go_region_law (first
    | (refine step_push1 (by rfl) _ _ 60 (by rfl) (.pointer none) 8 under_stops Try.infoPs rfl (by rfl) S0 (.pointer (some ⟨xb, 0, none⟩)) rfl rfl (by rfl) (by omega) (by omega) hBw ?_; intro v4 w4 S4 G4 Z4 L4; obtain ⟨xa, xk, rfl⟩ := Sl.form S4; obtain ⟨hf1, hf2, hf3, ⟨hf4, hf5⟩, hf6⟩ := HpAt.pushed (HH.out.drewN 1) (x := (xb, xs, xc)) HX.out S4 G4 L4))
  all_goals
    go_end0
    exact ⟨⟨_, rfl⟩, ⟨_, hf1⟩, ((KeepT.refl w).drewN 1).trans hf2, ⟨hf3.os, hf3.tape, hf3.output, hf3.size, hf3.block⟩⟩

theorem upAt_push {L : List St} {x : St} (h : HeapTo key L L.length) : UpAt key (L ++ [x]) (L.length + 1) L.length := by
  constructor
  · intro k h0 h1 h2 a b ha hb
    rw [List.getElem?_append_left (by omega)] at ha hb
    exact h k h0 (by omega) a b ha hb
  · intro j0 k h0 h1 hp
    omega

set_option maxRecDepth 100000 in
set_option maxHeartbeats 4000000 in
theorem hpush_any {w : World} {B c : Nat} {v : Value} {L : List St} {x : St} (h : HpAt w B c v L) (hl : L.length ≤ 900) (hx : B ≤ x.1 ∧ StAt w x) (hh : Hid (HeapTo key L L.length)) :
    Calls Try.prog 60 #[.iface 62 (.pointer (some ⟨c, 0, none⟩)), .iface 56 (.pointer (some ⟨x.1, 0, none⟩))] w fun e w' => (∃ u, e = .returned u) ∧ ∃ v' L', HpAt w' B c v' L' ∧ L'.length = L.length + 1 ∧ (∀ y, y ∈ L' ↔ y ∈ L ∨ y = x) ∧ HeapTo key L' L'.length ∧ KeepT w w' ∧ Below B w w' := by
  have m0 := mPush w (.pointer (some ⟨c, 0, none⟩))
  go_enter Try.func60, Try.ntmps60
  go_wp2_with fail
  refine (spush_any h (by omega) hx).mono ?_
  rintro e w1 ⟨⟨u, rfl⟩, ⟨v1, h1⟩, k1, b1⟩
  have H1 : Hid (HpAt w1 B c v1 (L ++ [x])) := h1
  have c1 := h1.cell
  obtain ⟨ao, cap, rfl⟩ := h1.form
  have m1 := mLen c1
  have hN : (L ++ [x]).length = L.length + 1 := by simp
  have HN : Hid ((L ++ [x]).length = L.length + 1) := hN
  have hw : IntKind.i64.wrap (((L.length + 1 : Nat) : Int) - 1) = (L.length : Int) := by rw [IntKind.wrap_i64]; omega
  rw [hN] at c1 m1 H1
  clear h1 m0 hN
  go_wp2_with (go_at_call 101; refine (len_any _ _ _ _).mono ?_; rintro e w' ⟨rfl, hw'⟩; obtain rfl := hw'.symm)
  refine (up_any (j := L.length) H1.out (by have := HN.out; omega) (by have := HN.out; omega) (by rw [HN.out]; exact upAt_push hh.out)).mono ?_
  rintro e w2 ⟨⟨u2, rfl⟩, L', hT, hH⟩
  go_wp2_with fail
  go_end0
  refine ⟨⟨_, rfl⟩, _, L', hT.at', by rw [hT.len]; exact HN.out, fun y => by rw [hT.mem]; simp, ?_, k1.trans hT.keep, b1.trans hT.below⟩
  rw [hT.len]
  exact hH

theorem Sl.take {w : World} {e : TypeId} {B n k : Nat} {ao : Option Addr} {cap : Nat} {xs : List Value} (h : Sl w e 1 B (.slice ao n cap) n xs) (hk : k ≤ n) : Sl w e 1 B (.slice ao k cap) k (xs.take k) := by
  have hl := h.1
  refine ⟨by rw [List.length_take, hl]; omega, ?_⟩
  rcases h.2 with ⟨hv, hn⟩ | ⟨g, off, cap', cur, hv, hb, hg, hc, hm, hs, ht⟩
  · simp at hv
    obtain ⟨rfl, rfl, rfl⟩ := hv
    obtain rfl : k = 0 := by omega
    exact .inl ⟨rfl, rfl⟩
  · simp at hv
    obtain ⟨rfl, rfl⟩ := hv
    refine .inr ⟨g, off, cap, cur, rfl, hb, hg, by omega, hm, hs, fun j hj => ?_⟩
    rw [ht j (by omega), List.getElem?_take, if_pos (by omega)]

set_option maxRecDepth 100000 in
set_option maxHeartbeats 4000000 in
theorem spop_any {w : World} {B c : Nat} {v : Value} {L : List St} {x : St} (h : HpAt w B c v (L ++ [x])) (hl : L.length ≤ 1000) :
    Calls Try.prog 104 #[.pointer (some ⟨c, 0, none⟩)] w fun e w' => e = .returned (.iface 56 (.pointer (some ⟨x.1, 0, none⟩))) ∧ (∃ v', HpAt w' B c v' L) ∧ KeepT w w' ∧ Below B w w' := by
  have c0 := h.cell
  have hN : (L ++ [x]).length = L.length + 1 := by simp
  obtain ⟨g, off, cap, rfl, hB, _, hr, _⟩ := h.row.read (by omega)
  have h1 := hr L.length (.pointer (some ⟨x.1, 0, none⟩)) (by simp [vals])
  have f0 := frozen_of_row w c 0 _ 60 h.var
  have hcap : L.length + 1 ≤ cap := by
    rcases h.row.2 with ⟨hv, _⟩ | ⟨g', off', cap', cur, hv, _, hg', hc, _⟩
    · simp at hv
    · simp at hv; omega
  have S1 := Sl.take (k := L.length) h.row (by omega)
  have K2 : KeepT w (w.setCell ⟨c, 0, none⟩ (.slice (some ⟨g, off, none⟩) L.length cap)) := (KeepT.refl w).setCell h.var (Or.inl rfl)
  have hgc : g ≠ c := by
    obtain ⟨arr, ha⟩ := h.heapRow
    rintro rfl
    rw [h.var] at ha
    simp at ha
  have HP : Hid (HpAt (w.setCell ⟨c, 0, none⟩ (.slice (some ⟨g, off, none⟩) L.length cap)) B c (.slice (some ⟨g, off, none⟩) L.length cap) L) := by
    refine ⟨?_, ?_, fun y hy => ?_, h.bc⟩
    · have := heap_setCell_same w c 0 _ 60 (.slice (some ⟨g, off, none⟩) L.length cap) h.var
      simpa using this
    · have e : (vals (L ++ [x])).take L.length = vals L := by simp [vals]
      rw [e] at S1
      exact S1.keep fun k hk _ => Below.heap_setCell w ⟨c, 0, none⟩ _ k (by simp [Value.ownBlock] at hk; rw [← hk]; exact hgc)
    · have := h.st y (by simp [hy])
      exact ⟨this.1, this.2.keep K2⟩
  have HK : Hid (KeepT w (w.setCell ⟨c, 0, none⟩ (.slice (some ⟨g, off, none⟩) L.length cap))) := K2
  have HB : Hid (Below B w (w.setCell ⟨c, 0, none⟩ (.slice (some ⟨g, off, none⟩) L.length cap))) := (Below.refl _ _).setCell h.bc _
  have hw : IntKind.i64.wrap (((L.length + 1 : Nat) : Int) - 1) = (L.length : Int) := by rw [IntKind.wrap_i64]; omega
  rw [hN] at c0
  have i0 : (0 : Int) ≤ (L.length : Int) := by omega
  have i1 : (L.length : Int) < ((L.length + 1 : Nat) : Int) := by omega
  have i2 : (L.length : Int) ≤ (cap : Int) := by omega
  clear h hr S1 K2 hN
  go_enter Try.func104, Try.ntmps104
  go_wp2_with fail
  go_ret
  exact ⟨rfl, ⟨_, HP.out⟩, HK.out, HB.out⟩

theorem downAt_pop {L : List St} {N : Nat} {x y : St} (h : HeapTo key L L.length) (hN : L.length = N + 1) (hx : L[0]? = some x) (hy : L[N]? = some y) : DownAt key (swp L 0 N x y) N 0 := by
  constructor
  · intro k h0 h1 h2 a b ha hb
    rw [swp_get L 0 N _ x y (by omega) (by omega) hx hy, if_neg (by omega), if_neg (by omega)] at ha hb
    exact h k h0 (by omega) a b ha hb
  · intro h0; omega

theorem last_split {L : List St} {N : Nat} {x : St} (hN : L.length = N + 1) (hx : L[N]? = some x) : L = L.take N ++ [x] := by
  have h1 : L.drop N = [x] := by
    rw [List.drop_eq_getElem_cons (by omega), List.drop_eq_nil_of_le (by omega)]
    rw [List.getElem?_eq_getElem (by omega)] at hx
    simp at hx
    rw [hx]
  conv => lhs; rw [← List.take_append_drop N L, h1]

set_option maxRecDepth 100000 in
set_option maxHeartbeats 4000000 in
theorem hpop_any {w : World} {B c N : Nat} {v : Value} {L : List St} (h : HpAt w B c v L) (hN : L.length = N + 1) (hl : N ≤ 900) (hh : Hid (HeapTo key L L.length)) :
    Calls Try.prog 39 #[.iface 62 (.pointer (some ⟨c, 0, none⟩))] w fun e w' => ∃ x, e = .returned (.iface 56 (.pointer (some ⟨x.1, 0, none⟩))) ∧ ∃ v' L', HpAt w' B c v' L' ∧ L'.length = N ∧ x ∈ L ∧ (∀ y ∈ L', y ∈ L) ∧ (∀ y ∈ L, y = x ∨ y ∈ L') ∧ (∀ y ∈ L, key x ≤ key y) ∧ HeapTo key L' L'.length ∧ StAt w' x ∧ KeepT w w' ∧ Below B w w' := by
  have c0 := h.cell
  have HH : Hid (HpAt w B c v L) := h
  have HN : Hid (L.length = N + 1) := hN
  obtain ⟨ao, cap, rfl⟩ := h.form
  rw [hN] at c0 HH
  have m0 := mLen c0
  have m1 := mSwap c0
  obtain ⟨x, hx⟩ : ∃ x, L[0]? = some x := ⟨_, List.getElem?_eq_getElem (by omega)⟩
  obtain ⟨y, hy⟩ : ∃ y, L[N]? = some y := ⟨_, List.getElem?_eq_getElem (by omega)⟩
  have HX : Hid (L[0]? = some x) := hx
  have HY : Hid (L[N]? = some y) := hy
  have hw : IntKind.i64.wrap (((N + 1 : Nat) : Int) - 1) = (N : Int) := by rw [IntKind.wrap_i64]; omega
  clear h hN hx hy
  go_enter Try.func39, Try.ntmps39
  go_wp2_with (go_at_call 101; refine (len_any _ _ _ _).mono ?_; rintro e w' ⟨rfl, hw'⟩; obtain rfl := hw'.symm)
  refine (swap_any HH.out 0 N x y HX.out HY.out).mono ?_
  rintro e w1 ⟨⟨u, rfl⟩, h1, k1, b1⟩
  have H1 : Hid (HpAt w1 B c (.slice ao (N + 1) cap) (swp L 0 N x y)) := h1
  clear h1 m0 m1 c0
  go_wp2_with fail
  refine (down_any (n := N) H1.out (by rw [swp_length]; have := HN.out; omega) (by rw [swp_length]; have := HN.out; omega) (by rw [swp_length]; have := HN.out; omega) (downAt_pop hh.out HN.out HX.out HY.out)).mono ?_
  rintro e w2 ⟨⟨u2, rfl⟩, L2, hT, hH, hR⟩
  have hlen : L2.length = N + 1 := by rw [hT.len, swp_length]; exact HN.out
  have hlast : L2[N]? = some x := by
    rw [hR N (Nat.le_refl _), swp_get L 0 N _ x y (by have := HN.out; omega) (by have := HN.out; omega) HX.out HY.out, if_pos rfl]
  have hsp := last_split hlen hlast
  have m2 := mPop w2 (.pointer (some ⟨c, 0, none⟩))
  have HT : Hid (HpTo w1 w2 B c (.slice ao (N + 1) cap) (swp L 0 N x y) L2) := hT
  have H2 : Hid (HpAt w2 B c (.slice ao (N + 1) cap) (L2.take N ++ [x])) := by rw [← hsp]; exact hT.at'
  have HS : Hid (L2 = L2.take N ++ [x]) := hsp
  have HL : Hid (L2.length = N + 1) := hlen
  clear hsp hT hlast hR hlen
  go_wp2_with fail
  refine (spop_any H2.out (by rw [List.length_take]; omega)).mono ?_
  rintro e w3 ⟨rfl, ⟨v3, h3⟩, k3, b3⟩
  go_wp2_with fail
  go_ret
  have hmem : ∀ z, z ∈ L2 ↔ z ∈ L := fun z => by
    rw [HT.out.mem z]
    exact swp_mem L 0 N x y z (by have := HN.out; omega) (by have := HN.out; omega) HX.out HY.out
  have hl3 : (L2.take N).length = N := by rw [List.length_take]; have := HL.out; omega
  have hx3 : StAt w3 x := (H2.out.st x (by simp)).2.keep k3
  refine ⟨x, rfl, v3, L2.take N, h3, hl3, List.mem_of_getElem? HX.out, fun z hz => (hmem z).1 (List.mem_of_mem_take hz), fun z hz => ?_, fun z hz => ?_, ?_, hx3, (k1.trans HT.out.keep).trans k3, (b1.trans HT.out.below).trans b3⟩
  · have hz2 := (hmem z).2 hz
    rw [HS.out] at hz2
    rcases List.mem_append.1 hz2 with h | h
    · exact Or.inr h
    · simp at h; exact Or.inl h
  · obtain ⟨i, hi⟩ := List.mem_iff_getElem?.1 hz
    exact hh.out.top HX.out (Nat.le_refl _) i z (List.getElem?_eq_some_iff.1 hi).1 hi
  · rw [hl3]
    intro k h0 h1 a b ha hb
    rw [List.getElem?_take, if_pos (by omega)] at ha hb
    exact hH k h0 h1 a b ha hb
end Go.Proofs.Ytlfgglmgajcpoaa
