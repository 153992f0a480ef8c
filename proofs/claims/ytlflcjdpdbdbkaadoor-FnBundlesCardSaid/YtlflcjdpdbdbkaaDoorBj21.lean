/- Joined texts: Ob. -/
import Derived.WalkKit
import Derived.WalkSpells
import Derived.WalkLawsBesides
import Derived.Below
import Derived.Laws.AppendOwn
import Derived.Laws.BytesArg
import Derived.Lib.ConvBytes
/- A slice of bytes that was made out of a text: read, put behind another one, turned into a text again. No program is named here. -/
namespace Go.Proofs.YtlflcjdpdbdbkaaDoor.Pl
open Go Go.RowKit
set_option linter.unusedVariables false

/-- a text's bytes, as cells. -/
def bcs (s : ByteArray) : List Value := s.data.toList.map fun b => Value.int .u8 b.toNat
theorem bcs_length (s : ByteArray) : (bcs s).length = s.size := by rw [bcs, List.length_map]; rfl
theorem bcs_append (a b : ByteArray) : bcs (a ++ b) = bcs a ++ bcs b := by
  unfold bcs
  rw [ByteArray.data_append, Array.toList_append, List.map_append]
theorem bcs_one (s : ByteArray) : ∀ u ∈ bcs s, u.oneCell' = true := by
  intro u hu
  obtain ⟨b, _, rfl⟩ := List.mem_map.1 hu
  rfl
/-- the slice v, made by the call in blocks from B on, holds the bytes of s. -/
def OwT (w : World) (B : Nat) (e : TypeId) (v : Value) (s : ByteArray) : Prop :=
  ∃ g cap cur fz, v = .slice (some ⟨g, 0, none⟩) s.size cap ∧ B ≤ g ∧ w.heap[g]? = some (.cells cur e fz) ∧ (fz.2 = 0 ∨ cur.size ≤ fz.1) ∧ s.size ≤ cap ∧ cap ≤ maxLen ∧ cur.size = cap ∧ cur.toList.take s.size = bcs s
theorem OwT.lt {w : World} {B : Nat} {e : TypeId} {v : Value} {s : ByteArray} (h : OwT w B e v s) : ∀ k, v.ownBlock = some k → B ≤ k ∧ k < w.heap.size := by
  obtain ⟨g, cap, cur, fz, rfl, h1, h2, _⟩ := h
  intro k hk
  cases hk
  exact ⟨h1, (Array.getElem?_eq_some_iff.1 h2).1⟩
theorem OwT.keep {w w' : World} {B : Nat} {e : TypeId} {v : Value} {s : ByteArray} (h : OwT w B e v s) (hk : ∀ k, v.ownBlock = some k → k < w.heap.size → w'.heap[k]? = w.heap[k]?) : OwT w' B e v s := by
  obtain ⟨g, cap, cur, fz, rfl, h1, h2, rest⟩ := h
  exact ⟨g, cap, cur, fz, rfl, h1, (hk g rfl (Array.getElem?_eq_some_iff.1 h2).1).trans h2, rest⟩
theorem OwT.below {w w' : World} {B : Nat} {e : TypeId} {v : Value} {s : ByteArray} (h : OwT w B e v s) (hb : Below w.heap.size w w') : OwT w' B e v s := h.keep fun k _ hk => hb.block k hk
theorem OwT.down {w : World} {B B' : Nat} {e : TypeId} {v : Value} {s : ByteArray} (h : OwT w B e v s) (hB : B' ≤ B) : OwT w B' e v s := by
  obtain ⟨g, cap, cur, fz, rfl, h1, rest⟩ := h
  exact ⟨g, cap, cur, fz, rfl, Nat.le_trans hB h1, rest⟩
theorem OwT.cells {w : World} {B : Nat} {e : TypeId} {s : ByteArray} {ad : Addr} {n c : Nat} (h : OwT w B e (.slice (some ad) n c) s) : n = s.size ∧ ∀ j u, (bcs s)[j]? = some u → w.cell? (ad.add j) = some u := by
  obtain ⟨g, cap, cur, fz, he, h1, h2, _, _, _, _, h8⟩ := h
  simp only [Value.slice.injEq, Option.some.injEq] at he
  obtain ⟨rfl, rfl, rfl⟩ := he
  refine ⟨rfl, fun j u hu => ?_⟩
  have hadd : (⟨g, 0, none⟩ : Addr).add j = ⟨g, j, none⟩ := by unfold Addr.add; split <;> simp_all
  rw [hadd, cell_of_row w g j cur e fz h2]
  rw [← h8, List.getElem?_take] at hu
  split at hu
  · simpa using hu
  · cases hu
theorem OwT.form {w : World} {B : Nat} {e : TypeId} {v : Value} {s : ByteArray} (h : OwT w B e v s) : ∃ ad cap, v = .slice (some ad) s.size cap := by
  obtain ⟨g, cap, cur, fz, rfl, _⟩ := h
  exact ⟨_, cap, rfl⟩

/-- '[]byte(s)'. -/
theorem conv_own_bytes {P : Program} (w : World) (src dst e : TypeId) (s : ByteArray) (hs : P.underlying src = some .string) (hd : P.underlying dst = some (.slice e)) (he : P.underlying e = some (.int .u8)) (hm : s.size ≤ 1048576) :
    ∃ v W, (convert src dst (.string s)).run P w = .ok v W ∧ OwT W w.heap.size e v s ∧ Below w.heap.size w W := by
  refine ⟨_, _, Lib.run_convert_string_bytes (P := P) w src dst e s hs hd he, ⟨w.heap.size, _, Lib.bytesCells w e s, _, rfl, Nat.le_refl _, Lib.bytesWorld_at_new w e s, .inr (Nat.le_refl _), grownCap_ge w s.size 0 e, grownCap_le_maxLen w s.size 0 e (by unfold maxLen; omega), ?_, ?_⟩, ⟨rfl, rfl, rfl, by rw [Lib.bytesWorld_size]; omega, fun k hk => Lib.bytesWorld_at_old w e s k hk⟩⟩
  · have hge := grownCap_ge w s.size 0 e
    unfold Lib.bytesCells
    rw [Array.size_append, Array.size_map, Array.size_replicate]
    show s.size + _ = _
    omega
  · unfold Lib.bytesCells
    rw [Array.toList_append, Array.toList_map, List.take_append_of_le_length (by rw [List.length_map]; exact Nat.le_refl _), List.take_of_length_le (by rw [List.length_map]; exact Nat.le_refl _)]
    rfl

theorem run_storeCells_atM (P : Program) (g o : Nat) (t : TypeId) (fz : Nat × Nat) : ∀ (vs : List Value) (i : Nat) (cur : Array Value) (w : World), w.heap[g]? = some (.cells cur t fz) → (fz.2 = 0 ∨ cur.size ≤ fz.1) → o + i + vs.length ≤ cur.size → (∀ v ∈ vs, v.oneCell' = true) →
    (storeCells ⟨g, o, none⟩ vs i).run P w = .ok () (w.setRow g (cur.toList.take (o + i) ++ vs ++ cur.toList.drop (o + i + vs.length)).toArray)
  | [], i, cur, w, hg, _, _, _ => by
    simp only [storeCells, List.append_nil, List.length_nil, Nat.add_zero, List.take_append_drop, Array.toArray_toList]
    rw [setRow_self w g cur t fz hg]
    rfl
  | v :: rest, i, cur, w, hg, hfz, hl, h1 => by
    have hi : o + i < cur.size := by simp at hl; omega
    have hadd : (⟨g, o, none⟩ : Addr).add i = ⟨g, o + i, none⟩ := by unfold Addr.add; split <;> simp_all
    have hcell : w.cell? ⟨g, o + i, none⟩ = some cur[o + i] := by simp [World.cell?, hg, hi]
    have hfro : w.frozen? ⟨g, o + i, none⟩ = false := by
      obtain ⟨lo, hi'⟩ := fz
      simp only [World.frozen?, hg, Bool.and_eq_false_iff, decide_eq_false_iff_not]
      simp only at hfz
      rcases hfz with hfz | hfz
      · right; omega
      · left; omega
    have hst : (store ((⟨g, o, none⟩ : Addr).add i) v).run P w = .ok () (w.setRow g (cur.setIfInBounds (o + i) v)) := by
      rw [hadd, run_store P w _ v _ (h1 v (by simp)), hcell]
      simp [hfro, setCell_eq_setRow w g (o + i) cur t fz v hg]
    have ih := run_storeCells_atM P g o t fz rest (i + 1) (cur.setIfInBounds (o + i) v) (w.setRow g (cur.setIfInBounds (o + i) v)) (setRow_heap w g cur _ t _ hg) (by simpa using hfz) (by simp at hl ⊢; omega) (fun x hx => h1 x (by simp [hx]))
    simp only [storeCells, Sem.run_bind, hst, Result.andThen_ok, ih, setRow_setRow]
    congr 3
    have e := list_seg_step cur.toList (o + i) v rest (by simp at hl ⊢; omega)
    simpa [Array.toList_setIfInBounds, Nat.add_assoc] using e

theorem run_append_bytes {P : Program} (w : World) (B : Nat) (t ty e : TypeId) (i : TypeInfo) (ht : P.underlying t = some (.slice e)) (hi : P.info? e = some i) (hz : i.zero = some (.int .u8 0)) (hsize : i.size = 1) (hby : i.bytes = 1)
    (v : Value) (s : ByteArray) (hown : OwT w B e v s) (a : Addr) (c : Nat) (x : ByteArray) (hnews : ∀ j u, (bcs x)[j]? = some u → w.cell? (a.add j) = some u) (hm : s.size + x.size ≤ 1048576) (hB : B ≤ w.heap.size) :
    ∃ v' w', (Builtin.append_ #[t, t] ty #[v, .slice (some a) x.size c]).run P w = .ok v' w' ∧ OwT w' B e v' (s ++ x) ∧ w.grownBy w' v.ownBlock := by
  obtain ⟨g, cap, cur, fz, rfl, hbg, hg, hfz, hnc, hcm, hcs, htake⟩ := hown
  have hlen : (bcs s ++ bcs x).length = s.size + x.size := by rw [List.length_append, bcs_length, bcs_length]
  have hadd : ∀ j, (⟨g, 0, none⟩ : Addr).add j = ⟨g, j, none⟩ := fun j => by unfold Addr.add; split <;> simp_all
  by_cases hroom : s.size + x.size ≤ cap
  · have hf := run_firstCells_some (P := P) w i.size x.size a x.size c (bcs x) (by rw [hsize, bcs_length, Nat.mul_one]) hnews
    have hst := run_storeCells_atM P g s.size e fz (bcs x) 0 cur w hg hfz (by rw [bcs_length]; omega) (bcs_one x)
    simp only [Nat.add_zero] at hst
    have hr : (Builtin.append_ #[t, t] ty #[.slice (some ⟨g, 0, none⟩) s.size cap, .slice (some a) x.size c]).run P w = .ok (.slice (some ⟨g, 0, none⟩) (s.size + x.size) cap) (w.setRow g (cur.toList.take s.size ++ bcs x ++ cur.toList.drop (s.size + (bcs x).length)).toArray) := by
      rw [hsize] at hf
      simp [Builtin.append_, run_underlying ht, sizeOf, typeInfo, hi, hsize, Builtin.lenOf, hroom, hf, Addr.add_lit, hst]
    refine ⟨_, _, hr, ⟨g, cap, _, fz, by rw [ByteArray.size_append], hbg, setRow_heap w g cur _ e _ hg, ?_, by rw [ByteArray.size_append]; exact hroom, hcm, ?_, ?_⟩, ⟨rfl, rfl, rfl, by simp, fun k _ hk => setRow_other w g k _ (fun e => hk (by simp [Value.ownBlock, e]))⟩⟩
    · rcases hfz with hfz | hfz
      · exact .inl hfz
      · right
        simp only [List.size_toArray, List.length_append, List.length_take, List.length_drop, Array.length_toList, bcs_length]
        omega
    · simp only [List.size_toArray, List.length_append, List.length_take, List.length_drop, Array.length_toList, bcs_length]
      omega
    · rw [htake, bcs_append, ByteArray.size_append, ← hlen]
      exact List.take_left
  · have holds : ∀ j u, (bcs s)[j]? = some u → w.cell? ((⟨g, 0, none⟩ : Addr).add j) = some u := fun j u hu => by
      rw [hadd, cell_of_row w g j cur e fz hg]
      rw [← htake, List.getElem?_take] at hu
      split at hu
      · simpa using hu
      · cases hu
    have hr := run_append_grow (P := P) w t ty e i (.int .u8 0) ht hi hz ⟨g, 0, none⟩ s.size cap (bcs s) (by rw [hsize, bcs_length, Nat.mul_one]) holds a x.size c (bcs x) (by rw [hsize, bcs_length, Nat.mul_one]) hnews (by omega) (by omega) (growslice_fits (by omega) (by rw [hby]; omega))
    have hge := grownCap_ge w (s.size + x.size) cap e
    have hcm2 : grownCap w (s.size + x.size) cap e ≤ maxLen := grownCap_le_maxLen w (s.size + x.size) cap e (by unfold maxLen; omega)
    refine ⟨_, _, hr, ⟨w.heap.size, _, _, (0, 0), by rw [ByteArray.size_append], hB, heap_alloc_new w.drew _, .inl rfl, by rw [ByteArray.size_append]; exact hge, hcm2, ?_, ?_⟩, ⟨rfl, rfl, rfl, by simp, fun k hk _ => heap_alloc_old w.drew _ hk⟩⟩
    · have hz1 : (Value.int IntKind.u8 0).cells.size = 1 := rfl
      simp only [Array.size_append, List.size_toArray, size_zeroCells, hz1, bcs_length]
      omega
    · simp only [Array.toList_append, List.append_assoc]
      rw [bcs_append, ByteArray.size_append, ← List.append_assoc, ← hlen]
      exact List.take_left

/-- append(a, b...) of bytes, for the walk. -/
theorem wpList_catBytes {P : Program} {w : World} {ops : Array Oper} {rest : List Oper} {o : Oper} {a : Act} {Q : Exit → Act → World → Prop} (hgd : o.guard = none) (sl x : Operand) (t e : TypeId)
    (ho : o.op = .call { callee := .builtin .append, args := #[sl, x], argTypes := #[t, t] }) (ht : P.underlying t = some (.slice e)) (hinfo : (P.info? e).map (fun i => (i.zero, i.size, i.bytes)) = some (some (.int .u8 0), 1, 1))
    (B B' : Nat) (v u : Value) (s y : ByteArray) (hs : a.eval sl = v) (hown : OwT w B e v s) (hx : a.eval x = u) (hu : OwT w B' e u y) (hm : s.size + y.size ≤ 1048576) (hB : B ≤ w.heap.size)
    (h : ∀ v' w', OwT w' B e v' (s ++ y) → w.grownBy w' v.ownBlock → wpList P ops Q rest (a.put o.dst v') w') : wpList P ops Q (o :: rest) a w := by
  obtain ⟨i0, hi, hz0, hz1, hz2⟩ := info_parts hinfo
  obtain ⟨ad, c, rfl⟩ := hu.form
  refine wpList_plain hgd fun K hK => ?_
  obtain ⟨v', w', hr, h2, h3⟩ := run_append_bytes (P := P) w B t o.type e i0 ht hi hz0 hz1 hz2 v s hown ad c y hu.cells.2 hm hB
  unfold Oper.wp execOp
  simp only [ho, resolve, invoke, builtin, Sem.run_bind, Sem.run_pure, Result.andThen_ok, List.map_toArray, List.map_cons, List.map_nil, hs, hx, hr]
  exact hK _ _ (h v' w' h2 h3)

/-- string(b). -/
theorem conv_text {P : Program} {w : World} {B : Nat} {src dst e : TypeId} {v : Value} {s : ByteArray} (hs : P.underlying src = some (.slice e)) (he : P.underlying e = some (.int .u8)) (hd : P.underlying dst = some .string) (h : OwT w B e v s) : (convert src dst v).run P w = .ok (.string s) w := by
  obtain ⟨ad, c, rfl⟩ := h.form
  have h2 := h.cells.2
  have hb := run_convert_bytes_back (P := P) w src dst e ad c s.data.toList hs he hd (by
    intro j hj
    refine h2 j _ ?_
    unfold bcs
    rw [List.getElem?_map, List.getElem?_eq_getElem hj]
    rfl)
  exact hb
end Go.Proofs.YtlflcjdpdbdbkaaDoor.Pl

