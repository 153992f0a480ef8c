/- Texts cut at places, in plain words: which places cut, the pieces between them, and that these joined are the text. No program is named here. -/
import Derived.Lib.SlicesCompact
import Derived.Laws.BytesArg
namespace Go.Proofs.YtjjaklhpdckppaaDoor.Pl
open Go
set_option linter.unusedVariables false

theorem ext_list {a b : ByteArray} (h : a.data.toList = b.data.toList) : a = b := by
  cases a; cases b; congr 1; exact Array.toList_inj.1 h
theorem extract_list (t : ByteArray) (i j : Nat) : (t.extract i j).data.toList = (t.data.toList.take j).drop i := by
  rw [ByteArray.data_extract, Array.toList_extract, List.extract_eq_take_drop, List.drop_take]
theorem size_list (t : ByteArray) : t.data.toList.length = t.size := rfl
theorem append_list (a b : ByteArray) : (a ++ b).data.toList = a.data.toList ++ b.data.toList := by
  rw [ByteArray.data_append, Array.toList_append]

theorem extract_join (t : ByteArray) (a b c : Nat) (h1 : a ≤ b) (h2 : b ≤ c) : t.extract a b ++ t.extract b c = t.extract a c := by
  apply ext_list
  rw [append_list, extract_list, extract_list, extract_list]
  have e : t.data.toList.take c = t.data.toList.take b ++ (t.data.toList.take c).drop b := by
    have := List.take_append_drop b (t.data.toList.take c)
    rw [List.take_take, Nat.min_eq_left h2] at this
    exact this.symm
  conv => rhs; rw [e]
  by_cases hl : a ≤ (t.data.toList.take b).length
  · rw [List.drop_append_of_le_length hl]
  · have hl2 : t.data.toList.length ≤ b := by
      rw [List.length_take] at hl; omega
    have hz : (t.data.toList.take c).drop b = [] := List.drop_of_length_le (by rw [List.length_take]; omega)
    rw [hz]; simp
theorem extract_all (t : ByteArray) : t.extract 0 t.size = t := by
  apply ext_list
  rw [extract_list, List.take_of_length_le (by rw [size_list]; exact Nat.le_refl _)]; rfl

/-! lists that ascend. -/
theorem asc_unique : ∀ (l m : List Int), l.Pairwise (· < ·) → m.Pairwise (· < ·) → (∀ x, x ∈ l ↔ x ∈ m) → l = m
  | [], [], _, _, _ => rfl
  | [], b :: m, _, _, h => absurd ((h b).2 (List.mem_cons_self ..)) (by simp)
  | a :: l, [], _, _, h => absurd ((h a).1 (List.mem_cons_self ..)) (by simp)
  | a :: l, b :: m, hl, hm, h => by
    rw [List.pairwise_cons] at hl hm
    have e : a = b := by
      rcases List.mem_cons.1 ((h a).1 (List.mem_cons_self ..)) with e | h1
      · exact e
      · rcases List.mem_cons.1 ((h b).2 (List.mem_cons_self ..)) with e | h2
        · exact e.symm
        · have := hm.1 a h1
          have := hl.1 b h2
          omega
    subst e
    congr 1
    refine asc_unique l m hl.2 hm.2 fun x => ?_
    constructor
    · intro hx
      rcases List.mem_cons.1 ((h x).1 (List.mem_cons_of_mem _ hx)) with e | h1
      · have := hl.1 x hx
        omega
      · exact h1
    · intro hx
      rcases List.mem_cons.1 ((h x).2 (List.mem_cons_of_mem _ hx)) with e | h1
      · have := hm.1 x hx
        omega
      · exact h1

theorem comp_mem (d : Array Int) (x : Int) : ∀ m, x ∈ Lib.compactUpTo d m ↔ ∃ j, j < m ∧ d[j]! = x
  | 0 => by simp [Lib.compactUpTo]
  | m + 1 => by
    rw [Lib.compactUpTo_succ, List.mem_append, comp_mem d x m]
    constructor
    · rintro (⟨j, h1, h2⟩ | h)
      · exact ⟨j, by omega, h2⟩
      · by_cases hk : Lib.keeps d m
        · rw [if_pos hk] at h
          exact ⟨m, by omega, (List.mem_singleton.1 h).symm⟩
        · rw [if_neg hk] at h
          cases h
    · rintro ⟨j, h1, h2⟩
      by_cases e : j = m
      · subst e
        by_cases hk : Lib.keeps d j
        · rw [if_pos hk]
          exact .inr (List.mem_singleton.2 h2.symm)
        · have h3 : ¬ (j = 0 ∨ d[j]! ≠ d[j - 1]!) := by simpa [Lib.keeps] using hk
          refine .inl ⟨j - 1, by omega, ?_⟩
          by_cases h4 : d[j]! = d[j - 1]!
          · rw [← h4]; exact h2
          · exact absurd (Or.inr h4) h3
      · exact .inl ⟨j, by omega, h2⟩

theorem comp_asc (d : Array Int) (hs : ∀ i j, i < j → j < d.size → d[i]! ≤ d[j]!) : ∀ m, m ≤ d.size → (Lib.compactUpTo d m).Pairwise (· < ·)
  | 0, _ => by simp [Lib.compactUpTo]
  | m + 1, hm => by
    rw [Lib.compactUpTo_succ, List.pairwise_append]
    refine ⟨comp_asc d hs m (by omega), ?_, ?_⟩
    · by_cases hk : Lib.keeps d m
      · rw [if_pos hk]; exact List.pairwise_singleton _ _
      · rw [if_neg hk]; exact List.Pairwise.nil
    · intro x hx y hy
      by_cases hk : Lib.keeps d m
      · rw [if_pos hk] at hy
        obtain rfl := List.mem_singleton.1 hy
        obtain ⟨j, h1, rfl⟩ := (comp_mem d x m).1 hx
        have h3 : m = 0 ∨ d[m]! ≠ d[m - 1]! := by simpa [Lib.keeps] using hk
        have h4 : d[m]! ≠ d[m - 1]! := by
          rcases h3 with h | h
          · omega
          · exact h
        have h5 : d[m - 1]! ≤ d[m]! := hs (m - 1) m (by omega) (by omega)
        have h6 : d[j]! ≤ d[m - 1]! := by
          by_cases e : j = m - 1
          · rw [e]; exact Int.le_refl _
          · exact hs j (m - 1) (by omega) (by omega)
        omega
      · rw [if_neg hk] at hy
        cases hy

/-- what sort and compact make of a list: ascending, with the same members. -/
theorem sorted_comp (zs : List Int) : (Lib.compact (zs.mergeSort fun x y => decide (x ≤ y))).Pairwise (· < ·) ∧ ∀ x, x ∈ Lib.compact (zs.mergeSort fun x y => decide (x ≤ y)) ↔ x ∈ zs := by
  have hsort : (zs.mergeSort fun x y => decide (x ≤ y)).Pairwise (fun x y => decide (x ≤ y) = true) :=
    List.pairwise_mergeSort (fun a b c h1 h2 => by simp at *; omega) (fun a b => by simp; omega) zs
  generalize hm : (zs.mergeSort fun x y => decide (x ≤ y)) = ms at hsort
  have hmem : ∀ x, x ∈ ms ↔ x ∈ zs := fun x => by rw [← hm]; exact List.mem_mergeSort
  clear hm
  unfold Lib.compact
  refine ⟨comp_asc _ ?_ _ (by simp), fun x => ?_⟩
  · intro i j hij hj
    have hj' : j < ms.length := by simpa using hj
    have := List.pairwise_iff_getElem.1 hsort i j (by omega) hj' hij
    simp only [decide_eq_true_eq] at this
    rw [getElem!_pos ms.toArray j (by simpa using hj), getElem!_pos ms.toArray i (by simp; omega)]
    simpa using this
  · rw [comp_mem, ← hmem]
    constructor
    · rintro ⟨j, h1, rfl⟩
      rw [getElem!_pos _ _ (by simpa using h1)]
      simp
    · intro hx
      obtain ⟨j, hj, rfl⟩ := List.getElem_of_mem hx
      exact ⟨j, hj, by rw [getElem!_pos _ _ (by simpa using hj)]; simp⟩

/-! the places at which a text of n bytes is cut. -/
def cutN (n : Nat) (z : Int) : Nat := (z % ((n : Int) + 1)).toNat
theorem cutN_cast (n : Nat) (z : Int) : ((cutN n z : Nat) : Int) = z % ((n : Int) + 1) := Int.toNat_of_nonneg (Int.emod_nonneg _ (by omega))
theorem cutN_le (n : Nat) (z : Int) : cutN n z ≤ n := by
  have h1 := cutN_cast n z
  have h2 := Int.emod_lt_of_pos z (show (0 : Int) < (n : Int) + 1 by omega)
  omega
/-- what Go's remainder is, and what is made of it. -/
theorem cutN_pos {n : Nat} {z : Int} (h : 0 ≤ Int.tmod z ((n : Int) + 1)) : ((cutN n z : Nat) : Int) = Int.tmod z ((n : Int) + 1) := by
  rw [cutN_cast]
  have h1 := Int.tmod_add_mul_tdiv z ((n : Int) + 1)
  have h2 := Int.tmod_lt_of_pos z (show (0 : Int) < (n : Int) + 1 by omega)
  have h3 : z % ((n : Int) + 1) = (Int.tmod z ((n : Int) + 1) + ((n : Int) + 1) * z.tdiv ((n : Int) + 1)) % ((n : Int) + 1) := by rw [h1]
  rw [h3, Int.add_mul_emod_self_left]
  exact Int.emod_eq_of_lt h h2
theorem cutN_neg {n : Nat} {z : Int} (h : Int.tmod z ((n : Int) + 1) < 0) : ((cutN n z : Nat) : Int) = Int.tmod z ((n : Int) + 1) + ((n : Int) + 1) := by
  rw [cutN_cast]
  have h1 := Int.tmod_add_mul_tdiv z ((n : Int) + 1)
  have h2 : -((n : Int) + 1) < Int.tmod z ((n : Int) + 1) := by
    have h4 := Int.tmod_lt_of_pos (-z) (show (0 : Int) < (n : Int) + 1 by omega)
    rw [Int.neg_tmod] at h4
    omega
  have h3 : z % ((n : Int) + 1) = (Int.tmod z ((n : Int) + 1) + ((n : Int) + 1) + ((n : Int) + 1) * (z.tdiv ((n : Int) + 1) - 1)) % ((n : Int) + 1) := by
    congr 1
    rw [Int.mul_sub]
    omega
  rw [h3, Int.add_mul_emod_self_left]
  exact Int.emod_eq_of_lt (by omega) (by omega)

def isCut (n : Nat) (zs : List Int) (i : Nat) : Bool := zs.any (fun z => cutN n z == i)
def cutsUp (n : Nat) (zs : List Int) (m : Nat) : List Nat := (List.range m).filter (isCut n zs)
def cutsL (n : Nat) (zs : List Int) : List Nat := cutsUp n zs (n + 1)

theorem cutsUp_yes {n : Nat} {zs : List Int} {m : Nat} (h : isCut n zs m = true) : cutsUp n zs (m + 1) = cutsUp n zs m ++ [m] := by
  unfold cutsUp; rw [List.range_succ, List.filter_append]; simp [h]
theorem cutsUp_no {n : Nat} {zs : List Int} {m : Nat} (h : isCut n zs m = false) : cutsUp n zs (m + 1) = cutsUp n zs m := by
  unfold cutsUp; rw [List.range_succ, List.filter_append]; simp [h]
theorem cutsUp_lt {n : Nat} {zs : List Int} {m c : Nat} (h : c ∈ cutsUp n zs m) : c < m := List.mem_range.1 (List.mem_filter.1 h).1
theorem cutsL_le {n : Nat} {zs : List Int} {c : Nat} (h : c ∈ cutsL n zs) : c ≤ n := Nat.le_of_lt_succ (cutsUp_lt h)
theorem cutsUp_asc (n : Nat) (zs : List Int) (m : Nat) : (cutsUp n zs m).Pairwise (· < ·) := List.Pairwise.filter _ List.pairwise_lt_range
theorem isCut_iff (n : Nat) (zs : List Int) (i : Nat) : isCut n zs i = true ↔ ∃ z ∈ zs, cutN n z = i := by simp [isCut]

/-- sorted and compacted, the places are these. -/
theorem comp_cuts (n : Nat) (zs : List Int) : Lib.compact ((zs.map fun z => ((cutN n z : Nat) : Int)).mergeSort fun x y => decide (x ≤ y)) = (cutsL n zs).map fun c : Nat => (c : Int) := by
  obtain ⟨h1, h2⟩ := sorted_comp (zs.map fun z => ((cutN n z : Nat) : Int))
  refine asc_unique _ _ h1 ?_ fun x => ?_
  · rw [List.pairwise_map]
    exact (cutsUp_asc n zs (n + 1)).imp fun h => by omega
  · rw [h2 x]
    simp only [List.mem_map]
    constructor
    · rintro ⟨z, hz, rfl⟩
      refine ⟨cutN n z, ?_, rfl⟩
      exact List.mem_filter.2 ⟨List.mem_range.2 (Nat.lt_succ_of_le (cutN_le n z)), (isCut_iff n zs _).2 ⟨z, hz, rfl⟩⟩
    · rintro ⟨c, hc, rfl⟩
      obtain ⟨z, hz, e⟩ := (isCut_iff n zs c).1 (List.mem_filter.1 hc).2
      exact ⟨z, hz, by rw [e]⟩

theorem compact_le (zs : List Int) : (Lib.compact zs).length ≤ zs.length := by
  unfold Lib.compact Lib.compactUpTo
  rw [List.length_map]
  exact Nat.le_trans (List.length_filter_le _ _) (by rw [List.length_range]; exact Nat.le_refl _)

theorem cutsL_length (n : Nat) (zs : List Int) : (cutsL n zs).length ≤ zs.length := by
  have h := compact_le ((zs.map fun z => ((cutN n z : Nat) : Int)).mergeSort fun x y => decide (x ≤ y))
  rw [comp_cuts, List.length_map, List.length_mergeSort, List.length_map] at h
  exact h

/-! the pieces. -/
def cutStep (s : ByteArray) (p : List ByteArray × Nat) (c : Nat) : List ByteArray × Nat := (p.1 ++ [s.extract p.2 c], c)
def cutF (s : ByteArray) (l : List Nat) : List ByteArray × Nat := l.foldl (cutStep s) ([], 0)
theorem cutF_nil (s : ByteArray) : cutF s [] = ([], 0) := rfl
theorem cutF_snoc (s : ByteArray) (l : List Nat) (c : Nat) : cutF s (l ++ [c]) = ((cutF s l).1 ++ [s.extract (cutF s l).2 c], c) := by
  unfold cutF; rw [List.foldl_append]; rfl
theorem fold_len (s : ByteArray) : ∀ (l : List Nat) (p : List ByteArray × Nat), (l.foldl (cutStep s) p).1.length = p.1.length + l.length
  | [], _ => rfl
  | c :: l, p => by rw [List.foldl_cons, fold_len s l]; simp [cutStep]; omega
theorem cutF_len (s : ByteArray) (l : List Nat) : (cutF s l).1.length = l.length := by rw [cutF, fold_len]; simp
theorem fold_snd (s : ByteArray) : ∀ (l : List Nat) (p : List ByteArray × Nat), (l.foldl (cutStep s) p).2 = p.2 ∨ (l.foldl (cutStep s) p).2 ∈ l
  | [], _ => .inl rfl
  | c :: l, p => by
    rw [List.foldl_cons]
    rcases fold_snd s l (cutStep s p c) with h | h
    · rw [h]; exact .inr (List.mem_cons_self ..)
    · exact .inr (List.mem_cons_of_mem _ h)
theorem cutF_snd (s : ByteArray) (l : List Nat) : (cutF s l).2 = 0 ∨ (cutF s l).2 ∈ l := fold_snd s l _
/-- the next place is not ahead of the last one. -/
theorem cutF_le (s : ByteArray) {l : List Nat} (hl : l.Pairwise (· < ·)) {k : Nat} (hk : k < l.length) : (cutF s (l.take k)).2 ≤ l[k] := by
  rcases cutF_snd s (l.take k) with h | h
  · omega
  · obtain ⟨j, hj, e⟩ := List.getElem_of_mem h
    rw [List.length_take] at hj
    rw [← e, List.getElem_take]
    exact Nat.le_of_lt (List.pairwise_iff_getElem.1 hl j k (by omega) hk (by omega))
theorem cutF_end (s : ByteArray) {l : List Nat} {n : Nat} (hl : ∀ c ∈ l, c ≤ n) : (cutF s l).2 ≤ n := by
  rcases cutF_snd s l with h | h
  · omega
  · exact hl _ h
theorem cutF_take (s : ByteArray) {l : List Nat} {k : Nat} (hk : k < l.length) : cutF s (l.take (k + 1)) = ((cutF s (l.take k)).1 ++ [s.extract (cutF s (l.take k)).2 l[k]], l[k]) := by
  rw [List.take_succ_eq_append_getElem hk, cutF_snoc]

def pieces (s : ByteArray) (l : List Nat) : List ByteArray := (cutF s l).1 ++ [s.extract (cutF s l).2 s.size]
theorem pieces_len (s : ByteArray) (l : List Nat) : (pieces s l).length = l.length + 1 := by simp [pieces, cutF_len]

/-- texts joined. -/
def catL : List ByteArray → ByteArray := fun l => l.foldl (· ++ ·) ByteArray.empty
theorem catL_nil : catL [] = ByteArray.empty := rfl
theorem catL_snoc (l : List ByteArray) (t : ByteArray) : catL (l ++ [t]) = catL l ++ t := by unfold catL; rw [List.foldl_append]; rfl
theorem catL_take {l : List ByteArray} {k : Nat} (hk : k < l.length) : catL (l.take (k + 1)) = catL (l.take k) ++ l[k] := by
  rw [List.take_succ_eq_append_getElem hk, catL_snoc]

theorem fold_cat : ∀ (l : List ByteArray) (x : ByteArray), l.foldl (· ++ ·) x = x ++ catL l
  | [], x => by rw [catL_nil, ByteArray.append_empty]; rfl
  | t :: l, x => by
    rw [List.foldl_cons, fold_cat l (x ++ t)]
    show _ = x ++ (t :: l).foldl (· ++ ·) ByteArray.empty
    rw [List.foldl_cons, fold_cat l (ByteArray.empty ++ t), ByteArray.empty_append, ByteArray.append_assoc]
theorem catL_append (a b : List ByteArray) : catL (a ++ b) = catL a ++ catL b := by
  show (a ++ b).foldl (· ++ ·) ByteArray.empty = _
  rw [List.foldl_append, fold_cat b]; rfl
theorem catL_cons (t : ByteArray) (l : List ByteArray) : catL (t :: l) = t ++ catL l := by
  rw [show t :: l = [t] ++ l from rfl, catL_append]
  show (ByteArray.empty ++ t) ++ _ = _
  rw [ByteArray.empty_append]
theorem catL_take_size (l : List ByteArray) (k : Nat) : (catL (l.take k)).size ≤ (catL l).size := by
  have h := catL_append (l.take k) (l.drop k)
  rw [List.take_append_drop] at h
  rw [h, ByteArray.size_append]
  omega

theorem cat_cutF (s : ByteArray) {l : List Nat} (hl : l.Pairwise (· < ·)) : ∀ k, k ≤ l.length → catL (cutF s (l.take k)).1 = s.extract 0 (cutF s (l.take k)).2
  | 0, _ => by
    rw [List.take_zero, cutF_nil, catL_nil]
    apply ext_list
    rw [extract_list]; simp
  | k + 1, hk => by
    have h := cat_cutF s hl k (by omega)
    have hle := cutF_le s hl (show k < l.length by omega)
    rw [cutF_take s (by omega), catL_snoc, h, extract_join _ _ _ _ (Nat.zero_le _) hle]

theorem cat_pieces (s : ByteArray) {l : List Nat} (hl : l.Pairwise (· < ·)) (hn : ∀ c ∈ l, c ≤ s.size) : catL (pieces s l) = s := by
  have h := cat_cutF s hl l.length (Nat.le_refl _)
  rw [List.take_length] at h
  rw [pieces, catL_snoc, h, extract_join _ _ _ _ (Nat.zero_le _) (cutF_end s hn), extract_all]
theorem cat_cuts (s : ByteArray) (zs : List Int) : catL (pieces s (cutsL s.size zs)) = s := cat_pieces s (cutsUp_asc _ _ _) fun _ h => cutsL_le h
end Go.Proofs.YtjjaklhpdckppaaDoor.Pl
