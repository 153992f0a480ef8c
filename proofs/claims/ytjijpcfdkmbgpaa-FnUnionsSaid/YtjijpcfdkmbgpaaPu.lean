/- An item put into a list that ascends, in plain words; the walk over store.put. -/
import Derived.Test.YtjijpcfdkmbgpaaIa
import Derived.Test.YtjijpcfdkmbgpaaBs
import Derived.Test.YtjijpcfdkmbgpaaA4
namespace Go.Proofs.Ytjijpcfdkmbgpaa
open Go.RowKit Pl
set_option linter.unusedVariables false

/-- the item in its place, where none has its number. -/
def ins1 (ts : List It) (y : It) : List It := if hasP ts y.1 = true then ts else ts.filter (fun x => decide (x.1 < y.1)) ++ y :: ts.filter (fun x => decide (y.1 < x.1))
theorem hasP_false {ts : List It} {n : Int} : hasP ts n = false ↔ ∀ x ∈ ts, ¬ x.1 = n := by
  constructor
  · intro h x hx he
    have := hasP_iff.2 ⟨x, hx, he⟩
    rw [h] at this
    cases this
  · intro h
    cases hh : hasP ts n with
    | false => rfl
    | true =>
      obtain ⟨x, hx, he⟩ := hasP_iff.1 hh
      exact absurd he (h x hx)
theorem parts_has {ts : List It} {n : Int} {p : Nat} (h : Asc ts) (hp : Parts ts n p) : hasP ts n = decide (∃ h : p < ts.length, ts[p].1 = n) := by
  obtain ⟨h1, h2, h3⟩ := hp
  rw [Bool.eq_iff_iff, hasP_iff, decide_eq_true_iff]
  constructor
  · rintro ⟨x, hx, he⟩
    rw [← List.take_append_drop p ts] at hx
    rcases List.mem_append.1 hx with h4 | h4
    · have := h2 x h4; omega
    · obtain ⟨i, hi, rfl⟩ := List.mem_drop_iff_getElem.1 h4
      have hpl : p < ts.length := by omega
      refine ⟨hpl, ?_⟩
      by_cases hi0 : i = 0
      · subst hi0; simpa using he
      · have h5 := h.at (i := p) (j := p + i) (by omega) (by omega)
        have h6 := h3 ts[p] (List.mem_drop_iff_getElem.2 ⟨0, by omega, by simp⟩)
        omega
  · rintro ⟨hl, he⟩
    exact ⟨_, List.getElem_mem hl, he⟩
theorem parts_lt {ts : List It} {n : Int} {p : Nat} (hp : Parts ts n p) : ts.filter (fun x => decide (x.1 < n)) = ts.take p := by
  obtain ⟨h1, h2, h3⟩ := hp
  have e : ts.filter (fun x => decide (x.1 < n)) = (ts.take p ++ ts.drop p).filter (fun x => decide (x.1 < n)) := by rw [List.take_append_drop]
  rw [e, List.filter_append, List.filter_eq_self.2 (fun x hx => by simpa using h2 x hx), List.filter_eq_nil_iff.2 (fun x hx => by have := h3 x hx; simp; omega), List.append_nil]
theorem parts_gt {ts : List It} {n : Int} {p : Nat} (hp : Parts ts n p) (hh : hasP ts n = false) : ts.filter (fun x => decide (n < x.1)) = ts.drop p := by
  obtain ⟨h1, h2, h3⟩ := hp
  have e : ts.filter (fun x => decide (n < x.1)) = (ts.take p ++ ts.drop p).filter (fun x => decide (n < x.1)) := by rw [List.take_append_drop]
  rw [e, List.filter_append, List.filter_eq_nil_iff.2 (fun x hx => by have := h2 x hx; simp; omega), List.filter_eq_self.2 (fun x hx => by
    have h4 := h3 x hx
    have h5 := hasP_false.1 hh x (List.mem_of_mem_drop hx)
    simp; omega), List.nil_append]
theorem ins1_has {ts : List It} {y : It} (h : hasP ts y.1 = true) : ins1 ts y = ts := by unfold ins1; rw [if_pos h]
theorem ins1_not {ts : List It} {y : It} {p : Nat} (hp : Parts ts y.1 p) (h : hasP ts y.1 = false) : ins1 ts y = ts.take p ++ y :: ts.drop p := by
  unfold ins1
  rw [if_neg (by rw [h]; simp), parts_lt hp, parts_gt hp h]
theorem ins1_asc {ts : List It} {y : It} (h : Asc ts) : Asc (ins1 ts y) := by
  unfold ins1
  split
  · exact h
  · unfold Asc
    rw [List.pairwise_append]
    refine ⟨h.filter _, ?_, ?_⟩
    · rw [List.pairwise_cons]
      exact ⟨fun x hx => by simpa using (List.mem_filter.1 hx).2, h.filter _⟩
    · intro a ha b hb
      have h1 : a.1 < y.1 := by simpa using (List.mem_filter.1 ha).2
      rcases List.mem_cons.1 hb with rfl | hb
      · exact h1
      · have h2 : y.1 < b.1 := by simpa using (List.mem_filter.1 hb).2
        omega
theorem ins1_len (ts : List It) (y : It) (h : Asc ts) : (ins1 ts y).length ≤ ts.length + 1 := by
  unfold ins1
  split
  · omega
  · have h2 : ∀ l : List It, (l.filter (fun x => decide (x.1 < y.1))).length + (l.filter (fun x => decide (y.1 < x.1))).length ≤ l.length := by
      intro l
      induction l with
      | nil => simp
      | cons a l ih =>
        rw [List.filter_cons, List.filter_cons]
        by_cases h1 : a.1 < y.1
        · have : ¬ y.1 < a.1 := by omega
          simp [h1, this]; omega
        · by_cases h2 : y.1 < a.1
          · simp [h1, h2]; omega
          · simp [h1, h2]; omega
    have := h2 ts
    simp; omega
/-- items put one behind the other. -/
def putAll (ts xs : List It) : List It := xs.foldl ins1 ts
theorem putAll_asc : ∀ (xs ts : List It), Asc ts → Asc (putAll ts xs)
  | [], _, h => h
  | x :: xs, ts, h => putAll_asc xs (ins1 ts x) (ins1_asc h)
theorem putAll_len : ∀ (xs ts : List It), Asc ts → (putAll ts xs).length ≤ ts.length + xs.length
  | [], _, _ => by simp [putAll]
  | x :: xs, ts, h => by
    have h1 := putAll_len xs (ins1 ts x) (ins1_asc h)
    have h2 := ins1_len ts x h
    show (putAll (ins1 ts x) xs).length ≤ _
    simp only [List.length_cons]
    omega
theorem putAll_step {ts xs : List It} {k : Nat} (hk : k < xs.length) : putAll ts (xs.take (k + 1)) = ins1 (putAll ts (xs.take k)) xs[k] := by
  unfold putAll
  rw [List.take_succ_eq_append_getElem hk, List.foldl_append]
  rfl

theorem ItemsAt.kept {w w' : World} {row : Option Nat} {ao : Option Addr} {ts : List It} (h : ItemsAt w ao ts) (hg : w.grownBy w' row) (hne : ∀ b off, ao = some ⟨b, off, none⟩ → some b ≠ row) : ItemsAt w' ao ts := by
  intro i hi
  obtain ⟨b, off, h1, h2, h3, h4, h5, h6⟩ := h i hi
  have e := hg.block b h2 (hne b off h1)
  have ec : ∀ o, w'.cell? ⟨b, o, none⟩ = w.cell? ⟨b, o, none⟩ := fun o => by simp only [World.cell?, e]
  exact ⟨b, off, h1, Nat.lt_of_lt_of_le h2 hg.size, (ec _).trans h3, (ec _).trans h4, (ec _).trans h5, (ec _).trans h6⟩
/-- a slice lies in another block than a list. -/
def Apart (v : Value) (ao : Option Addr) : Prop := ∀ k b off, v.ownBlock = some k → ao = some ⟨b, off, none⟩ → k ≠ b

set_option maxRecDepth 100000 in
set_option maxHeartbeats 2000000 in
theorem put_any (v : Value) (ts : List It) (lo : Option Addr) (lc : Nat) (xs : List It) (B : Nat) (w : World) (hS : Hid (SlI w B v ts)) (hA : Hid (Asc ts)) (hx : Hid (ItemsAt w lo xs)) (hap : Hid (Apart v lo)) (hB : B ≤ w.heap.size) (hl : ts.length + xs.length ≤ 1048576) :
    Calls Try.prog 55 #[v, .slice lo xs.length lc] w fun e w' => ∃ v', e = .returned v' ∧ SlI w' B v' (putAll ts xs) ∧ Below B w w' := by
  go_enter Try.func55, Try.ntmps55
  go_wp2
  go_loopw [0, 11] (fun u i wr => ∃ (k : Nat), k ≤ xs.length ∧ i = .int .i64 k ∧ Hid (SlI wr B u (putAll ts (xs.take k))) ∧ Hid (ItemsAt wr lo xs) ∧ Hid (Apart u lo) ∧ Hid (Below B w wr)) (fun _ i _ => xs.length - (intOf i).toNat)
  case atStart => exact ⟨0, Nat.zero_le _, rfl, hS, hx, hap, Below.refl _ _⟩
  case round =>
    clear hS hx hap
    obtain ⟨k, hk, rfl, hS, hx, hap, hb⟩ := hrel
    by_cases hlt : k < xs.length
    · obtain ⟨L, hL⟩ : ∃ L : List It, L = putAll ts (xs.take k) := ⟨_, rfl⟩
      have HL : Hid (putAll ts (xs.take (k + 1)) = ins1 L xs[k]) := by rw [hL]; exact putAll_step hlt
      have HA : Hid (Asc L) := by rw [hL]; exact putAll_asc _ _ hA.out
      have hll : L.length ≤ 1048575 := by
        rw [hL]
        have := putAll_len (xs.take k) ts hA.out
        rw [List.length_take] at this
        omega
      rw [← hL] at hS
      clear hL
      obtain ⟨b, off, hlo, hbb, h0, h1, h2, h3⟩ := hx.out k hlt
      subst hlo
      have HP : Hid (∃ x : It, x = xs[k]) := ⟨_, rfl⟩
      obtain ⟨⟨q, f, lv, tx⟩, hp⟩ := HP.out
      rw [← hp] at h0 h1 h2 h3
      have HQ : Hid ((q, f, lv, tx) = xs[k]) := hp
      clear hp HP
      dsimp only at h0 h1 h2 h3
      have zB : B ≤ wr.heap.size := Nat.le_trans hB hb.out.size
      have b0 : Below wr.heap.size wr (wr.alloc (.cells #[.int .i64 q, .int .i64 f, .int .i64 lv, .string tx] 26)) := (Below.refl _ _).alloc (Nat.le_refl _) _
      have S0 : Hid (SlI (wr.alloc (.cells #[.int .i64 q, .int .i64 f, .int .i64 lv, .string tx] 26)) B u0 L) := hS.out.below b0
      have X0 : Hid (ItemsAt (wr.alloc (.cells #[.int .i64 q, .int .i64 f, .int .i64 lv, .string tx] 26)) (some ⟨b, off, none⟩) xs) := hx.out.stays b0
      have I0 : Hid (ItAt (wr.alloc (.cells #[.int .i64 q, .int .i64 f, .int .i64 lv, .string tx] 26)) wr.heap.size q f lv tx) := heap_alloc_new wr _
      have B0 : Hid (Below B w (wr.alloc (.cells #[.int .i64 q, .int .i64 f, .int .i64 lv, .string tx] 26))) := hb.out.trans (b0.mono zB)
      have mn := mNum (wr.alloc (.cells #[.int .i64 q, .int .i64 f, .int .i64 lv, .string tx] 26)) (.agg #[.int .i64 q, .int .i64 f, .int .i64 lv, .string tx])
      clear b0
      go_wp2_with fail
      clear mn
      have z0 : wr.heap.size < (wr.alloc (.cells #[.int .i64 q, .int .i64 f, .int .i64 lv, .string tx] 26)).heap.size := by simp
      generalize wr.alloc (.cells #[.int .i64 q, .int .i64 f, .int .i64 lv, .string tx] 26) = W0 at *
      clear h0 h1 h2 h3
      refine (number_any q f lv tx _).mono ?_
      rintro e w1 ⟨rfl, b1⟩
      have S1 : SlI w1 B u0 L := S0.out.below b1
      have X1 : Hid (ItemsAt w1 (some ⟨b, off, none⟩) xs) := X0.out.stays b1
      have I1 : Hid (ItAt w1 wr.heap.size q f lv tx) := I0.out.stays b1 I0.out.lt
      have B1 : Hid (Below B w w1) := B0.out.trans (b1.mono (by omega))
      have z1 : W0.heap.size ≤ w1.heap.size := b1.size
      clear b1 S0 X0 I0 B0 hS hx hb
      obtain ⟨uo, uc, rfl, Y1⟩ := S1.items
      have S1 : Hid (SlI w1 B (.slice uo L.length uc) L) := S1
      have Y1 : Hid (ItemsAt w1 uo L) := Y1
      go_wp2_with fail
      refine (bsf_any uo uc L q w1 Y1 (by omega) HA).mono ?_
      rintro e w2 ⟨⟨p, hpp, rfl⟩, b2⟩
      have HPP : Hid (Parts L q p) := hpp
      have hpl : p ≤ L.length := hpp.1
      have HHA : Hid (hasP L q = decide (∃ h : p < L.length, L[p].1 = q)) := parts_has HA.out hpp
      have S2 : Hid (SlI w2 B (.slice uo L.length uc) L) := S1.out.below b2
      have X2 : Hid (ItemsAt w2 (some ⟨b, off, none⟩) xs) := X1.out.stays b2
      have I2 : Hid (ItAt w2 wr.heap.size q f lv tx) := I1.out.stays b2 I1.out.lt
      have B2 : Hid (Below B w w2) := B1.out.trans (b2.mono (by omega))
      have z2 : w1.heap.size ≤ w2.heap.size := b2.size
      clear b2 S1 X1 I1 B1 Y1 hpp
      cases hh : decide (∃ h : p < L.length, L[p].1 = q) with
      | true =>
        have HN : Hid (putAll ts (xs.take (k + 1)) = L) := by
          show _ = _
          rw [HL.out, ← HQ.out, ins1_has (by show hasP L q = true; rw [HHA.out, hh])]
        clear hh HHA
        go_wp2_with fail
        go_roundw
        case rel => exact ⟨k + 1, by omega, by go_num, by rw [HN.out]; exact S2, X2, hap, B2⟩
        case measure => simp [intOf]; omega
      | false =>
        have HN : Hid (putAll ts (xs.take (k + 1)) = L.take p ++ (q, f, lv, tx) :: L.drop p) := by
          show _ = _
          rw [HL.out, ← HQ.out, ins1_not (y := (q, f, lv, tx)) HPP.out (by show hasP L q = false; rw [HHA.out, hh])]
        clear hh HHA
        obtain ⟨c0, c1, c2, c3⟩ := I2.out.cells
        have b3 : Below w2.heap.size w2 (w2.alloc (.cells #[.int .i64 q, .int .i64 f, .int .i64 lv, .string tx] 26)) := (Below.refl _ _).alloc (Nat.le_refl _) _
        have S3 : Hid (SlI (w2.alloc (.cells #[.int .i64 q, .int .i64 f, .int .i64 lv, .string tx] 26)) B (.slice uo L.length uc) L) := S2.out.below b3
        have X3 : Hid (ItemsAt (w2.alloc (.cells #[.int .i64 q, .int .i64 f, .int .i64 lv, .string tx] 26)) (some ⟨b, off, none⟩) xs) := X2.out.stays b3
        have I3 : Hid (ItAt (w2.alloc (.cells #[.int .i64 q, .int .i64 f, .int .i64 lv, .string tx] 26)) w2.heap.size q f lv tx) := heap_alloc_new w2 _
        have B3 : Hid (Below B w (w2.alloc (.cells #[.int .i64 q, .int .i64 f, .int .i64 lv, .string tx] 26))) := B2.out.trans (b3.mono (by omega))
        have z3 : w2.heap.size ≤ (w2.alloc (.cells #[.int .i64 q, .int .i64 f, .int .i64 lv, .string tx] 26)).heap.size := b3.size
        have N3 : Hid (∀ k, (Value.slice uo L.length uc).ownBlock = some k → k ≠ w2.heap.size) := fun k hk => by have := (S2.out.lt k hk).2; omega
        clear b3 S2 X2 B2
        go_wp2_with fail
        generalize w2.alloc (.cells #[.int .i64 q, .int .i64 f, .int .i64 lv, .string tx] 26) = W3 at *
        clear c0 c1 c2 c3
        refine (insert_any (.slice uo L.length uc) L p (q, f, lv, tx) B w2.heap.size W3 S3.out I3.out N3.out (by omega) (by omega) hpl).mono ?_
        rintro e w4 ⟨v4, rfl, S4, G4, O4⟩
        have S4 : Hid (SlI w4 B v4 (putAll ts (xs.take (k + 1)))) := by rw [HN.out]; exact S4
        have X4 : Hid (ItemsAt w4 (some ⟨b, off, none⟩) xs) := X3.out.kept G4 (fun b' off' e he => hap.out b' b' off' he.symm e rfl)
        have A4 : Hid (Apart v4 (some ⟨b, off, none⟩)) := fun k' b' off' hk' e => by
          rcases O4 with h | ⟨nb, h, hnb⟩
          · exact hap.out k' b' off' (h ▸ hk') e
          · rw [h] at hk'
            simp at hk' e
            omega
        have B4 : Hid (Below B w w4) := B3.out.grown G4 (by omega) (fun k' hk' => (S3.out.lt k' hk').1)
        clear S3 X3 I3 B3 G4 O4 N3
        go_wp2_with fail
        go_roundw
        case rel => exact ⟨k + 1, by omega, by go_num, S4, X4, A4, B4⟩
        case measure => simp [intOf]; omega
    · obtain rfl : k = xs.length := by omega
      go_wp2_with fail
      go_ret
      exact ⟨_, rfl, by have := hS.out; rwa [List.take_length] at this, hb.out⟩
end Go.Proofs.Ytjijpcfdkmbgpaa
