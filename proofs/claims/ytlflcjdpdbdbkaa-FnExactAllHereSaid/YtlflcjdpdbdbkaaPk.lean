/- Packets in plain words: the bytes of items and of tokens, what a reader finds at a place, right items and right tokens. No program is named here. -/
import Derived.Test.YtlflcjdpdbdbkaaRt
namespace Go.Proofs.Ytlflcjdpdbdbkaa.Pl
open Go Go.RowKit
set_option linter.unusedVariables false

theorem rvGo_inv : ∀ (f : Nat) (l : List UInt8) (fst : Bool) (n sc i m j : Nat), rvGo f l fst n sc i = some (m, j) →
    ∃ (d : Nat) (q : List UInt8), l = varL d ++ q ∧ m = n + d * sc ∧ j = i + (varL d).length ∧ (d ≠ 0 ∨ fst = true) ∧ m ≤ 1000000000 := by
  intro f
  induction f with
  | zero => intro l fst n sc i m j h; simp [rvGo] at h
  | succ f ih =>
    intro l fst n sc i m j h
    cases l with
    | nil => simp [rvGo] at h
    | cons c cs =>
      rw [rvGo] at h
      have hc : c.toNat < 256 := UInt8.toNat_lt c
      by_cases h1 : 127 < c.toNat
      · rw [if_pos h1] at h
        obtain ⟨d, q, rfl, hm, hj, hd, hle⟩ := ih _ _ _ _ _ _ _ h
        have hd0 : d ≠ 0 := by
          rcases hd with hd | hd
          · exact hd
          · cases hd
        have hb : 127 < c.toNat % 128 + 128 * d := by omega
        have e1 : (c.toNat % 128 + 128 * d) % 128 = c.toNat % 128 := by omega
        have e2 : (c.toNat % 128 + 128 * d) / 128 = d := by omega
        refine ⟨c.toNat % 128 + 128 * d, q, ?_, ?_, ?_, .inl (by omega), hle⟩
        · rw [varL_big hb, e1, e2, show c.toNat % 128 + 128 = c.toNat by omega, UInt8.ofNat_toNat]; rfl
        · rw [hm, Nat.add_mul, Nat.mul_comm sc 128, ← Nat.mul_assoc, Nat.mul_comm d 128, Nat.add_assoc]
        · rw [hj, varL_big hb, e2, List.length_cons]; omega
      · rw [if_neg h1] at h
        by_cases h2 : (c.toNat = 0 ∧ fst = false) ∨ 1000000000 < n + c.toNat % 128 * sc
        · rw [if_pos h2] at h
          cases h
        · rw [if_neg h2] at h
          simp only [Option.some.injEq, Prod.mk.injEq] at h
          obtain ⟨rfl, rfl⟩ := h
          refine ⟨c.toNat, cs, ?_, ?_, ?_, ?_, Nat.le_of_not_lt fun h3 => h2 (.inr h3)⟩
          · rw [varL_small h1, UInt8.ofNat_toNat]; rfl
          · rw [Nat.mod_eq_of_lt (by omega)]
          · rw [varL_small h1]; rfl
          · by_cases h3 : c.toNat = 0
            · right
              cases fst with
              | true => rfl
              | false => exact absurd (.inl ⟨h3, rfl⟩) h2
            · exact .inl h3

/-- up to the place A the text is p. -/
def Upto (s : ByteArray) (A : Nat) (p : List UInt8) : Prop := ∃ q, s.data.toList = p ++ q ∧ p.length = A

theorem upto_start (s : ByteArray) : Upto s 0 [] := ⟨_, rfl, rfl⟩
theorem Upto.le {s : ByteArray} {A : Nat} {p : List UInt8} (h : Upto s A p) : A ≤ s.size := by
  obtain ⟨q, h1, h2⟩ := h
  rw [rt_size, h1, List.length_append]; omega
theorem Upto.whole {s : ByteArray} {p : List UInt8} (h : Upto s s.size p) : s.data.toList = p := by
  obtain ⟨q, h1, h2⟩ := h
  have h3 : p.length = p.length + q.length := by
    rw [← List.length_append, ← h1, h2, rt_size]
  have h4 : q = [] := List.eq_nil_of_length_eq_zero (by omega)
  rw [h1, h4, List.append_nil]
theorem Upto.rv {s : ByteArray} {A n i : Nat} {p : List UInt8} (h : Upto s A p) (hr : rv s A = some (n, i)) : Upto s i (p ++ varL n) ∧ n ≤ 1000000000 := by
  obtain ⟨q, h1, h2⟩ := h
  unfold Pl.rv at hr
  rw [h1, ← h2, List.drop_left] at hr
  obtain ⟨d, q', h3, h4, h5, _, h6⟩ := rvGo_inv _ _ _ _ _ _ _ _ hr
  have e : d = n := by omega
  subst e
  exact ⟨⟨q', by rw [h1, h3, List.append_assoc], by rw [h5, List.length_append]⟩, h6⟩

theorem rv_le {s : ByteArray} {A n i : Nat} (hA : A ≤ s.size) (h : rv s A = some (n, i)) : n ≤ 1000000000 ∧ i ≤ s.size := by
  have hu : Upto s A (s.data.toList.take A) := ⟨s.data.toList.drop A, (List.take_append_drop _ _).symm, by rw [List.length_take, ← rt_size]; omega⟩
  obtain ⟨h1, h2⟩ := hu.rv h
  exact ⟨h2, h1.le⟩

/-- one byte at the place A. -/
def oneP (s : ByteArray) (A : Nat) : Option (Nat × Nat) := if h : A < s.size then some ((s[A]'h).toNat, A + 1) else none
theorem oneP_some {s : ByteArray} {A : Nat} (h : A < s.size) : oneP s A = some ((s[A]'h).toNat, A + 1) := dif_pos h
theorem oneP_none {s : ByteArray} {A : Nat} (h : ¬ A < s.size) : oneP s A = none := dif_neg h
theorem Upto.one {s : ByteArray} {A n i : Nat} {p : List UInt8} (h : Upto s A p) (hr : oneP s A = some (n, i)) : Upto s i (p ++ [UInt8.ofNat n]) ∧ n < 256 := by
  by_cases hA : A < s.size
  · rw [oneP_some hA] at hr
    simp only [Option.some.injEq, Prod.mk.injEq] at hr
    obtain ⟨rfl, rfl⟩ := hr
    obtain ⟨q, h1, h2⟩ := h
    subst h2
    have h3 := drop_at s p.length hA
    rw [h1, List.drop_left] at h3
    refine ⟨⟨(p ++ q).drop (p.length + 1), ?_, by rw [List.length_append]; rfl⟩, UInt8.toNat_lt _⟩
    rw [h1, UInt8.ofNat_toNat, List.append_assoc]
    exact congrArg (p ++ ·) h3
  · rw [oneP_none hA] at hr
    cases hr
theorem oneP_of {s : ByteArray} {p q : List UInt8} {n : Nat} (h : n < 256) (hs : s.data.toList = p ++ (UInt8.ofNat n :: q)) : oneP s p.length = some (n, p.length + 1) := by
  have hA : p.length < s.size := by rw [rt_size, hs, List.length_append, List.length_cons]; omega
  have h3 := drop_at s p.length hA
  rw [hs, List.drop_left] at h3
  simp only [List.cons.injEq] at h3
  rw [oneP_some hA, ← h3.1, u8_nat h]

/-- a short text at the place A. -/
def shP (s : ByteArray) (A : Nat) : Option (ByteArray × Nat) := (rv s A).bind fun x => if x.1 ≤ 20000 ∧ x.2 + x.1 ≤ s.size then some (s.extract x.2 (x.2 + x.1), x.2 + x.1) else none
theorem ext_list' (s : ByteArray) (A e : Nat) : (s.extract A e).data.toList = (s.data.toList.drop A).take (e - A) := by
  rw [ByteArray.data_extract, Array.toList_extract, List.extract_eq_take_drop]
theorem shP_some {s : ByteArray} {A n i : Nat} (h : rv s A = some (n, i)) (h1 : n ≤ 20000) (h2 : i + n ≤ s.size) : shP s A = some (s.extract i (i + n), i + n) := by
  unfold shP; rw [h, Option.bind_some, if_pos ⟨h1, h2⟩]
theorem shP_none {s : ByteArray} {A : Nat} (h : rv s A = none) : shP s A = none := by unfold shP; rw [h]; rfl
theorem shP_bad {s : ByteArray} {A n i : Nat} (h : rv s A = some (n, i)) (h1 : 20000 < n ∨ s.size < i + n) : shP s A = none := by
  unfold shP; rw [h, Option.bind_some, if_neg (by show ¬ (n ≤ 20000 ∧ i + n ≤ s.size); omega)]
theorem Upto.sh {s t : ByteArray} {A i : Nat} {p : List UInt8} (h : Upto s A p) (hr : shP s A = some (t, i)) : Upto s i (p ++ (varL t.size ++ t.data.toList)) ∧ t.size ≤ 20000 := by
  rcases h0 : Pl.rv s A with _ | ⟨n, k⟩
  · rw [shP_none h0] at hr; cases hr
  · by_cases hb : n ≤ 20000 ∧ k + n ≤ s.size
    · rw [shP_some h0 hb.1 hb.2] at hr
      simp only [Option.some.injEq, Prod.mk.injEq] at hr
      obtain ⟨rfl, rfl⟩ := hr
      obtain ⟨⟨q, h1, h2⟩, _⟩ := h.rv h0
      have es : (s.extract k (k + n)).size = n := by rw [ByteArray.size_extract]; omega
      rw [es]
      have el : (s.extract k (k + n)).data.toList = q.take n := by
        rw [ext_list', h1, ← h2, List.drop_left]
        congr 1
        omega
      have hq : n ≤ q.length := by
        have : s.size = (p ++ varL n).length + q.length := by rw [rt_size, h1, List.length_append]
        omega
      rw [el]
      refine ⟨⟨q.drop n, ?_, ?_⟩, by omega⟩
      · rw [← List.append_assoc, List.append_assoc (p ++ varL n), List.take_append_drop, h1]
      · rw [← List.append_assoc, List.length_append, h2, List.length_take]; omega
    · rw [shP_bad h0 (by omega)] at hr; cases hr
theorem shP_of {s t : ByteArray} {p q : List UInt8} (h : t.size ≤ 20000) (hs : s.data.toList = p ++ (varL t.size ++ (t.data.toList ++ q))) :
    rv s p.length = some (t.size, p.length + (varL t.size).length) ∧ s.extract (p.length + (varL t.size).length) (p.length + (varL t.size).length + t.size) = t ∧ p.length + (varL t.size).length + t.size ≤ s.size := by
  have h1 := rv_var (n := t.size) (by omega) hs
  refine ⟨h1, ?_, ?_⟩
  · apply rt_ext
    rw [ext_list', hs, ← List.append_assoc, ← List.length_append, List.drop_left]
    rw [show (p ++ varL t.size).length + t.size - (p ++ varL t.size).length = t.data.toList.length by rw [← rt_size]; omega, List.take_left]
  · rw [rt_size s, hs]
    simp only [List.length_append]
    rw [← rt_size t]
    omega

/-- right items. -/
def ItOk (q f l : Int) (t : ByteArray) : Prop := (1 ≤ q ∧ q ≤ 60) ∧ (1 ≤ f ∧ f ≤ 5) ∧ (1 ≤ l ∧ l ≤ 2) ∧ t.size ≤ 60
/-- the bytes of an item. -/
def itemL (q f l : Nat) (t : ByteArray) : List UInt8 := varL q ++ (UInt8.ofNat f :: UInt8.ofNat l :: (varL t.size ++ t.data.toList))
def byteS (n : Nat) : ByteArray := strOfNums [(n : Int)]
theorem byteS_list (n : Nat) : (byteS n).data.toList = [UInt8.ofNat n] := by
  show [UInt8.ofNat ((n : Int)).toNat] = _
  rw [Int.toNat_natCast]
def itemS (q f l : Nat) (t : ByteArray) : ByteArray := varS q ++ byteS f ++ byteS l ++ (varS t.size ++ t)
theorem app_list (a b : ByteArray) : (a ++ b).data.toList = a.data.toList ++ b.data.toList := by
  rw [ByteArray.data_append, Array.toList_append]
theorem itemS_list (q f l : Nat) (t : ByteArray) : (itemS q f l t).data.toList = itemL q f l t := by
  unfold itemS itemL
  simp only [app_list, byteS_list, varS_list, List.append_assoc, List.cons_append, List.nil_append]

/-- what the program's reader finds. -/
def itemP (s : ByteArray) : Option (Nat × Nat × Nat × ByteArray × Nat) :=
  (rv s 0).bind fun x => (oneP s x.2).bind fun y => (oneP s y.2).bind fun z => (shP s z.2).bind fun t => some (x.1, y.1, z.1, t.1, t.2)

theorem itemP_some {s t : ByteArray} {q f l i j k A : Nat} (h0 : rv s 0 = some (q, i)) (h1 : oneP s i = some (f, j)) (h2 : oneP s j = some (l, k)) (h3 : shP s k = some (t, A)) : itemP s = some (q, f, l, t, A) := by
  simp [itemP, h0, h1, h2, h3]

theorem itemP_inv {s t : ByteArray} {q f l A : Nat} (h : itemP s = some (q, f, l, t, A)) : Upto s A (itemL q f l t) ∧ q ≤ 1000000000 ∧ f < 256 ∧ l < 256 ∧ t.size ≤ 20000 := by
  unfold itemP at h
  rcases h0 : rv s 0 with _ | ⟨q', i⟩
  · rw [h0] at h; simp at h
  rcases h1 : oneP s i with _ | ⟨f', j⟩
  · rw [h0] at h; simp [h1] at h
  rcases h2 : oneP s j with _ | ⟨l', k⟩
  · rw [h0] at h; simp [h1, h2] at h
  rcases h3 : shP s k with _ | ⟨t', A'⟩
  · rw [h0] at h; simp [h1, h2, h3] at h
  rw [h0] at h
  simp [h1, h2, h3] at h
  obtain ⟨rfl, rfl, rfl, rfl, rfl⟩ := h
  obtain ⟨u0, b0⟩ := (upto_start s).rv h0
  obtain ⟨u1, b1⟩ := u0.one h1
  obtain ⟨u2, b2⟩ := u1.one h2
  obtain ⟨u3, b3⟩ := u2.sh h3
  refine ⟨?_, b0, b1, b2, b3⟩
  have e : ([] ++ varL q' ++ [UInt8.ofNat f'] ++ [UInt8.ofNat l'] ++ (varL t'.size ++ t'.data.toList)) = itemL q' f' l' t' := by simp [itemL]
  rw [← e]
  exact u3

/-- the places of an item's bytes. -/
theorem item_at {s t : ByteArray} {q f l : Nat} (hs : s.data.toList = itemL q f l t) (hq : q ≤ 1000000000) (hf : f < 256) (hl : l < 256) (ht : t.size ≤ 20000) :
    ∃ i, rv s 0 = some (q, i) ∧ oneP s i = some (f, i + 1) ∧ oneP s (i + 1) = some (l, i + 2) ∧ ∃ k, rv s (i + 2) = some (t.size, k) ∧ s.extract k (k + t.size) = t ∧ k + t.size = s.size := by
  unfold itemL at hs
  refine ⟨(varL q).length, ?_, ?_, ?_, (varL q).length + 2 + (varL t.size).length, ?_⟩
  · have := rv_var (p := []) hq (by rw [hs]; rfl)
    simpa using this
  · exact oneP_of hf hs
  · have := oneP_of (s := s) (p := varL q ++ [UInt8.ofNat f]) hl (by rw [hs]; simp; rfl)
    simpa using this
  · obtain ⟨h1, h2, h3⟩ := shP_of (s := s) (t := t) (p := varL q ++ [UInt8.ofNat f, UInt8.ofNat l]) (q := []) ht (by rw [hs]; simp)
    have e : (varL q ++ [UInt8.ofNat f, UInt8.ofNat l]).length = (varL q).length + 2 := by simp
    rw [e] at h1 h2
    refine ⟨h1, h2, ?_⟩
    rw [rt_size s, hs]
    simp only [List.length_append, List.length_cons]
    rw [← rt_size t]
    omega

theorem itemP_of {s t : ByteArray} {q f l : Nat} (hs : s.data.toList = itemL q f l t) (hq : q ≤ 1000000000) (hf : f < 256) (hl : l < 256) (ht : t.size ≤ 20000) : itemP s = some (q, f, l, t, s.size) := by
  obtain ⟨i, h0, h1, h2, k, h3, h4, h5⟩ := item_at hs hq hf hl ht
  have h6 := shP_some h3 ht (by omega)
  rw [h4, h5] at h6
  exact itemP_some h0 h1 h2 h6

/-- what ReadItem answers. -/
def AnsI (s : ByteArray) (q f l : Nat) (t : ByteArray) (r : Bool) : Prop :=
  (r = true ∧ ItOk q f l t ∧ s.data.toList = itemL q f l t) ∨ (r = false ∧ q = 0 ∧ f = 0 ∧ l = 0 ∧ t = ByteArray.empty ∧ ∀ (q f l : Nat) (t : ByteArray), ItOk q f l t → s.data.toList ≠ itemL q f l t)

theorem ItOk.nats {q f l : Nat} {t : ByteArray} (h : ItOk q f l t) : 1 ≤ q ∧ q ≤ 60 ∧ 1 ≤ f ∧ f ≤ 5 ∧ 1 ≤ l ∧ l ≤ 2 ∧ t.size ≤ 60 := by unfold ItOk at h; omega

theorem itemL_inj {q f l q' f' l' : Nat} {t t' : ByteArray} (h : ItOk q f l t) (h' : ItOk q' f' l' t') (e : itemL q f l t = itemL q' f' l' t') : q = q' ∧ f = f' ∧ l = l' ∧ t = t' := by
  have n := h.nats
  have n' := h'.nats
  have e1 := itemP_of (itemS_list q f l t) (by omega) (by omega) (by omega) (by omega)
  have e2 := itemP_of (s := itemS q f l t) (q := q') (f := f') (l := l') (t := t') (by rw [itemS_list, e]) (by omega) (by omega) (by omega) (by omega)
  rw [e1] at e2
  simpa using e2

theorem AnsI.same {s : ByteArray} {q f l q' f' l' : Nat} {t t' : ByteArray} {r r' : Bool} (h : AnsI s q f l t r) (h' : AnsI s q' f' l' t' r') : q = q' ∧ f = f' ∧ l = l' ∧ t = t' ∧ r = r' := by
  rcases h with ⟨rfl, h1, h2⟩ | ⟨rfl, rfl, rfl, rfl, rfl, h3⟩
  · rcases h' with ⟨rfl, h1', h2'⟩ | ⟨rfl, rfl, rfl, rfl, rfl, h3'⟩
    · obtain ⟨a, b, c, d⟩ := itemL_inj h1 h1' (h2.symm.trans h2')
      exact ⟨a, b, c, d, rfl⟩
    · exact absurd h2 (h3' _ _ _ _ h1)
  · rcases h' with ⟨rfl, h1', h2'⟩ | ⟨rfl, rfl, rfl, rfl, rfl, h3'⟩
    · exact absurd h2' (h3 _ _ _ _ h1')
    · exact ⟨rfl, rfl, rfl, rfl, rfl⟩

theorem ansI_none {s : ByteArray} (h : itemP s = none) : AnsI s 0 0 0 ByteArray.empty false := by
  refine .inr ⟨rfl, rfl, rfl, rfl, rfl, fun q f l t ho e => ?_⟩
  have n := ho.nats
  rw [itemP_of e (by omega) (by omega) (by omega) (by omega)] at h
  cases h
theorem ansI_bad {s t : ByteArray} {q f l A : Nat} (h : itemP s = some (q, f, l, t, A)) (hb : A ≠ s.size ∨ ¬ ItOk q f l t) : AnsI s 0 0 0 ByteArray.empty false := by
  refine .inr ⟨rfl, rfl, rfl, rfl, rfl, fun q f l t ho e => ?_⟩
  have n := ho.nats
  rw [itemP_of e (by omega) (by omega) (by omega) (by omega)] at h
  simp only [Option.some.injEq, Prod.mk.injEq] at h
  obtain ⟨rfl, rfl, rfl, rfl, rfl⟩ := h
  rcases hb with hb | hb
  · exact hb rfl
  · exact hb ho
theorem ansI_good {s t : ByteArray} {q f l : Nat} (h : itemP s = some (q, f, l, t, s.size)) (ho : ItOk q f l t) : AnsI s q f l t true := .inl ⟨rfl, ho, (itemP_inv h).1.whole⟩
end Go.Proofs.Ytlflcjdpdbdbkaa.Pl
