/- Tokens in plain words: their bytes, what a reader finds. No program is named here. -/
import Derived.Test.YtpegbkpgjjjllaaDoorPk
import Derived.Test.YtpegbkpgjjjllaaDoorTk
import Derived.Test.YtpegbkpgjjjllaaDoorSeal
namespace Go.Proofs.YtpegbkpgjjjllaaDoor.Pl
open Go Go.RowKit
set_option linter.unusedVariables false

theorem varL_pos (n : Nat) : 0 < (varL n).length := by
  by_cases h : 127 < n
  · rw [varL_big h]; simp
  · rw [varL_small h]; simp
theorem rv_lt {s : ByteArray} {A n i : Nat} (hA : A ≤ s.size) (h : rv s A = some (n, i)) : A < i := by
  have hu : Upto s A (s.data.toList.take A) := ⟨s.data.toList.drop A, (List.take_append_drop _ _).symm, by rw [List.length_take, ← rt_size]; omega⟩
  obtain ⟨⟨q, h1, h2⟩, _⟩ := hu.rv h
  have := varL_pos n
  rw [List.length_append, List.length_take, ← rt_size] at h2
  omega

/-- the bytes of several numbers. -/
def wsL (ns : List Nat) : List UInt8 := ns.flatMap varL
/-- k numbers from the place A on. -/
def numsP (s : ByteArray) : Nat → Nat → Option (List Nat × Nat)
  | A, 0 => some ([], A)
  | A, k + 1 => (rv s A).bind fun x => (numsP s x.2 k).map fun y => (x.1 :: y.1, y.2)
theorem numsP_zero (s : ByteArray) (A : Nat) : numsP s A 0 = some ([], A) := rfl
theorem numsP_some {s : ByteArray} {A k n i : Nat} (h : rv s A = some (n, i)) : numsP s A (k + 1) = (numsP s i k).map fun y => (n :: y.1, y.2) := by rw [numsP, h]; rfl
theorem numsP_none {s : ByteArray} {A k : Nat} (h : rv s A = none) : numsP s A (k + 1) = none := by rw [numsP, h]; rfl

theorem Upto.nums {s : ByteArray} : ∀ (k A : Nat) (p : List UInt8) (ns : List Nat) (i : Nat), Upto s A p → numsP s A k = some (ns, i) → Upto s i (p ++ wsL ns) ∧ ns.length = k ∧ ∀ n ∈ ns, n ≤ 1000000000 := by
  intro k
  induction k with
  | zero =>
    intro A p ns i hu h
    simp only [numsP, Option.some.injEq, Prod.mk.injEq] at h
    obtain ⟨rfl, rfl⟩ := h
    exact ⟨by simpa [wsL] using hu, rfl, fun n hn => by cases hn⟩
  | succ k ih =>
    intro A p ns i hu h
    rcases h0 : Pl.rv s A with _ | ⟨n, j⟩
    · rw [numsP_none h0] at h; cases h
    · rw [numsP_some h0] at h
      rcases h1 : numsP s j k with _ | ⟨l, e⟩
      · rw [h1] at h; cases h
      · rw [h1] at h
        simp only [Option.map_some, Option.some.injEq, Prod.mk.injEq] at h
        obtain ⟨rfl, rfl⟩ := h
        obtain ⟨u1, b1⟩ := hu.rv h0
        obtain ⟨u2, b2, b3⟩ := ih _ _ _ _ u1 h1
        refine ⟨?_, by simp [b2], ?_⟩
        · have e : p ++ wsL (n :: l) = p ++ varL n ++ wsL l := by simp [wsL]
          rw [e]; exact u2
        · intro m hm
          rcases List.mem_cons.1 hm with rfl | hm
          · exact b1
          · exact b3 m hm

theorem numsP_of {s : ByteArray} : ∀ (ns : List Nat) (p q : List UInt8), (∀ n ∈ ns, n ≤ 1000000000) → s.data.toList = p ++ (wsL ns ++ q) → numsP s p.length ns.length = some (ns, p.length + (wsL ns).length) := by
  intro ns
  induction ns with
  | nil => intro p q _ _; simp [numsP, wsL]
  | cons n l ih =>
    intro p q hn hs
    have h0 := rv_var (s := s) (p := p) (q := wsL l ++ q) (n := n) (hn n (by simp)) (by rw [hs]; simp [wsL])
    have h1 := ih (p ++ varL n) q (fun m hm => hn m (by simp [hm])) (by rw [hs]; simp [wsL])
    rw [List.length_append] at h1
    rw [List.length_cons, numsP_some h0, h1]
    simp [wsL, Nat.add_assoc]

/-- the bytes of a token, not sealed. -/
def tokL (c r q a b : Nat) (ns : List Nat) : List UInt8 := UInt8.ofNat c :: (varL r ++ (varL q ++ (varL a ++ (UInt8.ofNat b :: (varL ns.length ++ wsL ns)))))
def headS (c r q a b k : Nat) : ByteArray := byteS c ++ varS r ++ varS q ++ varS a ++ byteS b ++ varS k
def tokS (c r q a b : Nat) (ns : List Nat) : ByteArray := ns.foldl (fun s n => s ++ varS n) (headS c r q a b ns.length)
theorem fold_list : ∀ (ns : List Nat) (s : ByteArray), (ns.foldl (fun s n => s ++ varS n) s).data.toList = s.data.toList ++ wsL ns := by
  intro ns
  induction ns with
  | nil => intro s; simp [wsL]
  | cons n l ih => intro s; rw [List.foldl_cons, ih, app_list, varS_list]; simp [wsL]
theorem tokS_list (c r q a b : Nat) (ns : List Nat) : (tokS c r q a b ns).data.toList = tokL c r q a b ns := by
  unfold tokS headS tokL
  rw [fold_list]
  simp only [app_list, byteS_list, varS_list, List.append_assoc, List.cons_append, List.nil_append]

/-- right tokens. -/
def TkOk (c r q a b : Nat) (ns : List Nat) : Prop := tkB c r q a b (ns.map fun n : Nat => (n : Int)) = true

theorem wGo_all : ∀ (ws : List Int) (L q : Int), 0 ≤ L → wGo L q ws = true → ∀ x ∈ ws, 1 ≤ x ∧ x ≤ q := by
  intro ws
  induction ws with
  | nil => intro L q _ _ x hx; cases hx
  | cons y l ih =>
    intro L q hL h x hx
    rw [wGo] at h
    by_cases hb : y ≤ L ∨ q < y
    · rw [if_pos hb] at h; cases h
    · rw [if_neg hb] at h
      rcases List.mem_cons.1 hx with rfl | hx
      · omega
      · exact ih y q (by omega) h x hx

theorem tkB_parts {c r q a b : Int} {ws : List Int} (h : tkB c r q a b ws = true) : (1 ≤ c ∧ c ≤ 9) ∧ (1 ≤ r ∧ r ≤ 1000000000) ∧ (0 ≤ q ∧ q ≤ 60) ∧ (0 ≤ a ∧ a ≤ q) ∧ (0 ≤ b ∧ b ≤ 5) ∧ ws.length ≤ 20 ∧ ∀ x ∈ ws, 1 ≤ x ∧ x ≤ 60 := by
  unfold tkB wB at h
  simp only [Bool.and_eq_true, decide_eq_true_eq] at h
  obtain ⟨h1, h2, h3, h4, h5, h6, h7⟩ := h
  refine ⟨h1, h2, h3, h4, h5, by omega, fun x hx => ?_⟩
  have := wGo_all ws 0 q (by omega) h7 x hx
  omega
/-- a right token's numbers are numbers from 0 up. -/
theorem tkB_nats {c r q a b : Int} {ws : List Int} (h : tkB c r q a b ws = true) : ∃ (C R Q A B : Nat) (ns : List Nat), c = C ∧ r = R ∧ q = Q ∧ a = A ∧ b = B ∧ ws = ns.map (fun n : Nat => (n : Int)) ∧ TkOk C R Q A B ns := by
  obtain ⟨h1, h2, h3, h4, h5, h6, h7⟩ := tkB_parts h
  have hw : ws = (ws.map Int.toNat).map (fun n : Nat => (n : Int)) := by
    rw [List.map_map]
    conv => lhs; rw [← List.map_id ws]
    apply List.map_congr_left
    intro x hx
    have := h7 x hx
    simp; omega
  have e1 : c = (c.toNat : Int) := by omega
  have e2 : r = (r.toNat : Int) := by omega
  have e3 : q = (q.toNat : Int) := by omega
  have e4 : a = (a.toNat : Int) := by omega
  have e5 : b = (b.toNat : Int) := by omega
  refine ⟨c.toNat, r.toNat, q.toNat, a.toNat, b.toNat, ws.map Int.toNat, e1, e2, e3, e4, e5, hw, ?_⟩
  unfold TkOk
  rw [← hw, ← e1, ← e2, ← e3, ← e4, ← e5]
  exact h
theorem TkOk.nats {c r q a b : Nat} {ns : List Nat} (h : TkOk c r q a b ns) : (1 ≤ c ∧ c ≤ 9) ∧ (1 ≤ r ∧ r ≤ 1000000000) ∧ q ≤ 60 ∧ a ≤ q ∧ b ≤ 5 ∧ ns.length ≤ 20 ∧ ∀ x ∈ ns, x ≤ 60 := by
  obtain ⟨h1, h2, h3, h4, h5, h6, h7⟩ := tkB_parts h
  refine ⟨by omega, by omega, by omega, by omega, by omega, by simpa using h6, fun x hx => ?_⟩
  have := h7 x (List.mem_map.2 ⟨x, hx, rfl⟩)
  omega

theorem wsL_len : ∀ (ns : List Nat), (∀ n ∈ ns, n ≤ 1000000000) → (wsL ns).length ≤ 5 * ns.length := by
  intro ns
  induction ns with
  | nil => intro _; simp [wsL]
  | cons n l ih =>
    intro h
    have h1 := varL_len (h n (by simp))
    have h2 := ih (fun m hm => h m (by simp [hm]))
    simp [wsL] at h2 ⊢
    omega
theorem tokS_size {c r q a b : Nat} {ns : List Nat} (h : TkOk c r q a b ns) : (tokS c r q a b ns).size ≤ 150 := by
  obtain ⟨h1, h2, h3, h4, h5, h6, h7⟩ := h.nats
  have z1 := varL_len (n := r) (by omega)
  have z2 := varL_len (n := q) (by omega)
  have z3 := varL_len (n := a) (by omega)
  have z4 := varL_len (n := ns.length) (by omega)
  have z5 := wsL_len ns (fun n hn => by have := h7 n hn; omega)
  rw [rt_size, tokS_list]
  unfold tokL
  simp only [List.length_append, List.length_cons]
  omega

/-- what the program's reader finds. -/
def tokP (s : ByteArray) : Option ((Nat × Nat × Nat × Nat × Nat) × List Nat × Nat) :=
  (oneP s 0).bind fun c => (rv s c.2).bind fun r => (rv s r.2).bind fun q => (rv s q.2).bind fun a => (oneP s a.2).bind fun b => (rv s b.2).bind fun k => (numsP s k.2 k.1).bind fun l => some ((c.1, r.1, q.1, a.1, b.1), l.1, l.2)

theorem tokP_some {s : ByteArray} {c r q a b k i0 i1 i2 i3 i4 i5 A : Nat} {ns : List Nat} (h0 : oneP s 0 = some (c, i0)) (h1 : rv s i0 = some (r, i1)) (h2 : rv s i1 = some (q, i2)) (h3 : rv s i2 = some (a, i3)) (h4 : oneP s i3 = some (b, i4)) (h5 : rv s i4 = some (k, i5)) (h6 : numsP s i5 k = some (ns, A)) :
    tokP s = some ((c, r, q, a, b), ns, A) := by simp [tokP, h0, h1, h2, h3, h4, h5, h6]

theorem tokP_inv {s : ByteArray} {c r q a b A : Nat} {ns : List Nat} (h : tokP s = some ((c, r, q, a, b), ns, A)) : Upto s A (tokL c r q a b ns) := by
  unfold tokP at h
  rcases h0 : oneP s 0 with _ | ⟨c', i0⟩
  · simp [h0] at h
  rcases h1 : rv s i0 with _ | ⟨r', i1⟩
  · simp [h0, h1] at h
  rcases h2 : rv s i1 with _ | ⟨q', i2⟩
  · simp [h0, h1, h2] at h
  rcases h3 : rv s i2 with _ | ⟨a', i3⟩
  · simp [h0, h1, h2, h3] at h
  rcases h4 : oneP s i3 with _ | ⟨b', i4⟩
  · simp [h0, h1, h2, h3, h4] at h
  rcases h5 : rv s i4 with _ | ⟨k', i5⟩
  · simp [h0, h1, h2, h3, h4, h5] at h
  rcases h6 : numsP s i5 k' with _ | ⟨ns', A'⟩
  · simp [h0, h1, h2, h3, h4, h5, h6] at h
  simp [h0, h1, h2, h3, h4, h5, h6] at h
  obtain ⟨⟨rfl, rfl, rfl, rfl, rfl⟩, rfl, rfl⟩ := h
  obtain ⟨u0, _⟩ := (upto_start s).one h0
  obtain ⟨u1, _⟩ := u0.rv h1
  obtain ⟨u2, _⟩ := u1.rv h2
  obtain ⟨u3, _⟩ := u2.rv h3
  obtain ⟨u4, _⟩ := u3.one h4
  obtain ⟨u5, _⟩ := u4.rv h5
  obtain ⟨u6, e6, _⟩ := Upto.nums _ _ _ _ _ u5 h6
  have e : ([] ++ [UInt8.ofNat c'] ++ varL r' ++ varL q' ++ varL a' ++ [UInt8.ofNat b'] ++ varL k' ++ wsL ns') = tokL c' r' q' a' b' ns' := by simp [tokL, e6]
  rw [← e]
  exact u6

/-- the places of a token's bytes. -/
theorem tok_at {s : ByteArray} {c r q a b : Nat} {ns : List Nat} (hs : s.data.toList = tokL c r q a b ns) (ho : TkOk c r q a b ns) :
    ∃ i0 i1 i2 i3 i4 i5, oneP s 0 = some (c, i0) ∧ rv s i0 = some (r, i1) ∧ rv s i1 = some (q, i2) ∧ rv s i2 = some (a, i3) ∧ oneP s i3 = some (b, i4) ∧ rv s i4 = some (ns.length, i5) ∧ numsP s i5 ns.length = some (ns, s.size) := by
  obtain ⟨n1, n2, n3, n4, n5, n6, n7⟩ := ho.nats
  unfold tokL at hs
  have h0 := oneP_of (s := s) (p := []) (n := c) (by omega) (by rw [hs]; rfl)
  have h1 := rv_var (s := s) (p := [UInt8.ofNat c]) (n := r) (by omega) (by rw [hs]; rfl)
  have h2 := rv_var (s := s) (p := [UInt8.ofNat c] ++ varL r) (n := q) (by omega) (by rw [hs]; simp; rfl)
  have h3 := rv_var (s := s) (p := [UInt8.ofNat c] ++ varL r ++ varL q) (n := a) (by omega) (by rw [hs]; simp; rfl)
  have h4 := oneP_of (s := s) (p := [UInt8.ofNat c] ++ varL r ++ varL q ++ varL a) (n := b) (by omega) (by rw [hs]; simp; rfl)
  have h5 := rv_var (s := s) (p := [UInt8.ofNat c] ++ varL r ++ varL q ++ varL a ++ [UInt8.ofNat b]) (n := ns.length) (q := wsL ns) (by omega) (by rw [hs]; simp)
  have h6 := numsP_of (s := s) ns ([UInt8.ofNat c] ++ varL r ++ varL q ++ varL a ++ [UInt8.ofNat b] ++ varL ns.length) [] (fun n hn => by have := n7 n hn; omega) (by rw [hs]; simp)
  have hz : s.size = ([UInt8.ofNat c] ++ varL r ++ varL q ++ varL a ++ [UInt8.ofNat b] ++ varL ns.length).length + (wsL ns).length := by
    rw [rt_size, hs]; simp; omega
  rw [← hz] at h6
  simp only [List.length_append, List.length_cons, List.length_nil, Nat.zero_add] at h0 h1 h2 h3 h4 h5 h6
  exact ⟨_, _, _, _, _, _, h0, h1, h2, h3, h4, h5, h6⟩

theorem tokP_of {s : ByteArray} {c r q a b : Nat} {ns : List Nat} (hs : s.data.toList = tokL c r q a b ns) (ho : TkOk c r q a b ns) : tokP s = some ((c, r, q, a, b), ns, s.size) := by
  obtain ⟨i0, i1, i2, i3, i4, i5, h0, h1, h2, h3, h4, h5, h6⟩ := tok_at hs ho
  exact tokP_some h0 h1 h2 h3 h4 h5 h6

/-- what ReadToken answers at a text, where s is what it unseals. -/
def AnsU (s : ByteArray) (c r q a b : Nat) (ns : List Nat) (ok : Bool) : Prop :=
  (ok = true ∧ TkOk c r q a b ns ∧ s.data.toList = tokL c r q a b ns) ∨ (ok = false ∧ c = 0 ∧ r = 0 ∧ q = 0 ∧ a = 0 ∧ b = 0 ∧ ns = [] ∧ ∀ (c r q a b : Nat) (ns : List Nat), TkOk c r q a b ns → s.data.toList ≠ tokL c r q a b ns)

theorem ansU_none {s : ByteArray} (h : tokP s = none) : AnsU s 0 0 0 0 0 [] false := by
  refine .inr ⟨rfl, rfl, rfl, rfl, rfl, rfl, rfl, fun c r q a b ns ho e => ?_⟩
  rw [tokP_of e ho] at h
  cases h
theorem ansU_bad {s : ByteArray} {c r q a b A : Nat} {ns : List Nat} (h : tokP s = some ((c, r, q, a, b), ns, A)) (hb : A ≠ s.size ∨ ¬ TkOk c r q a b ns) : AnsU s 0 0 0 0 0 [] false := by
  refine .inr ⟨rfl, rfl, rfl, rfl, rfl, rfl, rfl, fun c r q a b ns ho e => ?_⟩
  rw [tokP_of e ho] at h
  simp only [Option.some.injEq, Prod.mk.injEq] at h
  obtain ⟨⟨rfl, rfl, rfl, rfl, rfl⟩, rfl, rfl⟩ := h
  rcases hb with hb | hb
  · exact hb rfl
  · exact hb ho
theorem ansU_good {s : ByteArray} {c r q a b : Nat} {ns : List Nat} (h : tokP s = some ((c, r, q, a, b), ns, s.size)) (ho : TkOk c r q a b ns) : AnsU s c r q a b ns true := .inl ⟨rfl, ho, (tokP_inv h).whole⟩

theorem tokL_inj {c r q a b c' r' q' a' b' : Nat} {ns ns' : List Nat} (h : TkOk c r q a b ns) (h' : TkOk c' r' q' a' b' ns') (e : tokL c r q a b ns = tokL c' r' q' a' b' ns') : c = c' ∧ r = r' ∧ q = q' ∧ a = a' ∧ b = b' ∧ ns = ns' := by
  have e1 := tokP_of (tokS_list c r q a b ns) h
  have e2 := tokP_of (s := tokS c r q a b ns) (by rw [tokS_list, e]) h'
  rw [e1] at e2
  simp only [Option.some.injEq, Prod.mk.injEq] at e2
  obtain ⟨⟨rfl, rfl, rfl, rfl, rfl⟩, rfl, _⟩ := e2
  exact ⟨rfl, rfl, rfl, rfl, rfl, rfl⟩

/-- what ReadToken answers. -/
def AnsT (t : ByteArray) (c r q a b : Nat) (ns : List Nat) (ok : Bool) : Prop :=
  (ok = true ∧ TkOk c r q a b ns ∧ t = sealS (tokS c r q a b ns)) ∨ (ok = false ∧ c = 0 ∧ r = 0 ∧ q = 0 ∧ a = 0 ∧ b = 0 ∧ ns = [] ∧ ∀ (c r q a b : Nat) (ns : List Nat), TkOk c r q a b ns → t ≠ sealS (tokS c r q a b ns))

theorem sealS_inj {s s' : ByteArray} (h : sealS s = sealS s') : s = s' := by
  have h1 := (good_seal s).2
  have h2 := (good_seal s').2
  rw [h] at h1
  exact h1.symm.trans h2
theorem AnsT.same {t : ByteArray} {c r q a b c' r' q' a' b' : Nat} {ns ns' : List Nat} {k k' : Bool} (h : AnsT t c r q a b ns k) (h' : AnsT t c' r' q' a' b' ns' k') : c = c' ∧ r = r' ∧ q = q' ∧ a = a' ∧ b = b' ∧ ns = ns' ∧ k = k' := by
  rcases h with ⟨rfl, h1, h2⟩ | ⟨rfl, rfl, rfl, rfl, rfl, rfl, rfl, h3⟩
  · rcases h' with ⟨rfl, h1', h2'⟩ | ⟨rfl, rfl, rfl, rfl, rfl, rfl, rfl, h3'⟩
    · have e := sealS_inj (h2.symm.trans h2')
      obtain ⟨x1, x2, x3, x4, x5, x6⟩ := tokL_inj h1 h1' (by rw [← tokS_list, ← tokS_list, e])
      exact ⟨x1, x2, x3, x4, x5, x6, rfl⟩
    · exact absurd h2 (h3' _ _ _ _ _ _ h1)
  · rcases h' with ⟨rfl, h1', h2'⟩ | ⟨rfl, rfl, rfl, rfl, rfl, rfl, rfl, h3'⟩
    · exact absurd h2' (h3 _ _ _ _ _ _ h1')
    · exact ⟨rfl, rfl, rfl, rfl, rfl, rfl, rfl⟩
/-- of a text that is sealed. -/
theorem AnsU.seal {s : ByteArray} {c r q a b : Nat} {ns : List Nat} {k : Bool} (h : AnsU s c r q a b ns k) : AnsT (sealS s) c r q a b ns k := by
  rcases h with ⟨rfl, h1, h2⟩ | ⟨rfl, rfl, rfl, rfl, rfl, rfl, rfl, h3⟩
  · exact .inl ⟨rfl, h1, by rw [rt_ext (h2.trans (tokS_list c r q a b ns).symm)]⟩
  · refine .inr ⟨rfl, rfl, rfl, rfl, rfl, rfl, rfl, fun c r q a b ns ho e => ?_⟩
    have := sealS_inj e
    exact h3 _ _ _ _ _ _ ho (by rw [this, tokS_list])
/-- of one that is not. -/
theorem ansT_open {t : ByteArray} (h : ∀ s : ByteArray, s.size ≤ 20000 → t ≠ sealS s) : AnsT t 0 0 0 0 0 [] false :=
  .inr ⟨rfl, rfl, rfl, rfl, rfl, rfl, rfl, fun c r q a b ns ho => h _ (by have := tokS_size ho; omega)⟩

/-- sealed, or not. -/
theorem seal_cases (t : ByteArray) : (∃ s : ByteArray, s.size ≤ 20000 ∧ t = sealS s) ∨ ((t.size < 4 ∨ 20004 < t.size ∨ (∃ n, t.size = n + 4 ∧ n ≤ 20000 ∧ ¬ IsSeal t)) ∧ ∀ s : ByteArray, s.size ≤ 20000 → t ≠ sealS s) := by
  by_cases h : ∃ s : ByteArray, s.size ≤ 20000 ∧ t = sealS s
  · exact .inl h
  · refine .inr ⟨?_, fun s hs e => h ⟨s, hs, e⟩⟩
    by_cases h1 : t.size < 4
    · exact .inl h1
    by_cases h2 : 20004 < t.size
    · exact .inr (.inl h2)
    refine .inr (.inr ⟨t.size - 4, by omega, by omega, fun hg => h ⟨t.extract 0 (t.size - 4), ?_, ?_⟩⟩)
    · rw [ByteArray.size_extract]; omega
    · unfold IsSeal at hg
      apply rt_ext
      rw [sealS, ← hg, app_list, ext_list', ext_list', Nat.sub_zero, List.drop_zero, Nat.sub_sub_self (by omega)]
      conv => lhs; rw [← List.take_append_drop (t.size - 4) t.data.toList]
      congr 1
      rw [List.take_of_length_le (by rw [List.length_drop, ← rt_size]; omega)]
end Go.Proofs.YtpegbkpgjjjllaaDoor.Pl
