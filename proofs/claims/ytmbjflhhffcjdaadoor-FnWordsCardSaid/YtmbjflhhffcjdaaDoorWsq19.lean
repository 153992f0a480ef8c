/- Joined texts: CTb CWpl. -/
import Derived.Test.YtmbjflhhffcjdaaDoorWsq18
import Derived.Test.YtmbjflhhffcjdaaDoorWsq13
import Derived.Test.YtmbjflhhffcjdaaDoorWsq1
/- Names, private names, words and tables of groups in plain words. -/
namespace Go.Proofs.YtmbjflhhffcjdaaDoor
open Go.RowKit Pl
set_option linter.unusedVariables false
set_option linter.unusedSimpArgs false

/-- do they ascend? -/
def tascB : List ByteArray → Bool
  | [] => true
  | a :: l => (match l with | [] => true | b :: _ => tltB a b) && tascB l
theorem tascB_cons {a b : ByteArray} {l : List ByteArray} : tascB (a :: b :: l) = (tltB a b && tascB (b :: l)) := rfl
theorem tascB_no : ∀ {l : List ByteArray} {j : Nat} (h : j + 1 < l.length), ¬ Tlt l[j] l[j + 1] → tascB l = false
  | a :: b :: l, 0, _, hn => by
    have : tltB a b = false := by
      rw [Bool.eq_false_iff]; intro h; exact hn (tltB_iff.1 h)
    rw [tascB_cons, this]; rfl
  | a :: b :: l, j + 1, h, hn => by
    have := tascB_no (l := b :: l) (j := j) (by simpa using h) (by simpa using hn)
    rw [tascB_cons, this, Bool.and_false]
theorem tascB_yes : ∀ {l : List ByteArray}, (∀ j (h : j + 1 < l.length), Tlt l[j] l[j + 1]) → tascB l = true
  | [], _ => rfl
  | [a], _ => rfl
  | a :: b :: l, h => by
    rw [tascB_cons, tltB_iff.2 (show Tlt a b from h 0 (by simp)), tascB_yes (l := b :: l) fun j hj => by have := h (j + 1) (by simpa using hj); simpa using this]
    rfl
/-- names that ascend. -/
def namesB (ts : List ByteArray) : Bool := ts.all nmB && tascB ts
theorem namesB_nm {ts : List ByteArray} {k : Nat} (hk : k < ts.length) (h : nmB ts[k] = false) : namesB ts = false := by
  unfold namesB
  rw [show ts.all nmB = false from List.all_eq_false.2 ⟨_, List.getElem_mem hk, by simp [h]⟩]; rfl
theorem namesB_lt {ts : List ByteArray} {j : Nat} (hj : j + 1 < ts.length) (h : ¬ Tlt ts[j] ts[j + 1]) : namesB ts = false := by
  unfold namesB; rw [tascB_no hj h, Bool.and_false]
theorem namesB_yes {ts : List ByteArray} (h : ∀ j (hj : j < ts.length), nmB ts[j] = true) (h2 : ∀ j (hj : j + 1 < ts.length), Tlt ts[j] ts[j + 1]) : namesB ts = true := by
  unfold namesB
  rw [tascB_yes h2, List.all_eq_true.2 fun x hx => by obtain ⟨j, hj, rfl⟩ := List.getElem_of_mem hx; exact h j hj]; rfl
/-- the daemon and the name of a private name. -/
def privP (s : ByteArray) : Option (Nat × ByteArray) := match s.data.toList with
  | a :: b :: c :: r => if a = 35 ∧ c = 35 ∧ 49 ≤ b.toNat ∧ b.toNat ≤ 57 ∧ nmB ⟨r.toArray⟩ = true then some (b.toNat - 48, ⟨r.toArray⟩) else none
  | _ => none
theorem privP_of {s : ByteArray} {d : Nat} {t : ByteArray} (h : IsPriv s d t) : privP s = some (d, t) := by
  obtain ⟨h1, h2, h3, rfl⟩ := h
  unfold privP
  rw [priv_list]
  have e1 := fig_nat d h2
  have e2 : (⟨t.data.toList.toArray⟩ : ByteArray) = t := list_ext (by simp)
  simp only [e1, e2]
  rw [if_pos ⟨trivial, trivial, by omega, by omega, nmB_yes h3⟩]
  congr 2
  omega
theorem privP_is {s : ByteArray} {d : Nat} {t : ByteArray} (h : privP s = some (d, t)) : IsPriv s d t := by
  unfold privP at h
  split at h
  · rename_i a b c r he
    split at h
    · rename_i hc
      obtain ⟨rfl, rfl, h1, h2, h3⟩ := hc
      simp only [Option.some.injEq, Prod.mk.injEq] at h
      obtain ⟨rfl, rfl⟩ := h
      refine ⟨by omega, by omega, nmB_iff.1 h3, list_ext ?_⟩
      rw [priv_list, he]
      congr 2
      rw [show 48 + (b.toNat - 48) = b.toNat by omega]
      exact (UInt8.ofNat_toNat).symm
    · cases h
  · cases h
theorem privP_none {s : ByteArray} (h : privP s = none) : ∀ d t, ¬ IsPriv s d t := fun d t k => by rw [privP_of k] at h; cases h
/-- is it a private name? -/
def prB (s : ByteArray) : Bool := (privP s).isSome
/-- a word that is right. -/
def wdB (k : Int) (who : ByteArray) (gs : List ByteArray) (t : ByteArray) : Bool :=
  decide (1 ≤ k ∧ k ≤ 4) && (prB who && (namesB gs && (if k = 4 then decide (1 ≤ (gs.length : Int) ∧ (gs.length : Int) ≤ 3) && decide (t.size ≤ 20) else if k = 3 then decide (gs.length = 0) && decide (t.size = 0) else decide (gs.length = 1) && decide (t.size = 0))))
abbrev Tb := List (ByteArray × List ByteArray)
/-- a group that is right but for its name. -/
def mbB (ms : List ByteArray) : Bool := ms.all prB && tascB ms
/-- a group that is right. -/
def grB (g : ByteArray × List ByteArray) : Bool := nmB g.1 && (decide (1 ≤ (g.2.length : Int) ∧ (g.2.length : Int) ≤ 8) && mbB g.2)
/-- a table that is right. -/
def tbB (t : Tb) : Bool := decide (t.length ≤ 6) && (t.all grB && tascB (t.map (·.1)))
/-- the members of a group. -/
def memP (t : Tb) (g : ByteArray) : List ByteArray := match t.find? (fun p => p.1.toList == g.toList) with | some p => p.2 | none => []
/-- a group is given these members (none: it is gone). -/
def setP (t : Tb) (g : ByteArray) (ms : List ByteArray) : Tb := t.filter (fun p => tltB p.1 g) ++ ((if 0 < ms.length then [(g, ms)] else []) ++ t.filter (fun p => tltB g p.1))
/-- without a text. -/
def outP (l : List ByteArray) (x : ByteArray) : List ByteArray := l.filter fun y => !(y.toList == x.toList)
/-- is it there? -/
def hasT (l : List ByteArray) (x : ByteArray) : Bool := l.any fun y => y.toList == x.toList
/-- sorted, each once. -/
def sortP (l : List ByteArray) : List ByteArray := l.foldl insT []
end Go.Proofs.YtmbjflhhffcjdaaDoor


/- Words in plain words: their bytes, what a reader finds. -/
namespace Go.Proofs.YtmbjflhhffcjdaaDoor.Pl
open Go Go.RowKit
set_option linter.unusedVariables false

/-- a text with its length ahead; several of these. -/
def shT (t : ByteArray) : ByteArray := varS t.size ++ t
def shL (t : ByteArray) : List UInt8 := varL t.size ++ t.data.toList
theorem shT_list (t : ByteArray) : (shT t).data.toList = shL t := by rw [shT, app_list, varS_list]; rfl
def tsL (ts : List ByteArray) : List UInt8 := ts.flatMap shL
def tsS (T : ByteArray) (ts : List ByteArray) : ByteArray := ts.foldl (fun s x => s ++ shT x) T
theorem tsS_list : ∀ (ts : List ByteArray) (T : ByteArray), (tsS T ts).data.toList = T.data.toList ++ tsL ts
  | [], T => by simp [tsS, tsL]
  | x :: ts, T => by
    have h := tsS_list ts (T ++ shT x)
    unfold tsS at h ⊢
    rw [List.foldl_cons, h, app_list, shT_list]
    simp [tsL]
theorem tsS_next (ts : List ByteArray) (T : ByteArray) (j : Nat) (h : j < ts.length) : tsS T (ts.take (j + 1)) = tsS T (ts.take j) ++ shT ts[j] := by
  unfold tsS
  rw [List.take_succ_eq_append_getElem h, List.foldl_append]; rfl
theorem shT_size {t : ByteArray} (h : t.size ≤ 20000) : (shT t).size ≤ t.size + 5 := by
  have z1 := varL_len (n := t.size) (by omega)
  rw [shT, ByteArray.size_append, rt_size (varS t.size), varS_list]
  omega
theorem tsS_size : ∀ (ts : List ByteArray) (T : ByteArray), (∀ x ∈ ts, x.size ≤ 12) → (tsS T ts).size ≤ T.size + 17 * ts.length
  | [], T, _ => by simp [tsS]
  | x :: ts, T, h => by
    have h1 := h x (by simp)
    have h2 := shT_size (t := x) (by omega)
    have h3 := tsS_size ts (T ++ shT x) (fun y hy => h y (by simp [hy]))
    unfold tsS at h3 ⊢
    rw [List.foldl_cons]
    rw [ByteArray.size_append] at h3
    simp only [List.length_cons]
    omega

/-- the bytes of a word. -/
def wordL (k : Nat) (who : ByteArray) (gs : List ByteArray) (t : ByteArray) : List UInt8 := UInt8.ofNat k :: (shL who ++ (varL gs.length ++ (tsL gs ++ shL t)))
def wordS (k : Nat) (who : ByteArray) (gs : List ByteArray) (t : ByteArray) : ByteArray := tsS (byteS k ++ shT who ++ varS gs.length) gs ++ shT t
theorem wordS_list (k : Nat) (who : ByteArray) (gs : List ByteArray) (t : ByteArray) : (wordS k who gs t).data.toList = wordL k who gs t := by
  unfold wordS wordL
  simp only [app_list, tsS_list, shT_list, byteS_list, varS_list, List.append_assoc, List.cons_append, List.nil_append]
theorem wordS_impl (k : Nat) (who : ByteArray) (gs : List ByteArray) (t : ByteArray) : byteS k ++ shT who ++ tsS (varS gs.length) gs ++ shT t = wordS k who gs t := by
  apply rt_ext
  rw [wordS_list]
  unfold wordL
  simp only [app_list, tsS_list, shT_list, byteS_list, varS_list, List.append_assoc, List.cons_append, List.nil_append]

/-- right words. -/
def WdOk (k : Nat) (who : ByteArray) (gs : List ByteArray) (t : ByteArray) : Prop := wdB k who gs t = true
theorem prB_size {s : ByteArray} (h : prB s = true) : s.size ≤ 15 := by
  unfold prB at h
  obtain ⟨q, hq⟩ := Option.isSome_iff_exists.1 h
  obtain ⟨d, t⟩ := q
  obtain ⟨h1, h2, h3, rfl⟩ := privP_is hq
  have := h3.2.1
  rw [rt_size, priv_list]
  simp only [List.length_cons]
  rw [← rt_size]
  omega
theorem nmB_size {s : ByteArray} (h : nmB s = true) : s.size ≤ 12 := (nmB_iff.1 h).2.1
theorem namesB_all {ts : List ByteArray} (h : namesB ts = true) : ∀ x ∈ ts, nmB x = true := by
  unfold namesB at h
  rw [Bool.and_eq_true] at h
  exact List.all_eq_true.1 h.1
theorem wdB_parts {k : Int} {who : ByteArray} {gs : List ByteArray} {t : ByteArray} (h : wdB k who gs t = true) : (1 ≤ k ∧ k ≤ 4) ∧ prB who = true ∧ namesB gs = true ∧ gs.length ≤ 3 ∧ t.size ≤ 20 := by
  unfold wdB at h
  rw [Bool.and_eq_true, Bool.and_eq_true, Bool.and_eq_true] at h
  obtain ⟨h1, h2, h3, h4⟩ := h
  refine ⟨of_decide_eq_true h1, h2, h3, ?_⟩
  split at h4
  · rw [Bool.and_eq_true] at h4
    have a := of_decide_eq_true h4.1
    have b := of_decide_eq_true h4.2
    omega
  · split at h4
    · rw [Bool.and_eq_true] at h4
      have a := of_decide_eq_true h4.1
      have b := of_decide_eq_true h4.2
      omega
    · rw [Bool.and_eq_true] at h4
      have a := of_decide_eq_true h4.1
      have b := of_decide_eq_true h4.2
      omega
theorem WdOk.nats {k : Nat} {who : ByteArray} {gs : List ByteArray} {t : ByteArray} (h : WdOk k who gs t) : 1 ≤ k ∧ k ≤ 4 ∧ who.size ≤ 15 ∧ gs.length ≤ 3 ∧ (∀ x ∈ gs, x.size ≤ 12) ∧ t.size ≤ 20 := by
  obtain ⟨h1, h2, h3, h4, h5⟩ := wdB_parts h
  exact ⟨by omega, by omega, prB_size h2, h4, fun x hx => nmB_size (namesB_all h3 x hx), h5⟩
theorem wdB_nat {k : Int} {who : ByteArray} {gs : List ByteArray} {t : ByteArray} (h : wdB k who gs t = true) : ∃ K : Nat, k = K ∧ WdOk K who gs t := by
  obtain ⟨h1, _⟩ := wdB_parts h
  have e1 : k = (k.toNat : Int) := by omega
  refine ⟨k.toNat, e1, ?_⟩
  unfold WdOk
  rw [← e1]
  exact h
theorem wordS_size {k : Nat} {who : ByteArray} {gs : List ByteArray} {t : ByteArray} (h : WdOk k who gs t) : (wordS k who gs t).size ≤ 200 := by
  obtain ⟨h1, h2, h3, h4, h5, h6⟩ := h.nats
  have z := tsS_size gs (byteS k ++ shT who ++ varS gs.length) h5
  have z1 := shT_size (t := who) (by omega)
  have z2 := shT_size (t := t) (by omega)
  have z3 : (varS gs.length).size ≤ 5 := by rw [rt_size, varS_list]; exact varL_len (by omega)
  have z4 : (byteS k).size = 1 := by rw [rt_size, byteS_list]; rfl
  rw [ByteArray.size_append, ByteArray.size_append] at z
  unfold wordS
  rw [ByteArray.size_append]
  omega

/-- texts that a reader finds, so many. -/
def txsP (s : ByteArray) : Nat → Nat → Option (List ByteArray × Nat)
  | A, 0 => some ([], A)
  | A, k + 1 => (shP s A).bind fun x => (txsP s x.2 k).map fun y => (x.1 :: y.1, y.2)
theorem txsP_some {s t : ByteArray} {A k i : Nat} (h : shP s A = some (t, i)) : txsP s A (k + 1) = (txsP s i k).map fun y => (t :: y.1, y.2) := by rw [txsP, h]; rfl
theorem txsP_no {s : ByteArray} {A k : Nat} (h : shP s A = none) : txsP s A (k + 1) = none := by rw [txsP, h]; rfl
theorem Upto.txs {s : ByteArray} : ∀ (k A : Nat) (p : List UInt8) (ts : List ByteArray) (i : Nat), Upto s A p → txsP s A k = some (ts, i) → Upto s i (p ++ tsL ts) ∧ ts.length = k
  | 0, A, p, ts, i, hu, h => by
    simp only [txsP, Option.some.injEq, Prod.mk.injEq] at h
    obtain ⟨rfl, rfl⟩ := h
    exact ⟨by simpa [tsL] using hu, rfl⟩
  | k + 1, A, p, ts, i, hu, h => by
    rcases h0 : shP s A with _ | ⟨t, j⟩
    · rw [txsP_no h0] at h; cases h
    rw [txsP_some h0] at h
    rcases h2 : txsP s j k with _ | ⟨l, e⟩
    · rw [h2] at h; cases h
    rw [h2] at h
    simp only [Option.map_some, Option.some.injEq, Prod.mk.injEq] at h
    obtain ⟨rfl, rfl⟩ := h
    obtain ⟨u1, _⟩ := hu.sh h0
    obtain ⟨u2, b2⟩ := Upto.txs k _ _ _ _ u1 h2
    refine ⟨?_, by simp [b2]⟩
    have e : p ++ tsL (t :: l) = p ++ (varL t.size ++ t.data.toList) ++ tsL l := by simp [tsL, shL]
    rw [e]; exact u2
theorem shP_is {s t : ByteArray} {p q : List UInt8} (h : t.size ≤ 20000) (hs : s.data.toList = p ++ (shL t ++ q)) : shP s p.length = some (t, p.length + (shL t).length) := by
  obtain ⟨h1, h2, h3⟩ := shP_of (s := s) (t := t) (p := p) (q := q) h (by rw [hs]; simp [shL])
  rw [shP_some h1 h h3, h2]
  congr 2
  unfold shL
  rw [List.length_append, ← rt_size]
  omega
theorem txsP_of {s : ByteArray} : ∀ (ts : List ByteArray) (p q : List UInt8), (∀ x ∈ ts, x.size ≤ 20000) → s.data.toList = p ++ (tsL ts ++ q) → txsP s p.length ts.length = some (ts, p.length + (tsL ts).length)
  | [], p, q, _, _ => by simp [txsP, tsL]
  | x :: l, p, q, hn, hs => by
    have h0 := shP_is (s := s) (p := p) (q := tsL l ++ q) (hn x (by simp)) (by rw [hs]; simp [tsL])
    have h1 := txsP_of l (p ++ shL x) q (fun m hm => hn m (by simp [hm])) (by rw [hs]; simp [tsL])
    rw [List.length_append] at h1
    rw [List.length_cons, txsP_some h0, h1]
    simp [tsL, Nat.add_assoc]

/-- what the program's reader finds. -/
def wordP (s : ByteArray) : Option (Nat × ByteArray × List ByteArray × ByteArray × Nat) :=
  (oneP s 0).bind fun a => (shP s a.2).bind fun b => (rv s b.2).bind fun c => (txsP s c.2 c.1).bind fun d => (shP s d.2).bind fun e => some (a.1, b.1, d.1, e.1, e.2)
theorem wordP_some {s who t : ByteArray} {k n i0 i1 i2 i3 A : Nat} {gs : List ByteArray} (h0 : oneP s 0 = some (k, i0)) (h1 : shP s i0 = some (who, i1)) (h2 : rv s i1 = some (n, i2)) (h3 : txsP s i2 n = some (gs, i3)) (h4 : shP s i3 = some (t, A)) :
    wordP s = some (k, who, gs, t, A) := by simp [wordP, h0, h1, h2, h3, h4]
theorem wordP_inv {s who t : ByteArray} {k A : Nat} {gs : List ByteArray} (h : wordP s = some (k, who, gs, t, A)) : Upto s A (wordL k who gs t) := by
  unfold wordP at h
  rcases h0 : oneP s 0 with _ | ⟨k', i0⟩
  · simp [h0] at h
  rcases h1 : shP s i0 with _ | ⟨who', i1⟩
  · simp [h0, h1] at h
  rcases h2 : rv s i1 with _ | ⟨n', i2⟩
  · simp [h0, h1, h2] at h
  rcases h3 : txsP s i2 n' with _ | ⟨gs', i3⟩
  · simp [h0, h1, h2, h3] at h
  rcases h4 : shP s i3 with _ | ⟨t', A'⟩
  · simp [h0, h1, h2, h3, h4] at h
  simp [h0, h1, h2, h3, h4] at h
  obtain ⟨rfl, rfl, rfl, rfl, rfl⟩ := h
  obtain ⟨u0, _⟩ := (upto_start s).one h0
  obtain ⟨u1, _⟩ := u0.sh h1
  obtain ⟨u2, _⟩ := u1.rv h2
  obtain ⟨u3, e3⟩ := Upto.txs _ _ _ _ _ u2 h3
  obtain ⟨u4, _⟩ := u3.sh h4
  have e : ([] ++ [UInt8.ofNat k'] ++ (varL who'.size ++ who'.data.toList) ++ varL n' ++ tsL gs' ++ (varL t'.size ++ t'.data.toList)) = wordL k' who' gs' t' := by simp [wordL, shL, e3]
  rw [← e]
  exact u4
/-- the places of a word's bytes. -/
theorem word_at {s who t : ByteArray} {k : Nat} {gs : List ByteArray} (hs : s.data.toList = wordL k who gs t) (ho : WdOk k who gs t) :
    ∃ i0 i1 i2 i3, oneP s 0 = some (k, i0) ∧ shP s i0 = some (who, i1) ∧ rv s i1 = some (gs.length, i2) ∧ txsP s i2 gs.length = some (gs, i3) ∧ shP s i3 = some (t, s.size) := by
  obtain ⟨n1, n2, n3, n4, n5, n6⟩ := ho.nats
  unfold wordL at hs
  have h0 := oneP_of (s := s) (p := []) (n := k) (by omega) (by rw [hs]; rfl)
  have h1 := shP_is (s := s) (t := who) (p := [UInt8.ofNat k]) (q := varL gs.length ++ (tsL gs ++ shL t)) (by omega) (by rw [hs]; simp)
  have h2 := rv_var (s := s) (p := [UInt8.ofNat k] ++ shL who) (n := gs.length) (q := tsL gs ++ shL t) (by omega) (by rw [hs]; simp)
  have h3 := txsP_of (s := s) gs ([UInt8.ofNat k] ++ shL who ++ varL gs.length) (shL t) (fun x hx => by have := n5 x hx; omega) (by rw [hs]; simp)
  have h4 := shP_is (s := s) (t := t) (p := [UInt8.ofNat k] ++ shL who ++ varL gs.length ++ tsL gs) (q := []) (by omega) (by rw [hs]; simp)
  have hz : s.size = ([UInt8.ofNat k] ++ shL who ++ varL gs.length ++ tsL gs).length + (shL t).length := by
    rw [rt_size, hs]; simp; omega
  rw [← hz] at h4
  simp only [List.length_append, List.length_cons, List.length_nil, Nat.zero_add] at h0 h1 h2 h3 h4
  exact ⟨_, _, _, _, h0, h1, h2, h3, h4⟩
theorem wordP_of {s who t : ByteArray} {k : Nat} {gs : List ByteArray} (hs : s.data.toList = wordL k who gs t) (ho : WdOk k who gs t) : wordP s = some (k, who, gs, t, s.size) := by
  obtain ⟨i0, i1, i2, i3, h0, h1, h2, h3, h4⟩ := word_at hs ho
  exact wordP_some h0 h1 h2 h3 h4

/-- what ReadWord answers. -/
def AnsW (s : ByteArray) (k : Nat) (who : ByteArray) (gs : List ByteArray) (t : ByteArray) (ok : Bool) : Prop :=
  (ok = true ∧ WdOk k who gs t ∧ s.data.toList = wordL k who gs t) ∨ (ok = false ∧ k = 0 ∧ who = ByteArray.empty ∧ gs = [] ∧ t = ByteArray.empty ∧ ∀ (k : Nat) (who : ByteArray) (gs : List ByteArray) (t : ByteArray), WdOk k who gs t → s.data.toList ≠ wordL k who gs t)
theorem ansW_none {s : ByteArray} (h : wordP s = none) : AnsW s 0 ByteArray.empty [] ByteArray.empty false := by
  refine .inr ⟨rfl, rfl, rfl, rfl, rfl, fun k who gs t ho e => ?_⟩
  rw [wordP_of e ho] at h
  cases h
theorem ansW_bad {s who t : ByteArray} {k A : Nat} {gs : List ByteArray} (h : wordP s = some (k, who, gs, t, A)) (hb : A ≠ s.size ∨ ¬ WdOk k who gs t) : AnsW s 0 ByteArray.empty [] ByteArray.empty false := by
  refine .inr ⟨rfl, rfl, rfl, rfl, rfl, fun k who gs t ho e => ?_⟩
  rw [wordP_of e ho] at h
  simp only [Option.some.injEq, Prod.mk.injEq] at h
  obtain ⟨rfl, rfl, rfl, rfl, rfl⟩ := h
  rcases hb with hb | hb
  · exact hb rfl
  · exact hb ho
theorem ansW_good {s who t : ByteArray} {k : Nat} {gs : List ByteArray} (h : wordP s = some (k, who, gs, t, s.size)) (ho : WdOk k who gs t) : AnsW s k who gs t true := .inl ⟨rfl, ho, (wordP_inv h).whole⟩
theorem ansW_hit {s who t : ByteArray} {k : Nat} {gs : List ByteArray} (ho : WdOk k who gs t) (h : wordS k who gs t = s) : AnsW s k who gs t true := .inl ⟨rfl, ho, by rw [← h, wordS_list]⟩
theorem wordL_inj {who t who' t' : ByteArray} {k k' : Nat} {gs gs' : List ByteArray} (h : WdOk k who gs t) (h' : WdOk k' who' gs' t') (e : wordL k who gs t = wordL k' who' gs' t') : k = k' ∧ who = who' ∧ gs = gs' ∧ t = t' := by
  have e1 := wordP_of (wordS_list k who gs t) h
  have e2 := wordP_of (s := wordS k who gs t) (by rw [wordS_list, e]) h'
  rw [e1] at e2
  simp only [Option.some.injEq, Prod.mk.injEq] at e2
  obtain ⟨rfl, rfl, rfl, rfl, _⟩ := e2
  exact ⟨rfl, rfl, rfl, rfl⟩
theorem AnsW.same {s who t who' t' : ByteArray} {k k' : Nat} {gs gs' : List ByteArray} {r r' : Bool} (h : AnsW s k who gs t r) (h' : AnsW s k' who' gs' t' r') : k = k' ∧ who = who' ∧ gs = gs' ∧ t = t' ∧ r = r' := by
  rcases h with ⟨rfl, h1, h2⟩ | ⟨rfl, rfl, rfl, rfl, rfl, h3⟩
  · rcases h' with ⟨rfl, h1', h2'⟩ | ⟨rfl, rfl, rfl, rfl, rfl, h3'⟩
    · obtain ⟨a, b, c, d⟩ := wordL_inj h1 h1' (h2.symm.trans h2')
      exact ⟨a, b, c, d, rfl⟩
    · exact absurd h2 (h3' _ _ _ _ h1)
  · rcases h' with ⟨rfl, h1', h2'⟩ | ⟨rfl, rfl, rfl, rfl, rfl, h3'⟩
    · exact absurd h2' (h3 _ _ _ _ h1')
    · exact ⟨rfl, rfl, rfl, rfl, rfl⟩
theorem AnsW.few {s who t : ByteArray} {k : Nat} {gs : List ByteArray} {r : Bool} (h : AnsW s k who gs t r) : k ≤ 4 ∧ who.size ≤ 15 ∧ gs.length ≤ 3 ∧ (∀ x ∈ gs, x.size ≤ 12) ∧ t.size ≤ 20 := by
  rcases h with ⟨_, h, _⟩ | ⟨_, rfl, rfl, rfl, rfl, _⟩
  · obtain ⟨_, h2, h3, h4, h5, h6⟩ := h.nats
    exact ⟨h2, h3, h4, h5, h6⟩
  · exact ⟨by omega, by decide, by simp, by simp, by decide⟩
end Go.Proofs.YtmbjflhhffcjdaaDoor.Pl


