/- Joined texts: CTb CWpl. -/
import Derived.Test.YtmbjflhhffcjdaaDoorWtq10
import Derived.Test.YtmbjflhhffcjdaaDoorWtq18
import Derived.Test.YtmbjflhhffcjdaaDoorWtq1
/- Names, private names, words and tables of groups in plain words. -/
namespace Go.Proofs.YtmbjflhhffcjdaaDoor
open Go.RowKit Pl
set_option linter.unusedVariables false
set_option linter.unusedSimpArgs false

/-- do they ascend? -/
def tascB : List ByteArray → Bool
  | [] => true
  | a :: l => (match l with | [] => true | b :: _ => tltB a b) && tascB l
theorem tascB_cons {a b : ByteArray} {l : List ByteArray} : tascB (a :: b :: l) = (tltB a b && tascB (b :: l)) := rfl
theorem tascB_no : ∀ {l : List ByteArray} {j : Nat} (h : j + 1 < l.length), ¬ Tlt l[j] l[j + 1] → tascB l = false
  | a :: b :: l, 0, _, hn => by
    have : tltB a b = false := by
      rw [Bool.eq_false_iff]; intro h; exact hn (tltB_iff.1 h)
    rw [tascB_cons, this]; rfl
  | a :: b :: l, j + 1, h, hn => by
    have := tascB_no (l := b :: l) (j := j) (by simpa using h) (by simpa using hn)
    rw [tascB_cons, this, Bool.and_false]
theorem tascB_yes : ∀ {l : List ByteArray}, (∀ j (h : j + 1 < l.length), Tlt l[j] l[j + 1]) → tascB l = true
  | [], _ => rfl
  | [a], _ => rfl
  | a :: b :: l, h => by
    rw [tascB_cons, tltB_iff.2 (show Tlt a b from h 0 (by simp)), tascB_yes (l := b :: l) fun j hj => by have := h (j + 1) (by simpa using hj); simpa using this]
    rfl
/-- names that ascend. -/
def namesB (ts : List ByteArray) : Bool := ts.all nmB && tascB ts
theorem namesB_nm {ts : List ByteArray} {k : Nat} (hk : k < ts.length) (h : nmB ts[k] = false) : namesB ts = false := by
  unfold namesB
  rw [show ts.all nmB = false from List.all_eq_false.2 ⟨_, List.getElem_mem hk, by simp [h]⟩]; rfl
theorem namesB_lt {ts : List ByteArray} {j : Nat} (hj : j + 1 < ts.length) (h : ¬ Tlt ts[j] ts[j + 1]) : namesB ts = false := by
  unfold namesB; rw [tascB_no hj h, Bool.and_false]
theorem namesB_yes {ts : List ByteArray} (h : ∀ j (hj : j < ts.length), nmB ts[j] = true) (h2 : ∀ j (hj : j + 1 < ts.length), Tlt ts[j] ts[j + 1]) : namesB ts = true := by
  unfold namesB
  rw [tascB_yes h2, List.all_eq_true.2 fun x hx => by obtain ⟨j, hj, rfl⟩ := List.getElem_of_mem hx; exact h j hj]; rfl
/-- the daemon and the name of a private name. -/
def privP (s : ByteArray) : Option (Nat × ByteArray) := match s.data.toList with
  | a :: b :: c :: r => if a = 35 ∧ c = 35 ∧ 49 ≤ b.toNat ∧ b.toNat ≤ 57 ∧ nmB ⟨r.toArray⟩ = true then some (b.toNat - 48, ⟨r.toArray⟩) else none
  | _ => none
theorem privP_of {s : ByteArray} {d : Nat} {t : ByteArray} (h : IsPriv s d t) : privP s = some (d, t) := by
  obtain ⟨h1, h2, h3, rfl⟩ := h
  unfold privP
  rw [priv_list]
  have e1 := fig_nat d h2
  have e2 : (⟨t.data.toList.toArray⟩ : ByteArray) = t := list_ext (by simp)
  simp only [e1, e2]
  rw [if_pos ⟨trivial, trivial, by omega, by omega, nmB_yes h3⟩]
  congr 2
  omega
theorem privP_is {s : ByteArray} {d : Nat} {t : ByteArray} (h : privP s = some (d, t)) : IsPriv s d t := by
  unfold privP at h
  split at h
  · rename_i a b c r he
    split at h
    · rename_i hc
      obtain ⟨rfl, rfl, h1, h2, h3⟩ := hc
      simp only [Option.some.injEq, Prod.mk.injEq] at h
      obtain ⟨rfl, rfl⟩ := h
      refine ⟨by omega, by omega, nmB_iff.1 h3, list_ext ?_⟩
      rw [priv_list, he]
      congr 2
      rw [show 48 + (b.toNat - 48) = b.toNat by omega]
      exact (UInt8.ofNat_toNat).symm
    · cases h
  · cases h
theorem privP_none {s : ByteArray} (h : privP s = none) : ∀ d t, ¬ IsPriv s d t := fun d t k => by rw [privP_of k] at h; cases h
/-- is it a private name? -/
def prB (s : ByteArray) : Bool := (privP s).isSome
/-- a word that is right. -/
def wdB (k : Int) (who : ByteArray) (gs : List ByteArray) (t : ByteArray) : Bool :=
  decide (1 ≤ k ∧ k ≤ 4) && (prB who && (namesB gs && (if k = 4 then decide (1 ≤ (gs.length : Int) ∧ (gs.length : Int) ≤ 3) && decide (t.size ≤ 20) else if k = 3 then decide (gs.length = 0) && decide (t.size = 0) else decide (gs.length = 1) && decide (t.size = 0))))
abbrev Tb := List (ByteArray × List ByteArray)
/-- a group that is right but for its name. -/
def mbB (ms : List ByteArray) : Bool := ms.all prB && tascB ms
/-- a group that is right. -/
def grB (g : ByteArray × List ByteArray) : Bool := nmB g.1 && (decide (1 ≤ (g.2.length : Int) ∧ (g.2.length : Int) ≤ 8) && mbB g.2)
/-- a table that is right. -/
def tbB (t : Tb) : Bool := decide (t.length ≤ 6) && (t.all grB && tascB (t.map (·.1)))
/-- the members of a group. -/
def memP (t : Tb) (g : ByteArray) : List ByteArray := match t.find? (fun p => p.1.toList == g.toList) with | some p => p.2 | none => []
/-- a group is given these members (none: it is gone). -/
def setP (t : Tb) (g : ByteArray) (ms : List ByteArray) : Tb := t.filter (fun p => tltB p.1 g) ++ ((if 0 < ms.length then [(g, ms)] else []) ++ t.filter (fun p => tltB g p.1))
/-- without a text. -/
def outP (l : List ByteArray) (x : ByteArray) : List ByteArray := l.filter fun y => !(y.toList == x.toList)
/-- is it there? -/
def hasT (l : List ByteArray) (x : ByteArray) : Bool := l.any fun y => y.toList == x.toList
/-- sorted, each once. -/
def sortP (l : List ByteArray) : List ByteArray := l.foldl insT []
end Go.Proofs.YtmbjflhhffcjdaaDoor


/- Words in plain words: their bytes, what a reader finds. -/
namespace Go.Proofs.YtmbjflhhffcjdaaDoor.Pl
open Go Go.RowKit
set_option linter.unusedVariables false

/-- a text with its length ahead; several of these. -/
def shT (t : ByteArray) : ByteArray := varS t.size ++ t
def shL (t : ByteArray) : List UInt8 := varL t.size ++ t.data.toList
theorem shT_list (t : ByteArray) : (shT t).data.toList = shL t := by rw [shT, app_list, varS_list]; rfl
def tsL (ts : List ByteArray) : List UInt8 := ts.flatMap shL
def tsS (T : ByteArray) (ts : List ByteArray) : ByteArray := ts.foldl (fun s x => s ++ shT x) T
theorem tsS_list : ∀ (ts : List ByteArray) (T : ByteArray), (tsS T ts).data.toList = T.data.toList ++ tsL ts
  | [], T => by simp [tsS, tsL]
  | x :: ts, T => by
    have h := tsS_list ts (T ++ shT x)
    unfold tsS at h ⊢
    rw [List.foldl_cons, h, app_list, shT_list]
    simp [tsL]
theorem tsS_next (ts : List ByteArray) (T : ByteArray) (j : Nat) (h : j < ts.length) : tsS T (ts.take (j + 1)) = tsS T (ts.take j) ++ shT ts[j] := by
  unfold tsS
  rw [List.take_succ_eq_append_getElem h, List.foldl_append]; rfl
theorem shT_size {t : ByteArray} (h : t.size ≤ 20000) : (shT t).size ≤ t.size + 5 := by
  have z1 := varL_len (n := t.size) (by omega)
  rw [shT, ByteArray.size_append, rt_size (varS t.size), varS_list]
  omega
theorem tsS_size : ∀ (ts : List ByteArray) (T : ByteArray), (∀ x ∈ ts, x.size ≤ 12) → (tsS T ts).size ≤ T.size + 17 * ts.length
  | [], T, _ => by simp [tsS]
  | x :: ts, T, h => by
    have h1 := h x (by simp)
    have h2 := shT_size (t := x) (by omega)
    have h3 := tsS_size ts (T ++ shT x) (fun y hy => h y (by simp [hy]))
    unfold tsS at h3 ⊢
    rw [List.foldl_cons]
    rw [ByteArray.size_append] at h3
    simp only [List.length_cons]
    omega

/-- the bytes of a word. -/
def wordL (k : Nat) (who : ByteArray) (gs : List ByteArray) (t : ByteArray) : List UInt8 := UInt8.ofNat k :: (shL who ++ (varL gs.length ++ (tsL gs ++ shL t)))
def wordS (k : Nat) (who : ByteArray) (gs : List ByteArray) (t : ByteArray) : ByteArray := tsS (byteS k ++ shT who ++ varS gs.length) gs ++ shT t
theorem wordS_list (k : Nat) (who : ByteArray) (gs : List ByteArray) (t : ByteArray) : (wordS k who gs t).data.toList = wordL k who gs t := by
  unfold wordS wordL
  simp only [app_list, tsS_list, shT_list, byteS_list, varS_list, List.append_assoc, List.cons_append, List.nil_append]
theorem wordS_impl (k : Nat) (who : ByteArray) (gs : List ByteArray) (t : ByteArray) : byteS k ++ shT who ++ tsS (varS gs.length) gs ++ shT t = wordS k who gs t := by
  apply rt_ext
  rw [wordS_list]
  unfold wordL
  simp only [app_list, tsS_list, shT_list, byteS_list, varS_list, List.append_assoc, List.cons_append, List.nil_append]

/-- right words. -/
def WdOk (k : Nat) (who : ByteArray) (gs : List ByteArray) (t : ByteArray) : Prop := wdB k who gs t = true
theorem prB_size {s : ByteArray} (h : prB s = true) : s.size ≤ 15 := by
  unfold prB at h
  obtain ⟨q, hq⟩ := Option.isSome_iff_exists.1 h
  obtain ⟨d, t⟩ := q
  obtain ⟨h1, h2, h3, rfl⟩ := privP_is hq
  have := h3.2.1
  rw [rt_size, priv_list]
  simp only [List.length_cons]
  rw [← rt_size]
  omega
theorem nmB_size {s : ByteArray} (h : nmB s = true) : s.size ≤ 12 := (nmB_iff.1 h).2.1
theorem namesB_all {ts : List ByteArray} (h : namesB ts = true) : ∀ x ∈ ts, nmB x = true := by
  unfold namesB at h
  rw [Bool.and_eq_true] at h
  exact List.all_eq_true.1 h.1
theorem wdB_parts {k : Int} {who : ByteArray} {gs : List ByteArray} {t : ByteArray} (h : wdB k who gs t = true) : (1 ≤ k ∧ k ≤ 4) ∧ prB who = true ∧ namesB gs = true ∧ gs.length ≤ 3 ∧ t.size ≤ 20 := by
  unfold wdB at h
  rw [Bool.and_eq_true, Bool.and_eq_true, Bool.and_eq_true] at h
  obtain ⟨h1, h2, h3, h4⟩ := h
  refine ⟨of_decide_eq_true h1, h2, h3, ?_⟩
  split at h4
  · rw [Bool.and_eq_true] at h4
    have a := of_decide_eq_true h4.1
    have b := of_decide_eq_true h4.2
    omega
  · split at h4
    · rw [Bool.and_eq_true] at h4
      have a := of_decide_eq_true h4.1
      have b := of_decide_eq_true h4.2
      omega
    · rw [Bool.and_eq_true] at h4
      have a := of_decide_eq_true h4.1
      have b := of_decide_eq_true h4.2
      omega
theorem WdOk.nats {k : Nat} {who : ByteArray} {gs : List ByteArray} {t : ByteArray} (h : WdOk k who gs t) : 1 ≤ k ∧ k ≤ 4 ∧ who.size ≤ 15 ∧ gs.length ≤ 3 ∧ (∀ x ∈ gs, x.size ≤ 12) ∧ t.size ≤ 20 := by
  obtain ⟨h1, h2, h3, h4, h5⟩ := wdB_parts h
  exact ⟨by omega, by omega, prB_size h2, h4, fun x hx => nmB_size (namesB_all h3 x hx), h5⟩
theorem wdB_nat {k : Int} {who : ByteArray} {gs : List ByteArray} {t : ByteArray} (h : wdB k who gs t = true) : ∃ K : Nat, k = K ∧ WdOk K who gs t := by
  obtain ⟨h1, _⟩ := wdB_parts h
  have e1 : k = (k.toNat : Int) := by omega
  refine ⟨k.toNat, e1, ?_⟩
  unfold WdOk
  rw [← e1]
  exact h
/-- texts that a reader finds, so many. -/
def txsP (s : ByteArray) : Nat → Nat → Option (List ByteArray × Nat)
  | A, 0 => some ([], A)
  | A, k + 1 => (shP s A).bind fun x => (txsP s x.2 k).map fun y => (x.1 :: y.1, y.2)
/-- what the program's reader finds. -/
def wordP (s : ByteArray) : Option (Nat × ByteArray × List ByteArray × ByteArray × Nat) :=
  (oneP s 0).bind fun a => (shP s a.2).bind fun b => (rv s b.2).bind fun c => (txsP s c.2 c.1).bind fun d => (shP s d.2).bind fun e => some (a.1, b.1, d.1, e.1, e.2)
/-- what ReadWord answers. -/
def AnsW (s : ByteArray) (k : Nat) (who : ByteArray) (gs : List ByteArray) (t : ByteArray) (ok : Bool) : Prop :=
  (ok = true ∧ WdOk k who gs t ∧ s.data.toList = wordL k who gs t) ∨ (ok = false ∧ k = 0 ∧ who = ByteArray.empty ∧ gs = [] ∧ t = ByteArray.empty ∧ ∀ (k : Nat) (who : ByteArray) (gs : List ByteArray) (t : ByteArray), WdOk k who gs t → s.data.toList ≠ wordL k who gs t)
end Go.Proofs.YtmbjflhhffcjdaaDoor.Pl


