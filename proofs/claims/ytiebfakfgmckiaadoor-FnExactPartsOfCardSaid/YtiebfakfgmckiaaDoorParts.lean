/- Plain facts on the parts of a line, and laws for a slice of strings that the call itself has made; no program is named here. -/
import Derived.WalkKit
import Derived.WalkSpells
import Derived.WalkLawsBesides
import Derived.Lib.Fields
import Derived.Laws.OwnMore
namespace Go.Proofs.YtiebfakfgmckiaaDoor.Pl
open Go Go.RowKit

/-- the slice v, made by the call in blocks from B on, holds the texts ss. -/
def OwnS (w : World) (B : Nat) (v : Value) (ss : List ByteArray) : Prop := w.ownsRow B 9 1 v ss.length (ss.map Value.string)

theorem OwnS.alloc {w : World} {B : Nat} {v : Value} {ss : List ByteArray} (h : OwnS w B v ss) (o : Obj) : OwnS (w.alloc o) B v ss := World.ownsRow.alloc h o

theorem OwnS.made (w : World) (B : Nat) (hb : B ≤ w.heap.size) : OwnS (w.alloc (.cells #[] 9)) B (.slice (some ⟨w.heap.size, 0, none⟩) 0 0) [] := by
  have := World.ownsRow_made (base := B) (e := 9) (size := 1) w #[] 0 hb (by decide) (by simp)
  simpa [OwnS] using this

theorem OwnS.form {w : World} {B : Nat} {v : Value} {ss : List ByteArray} (h : OwnS w B v ss) : ∃ ao cap, v = .slice ao ss.length cap := by
  rcases h.2 with ⟨rfl, hn⟩ | ⟨g, cap, cur, rfl, _⟩
  · exact ⟨none, 0, by rw [hn]⟩
  · exact ⟨_, cap, rfl⟩

theorem OwnS.some {w : World} {B : Nat} {v : Value} {ss : List ByteArray} (h : OwnS w B v ss) (h0 : 0 < ss.length) :
    ∃ g cap, v = .slice (some ⟨g, 0, none⟩) ss.length cap ∧ B ≤ g ∧ g < w.heap.size ∧ (∀ j, (hj : j < ss.length) → w.cell? ⟨g, j, none⟩ = some (.string ss[j])) ∧ ∀ j, w.frozen? ⟨g, j, none⟩ = false := by
  rcases h.2 with ⟨rfl, hn⟩ | ⟨g, cap, cur, rfl, hb, hg, _⟩
  · omega
  · refine ⟨g, cap, rfl, hb, (Array.getElem?_eq_some_iff.1 hg).1, fun j hj => ?_, fun j => World.ownsRow.frozenAt h j⟩
    have := World.ownsRow.cellAt h j (by omega)
    rw [this]
    simp [hj]

/-- what is owned below B' stays owned where nothing below B' has turned. -/
theorem OwnS.stays {w w' : World} {B B' : Nat} {v : Value} {ss : List ByteArray} (h : OwnS w B v ss) (hb : Below B' w w') (hlt : ∀ k, v.ownBlock = Option.some k → k < B') : OwnS w' B v ss := by
  refine ⟨h.1, ?_⟩
  rcases h.2 with hn | ⟨g, cap, cur, rfl, hbg, hg, rest⟩
  · exact .inl hn
  · refine .inr ⟨g, cap, cur, rfl, hbg, ?_, rest⟩
    rw [hb.block g (hlt g rfl)]
    exact hg

theorem OwnS.lt {w : World} {B : Nat} {v : Value} {ss : List ByteArray} (h : OwnS w B v ss) : ∀ k, v.ownBlock = Option.some k → B ≤ k ∧ k < w.heap.size := World.ownsRow.lt h

theorem OwnS.store {w : World} {B g cap : Nat} {ss : List ByteArray} (h : OwnS w B (.slice (Option.some ⟨g, 0, none⟩) ss.length cap) ss) (k : Nat) (x : ByteArray) :
    OwnS (w.setCell ⟨g, k, none⟩ (.string x)) B (.slice (Option.some ⟨g, 0, none⟩) ss.length cap) (ss.set k x) ∧ w.grownBy (w.setCell ⟨g, k, none⟩ (.string x)) (Option.some g) := by
  have := World.ownsRow.stored h k (.string x)
  refine ⟨?_, this.2⟩
  have h1 := this.1
  rw [← List.map_set] at h1
  simpa [OwnS] using h1

theorem wpList_pushS {P : Program} {w : World} {ops : Array Oper} {rest : List Oper} {o : Oper} {a : Act} {Q : Exit → Act → World → Prop}
    (hgd : o.guard = none) (s x : Operand) (t : TypeId) (ho : o.op = .call { callee := .builtin .append, args := #[s, x], argTypes := #[t, t] })
    (ht : P.underlying t = some (.slice 9)) (hinfo : (P.info? 9).map (fun i => (i.zero, i.size, i.bytes)) = some (some (.string ⟨#[]⟩), 1, 16))
    (B : Nat) (v : Value) (xs : List ByteArray) (hs : a.eval s = v) (hown : OwnS w B v xs) (b : ByteArray)
    (hx : a.eval x = .slice (some ⟨w.heap.size, 0, none⟩) 1 1) (hn : xs.length < 1000000) (hB : B ≤ w.heap.size)
    (h : ∀ v' w', OwnS w' B v' (xs ++ [b]) → Below B w w' → wpList P ops Q rest (a.put o.dst v') w') :
    wpList P ops Q (o :: rest) a (w.alloc (.cells #[.string b] 9)) := by
  obtain ⟨i0, hi, hz0, hz1, hz2⟩ := info_parts hinfo
  refine wpList_append_own _ hgd s x t ho B 9 i0 (.string ⟨#[]⟩) 1 16 ht hi hz0 hz1 hz2 rfl (by decide) v xs.length (xs.map Value.string) hs (World.ownsRow.alloc hown _) ⟨w.heap.size, 0, none⟩ 1 1 [.string b] hx rfl ?_ ?_ ?_ ?_ ?_ ?_
  · intro j u hj
    match j, hj with
    | 0, hj => simp at hj; subst hj; simp [Addr.add]
  · intro u hu; simp at hu; subst hu; rfl
  · unfold maxLen; omega
  · omega
  · simp; omega
  · intro v' w' hown' hg _
    refine h v' w' ?_ ?_
    · simpa [OwnS] using hown'
    · refine ((Below.refl B w).alloc hB _).grown hg (by simp; omega) ?_
      intro k hk
      exact (World.ownsRow.lt hown k hk).1

/-- the bytes from b up to k. -/
def cut (s : ByteArray) (b k : Nat) : List UInt8 := (s.data.toList.drop b).take (k - b)

theorem extract_cut (s : ByteArray) (b k : Nat) : s.extract b k = ⟨(cut s b k).toArray⟩ := by
  apply ByteArray.ext
  apply Array.ext'
  rw [ByteArray.data_extract]
  simp [cut, List.take_drop, Array.toList_extract]

theorem cut_self (s : ByteArray) (k : Nat) : cut s k k = [] := by simp [cut]
theorem cut_snoc (s : ByteArray) (b k : Nat) (hb : b ≤ k) (hk : k < s.size) : cut s b (k + 1) = cut s b k ++ [s[k]'hk] := by
  unfold cut
  have e : k + 1 - b = (k - b) + 1 := by omega
  have hl : s.data.toList.length = s.size := rfl
  rw [e, List.take_succ_eq_append_getElem (by rw [List.length_drop, hl]; omega)]
  congr 2
  rw [List.getElem_drop]
  have e2 : b + (k - b) = k := by omega
  simp only [e2]
  rfl
theorem cut_ne (s : ByteArray) (b k : Nat) (hb : b < k) (hk : k ≤ s.size) : cut s b k ≠ [] := by
  intro h
  have h1 := congrArg List.length h
  have hl : s.data.toList.length = s.size := rfl
  unfold cut at h1
  rw [List.length_take, List.length_drop, hl] at h1
  simp at h1
  omega

theorem drop_at (s : ByteArray) (i : Nat) (h : i < s.size) : s.data.toList.drop i = s[i] :: s.data.toList.drop (i + 1) := by
  rw [List.drop_eq_getElem_cons (by simpa using h)]; rfl

def mkS (l : List (List UInt8)) : List ByteArray := l.map fun x => ⟨x.toArray⟩
/-- the parts of the line, as texts. -/
def fieldsS (s : ByteArray) : List ByteArray := mkS (Lib.fields s.data.toList)

/-- the first k bytes are plain. -/
def Plain (s : ByteArray) (k : Nat) : Prop := ∀ j, (h : j < s.size) → j < k → 32 ≤ (s[j]'h).toNat ∧ (s[j]'h).toNat ≤ 126

theorem plain_zero (s : ByteArray) : Plain s 0 := fun _ _ h => by omega
theorem plain_step {s : ByteArray} {k : Nat} (h : Plain s k) (hk : k < s.size) (hc : 32 ≤ (s[k]'hk).toNat ∧ (s[k]'hk).toNat ≤ 126) : Plain s (k + 1) := by
  intro j hj hlt
  by_cases e : j = k
  · subst e; exact hc
  · exact h j hj (by omega)

theorem isSp_yes {c : UInt8} (h : c.toNat = 32) : Lib.isSp c = true := by
  have : c = 32 := UInt8.toNat_inj.1 (by simpa using h)
  subst this; rfl
theorem isSp_no {c : UInt8} (h1 : 32 ≤ c.toNat) (h2 : c.toNat ≠ 32) : Lib.isSp c = false := by
  unfold Lib.isSp
  have key : ∀ d : UInt8, d.toNat ≠ c.toNat → (c == d) = false := fun d hd => by
    rw [beq_eq_false_iff_ne]
    rintro rfl
    exact hd rfl
  rw [key 9 (by simp; omega), key 10 (by simp; omega), key 11 (by simp; omega), key 12 (by simp; omega), key 13 (by simp; omega), key 32 (by simp; omega)]
  rfl

/-- the state of the specification's loop at place k, a part begun at b. -/
def PSt (s : ByteArray) (k b : Nat) (acc : List ByteArray) : Prop :=
  (k ≤ s.size ∧ b ≤ k ∧ Plain s k ∧ acc ++ mkS (Lib.fieldsGo (cut s b k) (s.data.toList.drop k)) = fieldsS s) ∨ (k = s.size + 1 ∧ Plain s s.size ∧ acc = fieldsS s)

theorem pst_start (s : ByteArray) : PSt s 0 0 [] := .inl ⟨by omega, by omega, plain_zero s, by simp [cut, fieldsS, Lib.fields]⟩
theorem pst_more {s : ByteArray} {k b : Nat} {acc : List ByteArray} (h : PSt s k b acc) (hk : k < s.size) (h1 : 32 < (s[k]'hk).toNat) (h2 : (s[k]'hk).toNat ≤ 126) : PSt s (k + 1) b acc := by
  rcases h with ⟨_, hb, hp, he⟩ | ⟨h, _⟩
  · refine .inl ⟨by omega, by omega, plain_step hp hk ⟨by omega, h2⟩, ?_⟩
    rw [← he, cut_snoc s b k hb hk, drop_at s k hk, Lib.fieldsGo_more _ _ _ (isSp_no (by omega) (by omega))]
  · omega
theorem pst_blank {s : ByteArray} {k b : Nat} {acc : List ByteArray} (h : PSt s k b acc) (hk : k < s.size) (h1 : (s[k]'hk).toNat = 32) (hb : ¬ b < k) : PSt s (k + 1) (k + 1) acc := by
  rcases h with ⟨_, hb', hp, he⟩ | ⟨h, _⟩
  · obtain rfl : b = k := by omega
    refine .inl ⟨by omega, by omega, plain_step hp hk (by omega), ?_⟩
    rw [← he, cut_self, cut_self, drop_at s b hk, Lib.fieldsGo_sp _ _ (isSp_yes h1)]
  · omega
theorem pst_part {s : ByteArray} {k b : Nat} {acc : List ByteArray} (h : PSt s k b acc) (hk : k < s.size) (h1 : (s[k]'hk).toNat = 32) (hb : b < k) : PSt s (k + 1) (k + 1) (acc ++ [s.extract b k]) := by
  rcases h with ⟨hk2, hb', hp, he⟩ | ⟨h, _⟩
  · refine .inl ⟨by omega, by omega, plain_step hp hk (by omega), ?_⟩
    rw [← he, cut_self, drop_at s k hk, Lib.fieldsGo_end _ _ _ (isSp_yes h1) (cut_ne s b k hb hk2), extract_cut]
    simp [mkS]
  · omega
theorem pst_end {s : ByteArray} {b : Nat} {acc : List ByteArray} (h : PSt s s.size b acc) (hb : ¬ b < s.size) : PSt s (s.size + 1) (s.size + 1) acc := by
  rcases h with ⟨_, hb', hp, he⟩ | ⟨h, _⟩
  · obtain rfl : b = s.size := by omega
    refine .inr ⟨rfl, hp, ?_⟩
    rw [← he, cut_self, List.drop_eq_nil_of_le (by have : s.data.toList.length = s.size := rfl; omega)]
    simp [Lib.fieldsGo, mkS]
  · omega
theorem pst_last {s : ByteArray} {b : Nat} {acc : List ByteArray} (h : PSt s s.size b acc) (hb : b < s.size) : PSt s (s.size + 1) (s.size + 1) (acc ++ [s.extract b s.size]) := by
  rcases h with ⟨_, hb', hp, he⟩ | ⟨h, _⟩
  · refine .inr ⟨rfl, hp, ?_⟩
    rw [← he, List.drop_eq_nil_of_le (by have : s.data.toList.length = s.size := rfl; omega), extract_cut]
    have hne := cut_ne s b s.size hb (Nat.le_refl _)
    simp [Lib.fieldsGo, mkS, hne]
  · omega
theorem pst_done {s : ByteArray} {k b : Nat} {acc : List ByteArray} (h : PSt s k b acc) (hk : ¬ k ≤ s.size) : acc = fieldsS s ∧ Plain s s.size := by
  rcases h with ⟨h, _⟩ | ⟨_, h2, h3⟩
  · omega
  · exact ⟨h3, h2⟩
theorem pst_b {s : ByteArray} {k b : Nat} {acc : List ByteArray} (h : PSt s k b acc) (hk : k ≤ s.size) : b ≤ k ∧ Plain s k := by
  rcases h with ⟨_, hb, hp, _⟩ | ⟨h, _⟩
  · exact ⟨hb, hp⟩
  · omega

/-- when PartsOf takes the line. -/
def PartsOk (s : ByteArray) : Prop := s.size ≤ 600 ∧ Plain s s.size ∧ (fieldsS s).length ≤ 10
/-- what PartsOf leaves. -/
def PPost (s : ByteArray) (B : Nat) (w' : World) (e : Ending) : Prop :=
  (PartsOk s ∧ ∃ v, e = .returned (.tuple #[v, .bool true]) ∧ OwnS w' B v (fieldsS s)) ∨ (¬ PartsOk s ∧ ∃ v, e = .returned (.tuple #[v, .bool false]) ∧ OwnS w' B v [])
end Go.Proofs.YtiebfakfgmckiaaDoor.Pl
