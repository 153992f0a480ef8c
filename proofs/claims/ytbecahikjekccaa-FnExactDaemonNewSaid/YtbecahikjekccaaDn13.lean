/- Joined texts: CWr CWt CPb CWl CSm CCp CWk CKt CCt1 CMn CMb CMo CMp CMq1 CTm CEm CMw CMs1 CLmn. -/
import Derived.Test.YtbecahikjekccaaDn11
import Derived.Test.YtbecahikjekccaaDn8
import Derived.Test.YtbecahikjekccaaDn5
import Derived.Test.YtbecahikjekccaaDn12
import Derived.Test.YtbecahikjekccaaDn7
import Derived.Laws.MakeOwn
import Derived.BigQuiet
import Derived.Deep.QuietTactic
/- Contracts over lists that are read; what is appended is read. -/
namespace Go.Proofs.Ytbecahikjekccaa
open Go.RowKit Pl
set_option linter.unusedVariables false

theorem same_below {w w' : World} (h : w' = w) : Below w.heap.size w w' := by subst h; exact Below.refl _ _
section
variable {w : World} {v : Value}
theorem within_b (n a b : Int) (w : World) : Calls Try.prog 18 #[.int .i64 n, .int .i64 a, .int .i64 b] w fun e w' => e = .returned (.bool (decide (a ≤ n ∧ n ≤ b))) ∧ Below w.heap.size w w' := (within_any n a b w).mono fun e w' ⟨x, y⟩ => ⟨x, same_below y⟩
theorem in_b (n a b : Int) (w : World) : Calls Try.prog 17 #[.int .i64 n, .int .i64 a, .int .i64 b] w fun e w' => e = .returned (.bool (decide (a ≤ n ∧ n ≤ b))) ∧ Below w.heap.size w w' := (in_any n a b w).mono fun e w' ⟨x, y⟩ => ⟨x, same_below y⟩
end

end Go.Proofs.Ytbecahikjekccaa


/- What is appended is read: texts and items. -/
namespace Go.Proofs.Ytbecahikjekccaa
open Go.RowKit Pl
set_option linter.unusedVariables false

end Go.Proofs.Ytbecahikjekccaa


/- One element put behind a slice of the call's own, and which block it lies in then. No function of the program is named here. -/
namespace Go.Proofs.Ytbecahikjekccaa
open Go.RowKit Pl
set_option linter.unusedVariables false

section
variable {P : Program} {w : World}
end

section
variable {P : Program} {w : World} {ops : Array Oper} {rest : List Oper} {o : Oper} {a : Act} {Q : Exit → Act → World → Prop} {K : Act → World → Prop}
end
end Go.Proofs.Ytbecahikjekccaa


/- Lists of structs of any size, their cells row by row: read, put behind, joined, set. No function of the program is named here. -/
namespace Go.Proofs.Ytbecahikjekccaa
open Go.RowKit Pl
set_option linter.unusedVariables false

/-- the slice v holds these rows, each of so many cells. -/
def SlN (w : World) (T size B : Nat) (v : Value) (rs : List (List Value)) : Prop := Sl w T size B v rs.length rs.flatten ∧ ∀ r ∈ rs, r.length = size ∧ ∀ u ∈ r, u.oneCell' = true

theorem flat_len {s : Nat} : ∀ {rs : List (List Value)}, (∀ r ∈ rs, r.length = s) → rs.flatten.length = rs.length * s := by
  intro rs
  induction rs with
  | nil => intro _; simp
  | cons r rs ih =>
    intro h
    rw [List.flatten_cons, List.length_append, List.length_cons, ih fun r hr => h r (List.mem_cons_of_mem _ hr), h r (List.mem_cons_self ..), Nat.add_mul]
    omega
theorem flat_drop {s : Nat} : ∀ {rs : List (List Value)} (k : Nat), (∀ r ∈ rs, r.length = s) → rs.flatten.drop (k * s) = (rs.drop k).flatten := by
  intro rs
  induction rs with
  | nil => intro k _; simp
  | cons r rs ih =>
    intro k h
    cases k with
    | zero => simp
    | succ k =>
      have hr := h r (List.mem_cons_self ..)
      rw [List.flatten_cons, List.drop_succ_cons, ← ih k fun r hr => h r (List.mem_cons_of_mem _ hr), Nat.add_mul, List.drop_append, List.drop_eq_nil_of_le (by omega), List.nil_append]
      congr 1; omega
theorem flat_take {s : Nat} : ∀ {rs : List (List Value)} (k : Nat), (∀ r ∈ rs, r.length = s) → rs.flatten.take (k * s) = (rs.take k).flatten := by
  intro rs
  induction rs with
  | nil => intro k _; simp
  | cons r rs ih =>
    intro k h
    cases k with
    | zero => simp
    | succ k =>
      have hr := h r (List.mem_cons_self ..)
      rw [List.flatten_cons, List.take_succ_cons, List.flatten_cons, ← ih k fun r hr => h r (List.mem_cons_of_mem _ hr), Nat.add_mul, List.take_append, List.take_of_length_le (by omega)]
      congr 2; omega
theorem flat_row {s : Nat} {rs : List (List Value)} (h : ∀ r ∈ rs, r.length = s) {i : Nat} (hi : i < rs.length) : (rs.flatten.drop (i * s)).take s = rs[i] := by
  rw [flat_drop i h, List.drop_eq_getElem_cons hi, List.flatten_cons, List.take_append, List.take_of_length_le (by rw [h _ (List.getElem_mem hi)]; exact Nat.le_refl _), h _ (List.getElem_mem hi)]
  simp
theorem flat_set {s : Nat} {rs : List (List Value)} (h : ∀ r ∈ rs, r.length = s) {i : Nat} (hi : i < rs.length) (r : List Value) (hr : r.length = s) : rs.flatten.take (i * s) ++ r ++ rs.flatten.drop (i * s + r.length) = (rs.set i r).flatten := by
  rw [hr, show i * s + s = (i + 1) * s by rw [Nat.add_mul]; omega, flat_take i h, flat_drop (i + 1) h, List.set_eq_take_append_cons_drop, if_pos hi, List.flatten_append, List.flatten_cons]
  simp

section
variable {w w' : World} {T size B : Nat} {v : Value} {rs : List (List Value)}
theorem SlN.lens (h : SlN w T size B v rs) : ∀ r ∈ rs, r.length = size := fun r hr => (h.2 r hr).1
theorem SlN.form (h : SlN w T size B v rs) : ∃ s : Sv, v = .slice s.a s.n s.c ∧ s.n = rs.length := by
  obtain ⟨a, c, e⟩ := h.1.form
  exact ⟨⟨a, rs.length, c⟩, e, rfl⟩
theorem SlN.lt (h : SlN w T size B v rs) : ∀ k, v.ownBlock = some k → B ≤ k ∧ k < w.heap.size := h.1.lt
theorem SlN.keep (h : SlN w T size B v rs) (hk : ∀ k, v.ownBlock = some k → k < w.heap.size → w'.heap[k]? = w.heap[k]?) : SlN w' T size B v rs := ⟨h.1.keep hk, h.2⟩
theorem SlN.below (h : SlN w T size B v rs) (hb : Below w.heap.size w w') : SlN w' T size B v rs := ⟨h.1.below hb, h.2⟩
theorem SlN.down {B' : Nat} (h : SlN w T size B v rs) (hB : B' ≤ B) : SlN w T size B' v rs := ⟨h.1.down hB, h.2⟩
theorem SlN.kept {row : Option Nat} (h : SlN w T size B v rs) (hg : w.grownBy w' row) (hne : ∀ k, v.ownBlock = some k → some k ≠ row) : SlN w' T size B v rs := ⟨h.1.kept hg hne, h.2⟩
theorem SlN.nil (w : World) (T size B : Nat) : SlN w T size B (.slice none 0 0) [] := ⟨Sl.zero w T size B, fun r hr => by cases hr⟩
theorem SlN.one (w : World) (T size B : Nat) (r : List Value) (hr : r.length = size) (h1 : r.all (·.oneCell') = true) (hb : B ≤ w.heap.size) : SlN (w.alloc (.cells r.toArray T)) T size B (.slice (some ⟨w.heap.size, 0, none⟩) 1 1) [r] :=
  ⟨⟨by simp [hr], .inr ⟨w.heap.size, 0, 1, r.toArray, rfl, hb, heap_alloc_new w _, Nat.le_refl _, by unfold maxLen; omega, by simp [hr], fun j hj => by simp⟩⟩, fun x hx => by simp at hx; subst hx; exact ⟨hr, List.all_eq_true.1 h1⟩⟩
/-- the block that it lies in has elements of this type. -/
theorem SlN.blk (h : SlN w T size B v rs) {k : Nat} (hk : v.ownBlock = some k) : ∃ cs, w.heap[k]? = some (.cells cs T (0, 0)) := by
  rcases h.1.2 with ⟨rfl, _⟩ | ⟨g, off, cap, cur, rfl, _, hg, _⟩
  · cases hk
  · cases hk; exact ⟨_, hg⟩
/-- a row, as it lies there. -/
theorem SlN.read (h : SlN w T size B v rs) {i : Nat} (hi : i < rs.length) :
    ∃ g off cap, v = .slice (some ⟨g, off, none⟩) rs.length cap ∧ B ≤ g ∧ g < w.heap.size ∧ w.rangeAt g (off + i * size) rs[i] := by
  obtain ⟨g, off, cap, hv, hb, hlt, hc, _⟩ := h.1.read (by omega)
  refine ⟨g, off, cap, hv, hb, hlt, fun j u hu => ?_⟩
  have hj : j < size := by rw [← h.lens _ (List.getElem_mem hi)]; exact (List.getElem?_eq_some_iff.1 hu).1
  have h2 := flat_row h.lens hi
  rw [← h2, List.getElem?_take, if_pos hj, List.getElem?_drop] at hu
  have := hc _ u hu
  rw [← Nat.add_assoc] at this
  exact this
end

section
variable {P : Program} {w : World} {ops : Array Oper} {rest : List Oper} {o : Oper} {a : Act} {Q : Exit → Act → World → Prop} {K : Act → World → Prop}
/-- a row is set. -/
theorem SlN.stored {T size B : Nat} {g off cap i : Nat} {rs : List (List Value)} (h : SlN w T size B (.slice (some ⟨g, off, none⟩) rs.length cap) rs) (hi : i < rs.length) (r : List Value) (hr : r.length = size) (h1 : ∀ u ∈ r, u.oneCell' = true) :
    w.there g (off + i * size) r.length ∧ SlN (w.setCells g (off + i * size) r) T size B (.slice (some ⟨g, off, none⟩) rs.length cap) (rs.set i r) ∧ TurnAt g w (w.setCells g (off + i * size) r) := by
  rcases h.1.2 with ⟨hv, _⟩ | ⟨g', off', cap', cur, hv, hb, hg, hc, hm, hs, ht⟩
  · simp at hv
  simp at hv
  obtain ⟨⟨rfl, rfl⟩, rfl⟩ := hv
  have hle : i * size + size ≤ rs.length * size := by
    have : (i + 1) * size ≤ rs.length * size := Nat.mul_le_mul_right _ hi
    rw [Nat.add_mul] at this; omega
  have hcs : rs.length * size ≤ cap * size := Nat.mul_le_mul_right _ hc
  have hin : off + i * size + r.length ≤ cur.size := by omega
  refine ⟨fun j hj => ⟨?_, frozen_of_row w g _ _ T hg⟩, ⟨?_, fun x hx => ?_⟩, setCells_turn r w g _⟩
  · rw [cell_of_row w g _ _ T (0, 0) hg, Array.getElem?_eq_getElem (by omega)]; rfl
  · obtain ⟨cur', q1, q2, q3, q4⟩ := setCells_heap r w g (off + i * size) cur T hg hin
    have hbx : Bx w g T cur.toList := by unfold Bx; simpa using hg
    have hbx2 := setCells_list r w g (off + i * size) T cur.toList hbx (by simpa using hin)
    have he : cur' = (cur.toList.take (off + i * size) ++ r ++ cur.toList.drop (off + i * size + r.length)).toArray := by
      unfold Bx at hbx2
      rw [q1] at hbx2
      simpa using hbx2
    have hfl : (rs.set i r).flatten = rs.flatten.take (i * size) ++ r ++ rs.flatten.drop (i * size + r.length) := (flat_set h.lens hi r hr).symm
    refine ⟨by rw [flat_len (s := size)]; intro x hx; rcases List.mem_or_eq_of_mem_set hx with hx | rfl; exact h.lens x hx; exact hr, .inr ⟨g, off, cap, cur', by simp, hb, q1, by simpa using hc, hm, by omega, fun j hj => ?_⟩⟩
    rw [List.length_set] at hj
    have hfr : rs.flatten.length = rs.length * size := flat_len h.lens
    by_cases hj1 : j < i * size
    · rw [q3 _ (by omega), ht j hj, hfl, List.append_assoc, List.getElem?_append_left (by rw [List.length_take]; omega), List.getElem?_take, if_pos hj1]
    · by_cases hj2 : j < i * size + r.length
      · have h5 := q4 (j - i * size) (by omega)
        rw [show off + i * size + (j - i * size) = off + j by omega] at h5
        rw [h5, hfl, List.append_assoc, List.getElem?_append_right (by rw [List.length_take]; omega), List.getElem?_append_left (by rw [List.length_take]; omega), List.length_take]
        congr 1; omega
      · have h6 : cur'[off + j]? = cur[off + j]? := by
          rw [he]
          simp only [List.getElem?_toArray]
          rw [List.getElem?_append_right (by simp [List.length_take]; omega), List.getElem?_drop, ← Array.getElem?_toList]
          congr 1
          simp [List.length_take]; omega
        rw [h6, ht j hj, hfl, List.append_assoc, List.getElem?_append_right (by rw [List.length_take]; omega), List.getElem?_append_right (by rw [List.length_take]; omega), List.getElem?_drop, List.length_take]
        congr 1; omega
  · rcases List.mem_or_eq_of_mem_set hx with hx | rfl
    · exact h.2 x hx
    · exact ⟨hr, h1⟩
end
end Go.Proofs.Ytbecahikjekccaa


/- Members measured. -/
namespace Go.Proofs.Ytbecahikjekccaa
open Go.RowKit Pl
set_option linter.unusedVariables false
set_option linter.unusedSimpArgs false

/-- what is left of a budget, or nothing. -/
def Left (L n : Nat) (e : Ending) : Prop := e = .returned (.int .i64 (-1)) ∨ ∃ z : Nat, e = .returned (.int .i64 z) ∧ z + n = L

theorem RI.len {w : World} {s : Sv} {xs : List Int} (h : RI w s.v xs) : s.n = xs.length := by
  obtain ⟨ao, cap, h1, _⟩ := h; unfold Sv.v at h1; simp at h1; exact h1.2.1
theorem RT.len {w : World} {s : Sv} {xs : List ByteArray} (h : RT w s.v xs) : s.n = xs.length := by
  obtain ⟨ao, cap, h1, _⟩ := h; unfold Sv.v at h1; simp at h1; exact h1.2.1
theorem RIt.len {w : World} {s : Sv} {xs : List It} (h : RIt w s.v xs) : s.n = xs.length := by
  obtain ⟨ao, cap, h1, _⟩ := h; unfold Sv.v at h1; simp at h1; exact h1.2.1
/-- a member's lists are no longer than can be. -/
structure MtL (m : Mt) : Prop where
  ms : m.ms.length ≤ 9223372036854775807
  its : m.its.length ≤ 9223372036854775807
  lv : m.lv.length ≤ 9223372036854775807
  tx : m.tx.length ≤ 9223372036854775807
  ws : m.la.ws.length ≤ 9223372036854775807
  it : ∀ x ∈ m.its, x.2.2.2.size ≤ 9223372036854775807
  te : ∀ x ∈ m.tx, x.size ≤ 9223372036854775807
/-- what is left when a member has been measured. -/
def LeftM (m : Mt) (e : Ending) : Prop := e = .returned (.int .i64 (-1)) ∨ ∃ z : Nat, e = .returned (.int .i64 z) ∧ MtS m ∧ z ≤ 1048576

end Go.Proofs.Ytbecahikjekccaa


/- Members copied: the walk over the specification's l10Copy. Written by gen_cp.py. -/
namespace Go.Proofs.Ytbecahikjekccaa
open Go.RowKit Pl
set_option linter.unusedVariables false
set_option linter.unusedSimpArgs false

/-- a member's lists lie there, whoever made them. -/
structure MtP (w : World) (m : Mt) (v : Mv) : Prop where
  ms : OwnI w 0 v.ms.v m.ms
  its : SlI w 0 v.its.v m.its
  lv : OwnI w 0 v.lv.v m.lv
  tx : OwnS w 0 v.tx.v m.tx
  ws : OwnI w 0 v.ws.v m.la.ws
theorem MtP.r {w : World} {m : Mt} {v : Mv} (h : MtP w m v) : MtR w m v := ⟨h.ms.ri, h.its.rit, h.lv.ri, h.tx.rt, h.ws.ri⟩
theorem MtP.keep {w w' : World} {m : Mt} {v : Mv} (h : MtP w m v) (hk : ∀ k, v.own k → k < w.heap.size → w'.heap[k]? = w.heap[k]?) : MtP w' m v :=
  ⟨h.ms.keep fun k a b => hk k (.inl a) b, h.its.keep fun k a b => hk k (.inr (.inl a)) b, h.lv.keep fun k a b => hk k (.inr (.inr (.inl a))) b, h.tx.keep' fun k a b => hk k (.inr (.inr (.inr (.inl a)))) b, h.ws.keep fun k a b => hk k (.inr (.inr (.inr (.inr a)))) b⟩
theorem MtP.later {w w' : World} {m : Mt} {v : Mv} (h : MtP w m v) (hb : Below w.heap.size w w') : MtP w' m v := h.keep fun k _ hk => hb.block k hk
end Go.Proofs.Ytbecahikjekccaa


/- A ring at work, in plain words, and where it lies. -/
namespace Go.Proofs.Ytbecahikjekccaa
open Go.RowKit Pl
set_option linter.unusedVariables false

/-- what is on the way. -/
structure Fl where
  to : Int
  tk : Bool
  t : Tok
  x : It
/-- cells of a member, of what is on the way, of a list of lists. -/
def mcel (e : Mt × Mv) : List Value := [.int .i64 e.1.id, .int .i64 e.1.rid, .slice e.2.ms.a e.2.ms.n e.2.ms.c, .slice e.2.its.a e.2.its.n e.2.its.c, .slice e.2.lv.a e.2.lv.n e.2.lv.c, .slice e.2.tx.a e.2.tx.n e.2.tx.c, .int .i64 e.1.rd, .int .i64 e.1.se, .int .i64 e.1.li, .int .i64 e.1.he, .int .i64 e.1.la.c, .int .i64 e.1.la.r, .int .i64 e.1.la.q, .int .i64 e.1.la.a, .int .i64 e.1.la.b, .slice e.2.ws.a e.2.ws.n e.2.ws.c]
def fcel (e : Fl × Sv) : List Value := [.int .i64 e.1.to, .bool e.1.tk, .int .i64 e.1.t.c, .int .i64 e.1.t.r, .int .i64 e.1.t.q, .int .i64 e.1.t.a, .int .i64 e.1.t.b, .slice e.2.a e.2.n e.2.c, .int .i64 e.1.x.1, .int .i64 e.1.x.2.1, .int .i64 e.1.x.2.2.1, .string e.1.x.2.2.2]
def hcel (e : List It × Sv) : List Value := [.slice e.2.a e.2.n e.2.c]
/-- lists of members, of what is on the way, of lists of items, that lie there. -/
def MsP (w : World) (B : Nat) (v : Value) (es : List (Mt × Mv)) : Prop := SlN w 30 16 B v (es.map mcel) ∧ ∀ e ∈ es, MtP w e.1 e.2
def HsP (w : World) (B : Nat) (v : Value) (es : List (List It × Sv)) : Prop := SlN w 25 1 B v (es.map hcel) ∧ ∀ e ∈ es, SlI w 0 e.2.v e.1
/-- a ring at work: its ring, its members, what is on the way, what was heard and said, and the slices. -/
structure Wv where
  rid : Int
  ms : List Int
  mv : Sv
  ma : List (Mt × Mv)
  mav : Sv
  fl : List (Fl × Sv)
  flv : Sv
  he : List (List It × Sv)
  hev : Sv
  sa : List It
  sav : Sv
def Wv.cells (k : Wv) : List Value := [.int .i64 k.rid, .slice k.mv.a k.mv.n k.mv.c, .slice k.mav.a k.mav.n k.mav.c, .slice k.flv.a k.flv.n k.flv.c, .slice k.hev.a k.hev.n k.hev.c, .slice k.sav.a k.sav.n k.sav.c]
section
variable {w w' : World} {B : Nat} {v : Value}
theorem MsP.below {es : List (Mt × Mv)} (h : MsP w B v es) (hb : Below w.heap.size w w') : MsP w' B v es := ⟨h.1.below hb, fun e he => (h.2 e he).later hb⟩
theorem HsP.below {es : List (List It × Sv)} (h : HsP w B v es) (hb : Below w.heap.size w w') : HsP w' B v es := ⟨h.1.below hb, fun e he => (h.2 e he).below hb⟩
theorem MsP.down {B' : Nat} {es : List (Mt × Mv)} (h : MsP w B v es) (hB : B' ≤ B) : MsP w B' v es := ⟨h.1.down hB, h.2⟩
theorem HsP.down {B' : Nat} {es : List (List It × Sv)} (h : HsP w B v es) (hB : B' ≤ B) : HsP w B' v es := ⟨h.1.down hB, h.2⟩
end
end Go.Proofs.Ytbecahikjekccaa


/- Blocks of other types stay. -/
namespace Go.Proofs.Ytbecahikjekccaa
open Go.RowKit Pl
set_option linter.unusedVariables false

/-- blocks whose elements are of none of these types stay as they are. -/
structure KeepTy (S : Nat → Prop) (w w' : World) : Prop where
  os : w'.os = w.os
  tape : w'.tape = w.tape
  output : w'.output = w.output
  size : w.heap.size ≤ w'.heap.size
  block : ∀ k, k < w.heap.size → (∀ cs T z, w.heap[k]? = some (.cells cs T z) → ¬ S T) → w'.heap[k]? = w.heap[k]?
section
variable {S : Nat → Prop} {w w' w'' : World}
theorem KeepTy.refl (S : Nat → Prop) (w : World) : KeepTy S w w := ⟨rfl, rfl, rfl, Nat.le_refl _, fun _ _ _ => rfl⟩
theorem KeepTy.trans (h : KeepTy S w w') (k : KeepTy S w' w'') : KeepTy S w w'' :=
  ⟨k.os.trans h.os, k.tape.trans h.tape, k.output.trans h.output, Nat.le_trans h.size k.size, fun b hb ht => by
    have h1 := h.block b hb ht
    exact (k.block b (Nat.lt_of_lt_of_le hb h.size) (fun cs T z hc => ht cs T z (h1 ▸ hc))).trans h1⟩
theorem KeepTy.ofGrown {row : Option Nat} (h : w.grownBy w' row) (hT : ∀ k, row = some k → ∃ cs T z, w.heap[k]? = some (.cells cs T z) ∧ S T) : KeepTy S w w' :=
  ⟨h.os, h.tape, h.output, h.size, fun k hk ht => h.block k hk fun e => by
    obtain ⟨cs, T, z, h1, h2⟩ := hT k e.symm
    exact ht cs T z h1 h2⟩
end
end Go.Proofs.Ytbecahikjekccaa


/- Texts copied: the walk over copyOfTexts. -/
namespace Go.Proofs.Ytbecahikjekccaa
open Go.RowKit Pl
set_option linter.unusedVariables false

end Go.Proofs.Ytbecahikjekccaa


/- A new member: the walks over isMember, copyOfRing and both MateNew. -/
namespace Go.Proofs.Ytbecahikjekccaa
open Go.RowKit Pl
set_option linter.unusedVariables false

end Go.Proofs.Ytbecahikjekccaa


/- A member at work: the walks over memberOf and mate. Written by gen_mb.py. -/
namespace Go.Proofs.Ytbecahikjekccaa
open Go.RowKit Pl
set_option linter.unusedVariables false
set_option linter.unusedSimpArgs false

/-- a member at work: what its box holds; its items stand in its store alone, 'it' is what its Mate has in their place. -/
def MbB (w : World) (g : Nat) (m : Mt) (u : Mv) (it : Sv) : Prop := Bx w g 131 [.slice u.its.a u.its.n u.its.c, .int .i64 m.id, .int .i64 m.rid, .slice u.ms.a u.ms.n u.ms.c, .slice it.a it.n it.c, .slice u.lv.a u.lv.n u.lv.c, .slice u.tx.a u.tx.n u.tx.c, .int .i64 m.rd, .int .i64 m.se, .int .i64 m.li, .int .i64 m.he, .int .i64 m.la.c, .int .i64 m.la.r, .int .i64 m.la.q, .int .i64 m.la.a, .int .i64 m.la.b, .slice u.ws.a u.ws.n u.ws.c]

end Go.Proofs.Ytbecahikjekccaa


/- What a member has to say, and whether it is right: small walks. -/
namespace Go.Proofs.Ytbecahikjekccaa
open Go.RowKit Pl
set_option linter.unusedVariables false
set_option linter.unusedSimpArgs false

/-- whether texts are short. -/
def fitB (ts : List ByteArray) : Bool := ts.all fun t => decide (t.size ≤ 60)
/-- whether a number is a level. -/
def lvB (l : Int) : Bool := decide (1 ≤ l ∧ l ≤ 2)
def lvsB (lv : List Int) : Bool := lv.all lvB
/-- whether it may stand there to be said. -/
def sayB (lv : List Int) (tx : List ByteArray) : Bool := decide (tx.length ≤ 20) && (decide (lv.length = tx.length) && (lvsB lv && fitB tx))

end Go.Proofs.Ytbecahikjekccaa


/- Tokens of which all is zero; what a member has to say, by the specification. Written by gen_mp.py. -/
namespace Go.Proofs.Ytbecahikjekccaa
open Go.RowKit Pl
set_option linter.unusedVariables false
set_option linter.unusedSimpArgs false

/-- whether all of a token is zero. -/
def ntB (c r q a b : Int) (ws : List Int) : Bool := (c == 0) && ((r == 0) && ((q == 0) && ((a == 0) && ((b == 0) && ((ws.length : Int) == 0)))))

/-- the first k of them may be said. -/
def SaySt (lv : List Int) (tx : List ByteArray) (k : Nat) : Prop := (∀ t ∈ tx.take k, t.size ≤ 60) ∧ ∀ l ∈ lv.take k, lvB l = true
end Go.Proofs.Ytbecahikjekccaa


/- Whether a member is right: the walks over both MateOk. Written by gen_mok.py. -/
namespace Go.Proofs.Ytbecahikjekccaa
open Go.RowKit Pl
set_option linter.unusedVariables false
set_option linter.unusedSimpArgs false

/-- whether a member is right. -/
def Mt.ok (m : Mt) : Bool := ringB m.rid m.ms && (inB m.ms m.id && (iGo 0 m.its && (sayB m.lv m.tx && (decide (0 ≤ m.rd ∧ m.rd ≤ 1000000000) && (decide (0 ≤ m.se ∧ m.se ≤ 60) && (decide (0 ≤ m.li ∧ m.li ≤ ((aruP m.its : Nat) : Int)) && (decide (0 ≤ m.he ∧ m.he ≤ ((aruP m.its : Nat) : Int)) && (ntB m.la.c m.la.r m.la.q m.la.a m.la.b m.la.ws || tkB m.la.c m.la.r m.la.q m.la.a m.la.b m.la.ws))))))))

end Go.Proofs.Ytbecahikjekccaa


/- Members copied by a law. Written by gen_tm.py. -/
namespace Go.Proofs.Ytbecahikjekccaa
open Go.RowKit Pl
set_option linter.unusedVariables false
set_option linter.unusedSimpArgs false

end Go.Proofs.Ytbecahikjekccaa


/- Members compared, marked and looked at again. Written by gen_em.py. -/
namespace Go.Proofs.Ytbecahikjekccaa
open Go.RowKit Pl
set_option linter.unusedVariables false
set_option linter.unusedSimpArgs false

set_option maxRecDepth 100000 in
set_option maxHeartbeats 4000000 in
theorem eqMate_same (m : Mt) (u v : Mv) (B1 B2 : Nat) (w : World) (h1 : Hid (MtO w B1 m u)) (h2 : Hid (MtO w B2 m v)) (hs : Hid (MtS m)) :
    Calls Try.prog 19 #[.agg #[.int .i64 m.id, .int .i64 m.rid, .slice u.ms.a u.ms.n u.ms.c, .slice u.its.a u.its.n u.its.c, .slice u.lv.a u.lv.n u.lv.c, .slice u.tx.a u.tx.n u.tx.c, .int .i64 m.rd, .int .i64 m.se, .int .i64 m.li, .int .i64 m.he, .int .i64 m.la.c, .int .i64 m.la.r, .int .i64 m.la.q, .int .i64 m.la.a, .int .i64 m.la.b, .slice u.ws.a u.ws.n u.ws.c], .agg #[.int .i64 m.id, .int .i64 m.rid, .slice v.ms.a v.ms.n v.ms.c, .slice v.its.a v.its.n v.its.c, .slice v.lv.a v.lv.n v.lv.c, .slice v.tx.a v.tx.n v.tx.c, .int .i64 m.rd, .int .i64 m.se, .int .i64 m.li, .int .i64 m.he, .int .i64 m.la.c, .int .i64 m.la.r, .int .i64 m.la.q, .int .i64 m.la.a, .int .i64 m.la.b, .slice v.ws.a v.ws.n v.ws.c]] w fun e w' => e = .returned (.bool true) ∧ Below w.heap.size w w' := by
  have hn1 : (w.alloc (.cells #[.int .i64 m.id, .int .i64 m.rid, .slice u.ms.a u.ms.n u.ms.c, .slice u.its.a u.its.n u.its.c, .slice u.lv.a u.lv.n u.lv.c, .slice u.tx.a u.tx.n u.tx.c, .int .i64 m.rd, .int .i64 m.se, .int .i64 m.li, .int .i64 m.he, .int .i64 m.la.c, .int .i64 m.la.r, .int .i64 m.la.q, .int .i64 m.la.a, .int .i64 m.la.b, .slice u.ws.a u.ws.n u.ws.c] 30)).heap.size = w.heap.size + 1 := by simp
  have HA : Hid (MtB ((w.alloc (.cells #[.int .i64 m.id, .int .i64 m.rid, .slice u.ms.a u.ms.n u.ms.c, .slice u.its.a u.its.n u.its.c, .slice u.lv.a u.lv.n u.lv.c, .slice u.tx.a u.tx.n u.tx.c, .int .i64 m.rd, .int .i64 m.se, .int .i64 m.li, .int .i64 m.he, .int .i64 m.la.c, .int .i64 m.la.r, .int .i64 m.la.q, .int .i64 m.la.a, .int .i64 m.la.b, .slice u.ws.a u.ws.n u.ws.c] 30)).alloc (.cells #[.int .i64 m.id, .int .i64 m.rid, .slice v.ms.a v.ms.n v.ms.c, .slice v.its.a v.its.n v.its.c, .slice v.lv.a v.lv.n v.lv.c, .slice v.tx.a v.tx.n v.tx.c, .int .i64 m.rd, .int .i64 m.se, .int .i64 m.li, .int .i64 m.he, .int .i64 m.la.c, .int .i64 m.la.r, .int .i64 m.la.q, .int .i64 m.la.a, .int .i64 m.la.b, .slice v.ws.a v.ws.n v.ws.c] 30)) w.heap.size 30 m u) := by
    have h := Bx.new w 30 [.int .i64 m.id, .int .i64 m.rid, .slice u.ms.a u.ms.n u.ms.c, .slice u.its.a u.its.n u.its.c, .slice u.lv.a u.lv.n u.lv.c, .slice u.tx.a u.tx.n u.tx.c, .int .i64 m.rd, .int .i64 m.se, .int .i64 m.li, .int .i64 m.he, .int .i64 m.la.c, .int .i64 m.la.r, .int .i64 m.la.q, .int .i64 m.la.a, .int .i64 m.la.b, .slice u.ws.a u.ws.n u.ws.c]
    exact h.stays (B := w.heap.size + 1) ((Below.refl _ _).alloc (by rw [hn1]; exact Nat.le_refl _) _) (by omega)
  have HC : Hid (MtB ((w.alloc (.cells #[.int .i64 m.id, .int .i64 m.rid, .slice u.ms.a u.ms.n u.ms.c, .slice u.its.a u.its.n u.its.c, .slice u.lv.a u.lv.n u.lv.c, .slice u.tx.a u.tx.n u.tx.c, .int .i64 m.rd, .int .i64 m.se, .int .i64 m.li, .int .i64 m.he, .int .i64 m.la.c, .int .i64 m.la.r, .int .i64 m.la.q, .int .i64 m.la.a, .int .i64 m.la.b, .slice u.ws.a u.ws.n u.ws.c] 30)).alloc (.cells #[.int .i64 m.id, .int .i64 m.rid, .slice v.ms.a v.ms.n v.ms.c, .slice v.its.a v.its.n v.its.c, .slice v.lv.a v.lv.n v.lv.c, .slice v.tx.a v.tx.n v.tx.c, .int .i64 m.rd, .int .i64 m.se, .int .i64 m.li, .int .i64 m.he, .int .i64 m.la.c, .int .i64 m.la.r, .int .i64 m.la.q, .int .i64 m.la.a, .int .i64 m.la.b, .slice v.ws.a v.ws.n v.ws.c] 30)) (w.heap.size + 1) 30 m v) := by
    have h := Bx.new (w.alloc (.cells #[.int .i64 m.id, .int .i64 m.rid, .slice u.ms.a u.ms.n u.ms.c, .slice u.its.a u.its.n u.its.c, .slice u.lv.a u.lv.n u.lv.c, .slice u.tx.a u.tx.n u.tx.c, .int .i64 m.rd, .int .i64 m.se, .int .i64 m.li, .int .i64 m.he, .int .i64 m.la.c, .int .i64 m.la.r, .int .i64 m.la.q, .int .i64 m.la.a, .int .i64 m.la.b, .slice u.ws.a u.ws.n u.ws.c] 30)) 30 [.int .i64 m.id, .int .i64 m.rid, .slice v.ms.a v.ms.n v.ms.c, .slice v.its.a v.its.n v.its.c, .slice v.lv.a v.lv.n v.lv.c, .slice v.tx.a v.tx.n v.tx.c, .int .i64 m.rd, .int .i64 m.se, .int .i64 m.li, .int .i64 m.he, .int .i64 m.la.c, .int .i64 m.la.r, .int .i64 m.la.q, .int .i64 m.la.a, .int .i64 m.la.b, .slice v.ws.a v.ws.n v.ws.c]
    rw [hn1] at h
    exact h
  have HB : Hid (Below w.heap.size w ((w.alloc (.cells #[.int .i64 m.id, .int .i64 m.rid, .slice u.ms.a u.ms.n u.ms.c, .slice u.its.a u.its.n u.its.c, .slice u.lv.a u.lv.n u.lv.c, .slice u.tx.a u.tx.n u.tx.c, .int .i64 m.rd, .int .i64 m.se, .int .i64 m.li, .int .i64 m.he, .int .i64 m.la.c, .int .i64 m.la.r, .int .i64 m.la.q, .int .i64 m.la.a, .int .i64 m.la.b, .slice u.ws.a u.ws.n u.ws.c] 30)).alloc (.cells #[.int .i64 m.id, .int .i64 m.rid, .slice v.ms.a v.ms.n v.ms.c, .slice v.its.a v.its.n v.its.c, .slice v.lv.a v.lv.n v.lv.c, .slice v.tx.a v.tx.n v.tx.c, .int .i64 m.rd, .int .i64 m.se, .int .i64 m.li, .int .i64 m.he, .int .i64 m.la.c, .int .i64 m.la.r, .int .i64 m.la.q, .int .i64 m.la.a, .int .i64 m.la.b, .slice v.ws.a v.ws.n v.ws.c] 30))) := ((Below.refl _ _).alloc (Nat.le_refl _) _).alloc (by simp) _
  have H1 : Hid (MtO ((w.alloc (.cells #[.int .i64 m.id, .int .i64 m.rid, .slice u.ms.a u.ms.n u.ms.c, .slice u.its.a u.its.n u.its.c, .slice u.lv.a u.lv.n u.lv.c, .slice u.tx.a u.tx.n u.tx.c, .int .i64 m.rd, .int .i64 m.se, .int .i64 m.li, .int .i64 m.he, .int .i64 m.la.c, .int .i64 m.la.r, .int .i64 m.la.q, .int .i64 m.la.a, .int .i64 m.la.b, .slice u.ws.a u.ws.n u.ws.c] 30)).alloc (.cells #[.int .i64 m.id, .int .i64 m.rid, .slice v.ms.a v.ms.n v.ms.c, .slice v.its.a v.its.n v.its.c, .slice v.lv.a v.lv.n v.lv.c, .slice v.tx.a v.tx.n v.tx.c, .int .i64 m.rd, .int .i64 m.se, .int .i64 m.li, .int .i64 m.he, .int .i64 m.la.c, .int .i64 m.la.r, .int .i64 m.la.q, .int .i64 m.la.a, .int .i64 m.la.b, .slice v.ws.a v.ws.n v.ws.c] 30)) B1 m u) := h1.out.later HB.out
  have H2 : Hid (MtO ((w.alloc (.cells #[.int .i64 m.id, .int .i64 m.rid, .slice u.ms.a u.ms.n u.ms.c, .slice u.its.a u.its.n u.its.c, .slice u.lv.a u.lv.n u.lv.c, .slice u.tx.a u.tx.n u.tx.c, .int .i64 m.rd, .int .i64 m.se, .int .i64 m.li, .int .i64 m.he, .int .i64 m.la.c, .int .i64 m.la.r, .int .i64 m.la.q, .int .i64 m.la.a, .int .i64 m.la.b, .slice u.ws.a u.ws.n u.ws.c] 30)).alloc (.cells #[.int .i64 m.id, .int .i64 m.rid, .slice v.ms.a v.ms.n v.ms.c, .slice v.its.a v.its.n v.its.c, .slice v.lv.a v.lv.n v.lv.c, .slice v.tx.a v.tx.n v.tx.c, .int .i64 m.rd, .int .i64 m.se, .int .i64 m.li, .int .i64 m.he, .int .i64 m.la.c, .int .i64 m.la.r, .int .i64 m.la.q, .int .i64 m.la.a, .int .i64 m.la.b, .slice v.ws.a v.ws.n v.ws.c] 30)) B2 m v) := h2.out.later HB.out
  obtain ⟨⟨c0, c1, c2, c3, c4, c5⟩, ⟨c6, c7, c8, c9⟩, c10, c11, c12, c13, c14, c15⟩ := HA.out.cells
  obtain ⟨⟨d0, d1, d2, d3, d4, d5⟩, ⟨d6, d7, d8, d9⟩, d10, d11, d12, d13, d14, d15⟩ := HC.out.cells
  clear h1 h2 hn1
  go_enter Try.func19, Try.ntmps19
  go_wp2_with fail
  generalize ((w.alloc (.cells #[.int .i64 m.id, .int .i64 m.rid, .slice u.ms.a u.ms.n u.ms.c, .slice u.its.a u.its.n u.its.c, .slice u.lv.a u.lv.n u.lv.c, .slice u.tx.a u.tx.n u.tx.c, .int .i64 m.rd, .int .i64 m.se, .int .i64 m.li, .int .i64 m.he, .int .i64 m.la.c, .int .i64 m.la.r, .int .i64 m.la.q, .int .i64 m.la.a, .int .i64 m.la.b, .slice u.ws.a u.ws.n u.ws.c] 30)).alloc (.cells #[.int .i64 m.id, .int .i64 m.rid, .slice v.ms.a v.ms.n v.ms.c, .slice v.its.a v.its.n v.its.c, .slice v.lv.a v.lv.n v.lv.c, .slice v.tx.a v.tx.n v.tx.c, .int .i64 m.rd, .int .i64 m.se, .int .i64 m.li, .int .i64 m.he, .int .i64 m.la.c, .int .i64 m.la.r, .int .i64 m.la.q, .int .i64 m.la.a, .int .i64 m.la.b, .slice v.ws.a v.ws.n v.ws.c] 30)) = W at *
  clear c0 c1 c2 c3 c4 c5 c6 c7 c8 c9 c10 c11 c12 c13 c14 c15 d0 d1 d2 d3 d4 d5 d6 d7 d8 d9 d10 d11 d12 d13 d14 d15
  refine (eqRing_same m.rid u.ms.v v.ms.v m.ms B1 B2 _ H1.out.ms H2.out.ms hs.out.ms).mono ?_
  rintro e w1 ⟨rfl, b⟩
  have HA : Hid (MtB w1 w.heap.size 30 m u) := Bx.later HA.out b
  have HC : Hid (MtB w1 (w.heap.size + 1) 30 m v) := Bx.later HC.out b
  have H1 : Hid (MtO w1 B1 m u) := H1.out.later b
  have H2 : Hid (MtO w1 B2 m v) := H2.out.later b
  have HB : Hid (Below w.heap.size w w1) := bl_next HB.out b
  clear b
  obtain ⟨⟨c0, c1, c2, c3, c4, c5⟩, ⟨c6, c7, c8, c9⟩, c10, c11, c12, c13, c14, c15⟩ := HA.out.cells
  obtain ⟨⟨d0, d1, d2, d3, d4, d5⟩, ⟨d6, d7, d8, d9⟩, d10, d11, d12, d13, d14, d15⟩ := HC.out.cells
  go_wp2_with fail
  clear c0 c1 c2 c3 c4 c5 c6 c7 c8 c9 c10 c11 c12 c13 c14 c15 d0 d1 d2 d3 d4 d5 d6 d7 d8 d9 d10 d11 d12 d13 d14 d15
  refine (eqItems_sl u.its.v v.its.v m.its B1 B2 _ H1.out.its H2.out.its hs.out.its).mono ?_
  rintro e w2 ⟨rfl, b⟩
  have HA : Hid (MtB w2 w.heap.size 30 m u) := Bx.later HA.out b
  have HC : Hid (MtB w2 (w.heap.size + 1) 30 m v) := Bx.later HC.out b
  have H1 : Hid (MtO w2 B1 m u) := H1.out.later b
  have H2 : Hid (MtO w2 B2 m v) := H2.out.later b
  have HB : Hid (Below w.heap.size w w2) := bl_next HB.out b
  clear b
  obtain ⟨⟨c0, c1, c2, c3, c4, c5⟩, ⟨c6, c7, c8, c9⟩, c10, c11, c12, c13, c14, c15⟩ := HA.out.cells
  obtain ⟨⟨d0, d1, d2, d3, d4, d5⟩, ⟨d6, d7, d8, d9⟩, d10, d11, d12, d13, d14, d15⟩ := HC.out.cells
  go_wp2_with fail
  clear c0 c1 c2 c3 c4 c5 c6 c7 c8 c9 c10 c11 c12 c13 c14 c15 d0 d1 d2 d3 d4 d5 d6 d7 d8 d9 d10 d11 d12 d13 d14 d15
  refine (eqI_same u.lv.v v.lv.v m.lv B1 B2 _ H1.out.lv H2.out.lv hs.out.lv).mono ?_
  rintro e w3 ⟨rfl, b⟩
  have HA : Hid (MtB w3 w.heap.size 30 m u) := Bx.later HA.out b
  have HC : Hid (MtB w3 (w.heap.size + 1) 30 m v) := Bx.later HC.out b
  have H1 : Hid (MtO w3 B1 m u) := H1.out.later b
  have H2 : Hid (MtO w3 B2 m v) := H2.out.later b
  have HB : Hid (Below w.heap.size w w3) := bl_next HB.out b
  clear b
  obtain ⟨⟨c0, c1, c2, c3, c4, c5⟩, ⟨c6, c7, c8, c9⟩, c10, c11, c12, c13, c14, c15⟩ := HA.out.cells
  obtain ⟨⟨d0, d1, d2, d3, d4, d5⟩, ⟨d6, d7, d8, d9⟩, d10, d11, d12, d13, d14, d15⟩ := HC.out.cells
  go_wp2_with fail
  clear c0 c1 c2 c3 c4 c5 c6 c7 c8 c9 c10 c11 c12 c13 c14 c15 d0 d1 d2 d3 d4 d5 d6 d7 d8 d9 d10 d11 d12 d13 d14 d15
  refine (eqS_same u.tx.v v.tx.v m.tx B1 B2 _ H1.out.tx H2.out.tx (by have := hs.out.tx; omega)).mono ?_
  rintro e w4 ⟨rfl, b⟩
  have HA : Hid (MtB w4 w.heap.size 30 m u) := Bx.later HA.out b
  have HC : Hid (MtB w4 (w.heap.size + 1) 30 m v) := Bx.later HC.out b
  have H1 : Hid (MtO w4 B1 m u) := H1.out.later b
  have H2 : Hid (MtO w4 B2 m v) := H2.out.later b
  have HB : Hid (Below w.heap.size w w4) := bl_next HB.out b
  clear b
  obtain ⟨⟨c0, c1, c2, c3, c4, c5⟩, ⟨c6, c7, c8, c9⟩, c10, c11, c12, c13, c14, c15⟩ := HA.out.cells
  obtain ⟨⟨d0, d1, d2, d3, d4, d5⟩, ⟨d6, d7, d8, d9⟩, d10, d11, d12, d13, d14, d15⟩ := HC.out.cells
  go_wp2_with fail
  clear c0 c1 c2 c3 c4 c5 c6 c7 c8 c9 c10 c11 c12 c13 c14 c15 d0 d1 d2 d3 d4 d5 d6 d7 d8 d9 d10 d11 d12 d13 d14 d15
  refine (eqTok_same m.la.c m.la.r m.la.q m.la.a m.la.b u.ws.v v.ws.v m.la.ws B1 B2 _ H1.out.ws H2.out.ws hs.out.ws).mono ?_
  rintro e w5 ⟨rfl, b⟩
  have HA : Hid (MtB w5 w.heap.size 30 m u) := Bx.later HA.out b
  have HC : Hid (MtB w5 (w.heap.size + 1) 30 m v) := Bx.later HC.out b
  have H1 : Hid (MtO w5 B1 m u) := H1.out.later b
  have H2 : Hid (MtO w5 B2 m v) := H2.out.later b
  have HB : Hid (Below w.heap.size w w5) := bl_next HB.out b
  clear b
  obtain ⟨⟨c0, c1, c2, c3, c4, c5⟩, ⟨c6, c7, c8, c9⟩, c10, c11, c12, c13, c14, c15⟩ := HA.out.cells
  obtain ⟨⟨d0, d1, d2, d3, d4, d5⟩, ⟨d6, d7, d8, d9⟩, d10, d11, d12, d13, d14, d15⟩ := HC.out.cells
  go_wp2_with fail
  go_ret
  exact ⟨rfl, HB.out⟩

/-- a member whose lists are marks. -/
def markM (K : Nat) (m : Mt) : Mt :=
  ⟨m.id, m.rid, marks K m.ms.length, mkI (K + m.ms.length) m.its.length, marks (K + m.ms.length + 4 * m.its.length) m.lv.length, mkT (K + m.ms.length + 4 * m.its.length + m.lv.length) m.tx.length, m.rd, m.se, m.li, m.he,
    ⟨m.la.c, m.la.r, m.la.q, m.la.a, m.la.b, marks (K + m.ms.length + 4 * m.its.length + m.lv.length + m.tx.length) m.la.ws.length⟩⟩
def endM (K : Nat) (m : Mt) : Nat := K + m.ms.length + 4 * m.its.length + m.lv.length + m.tx.length + m.la.ws.length

set_option maxRecDepth 100000 in
set_option maxHeartbeats 4000000 in
theorem markMate_any (m : Mt) (v : Mv) (B K : Nat) (w : World) (h : Hid (MtO w B m v)) (hl : endM K m ≤ 39999990) (hK : 0 < K) :
    Calls Try.prog 23 #[.agg #[.int .i64 m.id, .int .i64 m.rid, .slice v.ms.a v.ms.n v.ms.c, .slice v.its.a v.its.n v.its.c, .slice v.lv.a v.lv.n v.lv.c, .slice v.tx.a v.tx.n v.tx.c, .int .i64 m.rd, .int .i64 m.se, .int .i64 m.li, .int .i64 m.he, .int .i64 m.la.c, .int .i64 m.la.r, .int .i64 m.la.q, .int .i64 m.la.a, .int .i64 m.la.b, .slice v.ws.a v.ws.n v.ws.c], .int .i64 K] w fun e w' => e = .returned (.int .i64 ((endM K m : Nat) : Int)) ∧ MtO w' B (markM K m) v ∧ Gr v.own w w' := by
  unfold endM at hl
  have HA : Hid (MtB (w.alloc (.cells #[.int .i64 m.id, .int .i64 m.rid, .slice v.ms.a v.ms.n v.ms.c, .slice v.its.a v.its.n v.its.c, .slice v.lv.a v.lv.n v.lv.c, .slice v.tx.a v.tx.n v.tx.c, .int .i64 m.rd, .int .i64 m.se, .int .i64 m.li, .int .i64 m.he, .int .i64 m.la.c, .int .i64 m.la.r, .int .i64 m.la.q, .int .i64 m.la.a, .int .i64 m.la.b, .slice v.ws.a v.ws.n v.ws.c] 30)) w.heap.size 30 m v) := Bx.new w 30 _
  have HG : Hid (Gr v.own w (w.alloc (.cells #[.int .i64 m.id, .int .i64 m.rid, .slice v.ms.a v.ms.n v.ms.c, .slice v.its.a v.its.n v.its.c, .slice v.lv.a v.lv.n v.lv.c, .slice v.tx.a v.tx.n v.tx.c, .int .i64 m.rd, .int .i64 m.se, .int .i64 m.li, .int .i64 m.he, .int .i64 m.la.c, .int .i64 m.la.r, .int .i64 m.la.q, .int .i64 m.la.a, .int .i64 m.la.b, .slice v.ws.a v.ws.n v.ws.c] 30))) := gr_below ((Below.refl _ _).alloc (Nat.le_refl _) _)
  have HO : Hid (MtO (w.alloc (.cells #[.int .i64 m.id, .int .i64 m.rid, .slice v.ms.a v.ms.n v.ms.c, .slice v.its.a v.its.n v.its.c, .slice v.lv.a v.lv.n v.lv.c, .slice v.tx.a v.tx.n v.tx.c, .int .i64 m.rd, .int .i64 m.se, .int .i64 m.li, .int .i64 m.he, .int .i64 m.la.c, .int .i64 m.la.r, .int .i64 m.la.q, .int .i64 m.la.a, .int .i64 m.la.b, .slice v.ws.a v.ws.n v.ws.c] 30)) B m v) := h.out.later ((Below.refl _ _).alloc (Nat.le_refl _) _)
  have NE : Hid (∀ k, v.own k → k ≠ w.heap.size) := fun k hk => by have := (h.out.lt hk).2; omega
  obtain ⟨⟨c0, c1, c2, c3, c4, c5⟩, ⟨c6, c7, c8, c9⟩, c10, c11, c12, c13, c14, c15⟩ := HA.out.cells
  clear h
  go_enter Try.func23, Try.ntmps23
  go_wp2_with fail
  generalize (w.alloc (.cells #[.int .i64 m.id, .int .i64 m.rid, .slice v.ms.a v.ms.n v.ms.c, .slice v.its.a v.its.n v.its.c, .slice v.lv.a v.lv.n v.lv.c, .slice v.tx.a v.tx.n v.tx.c, .int .i64 m.rd, .int .i64 m.se, .int .i64 m.li, .int .i64 m.he, .int .i64 m.la.c, .int .i64 m.la.r, .int .i64 m.la.q, .int .i64 m.la.a, .int .i64 m.la.b, .slice v.ws.a v.ws.n v.ws.c] 30)) = W at *
  have O1 : Hid (OwnI W B v.ms.v m.ms) := HO.out.ms
  have O2 : Hid (SlI W B v.its.v m.its) := HO.out.its
  have O3 : Hid (OwnI W B v.lv.v m.lv) := HO.out.lv
  have O4 : Hid (OwnS W B v.tx.v m.tx) := HO.out.tx
  have O5 : Hid (OwnI W B v.ws.v m.la.ws) := HO.out.ws
  have A1 := HO.out.a1
  have A2 := HO.out.a2
  have A3 := HO.out.a3
  have A4 := ap_i_s O1.out O4.out
  have A5 := ap_i_s O3.out O4.out
  have A6 := ap_i_s O5.out O4.out
  have A7 := ap_i_it O1.out O2.out
  have A8 := ap_i_it O3.out O2.out
  have A9 := ap_i_it O5.out O2.out
  have A10 := ap_s_it O4.out O2.out
  have AP : Hid _ := And.intro A1 (And.intro A2 (And.intro A3 (And.intro A4 (And.intro A5 (And.intro A6 (And.intro A7 (And.intro A8 (And.intro A9 A10))))))))
  clear A1 A2 A3 A4 A5 A6 A7 A8 A9 A10 HO
  clear c0 c1 c2 c3 c4 c5 c6 c7 c8 c9 c10 c11 c12 c13 c14 c15
  refine (markRing_any m.rid v.ms.v m.ms B K _ O1 (by omega) (by omega)).mono ?_
  rintro e w1 ⟨rfl, hv, hg⟩
  have P1 : Hid (OwnI w1 B v.ms.v (marks K m.ms.length)) := hv
  have P2 : Hid (SlI w1 B v.its.v m.its) := O2.out.kept hg (fun k h1 h2 => (Ap.symm (AP.out.2.2.2.2.2.2.1)) k h1 h2.symm)
  have P3 : Hid (OwnI w1 B v.lv.v m.lv) := O3.out.kept hg (fun k h1 h2 => (Ap.symm (AP.out.1)) k h1 h2.symm)
  have P4 : Hid (OwnS w1 B v.tx.v m.tx) := ownS_kept O4.out hg (fun k h1 h2 => (Ap.symm (AP.out.2.2.2.1)) k h1 h2.symm)
  have P5 : Hid (OwnI w1 B v.ws.v m.la.ws) := O5.out.kept hg (fun k h1 h2 => (Ap.symm (AP.out.2.1)) k h1 h2.symm)
  have HA : Hid (MtB w1 w.heap.size 30 m v) := Bx.grown HA.out hg (fun he => NE.out w.heap.size (.inl he.symm) rfl)
  have HG : Hid (Gr v.own w w1) := HG.out.trans (Gr.ofGrown hg (fun k hk => .inl hk))
  clear O1 O2 O3 O4 O5 hv hg
  have O1 : Hid (OwnI w1 B v.ms.v (marks K m.ms.length)) := P1.out
  have O2 : Hid (SlI w1 B v.its.v m.its) := P2.out
  have O3 : Hid (OwnI w1 B v.lv.v m.lv) := P3.out
  have O4 : Hid (OwnS w1 B v.tx.v m.tx) := P4.out
  have O5 : Hid (OwnI w1 B v.ws.v m.la.ws) := P5.out
  clear P1 P2 P3 P4 P5
  obtain ⟨⟨c0, c1, c2, c3, c4, c5⟩, ⟨c6, c7, c8, c9⟩, c10, c11, c12, c13, c14, c15⟩ := HA.out.cells
  go_wp2_with fail
  clear c0 c1 c2 c3 c4 c5 c6 c7 c8 c9 c10 c11 c12 c13 c14 c15
  refine (markItems_any v.its.v m.its B (K + m.ms.length) _ O2 (by omega) (by omega)).mono ?_
  rintro e w2 ⟨rfl, hv, hg⟩
  have P1 : Hid (OwnI w2 B v.ms.v (marks K m.ms.length)) := O1.out.kept hg (fun k h1 h2 => AP.out.2.2.2.2.2.2.1 k h1 h2.symm)
  have P2 : Hid (SlI w2 B v.its.v (mkI (K + m.ms.length) m.its.length)) := hv
  have P3 : Hid (OwnI w2 B v.lv.v m.lv) := O3.out.kept hg (fun k h1 h2 => AP.out.2.2.2.2.2.2.2.1 k h1 h2.symm)
  have P4 : Hid (OwnS w2 B v.tx.v m.tx) := ownS_kept O4.out hg (fun k h1 h2 => AP.out.2.2.2.2.2.2.2.2.2 k h1 h2.symm)
  have P5 : Hid (OwnI w2 B v.ws.v m.la.ws) := O5.out.kept hg (fun k h1 h2 => AP.out.2.2.2.2.2.2.2.2.1 k h1 h2.symm)
  have HA : Hid (MtB w2 w.heap.size 30 m v) := Bx.grown HA.out hg (fun he => NE.out w.heap.size (.inr (.inl he.symm)) rfl)
  have HG : Hid (Gr v.own w w2) := HG.out.trans (Gr.ofGrown hg (fun k hk => .inr (.inl hk)))
  clear O1 O2 O3 O4 O5 hv hg
  have O1 : Hid (OwnI w2 B v.ms.v (marks K m.ms.length)) := P1.out
  have O2 : Hid (SlI w2 B v.its.v (mkI (K + m.ms.length) m.its.length)) := P2.out
  have O3 : Hid (OwnI w2 B v.lv.v m.lv) := P3.out
  have O4 : Hid (OwnS w2 B v.tx.v m.tx) := P4.out
  have O5 : Hid (OwnI w2 B v.ws.v m.la.ws) := P5.out
  clear P1 P2 P3 P4 P5
  obtain ⟨⟨c0, c1, c2, c3, c4, c5⟩, ⟨c6, c7, c8, c9⟩, c10, c11, c12, c13, c14, c15⟩ := HA.out.cells
  go_wp2_with fail
  clear c0 c1 c2 c3 c4 c5 c6 c7 c8 c9 c10 c11 c12 c13 c14 c15
  refine (markI_any v.lv.v m.lv B (K + m.ms.length + 4 * m.its.length) _ O3.out (by omega) (by omega)).mono ?_
  rintro e w3 ⟨rfl, hv, hg⟩
  have P1 : Hid (OwnI w3 B v.ms.v (marks K m.ms.length)) := O1.out.kept hg (fun k h1 h2 => AP.out.1 k h1 h2.symm)
  have P2 : Hid (SlI w3 B v.its.v (mkI (K + m.ms.length) m.its.length)) := O2.out.kept hg (fun k h1 h2 => (Ap.symm (AP.out.2.2.2.2.2.2.2.1)) k h1 h2.symm)
  have P3 : Hid (OwnI w3 B v.lv.v (marks (K + m.ms.length + 4 * m.its.length) m.lv.length)) := hv
  have P4 : Hid (OwnS w3 B v.tx.v m.tx) := ownS_kept O4.out hg (fun k h1 h2 => (Ap.symm (AP.out.2.2.2.2.1)) k h1 h2.symm)
  have P5 : Hid (OwnI w3 B v.ws.v m.la.ws) := O5.out.kept hg (fun k h1 h2 => (Ap.symm (AP.out.2.2.1)) k h1 h2.symm)
  have HA : Hid (MtB w3 w.heap.size 30 m v) := Bx.grown HA.out hg (fun he => NE.out w.heap.size (.inr (.inr (.inl he.symm))) rfl)
  have HG : Hid (Gr v.own w w3) := HG.out.trans (Gr.ofGrown hg (fun k hk => .inr (.inr (.inl hk))))
  clear O1 O2 O3 O4 O5 hv hg
  have O1 : Hid (OwnI w3 B v.ms.v (marks K m.ms.length)) := P1.out
  have O2 : Hid (SlI w3 B v.its.v (mkI (K + m.ms.length) m.its.length)) := P2.out
  have O3 : Hid (OwnI w3 B v.lv.v (marks (K + m.ms.length + 4 * m.its.length) m.lv.length)) := P3.out
  have O4 : Hid (OwnS w3 B v.tx.v m.tx) := P4.out
  have O5 : Hid (OwnI w3 B v.ws.v m.la.ws) := P5.out
  clear P1 P2 P3 P4 P5
  obtain ⟨⟨c0, c1, c2, c3, c4, c5⟩, ⟨c6, c7, c8, c9⟩, c10, c11, c12, c13, c14, c15⟩ := HA.out.cells
  go_wp2_with fail
  clear c0 c1 c2 c3 c4 c5 c6 c7 c8 c9 c10 c11 c12 c13 c14 c15
  refine (markSo_any v.tx.v m.tx B (K + m.ms.length + 4 * m.its.length + m.lv.length) _ O4.out (by omega) (by omega)).mono ?_
  rintro e w4 ⟨rfl, hv, hg⟩
  have P1 : Hid (OwnI w4 B v.ms.v (marks K m.ms.length)) := O1.out.kept hg (fun k h1 h2 => AP.out.2.2.2.1 k h1 h2.symm)
  have P2 : Hid (SlI w4 B v.its.v (mkI (K + m.ms.length) m.its.length)) := O2.out.kept hg (fun k h1 h2 => (Ap.symm (AP.out.2.2.2.2.2.2.2.2.2)) k h1 h2.symm)
  have P3 : Hid (OwnI w4 B v.lv.v (marks (K + m.ms.length + 4 * m.its.length) m.lv.length)) := O3.out.kept hg (fun k h1 h2 => AP.out.2.2.2.2.1 k h1 h2.symm)
  have P4 : Hid (OwnS w4 B v.tx.v (mkT (K + m.ms.length + 4 * m.its.length + m.lv.length) m.tx.length)) := hv
  have P5 : Hid (OwnI w4 B v.ws.v m.la.ws) := O5.out.kept hg (fun k h1 h2 => AP.out.2.2.2.2.2.1 k h1 h2.symm)
  have HA : Hid (MtB w4 w.heap.size 30 m v) := Bx.grown HA.out hg (fun he => NE.out w.heap.size (.inr (.inr (.inr (.inl he.symm)))) rfl)
  have HG : Hid (Gr v.own w w4) := HG.out.trans (Gr.ofGrown hg (fun k hk => .inr (.inr (.inr (.inl hk)))))
  clear O1 O2 O3 O4 O5 hv hg
  have O1 : Hid (OwnI w4 B v.ms.v (marks K m.ms.length)) := P1.out
  have O2 : Hid (SlI w4 B v.its.v (mkI (K + m.ms.length) m.its.length)) := P2.out
  have O3 : Hid (OwnI w4 B v.lv.v (marks (K + m.ms.length + 4 * m.its.length) m.lv.length)) := P3.out
  have O4 : Hid (OwnS w4 B v.tx.v (mkT (K + m.ms.length + 4 * m.its.length + m.lv.length) m.tx.length)) := P4.out
  have O5 : Hid (OwnI w4 B v.ws.v m.la.ws) := P5.out
  clear P1 P2 P3 P4 P5
  obtain ⟨⟨c0, c1, c2, c3, c4, c5⟩, ⟨c6, c7, c8, c9⟩, c10, c11, c12, c13, c14, c15⟩ := HA.out.cells
  go_wp2_with fail
  clear c0 c1 c2 c3 c4 c5 c6 c7 c8 c9 c10 c11 c12 c13 c14 c15
  refine (markTok_any m.la.c m.la.r m.la.q m.la.a m.la.b v.ws.v m.la.ws B (K + m.ms.length + 4 * m.its.length + m.lv.length + m.tx.length) _ O5 (by omega) (by omega)).mono ?_
  rintro e w5 ⟨rfl, hv, hg⟩
  have P1 : Hid (OwnI w5 B v.ms.v (marks K m.ms.length)) := O1.out.kept hg (fun k h1 h2 => AP.out.2.1 k h1 h2.symm)
  have P2 : Hid (SlI w5 B v.its.v (mkI (K + m.ms.length) m.its.length)) := O2.out.kept hg (fun k h1 h2 => (Ap.symm (AP.out.2.2.2.2.2.2.2.2.1)) k h1 h2.symm)
  have P3 : Hid (OwnI w5 B v.lv.v (marks (K + m.ms.length + 4 * m.its.length) m.lv.length)) := O3.out.kept hg (fun k h1 h2 => AP.out.2.2.1 k h1 h2.symm)
  have P4 : Hid (OwnS w5 B v.tx.v (mkT (K + m.ms.length + 4 * m.its.length + m.lv.length) m.tx.length)) := ownS_kept O4.out hg (fun k h1 h2 => (Ap.symm (AP.out.2.2.2.2.2.1)) k h1 h2.symm)
  have P5 : Hid (OwnI w5 B v.ws.v (marks (K + m.ms.length + 4 * m.its.length + m.lv.length + m.tx.length) m.la.ws.length)) := hv
  have HA : Hid (MtB w5 w.heap.size 30 m v) := Bx.grown HA.out hg (fun he => NE.out w.heap.size (.inr (.inr (.inr (.inr he.symm)))) rfl)
  have HG : Hid (Gr v.own w w5) := HG.out.trans (Gr.ofGrown hg (fun k hk => .inr (.inr (.inr (.inr hk)))))
  clear O1 O2 O3 O4 O5 hv hg
  have O1 : Hid (OwnI w5 B v.ms.v (marks K m.ms.length)) := P1.out
  have O2 : Hid (SlI w5 B v.its.v (mkI (K + m.ms.length) m.its.length)) := P2.out
  have O3 : Hid (OwnI w5 B v.lv.v (marks (K + m.ms.length + 4 * m.its.length) m.lv.length)) := P3.out
  have O4 : Hid (OwnS w5 B v.tx.v (mkT (K + m.ms.length + 4 * m.its.length + m.lv.length) m.tx.length)) := P4.out
  have O5 : Hid (OwnI w5 B v.ws.v (marks (K + m.ms.length + 4 * m.its.length + m.lv.length + m.tx.length) m.la.ws.length)) := P5.out
  clear P1 P2 P3 P4 P5
  obtain ⟨⟨c0, c1, c2, c3, c4, c5⟩, ⟨c6, c7, c8, c9⟩, c10, c11, c12, c13, c14, c15⟩ := HA.out.cells
  go_wp2_with fail
  go_ret
  exact ⟨rfl, ⟨O1.out, O2.out, O3.out, O4.out, O5.out, AP.out.1, AP.out.2.1, AP.out.2.2.1⟩, HG.out⟩

set_option maxRecDepth 100000 in
set_option maxHeartbeats 1000000 in
theorem heldRing_any (i : Int) (v : Value) (n B K : Nat) (w : World) (h1 : Hid (OwnI w B v (marks K n))) (hl : K + n ≤ 39999990) (hK : 0 < K) :
    Calls Try.prog 28 #[.agg #[.int .i64 i, v], .int .i64 K] w fun e w' => e = .returned (.int .i64 ((K + n : Nat) : Int)) ∧ Below w.heap.size w w' := by
  obtain ⟨ao, cap, rfl⟩ := h1.out.form
  rw [marks_length] at *
  have HW : Hid (OwnI (w.alloc (.cells #[.int .i64 i, .slice ao n cap] 24)) B (.slice ao n cap) (marks K n)) := h1.out.alloc _
  have HB : Hid (Below w.heap.size w (w.alloc (.cells #[.int .i64 i, .slice ao n cap] 24))) := (Below.refl _ _).alloc (Nat.le_refl _) _
  clear h1
  go_enter Try.func28, Try.ntmps28
  go_wp2_with fail
  generalize w.alloc (.cells #[.int .i64 i, .slice ao n cap] 24) = W at *
  refine (heldI_any _ n B K W HW.out hl hK).mono ?_
  rintro e w1 ⟨rfl, rfl⟩
  have hz : decide (((K + n : Nat) : Int) < 0) = false := by simp; omega
  go_wp2_with fail
  go_ret
  exact ⟨rfl, HB.out⟩

set_option maxRecDepth 100000 in
set_option maxHeartbeats 4000000 in
theorem heldMate_any (m : Mt) (v : Mv) (B K : Nat) (w : World) (h : Hid (MtO w B (markM K m) v)) (hl : endM K m ≤ 39999990) (hK : 0 < K) :
    Calls Try.prog 27 #[.agg #[.int .i64 m.id, .int .i64 m.rid, .slice v.ms.a v.ms.n v.ms.c, .slice v.its.a v.its.n v.its.c, .slice v.lv.a v.lv.n v.lv.c, .slice v.tx.a v.tx.n v.tx.c, .int .i64 m.rd, .int .i64 m.se, .int .i64 m.li, .int .i64 m.he, .int .i64 m.la.c, .int .i64 m.la.r, .int .i64 m.la.q, .int .i64 m.la.a, .int .i64 m.la.b, .slice v.ws.a v.ws.n v.ws.c], .int .i64 K] w fun e w' => e = .returned (.int .i64 ((endM K m : Nat) : Int)) ∧ Below w.heap.size w w' := by
  unfold endM at hl
  have HA : Hid (MtB (w.alloc (.cells #[.int .i64 m.id, .int .i64 m.rid, .slice v.ms.a v.ms.n v.ms.c, .slice v.its.a v.its.n v.its.c, .slice v.lv.a v.lv.n v.lv.c, .slice v.tx.a v.tx.n v.tx.c, .int .i64 m.rd, .int .i64 m.se, .int .i64 m.li, .int .i64 m.he, .int .i64 m.la.c, .int .i64 m.la.r, .int .i64 m.la.q, .int .i64 m.la.a, .int .i64 m.la.b, .slice v.ws.a v.ws.n v.ws.c] 30)) w.heap.size 30 m v) := Bx.new w 30 _
  have HL : Hid (Below w.heap.size w (w.alloc (.cells #[.int .i64 m.id, .int .i64 m.rid, .slice v.ms.a v.ms.n v.ms.c, .slice v.its.a v.its.n v.its.c, .slice v.lv.a v.lv.n v.lv.c, .slice v.tx.a v.tx.n v.tx.c, .int .i64 m.rd, .int .i64 m.se, .int .i64 m.li, .int .i64 m.he, .int .i64 m.la.c, .int .i64 m.la.r, .int .i64 m.la.q, .int .i64 m.la.a, .int .i64 m.la.b, .slice v.ws.a v.ws.n v.ws.c] 30))) := (Below.refl _ _).alloc (Nat.le_refl _) _
  have HO : Hid (MtO (w.alloc (.cells #[.int .i64 m.id, .int .i64 m.rid, .slice v.ms.a v.ms.n v.ms.c, .slice v.its.a v.its.n v.its.c, .slice v.lv.a v.lv.n v.lv.c, .slice v.tx.a v.tx.n v.tx.c, .int .i64 m.rd, .int .i64 m.se, .int .i64 m.li, .int .i64 m.he, .int .i64 m.la.c, .int .i64 m.la.r, .int .i64 m.la.q, .int .i64 m.la.a, .int .i64 m.la.b, .slice v.ws.a v.ws.n v.ws.c] 30)) B (markM K m) v) := h.out.later HL.out
  obtain ⟨⟨c0, c1, c2, c3, c4, c5⟩, ⟨c6, c7, c8, c9⟩, c10, c11, c12, c13, c14, c15⟩ := HA.out.cells
  clear h
  go_enter Try.func27, Try.ntmps27
  go_wp2_with fail
  generalize (w.alloc (.cells #[.int .i64 m.id, .int .i64 m.rid, .slice v.ms.a v.ms.n v.ms.c, .slice v.its.a v.its.n v.its.c, .slice v.lv.a v.lv.n v.lv.c, .slice v.tx.a v.tx.n v.tx.c, .int .i64 m.rd, .int .i64 m.se, .int .i64 m.li, .int .i64 m.he, .int .i64 m.la.c, .int .i64 m.la.r, .int .i64 m.la.q, .int .i64 m.la.a, .int .i64 m.la.b, .slice v.ws.a v.ws.n v.ws.c] 30)) = W at *
  clear c0 c1 c2 c3 c4 c5 c6 c7 c8 c9 c10 c11 c12 c13 c14 c15
  refine (heldRing_any m.rid v.ms.v m.ms.length B K _ HO.out.ms (by omega) (by omega)).mono ?_
  rintro e w1 ⟨rfl, b⟩
  have HA : Hid (MtB w1 w.heap.size 30 m v) := Bx.later HA.out b
  have HO : Hid (MtO w1 B (markM K m) v) := HO.out.later b
  have HL : Hid (Below w.heap.size w w1) := bl_next HL.out b
  clear b
  have hz1 : decide ((((K + m.ms.length) : Nat) : Int) < 0) = false := by simp; omega
  obtain ⟨⟨c0, c1, c2, c3, c4, c5⟩, ⟨c6, c7, c8, c9⟩, c10, c11, c12, c13, c14, c15⟩ := HA.out.cells
  go_wp2_with fail
  clear c0 c1 c2 c3 c4 c5 c6 c7 c8 c9 c10 c11 c12 c13 c14 c15
  refine (heldItems_any v.its.v m.its.length B (K + m.ms.length) _ HO.out.its (by omega) (by omega)).mono ?_
  rintro e w2 ⟨rfl, b⟩
  have HA : Hid (MtB w2 w.heap.size 30 m v) := Bx.later HA.out b
  have HO : Hid (MtO w2 B (markM K m) v) := HO.out.later b
  have HL : Hid (Below w.heap.size w w2) := bl_next HL.out b
  clear b
  have hz2 : decide ((((K + m.ms.length + 4 * m.its.length) : Nat) : Int) < 0) = false := by simp; omega
  obtain ⟨⟨c0, c1, c2, c3, c4, c5⟩, ⟨c6, c7, c8, c9⟩, c10, c11, c12, c13, c14, c15⟩ := HA.out.cells
  go_wp2_with fail
  clear c0 c1 c2 c3 c4 c5 c6 c7 c8 c9 c10 c11 c12 c13 c14 c15
  refine (heldI_any v.lv.v m.lv.length B (K + m.ms.length + 4 * m.its.length) _ HO.out.lv (by omega) (by omega)).mono ?_
  rintro e w3 ⟨rfl, hq⟩
  have b : Below w2.heap.size w2 w3 := same_below hq
  clear hq
  have HA : Hid (MtB w3 w.heap.size 30 m v) := Bx.later HA.out b
  have HO : Hid (MtO w3 B (markM K m) v) := HO.out.later b
  have HL : Hid (Below w.heap.size w w3) := bl_next HL.out b
  clear b
  have hz3 : decide ((((K + m.ms.length + 4 * m.its.length + m.lv.length) : Nat) : Int) < 0) = false := by simp; omega
  obtain ⟨⟨c0, c1, c2, c3, c4, c5⟩, ⟨c6, c7, c8, c9⟩, c10, c11, c12, c13, c14, c15⟩ := HA.out.cells
  go_wp2_with fail
  clear c0 c1 c2 c3 c4 c5 c6 c7 c8 c9 c10 c11 c12 c13 c14 c15
  refine (heldSo_any v.tx.v m.tx.length B (K + m.ms.length + 4 * m.its.length + m.lv.length) _ HO.out.tx (by omega) (by omega)).mono ?_
  rintro e w4 ⟨rfl, b⟩
  have HA : Hid (MtB w4 w.heap.size 30 m v) := Bx.later HA.out b
  have HO : Hid (MtO w4 B (markM K m) v) := HO.out.later b
  have HL : Hid (Below w.heap.size w w4) := bl_next HL.out b
  clear b
  have hz4 : decide ((((K + m.ms.length + 4 * m.its.length + m.lv.length + m.tx.length) : Nat) : Int) < 0) = false := by simp; omega
  obtain ⟨⟨c0, c1, c2, c3, c4, c5⟩, ⟨c6, c7, c8, c9⟩, c10, c11, c12, c13, c14, c15⟩ := HA.out.cells
  go_wp2_with fail
  clear c0 c1 c2 c3 c4 c5 c6 c7 c8 c9 c10 c11 c12 c13 c14 c15
  refine (heldTok_any m.la.c m.la.r m.la.q m.la.a m.la.b v.ws.v m.la.ws.length B (K + m.ms.length + 4 * m.its.length + m.lv.length + m.tx.length) _ HO.out.ws (by omega) (by omega)).mono ?_
  rintro e w5 ⟨rfl, b⟩
  have HA : Hid (MtB w5 w.heap.size 30 m v) := Bx.later HA.out b
  have HO : Hid (MtO w5 B (markM K m) v) := HO.out.later b
  have HL : Hid (Below w.heap.size w w5) := bl_next HL.out b
  clear b
  have hz5 : decide ((((K + m.ms.length + 4 * m.its.length + m.lv.length + m.tx.length + m.la.ws.length) : Nat) : Int) < 0) = false := by simp; omega
  obtain ⟨⟨c0, c1, c2, c3, c4, c5⟩, ⟨c6, c7, c8, c9⟩, c10, c11, c12, c13, c14, c15⟩ := HA.out.cells
  go_wp2_with fail
  go_ret
  exact ⟨rfl, HL.out⟩
end Go.Proofs.Ytbecahikjekccaa


/- A new member: the walks over both MateNew. -/
namespace Go.Proofs.Ytbecahikjekccaa
open Go.RowKit Pl
set_option linter.unusedVariables false

/-- a new member. -/
def newM (id i : Int) (ms : List Int) : Mt := ⟨id, i, ms, [], [], [], 0, 0, 0, 0, zTok⟩

end Go.Proofs.Ytbecahikjekccaa


/- A new member: the walk over the specification's MateNew. -/
namespace Go.Proofs.Ytbecahikjekccaa
open Go.RowKit Pl
set_option linter.unusedVariables false
set_option linter.unusedSimpArgs false
end Go.Proofs.Ytbecahikjekccaa


/- The law on MateNew. Written by gen_lmn.py. -/
namespace Go.Proofs.Ytbecahikjekccaa
open Go.RowKit Pl
set_option linter.unusedVariables false
set_option linter.unusedSimpArgs false

theorem own_nilS (w : World) (B : Nat) : OwnS w B (.slice none 0 0) [] := ⟨by simp, .inl ⟨rfl, rfl⟩⟩
theorem own_nilIt (w : World) (B : Nat) : SlI w B (.slice none 0 0) [] := Sl.zero w 86 4 B
theorem mto_zero (w : World) (B : Nat) : MtO w B zMt zMv := ⟨ownI_nil w B, own_nilIt w B, ownI_nil w B, own_nilS w B, ownI_nil w B, ap_none _ 0 0, ap_none _ 0 0, ap_none _ 0 0⟩
theorem mts_zero : MtS zMt := ⟨by decide, by decide, by decide, by decide, by decide, (fun x h => by cases h), (fun x h => by cases h), by decide⟩
/-- the plain answer. -/
def newP (id i : Int) (ms : List Int) : Mt := if (ringB i ms && inB ms id) = true then newM id i ms else zMt
end Go.Proofs.Ytbecahikjekccaa


