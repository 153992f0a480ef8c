/- Joined texts: CWr CWt CPb CWl CSm CCp CWk CKt CCt1 CMn CMb CMo CMp CMq1 CTm CEm. -/
import Derived.Test.YtdodeillifoibaaIo11
import Derived.Test.YtdodeillifoibaaIo8
import Derived.Test.YtdodeillifoibaaIo5
import Derived.Test.YtdodeillifoibaaIo12
import Derived.Test.YtdodeillifoibaaIo7
import Derived.Laws.MakeOwn
import Derived.BigQuiet
import Derived.Deep.QuietTactic
/- Contracts over lists that are read; what is appended is read. -/
namespace Go.Proofs.Ytdodeillifoibaa
open Go.RowKit Pl
set_option linter.unusedVariables false

section
variable {w : World} {v : Value}
end

end Go.Proofs.Ytdodeillifoibaa


/- What is appended is read: texts and items. -/
namespace Go.Proofs.Ytdodeillifoibaa
open Go.RowKit Pl
set_option linter.unusedVariables false

end Go.Proofs.Ytdodeillifoibaa


/- One element put behind a slice of the call's own, and which block it lies in then. No function of the program is named here. -/
namespace Go.Proofs.Ytdodeillifoibaa
open Go.RowKit Pl
set_option linter.unusedVariables false

section
variable {P : Program} {w : World}
end

section
variable {P : Program} {w : World} {ops : Array Oper} {rest : List Oper} {o : Oper} {a : Act} {Q : Exit → Act → World → Prop} {K : Act → World → Prop}
end
end Go.Proofs.Ytdodeillifoibaa


/- Lists of structs of any size, their cells row by row: read, put behind, joined, set. No function of the program is named here. -/
namespace Go.Proofs.Ytdodeillifoibaa
open Go.RowKit Pl
set_option linter.unusedVariables false

/-- the slice v holds these rows, each of so many cells. -/
def SlN (w : World) (T size B : Nat) (v : Value) (rs : List (List Value)) : Prop := Sl w T size B v rs.length rs.flatten ∧ ∀ r ∈ rs, r.length = size ∧ ∀ u ∈ r, u.oneCell' = true

theorem flat_len {s : Nat} : ∀ {rs : List (List Value)}, (∀ r ∈ rs, r.length = s) → rs.flatten.length = rs.length * s := by
  intro rs
  induction rs with
  | nil => intro _; simp
  | cons r rs ih =>
    intro h
    rw [List.flatten_cons, List.length_append, List.length_cons, ih fun r hr => h r (List.mem_cons_of_mem _ hr), h r (List.mem_cons_self ..), Nat.add_mul]
    omega
theorem flat_drop {s : Nat} : ∀ {rs : List (List Value)} (k : Nat), (∀ r ∈ rs, r.length = s) → rs.flatten.drop (k * s) = (rs.drop k).flatten := by
  intro rs
  induction rs with
  | nil => intro k _; simp
  | cons r rs ih =>
    intro k h
    cases k with
    | zero => simp
    | succ k =>
      have hr := h r (List.mem_cons_self ..)
      rw [List.flatten_cons, List.drop_succ_cons, ← ih k fun r hr => h r (List.mem_cons_of_mem _ hr), Nat.add_mul, List.drop_append, List.drop_eq_nil_of_le (by omega), List.nil_append]
      congr 1; omega
theorem flat_take {s : Nat} : ∀ {rs : List (List Value)} (k : Nat), (∀ r ∈ rs, r.length = s) → rs.flatten.take (k * s) = (rs.take k).flatten := by
  intro rs
  induction rs with
  | nil => intro k _; simp
  | cons r rs ih =>
    intro k h
    cases k with
    | zero => simp
    | succ k =>
      have hr := h r (List.mem_cons_self ..)
      rw [List.flatten_cons, List.take_succ_cons, List.flatten_cons, ← ih k fun r hr => h r (List.mem_cons_of_mem _ hr), Nat.add_mul, List.take_append, List.take_of_length_le (by omega)]
      congr 2; omega
theorem flat_row {s : Nat} {rs : List (List Value)} (h : ∀ r ∈ rs, r.length = s) {i : Nat} (hi : i < rs.length) : (rs.flatten.drop (i * s)).take s = rs[i] := by
  rw [flat_drop i h, List.drop_eq_getElem_cons hi, List.flatten_cons, List.take_append, List.take_of_length_le (by rw [h _ (List.getElem_mem hi)]; exact Nat.le_refl _), h _ (List.getElem_mem hi)]
  simp
theorem flat_set {s : Nat} {rs : List (List Value)} (h : ∀ r ∈ rs, r.length = s) {i : Nat} (hi : i < rs.length) (r : List Value) (hr : r.length = s) : rs.flatten.take (i * s) ++ r ++ rs.flatten.drop (i * s + r.length) = (rs.set i r).flatten := by
  rw [hr, show i * s + s = (i + 1) * s by rw [Nat.add_mul]; omega, flat_take i h, flat_drop (i + 1) h, List.set_eq_take_append_cons_drop, if_pos hi, List.flatten_append, List.flatten_cons]
  simp

section
variable {w w' : World} {T size B : Nat} {v : Value} {rs : List (List Value)}
theorem SlN.lens (h : SlN w T size B v rs) : ∀ r ∈ rs, r.length = size := fun r hr => (h.2 r hr).1
theorem SlN.form (h : SlN w T size B v rs) : ∃ s : Sv, v = .slice s.a s.n s.c ∧ s.n = rs.length := by
  obtain ⟨a, c, e⟩ := h.1.form
  exact ⟨⟨a, rs.length, c⟩, e, rfl⟩
theorem SlN.lt (h : SlN w T size B v rs) : ∀ k, v.ownBlock = some k → B ≤ k ∧ k < w.heap.size := h.1.lt
theorem SlN.keep (h : SlN w T size B v rs) (hk : ∀ k, v.ownBlock = some k → k < w.heap.size → w'.heap[k]? = w.heap[k]?) : SlN w' T size B v rs := ⟨h.1.keep hk, h.2⟩
theorem SlN.below (h : SlN w T size B v rs) (hb : Below w.heap.size w w') : SlN w' T size B v rs := ⟨h.1.below hb, h.2⟩
theorem SlN.down {B' : Nat} (h : SlN w T size B v rs) (hB : B' ≤ B) : SlN w T size B' v rs := ⟨h.1.down hB, h.2⟩
theorem SlN.nil (w : World) (T size B : Nat) : SlN w T size B (.slice none 0 0) [] := ⟨Sl.zero w T size B, fun r hr => by cases hr⟩
theorem SlN.made (w : World) (T size B : Nat) (hb : B ≤ w.heap.size) : SlN (w.alloc (.cells #[] T)) T size B (.slice (some ⟨w.heap.size, 0, none⟩) 0 0) [] := ⟨Sl.made w T size B hb, fun r hr => by cases hr⟩
theorem SlN.one (w : World) (T size B : Nat) (r : List Value) (hr : r.length = size) (h1 : r.all (·.oneCell') = true) (hb : B ≤ w.heap.size) : SlN (w.alloc (.cells r.toArray T)) T size B (.slice (some ⟨w.heap.size, 0, none⟩) 1 1) [r] :=
  ⟨⟨by simp [hr], .inr ⟨w.heap.size, 0, 1, r.toArray, rfl, hb, heap_alloc_new w _, Nat.le_refl _, by unfold maxLen; omega, by simp [hr], fun j hj => by simp⟩⟩, fun x hx => by simp at hx; subst hx; exact ⟨hr, List.all_eq_true.1 h1⟩⟩
/-- the block that it lies in has elements of this type. -/
theorem SlN.blk (h : SlN w T size B v rs) {k : Nat} (hk : v.ownBlock = some k) : ∃ cs, w.heap[k]? = some (.cells cs T (0, 0)) := by
  rcases h.1.2 with ⟨rfl, _⟩ | ⟨g, off, cap, cur, rfl, _, hg, _⟩
  · cases hk
  · cases hk; exact ⟨_, hg⟩
/-- a row, as it lies there. -/
theorem SlN.read (h : SlN w T size B v rs) {i : Nat} (hi : i < rs.length) :
    ∃ g off cap, v = .slice (some ⟨g, off, none⟩) rs.length cap ∧ B ≤ g ∧ g < w.heap.size ∧ w.rangeAt g (off + i * size) rs[i] := by
  obtain ⟨g, off, cap, hv, hb, hlt, hc, _⟩ := h.1.read (by omega)
  refine ⟨g, off, cap, hv, hb, hlt, fun j u hu => ?_⟩
  have hj : j < size := by rw [← h.lens _ (List.getElem_mem hi)]; exact (List.getElem?_eq_some_iff.1 hu).1
  have h2 := flat_row h.lens hi
  rw [← h2, List.getElem?_take, if_pos hj, List.getElem?_drop] at hu
  have := hc _ u hu
  rw [← Nat.add_assoc] at this
  exact this
end

section
variable {P : Program} {w : World} {ops : Array Oper} {rest : List Oper} {o : Oper} {a : Act} {Q : Exit → Act → World → Prop} {K : Act → World → Prop}
/-- a row is loaded. -/
theorem wpList_ldN (hw : Region.wanted o (yielded ops a.tmps) = true) (ty : TypeId) (x : Operand) (ho : o.op = .load ty x) (g off : Nat) (hx : a.eval x = .pointer (some ⟨g, off, none⟩)) (cs : List Value) (hr : w.rangeAt g off cs)
    (d : TypeDesc) (hu : P.underlying ty = some d) (hd : d.isRow = true) (hi : (P.info? ty).map (·.size) = some cs.length)
    (h : wpList P ops Q rest (a.put o.dst (.agg cs.toArray)) w) : wpList P ops Q (o :: rest) a w :=
  wpList_step fun K hK => by
    rw [if_pos hw]
    exact wp_load_mid ty x ho g off hx cs d hr hu hd hi (hK _ _ h)
/-- a row is set. -/
theorem SlN.stored {T size B : Nat} {g off cap i : Nat} {rs : List (List Value)} (h : SlN w T size B (.slice (some ⟨g, off, none⟩) rs.length cap) rs) (hi : i < rs.length) (r : List Value) (hr : r.length = size) (h1 : ∀ u ∈ r, u.oneCell' = true) :
    w.there g (off + i * size) r.length ∧ SlN (w.setCells g (off + i * size) r) T size B (.slice (some ⟨g, off, none⟩) rs.length cap) (rs.set i r) ∧ TurnAt g w (w.setCells g (off + i * size) r) := by
  rcases h.1.2 with ⟨hv, _⟩ | ⟨g', off', cap', cur, hv, hb, hg, hc, hm, hs, ht⟩
  · simp at hv
  simp at hv
  obtain ⟨⟨rfl, rfl⟩, rfl⟩ := hv
  have hle : i * size + size ≤ rs.length * size := by
    have : (i + 1) * size ≤ rs.length * size := Nat.mul_le_mul_right _ hi
    rw [Nat.add_mul] at this; omega
  have hcs : rs.length * size ≤ cap * size := Nat.mul_le_mul_right _ hc
  have hin : off + i * size + r.length ≤ cur.size := by omega
  refine ⟨fun j hj => ⟨?_, frozen_of_row w g _ _ T hg⟩, ⟨?_, fun x hx => ?_⟩, setCells_turn r w g _⟩
  · rw [cell_of_row w g _ _ T (0, 0) hg, Array.getElem?_eq_getElem (by omega)]; rfl
  · obtain ⟨cur', q1, q2, q3, q4⟩ := setCells_heap r w g (off + i * size) cur T hg hin
    have hbx : Bx w g T cur.toList := by unfold Bx; simpa using hg
    have hbx2 := setCells_list r w g (off + i * size) T cur.toList hbx (by simpa using hin)
    have he : cur' = (cur.toList.take (off + i * size) ++ r ++ cur.toList.drop (off + i * size + r.length)).toArray := by
      unfold Bx at hbx2
      rw [q1] at hbx2
      simpa using hbx2
    have hfl : (rs.set i r).flatten = rs.flatten.take (i * size) ++ r ++ rs.flatten.drop (i * size + r.length) := (flat_set h.lens hi r hr).symm
    refine ⟨by rw [flat_len (s := size)]; intro x hx; rcases List.mem_or_eq_of_mem_set hx with hx | rfl; exact h.lens x hx; exact hr, .inr ⟨g, off, cap, cur', by simp, hb, q1, by simpa using hc, hm, by omega, fun j hj => ?_⟩⟩
    rw [List.length_set] at hj
    have hfr : rs.flatten.length = rs.length * size := flat_len h.lens
    by_cases hj1 : j < i * size
    · rw [q3 _ (by omega), ht j hj, hfl, List.append_assoc, List.getElem?_append_left (by rw [List.length_take]; omega), List.getElem?_take, if_pos hj1]
    · by_cases hj2 : j < i * size + r.length
      · have h5 := q4 (j - i * size) (by omega)
        rw [show off + i * size + (j - i * size) = off + j by omega] at h5
        rw [h5, hfl, List.append_assoc, List.getElem?_append_right (by rw [List.length_take]; omega), List.getElem?_append_left (by rw [List.length_take]; omega), List.length_take]
        congr 1; omega
      · have h6 : cur'[off + j]? = cur[off + j]? := by
          rw [he]
          simp only [List.getElem?_toArray]
          rw [List.getElem?_append_right (by simp [List.length_take]; omega), List.getElem?_drop, ← Array.getElem?_toList]
          congr 1
          simp [List.length_take]; omega
        rw [h6, ht j hj, hfl, List.append_assoc, List.getElem?_append_right (by rw [List.length_take]; omega), List.getElem?_append_right (by rw [List.length_take]; omega), List.getElem?_drop, List.length_take]
        congr 1; omega
  · rcases List.mem_or_eq_of_mem_set hx with hx | rfl
    · exact h.2 x hx
    · exact ⟨hr, h1⟩
theorem wpList_stN {T size B : Nat} (hgd : o.guard = none) (ty : TypeId) (x y : Operand) (ho : o.op = .store ty x y) {g off cap i : Nat} {rs : List (List Value)} (hown : SlN w T size B (.slice (some ⟨g, off, none⟩) rs.length cap) rs) (hi : i < rs.length)
    (hx : a.eval x = .pointer (some ⟨g, off + i * size, none⟩)) (r : List Value) (hy : a.eval y = .agg r.toArray) (hr : r.length = size) (h1 : r.all (·.oneCell') = true) (hinf : (P.info? ty).map (·.size) = some r.length)
    (h : ∀ w', SlN w' T size B (.slice (some ⟨g, off, none⟩) rs.length cap) (rs.set i r) → TurnAt g w w' → wpList P ops Q rest (a.put o.dst undef) w') : wpList P ops Q (o :: rest) a w := by
  obtain ⟨h2, h3, h4⟩ := hown.stored hi r hr (List.all_eq_true.1 h1)
  refine wpList_store_mid hgd ty x y ho g (off + i * size) r.toArray hx hy (by simpa using h2) (by simpa using hinf) (all_oneCell_toArray (List.all_eq_true.1 h1)) ?_
  exact h _ (by simpa using h3) (by simpa using h4)
end
end Go.Proofs.Ytdodeillifoibaa


/- Members measured. -/
namespace Go.Proofs.Ytdodeillifoibaa
open Go.RowKit Pl
set_option linter.unusedVariables false
set_option linter.unusedSimpArgs false

/-- what is left of a budget, or nothing. -/
def Left (L n : Nat) (e : Ending) : Prop := e = .returned (.int .i64 (-1)) ∨ ∃ z : Nat, e = .returned (.int .i64 z) ∧ z + n = L

set_option maxRecDepth 100000 in
set_option maxHeartbeats 1000000 in
theorem szI_left (ao : Option Addr) (n cap L : Nat) (w : World) (hL : L ≤ 1048576) (hn : n ≤ 9223372036854775807) :
    Calls Try.prog 52 #[.slice ao n cap, .int .i64 L] w fun e w' => Left L n e ∧ w' = w := by
  by_cases h : L < n
  · have hd : decide ((L : Int) - (n : Int) < 0) = true := by simp; omega
    go_enter Try.func52, Try.ntmps52
    go_wp2
    go_ret
    exact ⟨.inl rfl, rfl⟩
  · have hd : decide ((L : Int) - (n : Int) < 0) = false := by simp; omega
    go_enter Try.func52, Try.ntmps52
    go_wp2
    go_ret
    exact ⟨.inr ⟨L - n, by rw [show ((L - n : Nat) : Int) = (L : Int) - (n : Int) by omega]; rfl, by omega⟩, rfl⟩

set_option maxRecDepth 100000 in
set_option maxHeartbeats 1000000 in
theorem szRing_left (i : Int) (ao : Option Addr) (n cap L : Nat) (w : World) (hL : L ≤ 1048576) (hn : n ≤ 9223372036854775807) :
    Calls Try.prog 50 #[.agg #[.int .i64 i, .slice ao n cap], .int .i64 L] w fun e w' => Left L n e ∧ Below w.heap.size w w' := by
  go_enter Try.func50, Try.ntmps50
  go_wp2_with fail
  refine (szI_left ao n cap L _ hL hn).mono ?_
  rintro e w1 ⟨hl, rfl⟩
  rcases hl with rfl | ⟨z, rfl, hz⟩
  · go_wp2_with fail
    go_ret
    exact ⟨.inl rfl, (Below.refl _ _).alloc (Nat.le_refl _) _⟩
  · have HZ : Hid (z + n = L) := hz
    have hd : decide ((z : Int) < 0) = false := by simp
    clear hz
    go_wp2_with fail
    go_ret
    exact ⟨.inr ⟨z, rfl, HZ.out⟩, (Below.refl _ _).alloc (Nat.le_refl _) _⟩

theorem RI.len {w : World} {s : Sv} {xs : List Int} (h : RI w s.v xs) : s.n = xs.length := by
  obtain ⟨ao, cap, h1, _⟩ := h; unfold Sv.v at h1; simp at h1; exact h1.2.1
theorem RT.len {w : World} {s : Sv} {xs : List ByteArray} (h : RT w s.v xs) : s.n = xs.length := by
  obtain ⟨ao, cap, h1, _⟩ := h; unfold Sv.v at h1; simp at h1; exact h1.2.1
theorem RIt.len {w : World} {s : Sv} {xs : List It} (h : RIt w s.v xs) : s.n = xs.length := by
  obtain ⟨ao, cap, h1, _⟩ := h; unfold Sv.v at h1; simp at h1; exact h1.2.1
/-- a member's lists are no longer than can be. -/
structure MtL (m : Mt) : Prop where
  ms : m.ms.length ≤ 9223372036854775807
  its : m.its.length ≤ 9223372036854775807
  lv : m.lv.length ≤ 9223372036854775807
  tx : m.tx.length ≤ 9223372036854775807
  ws : m.la.ws.length ≤ 9223372036854775807
  it : ∀ x ∈ m.its, x.2.2.2.size ≤ 9223372036854775807
  te : ∀ x ∈ m.tx, x.size ≤ 9223372036854775807
/-- what is left when a member has been measured. -/
def LeftM (m : Mt) (e : Ending) : Prop := e = .returned (.int .i64 (-1)) ∨ ∃ z : Nat, e = .returned (.int .i64 z) ∧ MtS m ∧ z ≤ 1048576

end Go.Proofs.Ytdodeillifoibaa


/- Members copied: the walk over the specification's l10Copy. Written by gen_cp.py. -/
namespace Go.Proofs.Ytdodeillifoibaa
open Go.RowKit Pl
set_option linter.unusedVariables false
set_option linter.unusedSimpArgs false

/-- a member's lists lie there, whoever made them. -/
structure MtP (w : World) (m : Mt) (v : Mv) : Prop where
  ms : OwnI w 0 v.ms.v m.ms
  its : SlI w 0 v.its.v m.its
  lv : OwnI w 0 v.lv.v m.lv
  tx : OwnS w 0 v.tx.v m.tx
  ws : OwnI w 0 v.ws.v m.la.ws
theorem MtP.r {w : World} {m : Mt} {v : Mv} (h : MtP w m v) : MtR w m v := ⟨h.ms.ri, h.its.rit, h.lv.ri, h.tx.rt, h.ws.ri⟩
theorem MtP.keep {w w' : World} {m : Mt} {v : Mv} (h : MtP w m v) (hk : ∀ k, v.own k → k < w.heap.size → w'.heap[k]? = w.heap[k]?) : MtP w' m v :=
  ⟨h.ms.keep fun k a b => hk k (.inl a) b, h.its.keep fun k a b => hk k (.inr (.inl a)) b, h.lv.keep fun k a b => hk k (.inr (.inr (.inl a))) b, h.tx.keep' fun k a b => hk k (.inr (.inr (.inr (.inl a)))) b, h.ws.keep fun k a b => hk k (.inr (.inr (.inr (.inr a)))) b⟩
theorem MtP.later {w w' : World} {m : Mt} {v : Mv} (h : MtP w m v) (hb : Below w.heap.size w w') : MtP w' m v := h.keep fun k _ hk => hb.block k hk
theorem Pl.OwnI.sv {w : World} {B : Nat} {v : Value} {xs : List Int} (h : OwnI w B v xs) : ∃ s : Sv, v = .slice s.a s.n s.c := by obtain ⟨a, c, h1⟩ := h.form; exact ⟨⟨a, xs.length, c⟩, h1⟩
theorem Pl.OwnS.sv {w : World} {B : Nat} {v : Value} {xs : List ByteArray} (h : OwnS w B v xs) : ∃ s : Sv, v = .slice s.a s.n s.c := by obtain ⟨a, c, h1⟩ := h.form; exact ⟨⟨a, xs.length, c⟩, h1⟩
theorem SlI.sv {w : World} {B : Nat} {v : Value} {xs : List It} (h : SlI w B v xs) : ∃ s : Sv, v = .slice s.a s.n s.c := by obtain ⟨a, c, h1⟩ := Sl.form h; exact ⟨⟨a, xs.length, c⟩, h1⟩
end Go.Proofs.Ytdodeillifoibaa


/- A ring at work, in plain words, and where it lies. -/
namespace Go.Proofs.Ytdodeillifoibaa
open Go.RowKit Pl
set_option linter.unusedVariables false

/-- what is on the way. -/
structure Fl where
  to : Int
  tk : Bool
  t : Tok
  x : It
/-- cells of a member, of what is on the way, of a list of lists. -/
def mcel (e : Mt × Mv) : List Value := [.int .i64 e.1.id, .int .i64 e.1.rid, .slice e.2.ms.a e.2.ms.n e.2.ms.c, .slice e.2.its.a e.2.its.n e.2.its.c, .slice e.2.lv.a e.2.lv.n e.2.lv.c, .slice e.2.tx.a e.2.tx.n e.2.tx.c, .int .i64 e.1.rd, .int .i64 e.1.se, .int .i64 e.1.li, .int .i64 e.1.he, .int .i64 e.1.la.c, .int .i64 e.1.la.r, .int .i64 e.1.la.q, .int .i64 e.1.la.a, .int .i64 e.1.la.b, .slice e.2.ws.a e.2.ws.n e.2.ws.c]
def fcel (e : Fl × Sv) : List Value := [.int .i64 e.1.to, .bool e.1.tk, .int .i64 e.1.t.c, .int .i64 e.1.t.r, .int .i64 e.1.t.q, .int .i64 e.1.t.a, .int .i64 e.1.t.b, .slice e.2.a e.2.n e.2.c, .int .i64 e.1.x.1, .int .i64 e.1.x.2.1, .int .i64 e.1.x.2.2.1, .string e.1.x.2.2.2]
def hcel (e : List It × Sv) : List Value := [.slice e.2.a e.2.n e.2.c]
/-- lists of members, of what is on the way, of lists of items, that lie there. -/
def MsP (w : World) (B : Nat) (v : Value) (es : List (Mt × Mv)) : Prop := SlN w 74 16 B v (es.map mcel) ∧ ∀ e ∈ es, MtP w e.1 e.2
def HsP (w : World) (B : Nat) (v : Value) (es : List (List It × Sv)) : Prop := SlN w 24 1 B v (es.map hcel) ∧ ∀ e ∈ es, SlI w 0 e.2.v e.1
/-- a ring at work: its ring, its members, what is on the way, what was heard and said, and the slices. -/
structure Wv where
  rid : Int
  ms : List Int
  mv : Sv
  ma : List (Mt × Mv)
  mav : Sv
  fl : List (Fl × Sv)
  flv : Sv
  he : List (List It × Sv)
  hev : Sv
  sa : List It
  sav : Sv
def Wv.cells (k : Wv) : List Value := [.int .i64 k.rid, .slice k.mv.a k.mv.n k.mv.c, .slice k.mav.a k.mav.n k.mav.c, .slice k.flv.a k.flv.n k.flv.c, .slice k.hev.a k.hev.n k.hev.c, .slice k.sav.a k.sav.n k.sav.c]
section
variable {w w' : World} {B : Nat} {v : Value}
theorem MsP.below {es : List (Mt × Mv)} (h : MsP w B v es) (hb : Below w.heap.size w w') : MsP w' B v es := ⟨h.1.below hb, fun e he => (h.2 e he).later hb⟩
theorem HsP.below {es : List (List It × Sv)} (h : HsP w B v es) (hb : Below w.heap.size w w') : HsP w' B v es := ⟨h.1.below hb, fun e he => (h.2 e he).below hb⟩
theorem MsP.down {B' : Nat} {es : List (Mt × Mv)} (h : MsP w B v es) (hB : B' ≤ B) : MsP w B' v es := ⟨h.1.down hB, h.2⟩
theorem HsP.down {B' : Nat} {es : List (List It × Sv)} (h : HsP w B v es) (hB : B' ≤ B) : HsP w B' v es := ⟨h.1.down hB, h.2⟩
end
end Go.Proofs.Ytdodeillifoibaa


/- Blocks of other types stay. -/
namespace Go.Proofs.Ytdodeillifoibaa
open Go.RowKit Pl
set_option linter.unusedVariables false

/-- blocks whose elements are of none of these types stay as they are. -/
structure KeepTy (S : Nat → Prop) (w w' : World) : Prop where
  os : w'.os = w.os
  tape : w'.tape = w.tape
  output : w'.output = w.output
  size : w.heap.size ≤ w'.heap.size
  block : ∀ k, k < w.heap.size → (∀ cs T z, w.heap[k]? = some (.cells cs T z) → ¬ S T) → w'.heap[k]? = w.heap[k]?
section
variable {S : Nat → Prop} {w w' w'' : World}
theorem KeepTy.refl (S : Nat → Prop) (w : World) : KeepTy S w w := ⟨rfl, rfl, rfl, Nat.le_refl _, fun _ _ _ => rfl⟩
theorem KeepTy.trans (h : KeepTy S w w') (k : KeepTy S w' w'') : KeepTy S w w'' :=
  ⟨k.os.trans h.os, k.tape.trans h.tape, k.output.trans h.output, Nat.le_trans h.size k.size, fun b hb ht => by
    have h1 := h.block b hb ht
    exact (k.block b (Nat.lt_of_lt_of_le hb h.size) (fun cs T z hc => ht cs T z (h1 ▸ hc))).trans h1⟩
theorem KeepTy.ofGrown {row : Option Nat} (h : w.grownBy w' row) (hT : ∀ k, row = some k → ∃ cs T z, w.heap[k]? = some (.cells cs T z) ∧ S T) : KeepTy S w w' :=
  ⟨h.os, h.tape, h.output, h.size, fun k hk ht => h.block k hk fun e => by
    obtain ⟨cs, T, z, h1, h2⟩ := hT k e.symm
    exact ht cs T z h1 h2⟩
end
end Go.Proofs.Ytdodeillifoibaa


/- Texts copied: the walk over copyOfTexts. -/
namespace Go.Proofs.Ytdodeillifoibaa
open Go.RowKit Pl
set_option linter.unusedVariables false
end Go.Proofs.Ytdodeillifoibaa


/- A new member: the walks over isMember, copyOfRing and both MateNew. -/
namespace Go.Proofs.Ytdodeillifoibaa
open Go.RowKit Pl
set_option linter.unusedVariables false
end Go.Proofs.Ytdodeillifoibaa


/- A member at work: the walks over memberOf and mate. Written by gen_mb.py. -/
namespace Go.Proofs.Ytdodeillifoibaa
open Go.RowKit Pl
set_option linter.unusedVariables false
set_option linter.unusedSimpArgs false
end Go.Proofs.Ytdodeillifoibaa


/- What a member has to say, and whether it is right: small walks. -/
namespace Go.Proofs.Ytdodeillifoibaa
open Go.RowKit Pl
set_option linter.unusedVariables false
set_option linter.unusedSimpArgs false

/-- whether texts are short. -/
def fitB (ts : List ByteArray) : Bool := ts.all fun t => decide (t.size ≤ 60)
/-- whether a number is a level. -/
def lvB (l : Int) : Bool := decide (1 ≤ l ∧ l ≤ 2)
def lvsB (lv : List Int) : Bool := lv.all lvB
/-- whether it may stand there to be said. -/
def sayB (lv : List Int) (tx : List ByteArray) : Bool := decide (tx.length ≤ 20) && (decide (lv.length = tx.length) && (lvsB lv && fitB tx))

end Go.Proofs.Ytdodeillifoibaa


/- Tokens of which all is zero; what a member has to say, by the specification. Written by gen_mp.py. -/
namespace Go.Proofs.Ytdodeillifoibaa
open Go.RowKit Pl
set_option linter.unusedVariables false
set_option linter.unusedSimpArgs false

/-- whether all of a token is zero. -/
def ntB (c r q a b : Int) (ws : List Int) : Bool := (c == 0) && ((r == 0) && ((q == 0) && ((a == 0) && ((b == 0) && ((ws.length : Int) == 0)))))

/-- the first k of them may be said. -/
def SaySt (lv : List Int) (tx : List ByteArray) (k : Nat) : Prop := (∀ t ∈ tx.take k, t.size ≤ 60) ∧ ∀ l ∈ lv.take k, lvB l = true
end Go.Proofs.Ytdodeillifoibaa


/- Whether a member is right: the walks over both MateOk. Written by gen_mok.py. -/
namespace Go.Proofs.Ytdodeillifoibaa
open Go.RowKit Pl
set_option linter.unusedVariables false
set_option linter.unusedSimpArgs false

/-- whether a member is right. -/
def Mt.ok (m : Mt) : Bool := ringB m.rid m.ms && (inB m.ms m.id && (iGo 0 m.its && (sayB m.lv m.tx && (decide (0 ≤ m.rd ∧ m.rd ≤ 1000000000) && (decide (0 ≤ m.se ∧ m.se ≤ 60) && (decide (0 ≤ m.li ∧ m.li ≤ ((aruP m.its : Nat) : Int)) && (decide (0 ≤ m.he ∧ m.he ≤ ((aruP m.its : Nat) : Int)) && (ntB m.la.c m.la.r m.la.q m.la.a m.la.b m.la.ws || tkB m.la.c m.la.r m.la.q m.la.a m.la.b m.la.ws))))))))

end Go.Proofs.Ytdodeillifoibaa


/- Members copied by a law. Written by gen_tm.py. -/
namespace Go.Proofs.Ytdodeillifoibaa
open Go.RowKit Pl
set_option linter.unusedVariables false
set_option linter.unusedSimpArgs false

theorem toRing_r (i : Int) (s : Sv) (ms : List Int) (w : World) (h : Hid (RI w s.v ms)) (hl : ms.length ≤ 1048576) :
    Calls Try.prog 53 #[.agg #[.int .i64 i, .slice s.a s.n s.c]] w fun e w' => ∃ u : Sv, e = .returned (.agg #[.int .i64 i, .slice u.a u.n u.c]) ∧ OwnI w' w.heap.size u.v ms ∧ Below w.heap.size w w' := by
  obtain ⟨ao, cap, h1, h2⟩ := h.out; unfold Sv.v at h1; rw [h1]
  refine (toRing_any i ao cap ms w h2 hl).mono fun e w' ⟨v, a, b, c⟩ => ?_
  obtain ⟨ao', cap', rfl⟩ := b.form
  exact ⟨⟨ao', ms.length, cap'⟩, a, b, c⟩
theorem toI_r (s : Sv) (ms : List Int) (w : World) (h : Hid (RI w s.v ms)) (hl : ms.length ≤ 1048576) :
    Calls Try.prog 55 #[.slice s.a s.n s.c] w fun e w' => ∃ u : Sv, e = .returned (.slice u.a u.n u.c) ∧ OwnI w' w.heap.size u.v ms ∧ Below w.heap.size w w' := by
  obtain ⟨ao, cap, h1, h2⟩ := h.out; unfold Sv.v at h1; rw [h1]
  refine (toI_any w ao cap ms h2 hl).mono fun e w' ⟨v, a, b, c⟩ => ?_
  obtain ⟨ao', cap', rfl⟩ := b.form
  exact ⟨⟨ao', ms.length, cap'⟩, a, b, c⟩
end Go.Proofs.Ytdodeillifoibaa


/- Members compared, marked and looked at again. Written by gen_em.py. -/
namespace Go.Proofs.Ytdodeillifoibaa
open Go.RowKit Pl
set_option linter.unusedVariables false
set_option linter.unusedSimpArgs false

/-- a member whose lists are marks. -/
def markM (K : Nat) (m : Mt) : Mt :=
  ⟨m.id, m.rid, marks K m.ms.length, mkI (K + m.ms.length) m.its.length, marks (K + m.ms.length + 4 * m.its.length) m.lv.length, mkT (K + m.ms.length + 4 * m.its.length + m.lv.length) m.tx.length, m.rd, m.se, m.li, m.he,
    ⟨m.la.c, m.la.r, m.la.q, m.la.a, m.la.b, marks (K + m.ms.length + 4 * m.its.length + m.lv.length + m.tx.length) m.la.ws.length⟩⟩
def endM (K : Nat) (m : Mt) : Nat := K + m.ms.length + 4 * m.its.length + m.lv.length + m.tx.length + m.la.ws.length

end Go.Proofs.Ytdodeillifoibaa


