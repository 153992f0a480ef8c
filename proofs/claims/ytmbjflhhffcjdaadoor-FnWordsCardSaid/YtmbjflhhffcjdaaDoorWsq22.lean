/- Joined texts: CWr CWt CSm CPb CWl CCp CWk CKt CCt1 CMn CMb CMo CMp CMq1 CTm CSst. -/
import Derived.Test.YtmbjflhhffcjdaaDoorWsq11
import Derived.Test.YtmbjflhhffcjdaaDoorWsq8
import Derived.Test.YtmbjflhhffcjdaaDoorWsq5
import Derived.Test.YtmbjflhhffcjdaaDoorWsq21
import Derived.Test.YtmbjflhhffcjdaaDoorWsq7
import Derived.Laws.MakeOwn
import Derived.BigQuiet
import Derived.Deep.QuietTactic
/- Contracts over lists that are read; what is appended is read. -/
namespace Go.Proofs.YtmbjflhhffcjdaaDoor
open Go.RowKit Pl
set_option linter.unusedVariables false

theorem same_below {w w' : World} (h : w' = w) : Below w.heap.size w w' := by subst h; exact Below.refl _ _
section
variable {w : World} {v : Value}
theorem within_b (n a b : Int) (w : World) : Calls Tryd.prog 68 #[.int .i64 n, .int .i64 a, .int .i64 b] w fun e w' => e = .returned (.bool (decide (a ≤ n ∧ n ≤ b))) ∧ Below w.heap.size w w' := (within_any n a b w).mono fun e w' ⟨x, y⟩ => ⟨x, same_below y⟩
end

end Go.Proofs.YtmbjflhhffcjdaaDoor


/- What is appended is read: texts and items. -/
namespace Go.Proofs.YtmbjflhhffcjdaaDoor
open Go.RowKit Pl
set_option linter.unusedVariables false

end Go.Proofs.YtmbjflhhffcjdaaDoor


/- Members measured. -/
namespace Go.Proofs.YtmbjflhhffcjdaaDoor
open Go.RowKit Pl
set_option linter.unusedVariables false
set_option linter.unusedSimpArgs false

/-- what is left of a budget, or nothing. -/
def Left (L n : Nat) (e : Ending) : Prop := e = .returned (.int .i64 (-1)) ∨ ∃ z : Nat, e = .returned (.int .i64 z) ∧ z + n = L

theorem RI.len {w : World} {s : Sv} {xs : List Int} (h : RI w s.v xs) : s.n = xs.length := by
  obtain ⟨ao, cap, h1, _⟩ := h; unfold Sv.v at h1; simp at h1; exact h1.2.1
theorem RT.len {w : World} {s : Sv} {xs : List ByteArray} (h : RT w s.v xs) : s.n = xs.length := by
  obtain ⟨ao, cap, h1, _⟩ := h; unfold Sv.v at h1; simp at h1; exact h1.2.1
theorem RIt.len {w : World} {s : Sv} {xs : List It} (h : RIt w s.v xs) : s.n = xs.length := by
  obtain ⟨ao, cap, h1, _⟩ := h; unfold Sv.v at h1; simp at h1; exact h1.2.1
/-- a member's lists are no longer than can be. -/
structure MtL (m : Mt) : Prop where
  ms : m.ms.length ≤ 9223372036854775807
  its : m.its.length ≤ 9223372036854775807
  lv : m.lv.length ≤ 9223372036854775807
  tx : m.tx.length ≤ 9223372036854775807
  ws : m.la.ws.length ≤ 9223372036854775807
  it : ∀ x ∈ m.its, x.2.2.2.size ≤ 9223372036854775807
  te : ∀ x ∈ m.tx, x.size ≤ 9223372036854775807
/-- what is left when a member has been measured. -/
def LeftM (m : Mt) (e : Ending) : Prop := e = .returned (.int .i64 (-1)) ∨ ∃ z : Nat, e = .returned (.int .i64 z) ∧ MtS m ∧ z ≤ 1048576

end Go.Proofs.YtmbjflhhffcjdaaDoor


/- One element put behind a slice of the call's own, and which block it lies in then. No function of the program is named here. -/
namespace Go.Proofs.YtmbjflhhffcjdaaDoor
open Go.RowKit Pl
set_option linter.unusedVariables false

section
variable {P : Program} {w : World}
theorem run_append_blk (base : Nat) (t ty e : TypeId) (i : TypeInfo) (z : Value) (size bytes : Nat) (ht : P.underlying t = some (.slice e)) (hi : P.info? e = some i) (hz : i.zero = some z)
    (hsize : i.size = size) (hby : i.bytes = bytes) (hzs : z.cells.size = size) (hsz : 0 < size)
    (v : Value) (n : Nat) (xs : List Value) (hown : w.ownsRow base e size v n xs)
    (a : Addr) (m c : Nat) (news : List Value) (hl : news.length = m * size) (hnews : ∀ j u, news[j]? = some u → w.cell? (a.add j) = some u) (h1 : ∀ u ∈ news, u.oneCell' = true)
    (h63 : n + m ≤ maxLen) (hbytes : (n + m) * bytes ≤ 140737488355328) (hbase : base ≤ w.heap.size) :
    ∃ v' w', (Builtin.append_ #[t, t] ty #[v, .slice (some a) m c]).run P w = .ok v' w' ∧ w'.ownsRow base e size v' (n + m) (xs ++ news) ∧ w.grownBy w' v.ownBlock ∧ (v'.ownBlock = v.ownBlock ∨ v'.ownBlock = some w.heap.size) := by
  obtain ⟨v', w', hr, h2, h3, _⟩ := run_append_own (P := P) w base t ty e i z size bytes ht hi hz hsize hby hzs hsz v n xs hown a m c news hl hnews h1 h63 hbytes hbase
  obtain ⟨v2, w2, hr2, _, _, h4⟩ := run_appendS (P := P) t t ty i z bytes ht hi hz hsize hby hzs (Sl.ofOwn hown) (.slice (some a) m c) m news (Src.ofSlice _ ht a m c news hl hnews h1) h63 hbytes hbase
  rw [hr] at hr2
  cases hr2
  exact ⟨v', w', hr, h2, h3, h4⟩
end

section
variable {P : Program} {w : World} {ops : Array Oper} {rest : List Oper} {o : Oper} {a : Act} {Q : Exit → Act → World → Prop} {K : Act → World → Prop}
theorem wp_pushSb (s x : Operand) (t : TypeId) (ho : o.op = .call { callee := .builtin .append, args := #[s, x], argTypes := #[t, t] })
    (ht : P.underlying t = some (.slice 9)) (hinfo : (P.info? 9).map (fun i => (i.zero, i.size, i.bytes)) = some (some (.string ⟨#[]⟩), 1, 16))
    (B : Nat) (v : Value) (xs : List ByteArray) (hs : a.eval s = v) (hown : OwnS w B v xs) (b : ByteArray)
    (hx : a.eval x = .slice (some ⟨w.heap.size, 0, none⟩) 1 1) (hn : xs.length < 4000000) (hB : B ≤ w.heap.size)
    (h : ∀ v' w', OwnS w' B v' (xs ++ [b]) → (w.alloc (.cells #[.string b] 9)).grownBy w' v.ownBlock → (v'.ownBlock = v.ownBlock ∨ v'.ownBlock = some (w.heap.size + 1)) → K (a.put o.dst v') w') :
    o.wp P a (w.alloc (.cells #[.string b] 9)) K Q := by
  obtain ⟨i0, hi, hz0, hz1, hz2⟩ := info_parts hinfo
  obtain ⟨v', w', hr, h2, h3, h4⟩ := run_append_blk (P := P) B t o.type 9 i0 (.string ⟨#[]⟩) 1 16 ht hi hz0 hz1 hz2 rfl (by decide) v xs.length (xs.map Value.string) (World.ownsRow.alloc hown (.cells #[.string b] 9)) ⟨w.heap.size, 0, none⟩ 1 1 [.string b] rfl (by
    intro j u hj
    match j, hj with
    | 0, hj => simp at hj; subst hj; simp [Addr.add]) (by intro u hu; simp at hu; subst hu; rfl) (by unfold maxLen; omega) (by omega) (by simp; omega)
  unfold Oper.wp execOp
  simp only [ho, resolve, invoke, builtin, Sem.run_bind, Sem.run_pure, Result.andThen_ok, List.map_toArray, List.map_cons, List.map_nil, hs, hx, hr]
  exact h v' w' (by simpa [OwnS] using h2) h3 (by simpa using h4)
end
end Go.Proofs.YtmbjflhhffcjdaaDoor


/- Lists of structs of any size, their cells row by row: read, put behind, joined, set. No function of the program is named here. -/
namespace Go.Proofs.YtmbjflhhffcjdaaDoor
open Go.RowKit Pl
set_option linter.unusedVariables false

/-- the slice v holds these rows, each of so many cells. -/
def SlN (w : World) (T size B : Nat) (v : Value) (rs : List (List Value)) : Prop := Sl w T size B v rs.length rs.flatten ∧ ∀ r ∈ rs, r.length = size ∧ ∀ u ∈ r, u.oneCell' = true

theorem flat_len {s : Nat} : ∀ {rs : List (List Value)}, (∀ r ∈ rs, r.length = s) → rs.flatten.length = rs.length * s := by
  intro rs
  induction rs with
  | nil => intro _; simp
  | cons r rs ih =>
    intro h
    rw [List.flatten_cons, List.length_append, List.length_cons, ih fun r hr => h r (List.mem_cons_of_mem _ hr), h r (List.mem_cons_self ..), Nat.add_mul]
    omega
theorem flat_drop {s : Nat} : ∀ {rs : List (List Value)} (k : Nat), (∀ r ∈ rs, r.length = s) → rs.flatten.drop (k * s) = (rs.drop k).flatten := by
  intro rs
  induction rs with
  | nil => intro k _; simp
  | cons r rs ih =>
    intro k h
    cases k with
    | zero => simp
    | succ k =>
      have hr := h r (List.mem_cons_self ..)
      rw [List.flatten_cons, List.drop_succ_cons, ← ih k fun r hr => h r (List.mem_cons_of_mem _ hr), Nat.add_mul, List.drop_append, List.drop_eq_nil_of_le (by omega), List.nil_append]
      congr 1; omega
theorem flat_take {s : Nat} : ∀ {rs : List (List Value)} (k : Nat), (∀ r ∈ rs, r.length = s) → rs.flatten.take (k * s) = (rs.take k).flatten := by
  intro rs
  induction rs with
  | nil => intro k _; simp
  | cons r rs ih =>
    intro k h
    cases k with
    | zero => simp
    | succ k =>
      have hr := h r (List.mem_cons_self ..)
      rw [List.flatten_cons, List.take_succ_cons, List.flatten_cons, ← ih k fun r hr => h r (List.mem_cons_of_mem _ hr), Nat.add_mul, List.take_append, List.take_of_length_le (by omega)]
      congr 2; omega
theorem flat_row {s : Nat} {rs : List (List Value)} (h : ∀ r ∈ rs, r.length = s) {i : Nat} (hi : i < rs.length) : (rs.flatten.drop (i * s)).take s = rs[i] := by
  rw [flat_drop i h, List.drop_eq_getElem_cons hi, List.flatten_cons, List.take_append, List.take_of_length_le (by rw [h _ (List.getElem_mem hi)]; exact Nat.le_refl _), h _ (List.getElem_mem hi)]
  simp
theorem flat_set {s : Nat} {rs : List (List Value)} (h : ∀ r ∈ rs, r.length = s) {i : Nat} (hi : i < rs.length) (r : List Value) (hr : r.length = s) : rs.flatten.take (i * s) ++ r ++ rs.flatten.drop (i * s + r.length) = (rs.set i r).flatten := by
  rw [hr, show i * s + s = (i + 1) * s by rw [Nat.add_mul]; omega, flat_take i h, flat_drop (i + 1) h, List.set_eq_take_append_cons_drop, if_pos hi, List.flatten_append, List.flatten_cons]
  simp

section
variable {w w' : World} {T size B : Nat} {v : Value} {rs : List (List Value)}
theorem SlN.lens (h : SlN w T size B v rs) : ∀ r ∈ rs, r.length = size := fun r hr => (h.2 r hr).1
theorem SlN.form (h : SlN w T size B v rs) : ∃ s : Sv, v = .slice s.a s.n s.c ∧ s.n = rs.length := by
  obtain ⟨a, c, e⟩ := h.1.form
  exact ⟨⟨a, rs.length, c⟩, e, rfl⟩
theorem SlN.lt (h : SlN w T size B v rs) : ∀ k, v.ownBlock = some k → B ≤ k ∧ k < w.heap.size := h.1.lt
theorem SlN.keep (h : SlN w T size B v rs) (hk : ∀ k, v.ownBlock = some k → k < w.heap.size → w'.heap[k]? = w.heap[k]?) : SlN w' T size B v rs := ⟨h.1.keep hk, h.2⟩
theorem SlN.below (h : SlN w T size B v rs) (hb : Below w.heap.size w w') : SlN w' T size B v rs := ⟨h.1.below hb, h.2⟩
theorem SlN.down {B' : Nat} (h : SlN w T size B v rs) (hB : B' ≤ B) : SlN w T size B' v rs := ⟨h.1.down hB, h.2⟩
theorem SlN.nil (w : World) (T size B : Nat) : SlN w T size B (.slice none 0 0) [] := ⟨Sl.zero w T size B, fun r hr => by cases hr⟩
theorem SlN.made (w : World) (T size B : Nat) (hb : B ≤ w.heap.size) : SlN (w.alloc (.cells #[] T)) T size B (.slice (some ⟨w.heap.size, 0, none⟩) 0 0) [] := ⟨Sl.made w T size B hb, fun r hr => by cases hr⟩
theorem SlN.one (w : World) (T size B : Nat) (r : List Value) (hr : r.length = size) (h1 : r.all (·.oneCell') = true) (hb : B ≤ w.heap.size) : SlN (w.alloc (.cells r.toArray T)) T size B (.slice (some ⟨w.heap.size, 0, none⟩) 1 1) [r] :=
  ⟨⟨by simp [hr], .inr ⟨w.heap.size, 0, 1, r.toArray, rfl, hb, heap_alloc_new w _, Nat.le_refl _, by unfold maxLen; omega, by simp [hr], fun j hj => by simp⟩⟩, fun x hx => by simp at hx; subst hx; exact ⟨hr, List.all_eq_true.1 h1⟩⟩
/-- the block that it lies in has elements of this type. -/
theorem SlN.blk (h : SlN w T size B v rs) {k : Nat} (hk : v.ownBlock = some k) : ∃ cs, w.heap[k]? = some (.cells cs T (0, 0)) := by
  rcases h.1.2 with ⟨rfl, _⟩ | ⟨g, off, cap, cur, rfl, _, hg, _⟩
  · cases hk
  · cases hk; exact ⟨_, hg⟩
theorem SlN.box_ne {g T' : Nat} {cs : List Value} (h : SlN w T size B v rs) (hB : Bx w g T' cs) (hT : T' ≠ T) : ∀ k, v.ownBlock = some k → k ≠ g := fun k hk he => by
  subst he
  obtain ⟨c, hc⟩ := h.blk hk
  unfold Bx at hB
  rw [hc] at hB
  simp at hB
  exact hT hB.2.symm
theorem SlN.keepb {g T' : Nat} {cs : List Value} (h : SlN w T size B v rs) (hB : Bx w g T' cs) (hk : KeepBut g w w') (hT : T' ≠ T) : SlN w' T size B v rs :=
  h.keep fun k hb hlt => hk.block k hlt (h.box_ne hB hT k hb)
/-- a row, as it lies there. -/
theorem SlN.read (h : SlN w T size B v rs) {i : Nat} (hi : i < rs.length) :
    ∃ g off cap, v = .slice (some ⟨g, off, none⟩) rs.length cap ∧ B ≤ g ∧ g < w.heap.size ∧ w.rangeAt g (off + i * size) rs[i] := by
  obtain ⟨g, off, cap, hv, hb, hlt, hc, _⟩ := h.1.read (by omega)
  refine ⟨g, off, cap, hv, hb, hlt, fun j u hu => ?_⟩
  have hj : j < size := by rw [← h.lens _ (List.getElem_mem hi)]; exact (List.getElem?_eq_some_iff.1 hu).1
  have h2 := flat_row h.lens hi
  rw [← h2, List.getElem?_take, if_pos hj, List.getElem?_drop] at hu
  have := hc _ u hu
  rw [← Nat.add_assoc] at this
  exact this
end

section
variable {P : Program} {w : World} {ops : Array Oper} {rest : List Oper} {o : Oper} {a : Act} {Q : Exit → Act → World → Prop} {K : Act → World → Prop}
/-- a row is set. -/
theorem SlN.stored {T size B : Nat} {g off cap i : Nat} {rs : List (List Value)} (h : SlN w T size B (.slice (some ⟨g, off, none⟩) rs.length cap) rs) (hi : i < rs.length) (r : List Value) (hr : r.length = size) (h1 : ∀ u ∈ r, u.oneCell' = true) :
    w.there g (off + i * size) r.length ∧ SlN (w.setCells g (off + i * size) r) T size B (.slice (some ⟨g, off, none⟩) rs.length cap) (rs.set i r) ∧ TurnAt g w (w.setCells g (off + i * size) r) := by
  rcases h.1.2 with ⟨hv, _⟩ | ⟨g', off', cap', cur, hv, hb, hg, hc, hm, hs, ht⟩
  · simp at hv
  simp at hv
  obtain ⟨⟨rfl, rfl⟩, rfl⟩ := hv
  have hle : i * size + size ≤ rs.length * size := by
    have : (i + 1) * size ≤ rs.length * size := Nat.mul_le_mul_right _ hi
    rw [Nat.add_mul] at this; omega
  have hcs : rs.length * size ≤ cap * size := Nat.mul_le_mul_right _ hc
  have hin : off + i * size + r.length ≤ cur.size := by omega
  refine ⟨fun j hj => ⟨?_, frozen_of_row w g _ _ T hg⟩, ⟨?_, fun x hx => ?_⟩, setCells_turn r w g _⟩
  · rw [cell_of_row w g _ _ T (0, 0) hg, Array.getElem?_eq_getElem (by omega)]; rfl
  · obtain ⟨cur', q1, q2, q3, q4⟩ := setCells_heap r w g (off + i * size) cur T hg hin
    have hbx : Bx w g T cur.toList := by unfold Bx; simpa using hg
    have hbx2 := setCells_list r w g (off + i * size) T cur.toList hbx (by simpa using hin)
    have he : cur' = (cur.toList.take (off + i * size) ++ r ++ cur.toList.drop (off + i * size + r.length)).toArray := by
      unfold Bx at hbx2
      rw [q1] at hbx2
      simpa using hbx2
    have hfl : (rs.set i r).flatten = rs.flatten.take (i * size) ++ r ++ rs.flatten.drop (i * size + r.length) := (flat_set h.lens hi r hr).symm
    refine ⟨by rw [flat_len (s := size)]; intro x hx; rcases List.mem_or_eq_of_mem_set hx with hx | rfl; exact h.lens x hx; exact hr, .inr ⟨g, off, cap, cur', by simp, hb, q1, by simpa using hc, hm, by omega, fun j hj => ?_⟩⟩
    rw [List.length_set] at hj
    have hfr : rs.flatten.length = rs.length * size := flat_len h.lens
    by_cases hj1 : j < i * size
    · rw [q3 _ (by omega), ht j hj, hfl, List.append_assoc, List.getElem?_append_left (by rw [List.length_take]; omega), List.getElem?_take, if_pos hj1]
    · by_cases hj2 : j < i * size + r.length
      · have h5 := q4 (j - i * size) (by omega)
        rw [show off + i * size + (j - i * size) = off + j by omega] at h5
        rw [h5, hfl, List.append_assoc, List.getElem?_append_right (by rw [List.length_take]; omega), List.getElem?_append_left (by rw [List.length_take]; omega), List.length_take]
        congr 1; omega
      · have h6 : cur'[off + j]? = cur[off + j]? := by
          rw [he]
          simp only [List.getElem?_toArray]
          rw [List.getElem?_append_right (by simp [List.length_take]; omega), List.getElem?_drop, ← Array.getElem?_toList]
          congr 1
          simp [List.length_take]; omega
        rw [h6, ht j hj, hfl, List.append_assoc, List.getElem?_append_right (by rw [List.length_take]; omega), List.getElem?_append_right (by rw [List.length_take]; omega), List.getElem?_drop, List.length_take]
        congr 1; omega
  · rcases List.mem_or_eq_of_mem_set hx with hx | rfl
    · exact h.2 x hx
    · exact ⟨hr, h1⟩
end
end Go.Proofs.YtmbjflhhffcjdaaDoor


/- Members copied: the walk over the specification's l10Copy. Written by gen_cp.py. -/
namespace Go.Proofs.YtmbjflhhffcjdaaDoor
open Go.RowKit Pl
set_option linter.unusedVariables false
set_option linter.unusedSimpArgs false
end Go.Proofs.YtmbjflhhffcjdaaDoor


/- A ring at work, in plain words, and where it lies. -/
namespace Go.Proofs.YtmbjflhhffcjdaaDoor
open Go.RowKit Pl
set_option linter.unusedVariables false

/-- what is on the way. -/
structure Fl where
  to : Int
  tk : Bool
  t : Tok
  x : It
/-- cells of a member, of what is on the way, of a list of lists. -/
def mcel (e : Mt × Mv) : List Value := [.int .i64 e.1.id, .int .i64 e.1.rid, .slice e.2.ms.a e.2.ms.n e.2.ms.c, .slice e.2.its.a e.2.its.n e.2.its.c, .slice e.2.lv.a e.2.lv.n e.2.lv.c, .slice e.2.tx.a e.2.tx.n e.2.tx.c, .int .i64 e.1.rd, .int .i64 e.1.se, .int .i64 e.1.li, .int .i64 e.1.he, .int .i64 e.1.la.c, .int .i64 e.1.la.r, .int .i64 e.1.la.q, .int .i64 e.1.la.a, .int .i64 e.1.la.b, .slice e.2.ws.a e.2.ws.n e.2.ws.c]
def fcel (e : Fl × Sv) : List Value := [.int .i64 e.1.to, .bool e.1.tk, .int .i64 e.1.t.c, .int .i64 e.1.t.r, .int .i64 e.1.t.q, .int .i64 e.1.t.a, .int .i64 e.1.t.b, .slice e.2.a e.2.n e.2.c, .int .i64 e.1.x.1, .int .i64 e.1.x.2.1, .int .i64 e.1.x.2.2.1, .string e.1.x.2.2.2]
def hcel (e : List It × Sv) : List Value := [.slice e.2.a e.2.n e.2.c]
/-- a ring at work: its ring, its members, what is on the way, what was heard and said, and the slices. -/
structure Wv where
  rid : Int
  ms : List Int
  mv : Sv
  ma : List (Mt × Mv)
  mav : Sv
  fl : List (Fl × Sv)
  flv : Sv
  he : List (List It × Sv)
  hev : Sv
  sa : List It
  sav : Sv
def Wv.cells (k : Wv) : List Value := [.int .i64 k.rid, .slice k.mv.a k.mv.n k.mv.c, .slice k.mav.a k.mav.n k.mav.c, .slice k.flv.a k.flv.n k.flv.c, .slice k.hev.a k.hev.n k.hev.c, .slice k.sav.a k.sav.n k.sav.c]
section
variable {w w' : World} {B : Nat} {v : Value}
end
end Go.Proofs.YtmbjflhhffcjdaaDoor


/- Blocks of other types stay. -/
namespace Go.Proofs.YtmbjflhhffcjdaaDoor
open Go.RowKit Pl
set_option linter.unusedVariables false

/-- blocks whose elements are of none of these types stay as they are. -/
structure KeepTy (S : Nat → Prop) (w w' : World) : Prop where
  os : w'.os = w.os
  tape : w'.tape = w.tape
  output : w'.output = w.output
  size : w.heap.size ≤ w'.heap.size
  block : ∀ k, k < w.heap.size → (∀ cs T z, w.heap[k]? = some (.cells cs T z) → ¬ S T) → w'.heap[k]? = w.heap[k]?
section
variable {S : Nat → Prop} {w w' w'' : World}
theorem KeepTy.refl (S : Nat → Prop) (w : World) : KeepTy S w w := ⟨rfl, rfl, rfl, Nat.le_refl _, fun _ _ _ => rfl⟩
theorem KeepTy.trans (h : KeepTy S w w') (k : KeepTy S w' w'') : KeepTy S w w'' :=
  ⟨k.os.trans h.os, k.tape.trans h.tape, k.output.trans h.output, Nat.le_trans h.size k.size, fun b hb ht => by
    have h1 := h.block b hb ht
    exact (k.block b (Nat.lt_of_lt_of_le hb h.size) (fun cs T z hc => ht cs T z (h1 ▸ hc))).trans h1⟩
end
end Go.Proofs.YtmbjflhhffcjdaaDoor


/- Texts copied: the walk over copyOfTexts. -/
namespace Go.Proofs.YtmbjflhhffcjdaaDoor
open Go.RowKit Pl
set_option linter.unusedVariables false

end Go.Proofs.YtmbjflhhffcjdaaDoor


/- A new member: the walks over isMember, copyOfRing and both MateNew. -/
namespace Go.Proofs.YtmbjflhhffcjdaaDoor
open Go.RowKit Pl
set_option linter.unusedVariables false
end Go.Proofs.YtmbjflhhffcjdaaDoor


/- A member at work: the walks over memberOf and mate. Written by gen_mb.py. -/
namespace Go.Proofs.YtmbjflhhffcjdaaDoor
open Go.RowKit Pl
set_option linter.unusedVariables false
set_option linter.unusedSimpArgs false
end Go.Proofs.YtmbjflhhffcjdaaDoor


/- What a member has to say, and whether it is right: small walks. -/
namespace Go.Proofs.YtmbjflhhffcjdaaDoor
open Go.RowKit Pl
set_option linter.unusedVariables false
set_option linter.unusedSimpArgs false

/-- whether texts are short. -/
def fitB (ts : List ByteArray) : Bool := ts.all fun t => decide (t.size ≤ 60)
/-- whether a number is a level. -/
def lvB (l : Int) : Bool := decide (1 ≤ l ∧ l ≤ 2)
def lvsB (lv : List Int) : Bool := lv.all lvB
/-- whether it may stand there to be said. -/
def sayB (lv : List Int) (tx : List ByteArray) : Bool := decide (tx.length ≤ 20) && (decide (lv.length = tx.length) && (lvsB lv && fitB tx))

end Go.Proofs.YtmbjflhhffcjdaaDoor


/- Tokens of which all is zero; what a member has to say, by the specification. Written by gen_mp.py. -/
namespace Go.Proofs.YtmbjflhhffcjdaaDoor
open Go.RowKit Pl
set_option linter.unusedVariables false
set_option linter.unusedSimpArgs false

/-- whether all of a token is zero. -/
def ntB (c r q a b : Int) (ws : List Int) : Bool := (c == 0) && ((r == 0) && ((q == 0) && ((a == 0) && ((b == 0) && ((ws.length : Int) == 0)))))

/-- the first k of them may be said. -/
def SaySt (lv : List Int) (tx : List ByteArray) (k : Nat) : Prop := (∀ t ∈ tx.take k, t.size ≤ 60) ∧ ∀ l ∈ lv.take k, lvB l = true
end Go.Proofs.YtmbjflhhffcjdaaDoor


/- Whether a member is right: the walks over both MateOk. Written by gen_mok.py. -/
namespace Go.Proofs.YtmbjflhhffcjdaaDoor
open Go.RowKit Pl
set_option linter.unusedVariables false
set_option linter.unusedSimpArgs false

/-- whether a member is right. -/
def Mt.ok (m : Mt) : Bool := ringB m.rid m.ms && (inB m.ms m.id && (iGo 0 m.its && (sayB m.lv m.tx && (decide (0 ≤ m.rd ∧ m.rd ≤ 1000000000) && (decide (0 ≤ m.se ∧ m.se ≤ 60) && (decide (0 ≤ m.li ∧ m.li ≤ ((aruP m.its : Nat) : Int)) && (decide (0 ≤ m.he ∧ m.he ≤ ((aruP m.its : Nat) : Int)) && (ntB m.la.c m.la.r m.la.q m.la.a m.la.b m.la.ws || tkB m.la.c m.la.r m.la.q m.la.a m.la.b m.la.ws))))))))

end Go.Proofs.YtmbjflhhffcjdaaDoor


/- Members copied by a law. Written by gen_tm.py. -/
namespace Go.Proofs.YtmbjflhhffcjdaaDoor
open Go.RowKit Pl
set_option linter.unusedVariables false
set_option linter.unusedSimpArgs false
end Go.Proofs.YtmbjflhhffcjdaaDoor


/- A list of texts measured, its bytes counted. -/
namespace Go.Proofs.YtmbjflhhffcjdaaDoor
open Go.RowKit Pl
set_option linter.unusedVariables false

/-- how long a list of texts is, its bytes counted. -/
def totS (ts : List ByteArray) : Nat := ts.length + (ts.map (·.size)).sum
end Go.Proofs.YtmbjflhhffcjdaaDoor


