/- Joined texts: CHf CShr CSla CLem14 CLs CEv CEvs CIto CAhp CKix CBus CGee CGeb CEqw CDm CCd CFnil CSzm. -/
import Derived.Test.YtdodeillifoibaaSq16
import Derived.Test.YtdodeillifoibaaSq15
import Derived.Test.YtdodeillifoibaaSq14
import Derived.Test.YtdodeillifoibaaSq8
import Derived.Test.YtdodeillifoibaaSq11
import Derived.Laws.MakeOwn
import Derived.Test.YtdodeillifoibaaSq13
import Derived.Lib.SliceRun
/- Hear. -/
namespace Go.Proofs.Ytdodeillifoibaa
open Go.RowKit Pl
set_option linter.unusedVariables false
set_option linter.unusedSimpArgs false

/-- the member behind it. -/
def Mt.hadH (m : Mt) : Mt := m.setH (m.he + m.hear.length)

end Go.Proofs.Ytdodeillifoibaa


/- What a member hears: the specification's Hear, where the member is right. Written by gen_shr.py. -/
namespace Go.Proofs.Ytdodeillifoibaa
open Go.RowKit Pl
set_option linter.unusedVariables false
set_option linter.unusedSimpArgs false
end Go.Proofs.Ytdodeillifoibaa


/- What a token wants yet: the specification's Lacks. Written by gen_sla.py. -/
namespace Go.Proofs.Ytdodeillifoibaa
open Go.RowKit Pl
set_option linter.unusedVariables false
set_option linter.unusedSimpArgs false

/-- whether a number is wanted yet. -/
def slB (ws lk : List Int) (its : List It) (n : Int) : Bool := (!hasP its n && inB ws n) || inB lk n
def slGo (ws lk : List Int) (its : List It) : Nat → Nat → List Int → List Int
  | 0, _, acc => acc
  | f + 1, n, acc => if acc.length < 20 then slGo ws lk its f (n + 1) (if slB ws lk its (n : Int) = true then acc ++ [(n : Int)] else acc) else acc
def slackP (ws : List Int) (its : List It) (q : Int) : List Int := slGo ws (missP its q) its 60 1 []
end Go.Proofs.Ytdodeillifoibaa


/- Small lemmas of round 14: rows that are read in drawn regions, lists cut, lengths of slices. -/
namespace Go.Proofs.Ytdodeillifoibaa
open Go.RowKit Pl
set_option linter.unusedVariables false
set_option linter.unusedSimpArgs false

theorem ldN_yield {P : Program} {ops : Array Oper} {o : Oper} {a : Act} {S : World → Prop} (hw : Region.wanted o (yielded ops a.tmps) = true) (ty : TypeId) (x : Operand) (ho : o.op = .load ty x) (g off : Nat) (hx : a.eval x = .pointer (some ⟨g, off, none⟩)) (cs : List Value) (hS : ∀ w, S w → w.rangeAt g off cs)
    (d : TypeDesc) (hu : P.underlying ty = some d) (hd : d.isRow = true) (hi : (P.info? ty).map (·.size) = some cs.length) : YieldsIf P ops S o (.agg cs.toArray) a :=
  yieldsIf_load_mid hw ty x ho g off hx cs d hS hu hd hi
theorem range_later {w w' : World} {g off : Nat} {cs : List Value} (h : w.rangeAt g off cs) (hg : g < w.heap.size) (b : Below w.heap.size w w') : w'.rangeAt g off cs := fun j v hv => (b.cell (p := ⟨g, off + j, none⟩) hg).trans (h j v hv)
theorem SlI.len {w : World} {B : Nat} {s : Sv} {ts : List It} (h : SlI w B s.v ts) : s.n = ts.length := by obtain ⟨a, c, h1⟩ := Sl.form h; simp only [Sv.v, Value.slice.injEq] at h1; exact h1.2.1
theorem Pl.OwnI.slen {w : World} {B : Nat} {s : Sv} {ts : List Int} (h : OwnI w B s.v ts) : s.n = ts.length := by obtain ⟨a, c, h1⟩ := h.form; simp only [Sv.v, Value.slice.injEq] at h1; exact h1.2.1
theorem Pl.OwnS.slen {w : World} {B : Nat} {s : Sv} {ts : List ByteArray} (h : OwnS w B s.v ts) : s.n = ts.length := by obtain ⟨a, c, h1⟩ := h.form; simp only [Sv.v, Value.slice.injEq] at h1; exact h1.2.1
theorem SlI.at {w : World} {B : Nat} {s : Sv} {ts : List It} (h : SlI w B s.v ts) {k : Nat} (hk : k < ts.length) : ∃ g off, s.a = some ⟨g, off, none⟩ ∧ B ≤ g ∧ g < w.heap.size ∧ w.rangeAt g (off + k * 4) [.int .i64 ts[k].1, .int .i64 ts[k].2.1, .int .i64 ts[k].2.2.1, .string ts[k].2.2.2] := by
  obtain ⟨ao, cap, h1, h2⟩ := h.rit
  have hh := h
  obtain ⟨g, off, e, hlt, c0, c1, c2, c3⟩ := h2 k hk
  simp only [Sv.v, Value.slice.injEq] at h1
  refine ⟨g, off, by rw [h1.1, e], ?_, hlt, ?_⟩
  · exact (h.lt g (by simp [Sv.v, Value.ownBlock, h1.1, e])).1
  · intro j v hv
    match j, hv with
    | 0, hv => simp at hv; subst hv; simpa using c0
    | 1, hv => simp at hv; subst hv; simpa using c1
    | 2, hv => simp at hv; subst hv; simpa using c2
    | 3, hv => simp at hv; subst hv; simpa using c3
end Go.Proofs.Ytdodeillifoibaa


/- Lists of structs: rows that are read, rows that were made. No function of the program is named here. -/
namespace Go.Proofs.Ytdodeillifoibaa
open Go.RowKit Pl
set_option linter.unusedVariables false
set_option linter.unusedSimpArgs false

/-- rows that are read. -/
def RwA (w : World) (a : Option Addr) (size : Nat) (rows : List (List Value)) : Prop :=
  ∀ i (h : i < rows.length), ∃ g off, a = some ⟨g, off, none⟩ ∧ g < w.heap.size ∧ rows[i].length = size ∧ w.rangeAt g (off + i * size) rows[i]
section
variable {w w' : World} {a : Option Addr} {size T B : Nat} {rows : List (List Value)}
theorem RwA.stays (h : RwA w a size rows) (b : Below w.heap.size w w') : RwA w' a size rows := fun i hi => by
  obtain ⟨g, off, h1, h2, h3, h4⟩ := h i hi
  exact ⟨g, off, h1, Nat.lt_of_lt_of_le h2 b.size, h3, range_later h4 h2 b⟩
theorem RwA.nil (w : World) (a : Option Addr) (size : Nat) : RwA w a size [] := fun i hi => absurd hi (Nat.not_lt_zero _)
theorem SlN.rwa {s : Sv} (h : SlN w T size B s.v rows) : RwA w s.a size rows := fun i hi => by
  obtain ⟨g, off, cap, h1, h2, h3, h4⟩ := h.read hi
  simp only [Sv.v, Value.slice.injEq] at h1
  exact ⟨g, off, h1.1, h3, h.lens _ (List.getElem_mem hi), h4⟩
theorem SlN.slen {s : Sv} (h : SlN w T size B s.v rows) : s.n = rows.length := by
  obtain ⟨s', e, hn⟩ := h.form
  simp only [Sv.v, Value.slice.injEq] at e
  omega
end
theorem made_flat (zr : List Value) (h0 : 0 < zr.length) (n : Nat) : (madeCells zr.toArray (n * zr.length)).toList = (List.replicate n zr).flatten := by
  apply List.ext_getElem?
  intro j
  have hl : ((List.replicate n zr).flatten).length = n * zr.length := by simp
  by_cases hj : j < n * zr.length
  · have hm : j % zr.length < zr.length := Nat.mod_lt _ h0
    have hd : j / zr.length < n := Nat.div_lt_of_lt_mul (by rw [Nat.mul_comm]; exact hj)
    have e : j = (j / zr.length) * zr.length + j % zr.length := by rw [Nat.mul_comm]; exact (Nat.div_add_mod j zr.length).symm
    have h1 : (madeCells zr.toArray (n * zr.length)).toList[j]? = some (zr[j % zr.length]'hm) := by simp [madeCells, hj, hm]
    rw [h1]
    have h2 : ∀ (m i r : Nat) (hr : r < zr.length), i < m → ((List.replicate m zr).flatten)[i * zr.length + r]? = zr[r]? := by
      intro m
      induction m with
      | zero => intro i r hr hi; omega
      | succ m ih =>
        intro i r hr hi
        rw [List.replicate_succ, List.flatten_cons]
        cases i with
        | zero => rw [List.getElem?_append_left (by simpa using hr)]; simp
        | succ i =>
          rw [List.getElem?_append_right (by rw [Nat.succ_mul]; omega), show (i + 1) * zr.length + r - zr.length = i * zr.length + r by rw [Nat.succ_mul]; omega]
          exact ih i r hr (by omega)
    have h3 := h2 n (j / zr.length) (j % zr.length) hm hd
    rw [← e] at h3
    rw [h3, List.getElem?_eq_getElem hm]
  · rw [List.getElem?_eq_none (by simp [madeCells]; omega), List.getElem?_eq_none (by rw [hl]; omega)]
/-- a list that was just made. -/
theorem SlN.zeros (w : World) (T : TypeId) (zr : List Value) (h0 : 0 < zr.length) (h1 : zr.all (·.oneCell') = true) (n B : Nat) (hB : B ≤ w.heap.size) (hn : n ≤ 1048576) : SlN (w.alloc (.cells (madeCells zr.toArray (n * zr.length)) T)) T zr.length B (.slice (some ⟨w.heap.size, 0, none⟩) n n) (List.replicate n zr) := by
  refine ⟨?_, fun r hr => ?_⟩
  · rw [List.length_replicate]
    refine ⟨by simp, .inr ⟨w.heap.size, 0, n, _, rfl, hB, heap_alloc_new w _, Nat.le_refl _, by unfold maxLen; omega, by rw [size_madeCells]; omega, fun j hj => ?_⟩⟩
    rw [← made_flat zr h0 n, Nat.zero_add, Array.getElem?_toList]
  · rw [(List.mem_replicate.1 hr).2]
    exact ⟨rfl, List.all_eq_true.1 h1⟩
theorem set_snoc {α : Type} (xs : List α) (z x : α) (n : Nat) : (xs ++ List.replicate (n + 1) z).set xs.length x = (xs ++ [x]) ++ List.replicate n z := by
  rw [List.set_append_right _ _ (Nat.le_refl _), Nat.sub_self, List.replicate_succ, List.set_cons_zero, List.append_assoc]
  rfl
end Go.Proofs.Ytdodeillifoibaa


/- Events in plain words and in memory; one event measured, copied, held against another. Written by gen_ev.py. -/
namespace Go.Proofs.Ytdodeillifoibaa
open Go.RowKit Pl
set_option linter.unusedVariables false
set_option linter.unusedSimpArgs false

/-- an event, and where its lists lie. -/
structure Ev where
  k : Int
  rid : Int
  ms : List Int
  q : Int
  f : Int
  l : Int
  t : ByteArray
  wi : List Int
  sm : Sv
  sw : Sv
def Ev.row (e : Ev) : List Value := [.int .i64 e.k, .int .i64 e.rid, .slice e.sm.a e.sm.n e.sm.c, .int .i64 e.q, .int .i64 e.f, .int .i64 e.l, .string e.t, .slice e.sw.a e.sw.n e.sw.c]
/-- what an event says. -/
def Ev.pl (e : Ev) : Int × Int × List Int × It × List Int := (e.k, e.rid, e.ms, (e.q, e.f, e.l, e.t), e.wi)
/-- its lists are read. -/
def Ev.R (w : World) (e : Ev) : Prop := RI w e.sm.v e.ms ∧ RI w e.sw.v e.wi
theorem Ev.R.stays {w w' : World} {e : Ev} (h : e.R w) (b : Below w.heap.size w w') : e.R w' := ⟨h.1.stays b, h.2.stays b⟩
def Ev.S (e : Ev) : Prop := e.ms.length ≤ 1048576 ∧ e.wi.length ≤ 1048576 ∧ e.t.size ≤ 1048576
def Ev.L (e : Ev) : Prop := e.ms.length ≤ 9223372036854775807 ∧ e.wi.length ≤ 9223372036854775807 ∧ e.t.size ≤ 9223372036854775807
def Ev.sz (e : Ev) : Nat := e.ms.length + e.t.size + e.wi.length
/-- its lists are of a call's own. -/
def Ev.O (w : World) (B : Nat) (e : Ev) : Prop := OwnI w B e.sm.v e.ms ∧ OwnI w B e.sw.v e.wi
theorem Ev.O.r {w : World} {B : Nat} {e : Ev} (h : e.O w B) : e.R w := ⟨h.1.ri, h.2.ri⟩
theorem szItem_left (q f l : Int) (t : ByteArray) (L : Nat) (w : World) (hL : L ≤ 1048576) (hn : t.size ≤ 9223372036854775807) :
    Calls Try.prog 51 #[.agg #[.int .i64 q, .int .i64 f, .int .i64 l, .string t], .int .i64 L] w fun e w' => Left L t.size e ∧ Below w.heap.size w w' := by
  by_cases h : L < t.size
  · exact (szItem_long q f l t L w h hn hL).mono fun e w' ⟨a, b⟩ => ⟨.inl a, b⟩
  · exact (szItem_any q f l t L w (by omega) hL).mono fun e w' ⟨a, b⟩ => ⟨.inr ⟨L - t.size, a, by omega⟩, b⟩
set_option maxRecDepth 100000 in
set_option maxHeartbeats 4000000 in
theorem szEvent_any (e : Ev) (L : Nat) (w : World) (h : Hid (e.R w)) (hl : Hid e.L) (hL : L ≤ 1048576) :
    Calls Try.prog 25 #[.agg #[.int .i64 e.k, .int .i64 e.rid, .slice e.sm.a e.sm.n e.sm.c, .int .i64 e.q, .int .i64 e.f, .int .i64 e.l, .string e.t, .slice e.sw.a e.sw.n e.sw.c], .int .i64 L] w fun x w' => Left L e.sz x ∧ Below w.heap.size w w' := by
  have LA : Hid (Bx (w.alloc (.cells #[.int .i64 e.k, .int .i64 e.rid, .slice e.sm.a e.sm.n e.sm.c, .int .i64 e.q, .int .i64 e.f, .int .i64 e.l, .string e.t, .slice e.sw.a e.sw.n e.sw.c] 55)) w.heap.size 55 [.int .i64 e.k, .int .i64 e.rid, .slice e.sm.a e.sm.n e.sm.c, .int .i64 e.q, .int .i64 e.f, .int .i64 e.l, .string e.t, .slice e.sw.a e.sw.n e.sw.c]) := by
    have h := Bx.new w 55 [.int .i64 e.k, .int .i64 e.rid, .slice e.sm.a e.sm.n e.sm.c, .int .i64 e.q, .int .i64 e.f, .int .i64 e.l, .string e.t, .slice e.sw.a e.sw.n e.sw.c]
    exact h
  have BW : Hid (Below w.heap.size w (w.alloc (.cells #[.int .i64 e.k, .int .i64 e.rid, .slice e.sm.a e.sm.n e.sm.c, .int .i64 e.q, .int .i64 e.f, .int .i64 e.l, .string e.t, .slice e.sw.a e.sw.n e.sw.c] 55))) := ((Below.refl _ _).alloc (by simp) _)
  have HS1 : Hid (e.sm.n = e.ms.length) := h.out.1.len
  have HS2 : Hid (e.sw.n = e.wi.length) := h.out.2.len
  have hx1 : e.sm.n ≤ 9223372036854775807 := by have := hl.out.1; have := HS1.out; omega
  have hx2 : e.sw.n ≤ 9223372036854775807 := by have := hl.out.2.1; have := HS2.out; omega
  go_enter Try.func25, Try.ntmps25
  go_wp2_with (first | (refine wpList_ldG rfl 51 _ rfl w.heap.size 1 rfl 55 _ LA.out [.int .i64 e.rid, .slice e.sm.a e.sm.n e.sm.c] rfl _ Try.underlying51 rfl Try.sizeLR ?_))
  generalize (w.alloc (.cells #[.int .i64 e.k, .int .i64 e.rid, .slice e.sm.a e.sm.n e.sm.c, .int .i64 e.q, .int .i64 e.f, .int .i64 e.l, .string e.t, .slice e.sw.a e.sw.n e.sw.c] 55)) = W at *
  refine (szRing_left e.rid e.sm.a e.sm.n e.sm.c L _ hL hx1).mono ?_
  rintro x w1 ⟨rfl | ⟨z1, rfl, hz1⟩, b⟩
  · go_wp2_with fail
    go_ret
    exact ⟨.inl rfl, bl_next BW.out b⟩
  have hd1 : decide ((z1 : Int) < 0) = false := by simp
  have LA : Hid (Bx w1 w.heap.size 55 [.int .i64 e.k, .int .i64 e.rid, .slice e.sm.a e.sm.n e.sm.c, .int .i64 e.q, .int .i64 e.f, .int .i64 e.l, .string e.t, .slice e.sw.a e.sw.n e.sw.c]) := LA.out.later b
  have BW : Hid (Below w.heap.size w w1) := bl_next BW.out b
  clear b
  have HZ1 : Hid (z1 + e.sm.n = L) := hz1
  have hzl1 : z1 ≤ 1048576 := by omega
  clear hz1
  go_wp2_with (first | (refine wpList_ldG rfl 53 _ rfl w.heap.size 3 rfl 55 _ LA.out [.int .i64 e.q, .int .i64 e.f, .int .i64 e.l, .string e.t] rfl _ Try.underlying53 rfl Try.sizeLI ?_))
  refine (szItem_left e.q e.f e.l e.t z1 _ hzl1 hl.out.2.2).mono ?_
  rintro x w2 ⟨rfl | ⟨z2, rfl, hz2⟩, b⟩
  · go_wp2_with fail
    go_ret
    exact ⟨.inl rfl, bl_next BW.out b⟩
  have hd2 : decide ((z2 : Int) < 0) = false := by simp
  have LA : Hid (Bx w2 w.heap.size 55 [.int .i64 e.k, .int .i64 e.rid, .slice e.sm.a e.sm.n e.sm.c, .int .i64 e.q, .int .i64 e.f, .int .i64 e.l, .string e.t, .slice e.sw.a e.sw.n e.sw.c]) := LA.out.later b
  have BW : Hid (Below w.heap.size w w2) := bl_next BW.out b
  clear b
  have HZ2 : Hid (z2 + e.t.size = z1) := hz2
  have hzl2 : z2 ≤ 1048576 := by omega
  clear hz2
  have c7 := LA.out.cell 7
  simp only [List.getElem?_cons_succ, List.getElem?_cons_zero] at c7
  go_wp2_with fail
  refine (szI_left e.sw.a e.sw.n e.sw.c z2 _ hzl2 hx2).mono ?_
  rintro x w3 ⟨rfl | ⟨z3, rfl, hz3⟩, rfl⟩
  · go_wp2_with fail
    go_ret
    exact ⟨.inl rfl, BW.out⟩
  have hd3 : decide ((z3 : Int) < 0) = false := by simp
  have HZ3 : Hid (z3 + e.sw.n = z2) := hz3
  clear hz3
  go_wp2_with fail
  go_ret
  exact ⟨.inr ⟨z3, rfl, by have := HZ1.out; have := HZ2.out; have := HZ3.out; have := HS1.out; have := HS2.out; unfold Ev.sz; omega⟩, BW.out⟩
set_option maxRecDepth 100000 in
set_option maxHeartbeats 8000000 in
theorem toEvent_any (e : Ev) (w : World) (h : Hid (e.R w)) (hs : Hid e.S) :
    Calls Try.prog 26 #[.agg #[.int .i64 e.k, .int .i64 e.rid, .slice e.sm.a e.sm.n e.sm.c, .int .i64 e.q, .int .i64 e.f, .int .i64 e.l, .string e.t, .slice e.sw.a e.sw.n e.sw.c]] w fun x w' => ∃ u1 u2 : Sv, x = .returned (.agg #[.int .i64 e.k, .int .i64 e.rid, .slice u1.a u1.n u1.c, .int .i64 e.q, .int .i64 e.f, .int .i64 e.l, .string e.t, .slice u2.a u2.n u2.c]) ∧ OwnI w' w.heap.size u1.v e.ms ∧ OwnI w' w.heap.size u2.v e.wi ∧ (∀ a c, u1.v.ownBlock = some a → u2.v.ownBlock = some c → a < c) ∧ Below w.heap.size w w' := by
  have hn1 : (w.alloc (.cells #[.int .i64 e.k, .int .i64 e.rid, .slice e.sm.a e.sm.n e.sm.c, .int .i64 e.q, .int .i64 e.f, .int .i64 e.l, .string e.t, .slice e.sw.a e.sw.n e.sw.c] 55)).heap.size = w.heap.size + 1 := by simp
  have hn2 : ((w.alloc (.cells #[.int .i64 e.k, .int .i64 e.rid, .slice e.sm.a e.sm.n e.sm.c, .int .i64 e.q, .int .i64 e.f, .int .i64 e.l, .string e.t, .slice e.sw.a e.sw.n e.sw.c] 55)).alloc (.cells #[.int .i64 0, .int .i64 0, .slice none 0 0, .int .i64 0, .int .i64 0, .int .i64 0, .string ⟨#[]⟩, .slice none 0 0] 59)).heap.size = w.heap.size + 2 := by simp
  have LA : Hid (Bx (((w.alloc (.cells #[.int .i64 e.k, .int .i64 e.rid, .slice e.sm.a e.sm.n e.sm.c, .int .i64 e.q, .int .i64 e.f, .int .i64 e.l, .string e.t, .slice e.sw.a e.sw.n e.sw.c] 55)).alloc (.cells #[.int .i64 0, .int .i64 0, .slice none 0 0, .int .i64 0, .int .i64 0, .int .i64 0, .string ⟨#[]⟩, .slice none 0 0] 59)).alloc (.cells #[.int .i64 0, .int .i64 0, .slice none 0 0, .int .i64 0, .int .i64 0, .int .i64 0, .string ⟨#[]⟩, .slice none 0 0] 59)) w.heap.size 55 [.int .i64 e.k, .int .i64 e.rid, .slice e.sm.a e.sm.n e.sm.c, .int .i64 e.q, .int .i64 e.f, .int .i64 e.l, .string e.t, .slice e.sw.a e.sw.n e.sw.c]) := by
    have h := Bx.new w 55 [.int .i64 e.k, .int .i64 e.rid, .slice e.sm.a e.sm.n e.sm.c, .int .i64 e.q, .int .i64 e.f, .int .i64 e.l, .string e.t, .slice e.sw.a e.sw.n e.sw.c]
    exact ((h).later ((Below.refl _ _).alloc (Nat.le_refl _) _)).later ((Below.refl _ _).alloc (Nat.le_refl _) _)
  have EB : Hid (Bx (((w.alloc (.cells #[.int .i64 e.k, .int .i64 e.rid, .slice e.sm.a e.sm.n e.sm.c, .int .i64 e.q, .int .i64 e.f, .int .i64 e.l, .string e.t, .slice e.sw.a e.sw.n e.sw.c] 55)).alloc (.cells #[.int .i64 0, .int .i64 0, .slice none 0 0, .int .i64 0, .int .i64 0, .int .i64 0, .string ⟨#[]⟩, .slice none 0 0] 59)).alloc (.cells #[.int .i64 0, .int .i64 0, .slice none 0 0, .int .i64 0, .int .i64 0, .int .i64 0, .string ⟨#[]⟩, .slice none 0 0] 59)) (w.heap.size + 1) 59 [.int .i64 0, .int .i64 0, .slice none 0 0, .int .i64 0, .int .i64 0, .int .i64 0, .string ⟨#[]⟩, .slice none 0 0]) := by
    have h := Bx.new (w.alloc (.cells #[.int .i64 e.k, .int .i64 e.rid, .slice e.sm.a e.sm.n e.sm.c, .int .i64 e.q, .int .i64 e.f, .int .i64 e.l, .string e.t, .slice e.sw.a e.sw.n e.sw.c] 55)) 59 [.int .i64 0, .int .i64 0, .slice none 0 0, .int .i64 0, .int .i64 0, .int .i64 0, .string ⟨#[]⟩, .slice none 0 0]
    rw [hn1] at h
    exact (h).later ((Below.refl _ _).alloc (Nat.le_refl _) _)
  have VB : Hid (Bx (((w.alloc (.cells #[.int .i64 e.k, .int .i64 e.rid, .slice e.sm.a e.sm.n e.sm.c, .int .i64 e.q, .int .i64 e.f, .int .i64 e.l, .string e.t, .slice e.sw.a e.sw.n e.sw.c] 55)).alloc (.cells #[.int .i64 0, .int .i64 0, .slice none 0 0, .int .i64 0, .int .i64 0, .int .i64 0, .string ⟨#[]⟩, .slice none 0 0] 59)).alloc (.cells #[.int .i64 0, .int .i64 0, .slice none 0 0, .int .i64 0, .int .i64 0, .int .i64 0, .string ⟨#[]⟩, .slice none 0 0] 59)) (w.heap.size + 2) 59 [.int .i64 0, .int .i64 0, .slice none 0 0, .int .i64 0, .int .i64 0, .int .i64 0, .string ⟨#[]⟩, .slice none 0 0]) := by
    have h := Bx.new ((w.alloc (.cells #[.int .i64 e.k, .int .i64 e.rid, .slice e.sm.a e.sm.n e.sm.c, .int .i64 e.q, .int .i64 e.f, .int .i64 e.l, .string e.t, .slice e.sw.a e.sw.n e.sw.c] 55)).alloc (.cells #[.int .i64 0, .int .i64 0, .slice none 0 0, .int .i64 0, .int .i64 0, .int .i64 0, .string ⟨#[]⟩, .slice none 0 0] 59)) 59 [.int .i64 0, .int .i64 0, .slice none 0 0, .int .i64 0, .int .i64 0, .int .i64 0, .string ⟨#[]⟩, .slice none 0 0]
    rw [hn2] at h
    exact h
  have BW : Hid (Below w.heap.size w (((w.alloc (.cells #[.int .i64 e.k, .int .i64 e.rid, .slice e.sm.a e.sm.n e.sm.c, .int .i64 e.q, .int .i64 e.f, .int .i64 e.l, .string e.t, .slice e.sw.a e.sw.n e.sw.c] 55)).alloc (.cells #[.int .i64 0, .int .i64 0, .slice none 0 0, .int .i64 0, .int .i64 0, .int .i64 0, .string ⟨#[]⟩, .slice none 0 0] 59)).alloc (.cells #[.int .i64 0, .int .i64 0, .slice none 0 0, .int .i64 0, .int .i64 0, .int .i64 0, .string ⟨#[]⟩, .slice none 0 0] 59))) := ((((Below.refl _ _).alloc (by simp) _).alloc (by simp; try omega) _).alloc (by simp; try omega) _)
  clear hn1 hn2
  have HR1 : Hid (RI (((w.alloc (.cells #[.int .i64 e.k, .int .i64 e.rid, .slice e.sm.a e.sm.n e.sm.c, .int .i64 e.q, .int .i64 e.f, .int .i64 e.l, .string e.t, .slice e.sw.a e.sw.n e.sw.c] 55)).alloc (.cells #[.int .i64 0, .int .i64 0, .slice none 0 0, .int .i64 0, .int .i64 0, .int .i64 0, .string ⟨#[]⟩, .slice none 0 0] 59)).alloc (.cells #[.int .i64 0, .int .i64 0, .slice none 0 0, .int .i64 0, .int .i64 0, .int .i64 0, .string ⟨#[]⟩, .slice none 0 0] 59)) e.sm.v e.ms) := h.out.1.stays BW.out
  have HR2 : Hid (RI (((w.alloc (.cells #[.int .i64 e.k, .int .i64 e.rid, .slice e.sm.a e.sm.n e.sm.c, .int .i64 e.q, .int .i64 e.f, .int .i64 e.l, .string e.t, .slice e.sw.a e.sw.n e.sw.c] 55)).alloc (.cells #[.int .i64 0, .int .i64 0, .slice none 0 0, .int .i64 0, .int .i64 0, .int .i64 0, .string ⟨#[]⟩, .slice none 0 0] 59)).alloc (.cells #[.int .i64 0, .int .i64 0, .slice none 0 0, .int .i64 0, .int .i64 0, .int .i64 0, .string ⟨#[]⟩, .slice none 0 0] 59)) e.sw.v e.wi) := h.out.2.stays BW.out
  have h0 := h
  clear h
  go_enter Try.func26, Try.ntmps26
  have c0 := LA.out.cell 0
  simp only [List.getElem?_cons_zero] at c0
  go_wp2_with (first | (with_reducible refine wpList_haltS 3 _ _ rfl ?_))
  refine Stp.go ?_
  generalize (((w.alloc (.cells #[.int .i64 e.k, .int .i64 e.rid, .slice e.sm.a e.sm.n e.sm.c, .int .i64 e.q, .int .i64 e.f, .int .i64 e.l, .string e.t, .slice e.sw.a e.sw.n e.sw.c] 55)).alloc (.cells #[.int .i64 0, .int .i64 0, .slice none 0 0, .int .i64 0, .int .i64 0, .int .i64 0, .string ⟨#[]⟩, .slice none 0 0] 59)).alloc (.cells #[.int .i64 0, .int .i64 0, .slice none 0 0, .int .i64 0, .int .i64 0, .int .i64 0, .string ⟨#[]⟩, .slice none 0 0] 59)) = W at *
  have zW : w.heap.size + 2 < W.heap.size := VB.out.lt
  clear c0
  refine wpList_st1 rfl 3 _ _ rfl (w.heap.size + 2) 0 rfl 59 _ VB.out (.int .i64 e.k) rfl (by simp) rfl Try.size3 [.int .i64 e.k, .int .i64 0, .slice none 0 0, .int .i64 0, .int .i64 0, .int .i64 0, .string ⟨#[]⟩, .slice none 0 0] rfl ?_
  intro w1 OB TB
  have z_w1 : W.heap.size ≤ w1.heap.size := Nat.le_of_eq TB.size.symm
  have LA : Hid (Bx w1 w.heap.size 55 [.int .i64 e.k, .int .i64 e.rid, .slice e.sm.a e.sm.n e.sm.c, .int .i64 e.q, .int .i64 e.f, .int .i64 e.l, .string e.t, .slice e.sw.a e.sw.n e.sw.c]) := LA.out.turn TB (by omega)
  have EB : Hid (Bx w1 (w.heap.size + 1) 59 [.int .i64 0, .int .i64 0, .slice none 0 0, .int .i64 0, .int .i64 0, .int .i64 0, .string ⟨#[]⟩, .slice none 0 0]) := EB.out.turn TB (by omega)
  have BW : Hid (Below w.heap.size w w1) := BW.out.trans (TB.below (by omega))
  have VB : Hid (Bx w1 (w.heap.size + 2) 59 [.int .i64 e.k, .int .i64 0, .slice none 0 0, .int .i64 0, .int .i64 0, .int .i64 0, .string ⟨#[]⟩, .slice none 0 0]) := OB
  clear OB TB
  have HR1 : Hid (RI w1 e.sm.v e.ms) := h0.out.1.stays BW.out
  have HR2 : Hid (RI w1 e.sw.v e.wi) := h0.out.2.stays BW.out
  go_wp2_with (first | (refine wpList_ldG rfl 51 _ rfl w.heap.size 1 rfl 55 _ LA.out [.int .i64 e.rid, .slice e.sm.a e.sm.n e.sm.c] rfl _ Try.underlying51 rfl Try.sizeLR ?_))
  refine (toRing_r e.rid e.sm e.ms _ HR1 hs.out.1).mono ?_
  rintro e w2 ⟨u1, rfl, o1, b⟩
  have zo1 : w.heap.size ≤ w1.heap.size := BW.out.size
  have O1 : Hid (OwnI w2 w.heap.size u1.v e.ms) := o1.down zo1
  have L1 : Hid (∀ a, u1.v.ownBlock = some a → a < w2.heap.size) := fun a ha => (o1.lt a ha).2
  clear o1
  have z_w2 : w1.heap.size ≤ w2.heap.size := b.size
  have LA : Hid (Bx w2 w.heap.size 55 [.int .i64 e.k, .int .i64 e.rid, .slice e.sm.a e.sm.n e.sm.c, .int .i64 e.q, .int .i64 e.f, .int .i64 e.l, .string e.t, .slice e.sw.a e.sw.n e.sw.c]) := LA.out.later b
  have EB : Hid (Bx w2 (w.heap.size + 1) 59 [.int .i64 0, .int .i64 0, .slice none 0 0, .int .i64 0, .int .i64 0, .int .i64 0, .string ⟨#[]⟩, .slice none 0 0]) := EB.out.later b
  have VB : Hid (Bx w2 (w.heap.size + 2) 59 [.int .i64 e.k, .int .i64 0, .slice none 0 0, .int .i64 0, .int .i64 0, .int .i64 0, .string ⟨#[]⟩, .slice none 0 0]) := VB.out.later b
  have BW : Hid (Below w.heap.size w w2) := bl_next BW.out b
  have HR1 : Hid (RI w2 (e.sm.v) (e.ms)) := HR1.out.stays b
  have HR2 : Hid (RI w2 (e.sw.v) (e.wi)) := HR2.out.stays b
  clear b
  go_wp2_with (first | (with_reducible refine wpList_haltS 56 _ _ rfl ?_))
  refine Stp.go ?_
  refine wpList_stB rfl 56 _ _ rfl (w.heap.size + 2) 1 rfl 59 _ VB.out [.int .i64 e.rid, .slice u1.a u1.n u1.c] rfl (by simp) Try.sizeR rfl [.int .i64 e.k, .int .i64 e.rid, .slice u1.a u1.n u1.c, .int .i64 0, .int .i64 0, .int .i64 0, .string ⟨#[]⟩, .slice none 0 0] rfl ?_
  intro w3 OB TB
  have z_w3 : w2.heap.size ≤ w3.heap.size := Nat.le_of_eq TB.size.symm
  have LA : Hid (Bx w3 w.heap.size 55 [.int .i64 e.k, .int .i64 e.rid, .slice e.sm.a e.sm.n e.sm.c, .int .i64 e.q, .int .i64 e.f, .int .i64 e.l, .string e.t, .slice e.sw.a e.sw.n e.sw.c]) := LA.out.turn TB (by omega)
  have EB : Hid (Bx w3 (w.heap.size + 1) 59 [.int .i64 0, .int .i64 0, .slice none 0 0, .int .i64 0, .int .i64 0, .int .i64 0, .string ⟨#[]⟩, .slice none 0 0]) := EB.out.turn TB (by omega)
  have BW : Hid (Below w.heap.size w w3) := BW.out.trans (TB.below (by omega))
  have O1 : Hid (OwnI w3 w.heap.size (u1.v) (e.ms)) := O1.out.past VB.out TB (by decide)
  have VB : Hid (Bx w3 (w.heap.size + 2) 59 [.int .i64 e.k, .int .i64 e.rid, .slice u1.a u1.n u1.c, .int .i64 0, .int .i64 0, .int .i64 0, .string ⟨#[]⟩, .slice none 0 0]) := OB
  clear OB TB
  have HR2 : Hid (RI w3 e.sw.v e.wi) := h0.out.2.stays BW.out
  go_wp2_with (first | (refine wpList_ldG rfl 53 _ rfl w.heap.size 3 rfl 55 _ LA.out [.int .i64 e.q, .int .i64 e.f, .int .i64 e.l, .string e.t] rfl _ Try.underlying53 rfl Try.sizeLI ?_))
  refine (toItem_any e.q e.f e.l e.t _).mono ?_
  rintro e w4 ⟨rfl, b⟩
  have z_w4 : w3.heap.size ≤ w4.heap.size := b.size
  have LA : Hid (Bx w4 w.heap.size 55 [.int .i64 e.k, .int .i64 e.rid, .slice e.sm.a e.sm.n e.sm.c, .int .i64 e.q, .int .i64 e.f, .int .i64 e.l, .string e.t, .slice e.sw.a e.sw.n e.sw.c]) := LA.out.later b
  have EB : Hid (Bx w4 (w.heap.size + 1) 59 [.int .i64 0, .int .i64 0, .slice none 0 0, .int .i64 0, .int .i64 0, .int .i64 0, .string ⟨#[]⟩, .slice none 0 0]) := EB.out.later b
  have VB : Hid (Bx w4 (w.heap.size + 2) 59 [.int .i64 e.k, .int .i64 e.rid, .slice u1.a u1.n u1.c, .int .i64 0, .int .i64 0, .int .i64 0, .string ⟨#[]⟩, .slice none 0 0]) := VB.out.later b
  have BW : Hid (Below w.heap.size w w4) := bl_next BW.out b
  have O1 : Hid (OwnI w4 w.heap.size (u1.v) (e.ms)) := O1.out.keep fun _ _ hk => (b).block _ hk
  have HR2 : Hid (RI w4 (e.sw.v) (e.wi)) := HR2.out.stays b
  clear b
  go_wp2_with (first | (with_reducible refine wpList_haltS 57 _ _ rfl ?_))
  refine Stp.go ?_
  refine wpList_stB rfl 57 _ _ rfl (w.heap.size + 2) 3 rfl 59 _ VB.out [.int .i64 e.q, .int .i64 e.f, .int .i64 e.l, .string e.t] rfl (by simp) Try.sizeI rfl [.int .i64 e.k, .int .i64 e.rid, .slice u1.a u1.n u1.c, .int .i64 e.q, .int .i64 e.f, .int .i64 e.l, .string e.t, .slice none 0 0] rfl ?_
  intro w5 OB TB
  have z_w5 : w4.heap.size ≤ w5.heap.size := Nat.le_of_eq TB.size.symm
  have LA : Hid (Bx w5 w.heap.size 55 [.int .i64 e.k, .int .i64 e.rid, .slice e.sm.a e.sm.n e.sm.c, .int .i64 e.q, .int .i64 e.f, .int .i64 e.l, .string e.t, .slice e.sw.a e.sw.n e.sw.c]) := LA.out.turn TB (by omega)
  have EB : Hid (Bx w5 (w.heap.size + 1) 59 [.int .i64 0, .int .i64 0, .slice none 0 0, .int .i64 0, .int .i64 0, .int .i64 0, .string ⟨#[]⟩, .slice none 0 0]) := EB.out.turn TB (by omega)
  have BW : Hid (Below w.heap.size w w5) := BW.out.trans (TB.below (by omega))
  have O1 : Hid (OwnI w5 w.heap.size (u1.v) (e.ms)) := O1.out.past VB.out TB (by decide)
  have VB : Hid (Bx w5 (w.heap.size + 2) 59 [.int .i64 e.k, .int .i64 e.rid, .slice u1.a u1.n u1.c, .int .i64 e.q, .int .i64 e.f, .int .i64 e.l, .string e.t, .slice none 0 0]) := OB
  clear OB TB
  have HR2 : Hid (RI w5 e.sw.v e.wi) := h0.out.2.stays BW.out
  have c7 := LA.out.cell 7
  simp only [List.getElem?_cons_succ, List.getElem?_cons_zero] at c7
  go_wp2_with fail
  clear c7
  refine (toI_r e.sw e.wi _ HR2 hs.out.2.1).mono ?_
  rintro e w6 ⟨u2, rfl, o2, b⟩
  have zo2 : w.heap.size ≤ w5.heap.size := BW.out.size
  have O2 : Hid (OwnI w6 w.heap.size u2.v e.wi) := o2.down zo2
  have UP : Hid (∀ a c, u1.v.ownBlock = some a → u2.v.ownBlock = some c → a < c) := fun a c ha hc => by have h1 := L1.out a ha; have h2 := (o2.lt c hc).1; omega
  clear o2
  have z_w6 : w5.heap.size ≤ w6.heap.size := b.size
  have LA : Hid (Bx w6 w.heap.size 55 [.int .i64 e.k, .int .i64 e.rid, .slice e.sm.a e.sm.n e.sm.c, .int .i64 e.q, .int .i64 e.f, .int .i64 e.l, .string e.t, .slice e.sw.a e.sw.n e.sw.c]) := LA.out.later b
  have EB : Hid (Bx w6 (w.heap.size + 1) 59 [.int .i64 0, .int .i64 0, .slice none 0 0, .int .i64 0, .int .i64 0, .int .i64 0, .string ⟨#[]⟩, .slice none 0 0]) := EB.out.later b
  have VB : Hid (Bx w6 (w.heap.size + 2) 59 [.int .i64 e.k, .int .i64 e.rid, .slice u1.a u1.n u1.c, .int .i64 e.q, .int .i64 e.f, .int .i64 e.l, .string e.t, .slice none 0 0]) := VB.out.later b
  have BW : Hid (Below w.heap.size w w6) := bl_next BW.out b
  have O1 : Hid (OwnI w6 w.heap.size (u1.v) (e.ms)) := O1.out.keep fun _ _ hk => (b).block _ hk
  have HR2 : Hid (RI w6 (e.sw.v) (e.wi)) := HR2.out.stays b
  clear b
  go_wp2_with (first | (with_reducible refine wpList_haltS 49 _ _ rfl ?_))
  refine Stp.go ?_
  refine wpList_st1 rfl 49 _ _ rfl (w.heap.size + 2) 7 rfl 59 _ VB.out (.slice u2.a u2.n u2.c) rfl (by simp) rfl Try.sizeNs [.int .i64 e.k, .int .i64 e.rid, .slice u1.a u1.n u1.c, .int .i64 e.q, .int .i64 e.f, .int .i64 e.l, .string e.t, .slice u2.a u2.n u2.c] rfl ?_
  intro w7 OB TB
  have z_w7 : w6.heap.size ≤ w7.heap.size := Nat.le_of_eq TB.size.symm
  have LA : Hid (Bx w7 w.heap.size 55 [.int .i64 e.k, .int .i64 e.rid, .slice e.sm.a e.sm.n e.sm.c, .int .i64 e.q, .int .i64 e.f, .int .i64 e.l, .string e.t, .slice e.sw.a e.sw.n e.sw.c]) := LA.out.turn TB (by omega)
  have EB : Hid (Bx w7 (w.heap.size + 1) 59 [.int .i64 0, .int .i64 0, .slice none 0 0, .int .i64 0, .int .i64 0, .int .i64 0, .string ⟨#[]⟩, .slice none 0 0]) := EB.out.turn TB (by omega)
  have BW : Hid (Below w.heap.size w w7) := BW.out.trans (TB.below (by omega))
  have O1 : Hid (OwnI w7 w.heap.size (u1.v) (e.ms)) := O1.out.past VB.out TB (by decide)
  have O2 : Hid (OwnI w7 w.heap.size (u2.v) (e.wi)) := O2.out.past VB.out TB (by decide)
  have VB : Hid (Bx w7 (w.heap.size + 2) 59 [.int .i64 e.k, .int .i64 e.rid, .slice u1.a u1.n u1.c, .int .i64 e.q, .int .i64 e.f, .int .i64 e.l, .string e.t, .slice u2.a u2.n u2.c]) := OB
  clear OB TB
  go_wp2_with (first | (refine wpList_ldG rfl 59 _ rfl (w.heap.size + 2) 0 rfl 59 _ VB.out [.int .i64 e.k, .int .i64 e.rid, .slice u1.a u1.n u1.c, .int .i64 e.q, .int .i64 e.f, .int .i64 e.l, .string e.t, .slice u2.a u2.n u2.c] rfl _ Try.underlying59 rfl Try.sizeEv ?_) | (with_reducible refine wpList_haltS 59 _ _ rfl ?_))
  refine Stp.go ?_
  refine wpList_stB rfl 59 _ _ rfl (w.heap.size + 1) 0 rfl 59 _ EB.out [.int .i64 e.k, .int .i64 e.rid, .slice u1.a u1.n u1.c, .int .i64 e.q, .int .i64 e.f, .int .i64 e.l, .string e.t, .slice u2.a u2.n u2.c] rfl (by simp) Try.sizeEv rfl [.int .i64 e.k, .int .i64 e.rid, .slice u1.a u1.n u1.c, .int .i64 e.q, .int .i64 e.f, .int .i64 e.l, .string e.t, .slice u2.a u2.n u2.c] rfl ?_
  intro w8 OB TB
  have z_w8 : w7.heap.size ≤ w8.heap.size := Nat.le_of_eq TB.size.symm
  have LA : Hid (Bx w8 w.heap.size 55 [.int .i64 e.k, .int .i64 e.rid, .slice e.sm.a e.sm.n e.sm.c, .int .i64 e.q, .int .i64 e.f, .int .i64 e.l, .string e.t, .slice e.sw.a e.sw.n e.sw.c]) := LA.out.turn TB (by omega)
  have VB : Hid (Bx w8 (w.heap.size + 2) 59 [.int .i64 e.k, .int .i64 e.rid, .slice u1.a u1.n u1.c, .int .i64 e.q, .int .i64 e.f, .int .i64 e.l, .string e.t, .slice u2.a u2.n u2.c]) := VB.out.turn TB (by omega)
  have BW : Hid (Below w.heap.size w w8) := BW.out.trans (TB.below (by omega))
  have O1 : Hid (OwnI w8 w.heap.size (u1.v) (e.ms)) := O1.out.past EB.out TB (by decide)
  have O2 : Hid (OwnI w8 w.heap.size (u2.v) (e.wi)) := O2.out.past EB.out TB (by decide)
  have EB : Hid (Bx w8 (w.heap.size + 1) 59 [.int .i64 e.k, .int .i64 e.rid, .slice u1.a u1.n u1.c, .int .i64 e.q, .int .i64 e.f, .int .i64 e.l, .string e.t, .slice u2.a u2.n u2.c]) := OB
  clear OB TB
  go_wp2_with fail
  refine bodyPost_ret (results_b Try.results26 (w.heap.size + 1) 59 [.int .i64 e.k, .int .i64 e.rid, .slice u1.a u1.n u1.c, .int .i64 e.q, .int .i64 e.f, .int .i64 e.l, .string e.t, .slice u2.a u2.n u2.c] _ rfl EB.out Try.underlying59 rfl Try.sizeEv) rfl ?_
  exact ⟨u1, u2, rfl, O1.out, O2.out, UP.out, BW.out⟩
set_option maxRecDepth 100000 in
set_option maxHeartbeats 8000000 in
theorem eqEvent_any (e : Ev) (a1 a2 b1 b2 : Sv) (w : World) (hs : Hid e.S) (h1 : Hid (OwnI w 0 a1.v e.ms)) (h2 : Hid (OwnI w 0 a2.v e.wi)) (h3 : Hid (OwnI w 0 b1.v e.ms)) (h4 : Hid (OwnI w 0 b2.v e.wi)) :
    Calls Try.prog 30 #[.agg #[.int .i64 e.k, .int .i64 e.rid, .slice a1.a a1.n a1.c, .int .i64 e.q, .int .i64 e.f, .int .i64 e.l, .string e.t, .slice a2.a a2.n a2.c], .agg #[.int .i64 e.k, .int .i64 e.rid, .slice b1.a b1.n b1.c, .int .i64 e.q, .int .i64 e.f, .int .i64 e.l, .string e.t, .slice b2.a b2.n b2.c]] w fun x w' => x = .returned (.bool true) ∧ Below w.heap.size w w' := by
  have hn1 : (w.alloc (.cells #[.int .i64 e.k, .int .i64 e.rid, .slice a1.a a1.n a1.c, .int .i64 e.q, .int .i64 e.f, .int .i64 e.l, .string e.t, .slice a2.a a2.n a2.c] 59)).heap.size = w.heap.size + 1 := by simp
  have LA : Hid (Bx ((w.alloc (.cells #[.int .i64 e.k, .int .i64 e.rid, .slice a1.a a1.n a1.c, .int .i64 e.q, .int .i64 e.f, .int .i64 e.l, .string e.t, .slice a2.a a2.n a2.c] 59)).alloc (.cells #[.int .i64 e.k, .int .i64 e.rid, .slice b1.a b1.n b1.c, .int .i64 e.q, .int .i64 e.f, .int .i64 e.l, .string e.t, .slice b2.a b2.n b2.c] 59)) w.heap.size 59 [.int .i64 e.k, .int .i64 e.rid, .slice a1.a a1.n a1.c, .int .i64 e.q, .int .i64 e.f, .int .i64 e.l, .string e.t, .slice a2.a a2.n a2.c]) := by
    have h := Bx.new w 59 [.int .i64 e.k, .int .i64 e.rid, .slice a1.a a1.n a1.c, .int .i64 e.q, .int .i64 e.f, .int .i64 e.l, .string e.t, .slice a2.a a2.n a2.c]
    exact (h).later ((Below.refl _ _).alloc (Nat.le_refl _) _)
  have LB : Hid (Bx ((w.alloc (.cells #[.int .i64 e.k, .int .i64 e.rid, .slice a1.a a1.n a1.c, .int .i64 e.q, .int .i64 e.f, .int .i64 e.l, .string e.t, .slice a2.a a2.n a2.c] 59)).alloc (.cells #[.int .i64 e.k, .int .i64 e.rid, .slice b1.a b1.n b1.c, .int .i64 e.q, .int .i64 e.f, .int .i64 e.l, .string e.t, .slice b2.a b2.n b2.c] 59)) (w.heap.size + 1) 59 [.int .i64 e.k, .int .i64 e.rid, .slice b1.a b1.n b1.c, .int .i64 e.q, .int .i64 e.f, .int .i64 e.l, .string e.t, .slice b2.a b2.n b2.c]) := by
    have h := Bx.new (w.alloc (.cells #[.int .i64 e.k, .int .i64 e.rid, .slice a1.a a1.n a1.c, .int .i64 e.q, .int .i64 e.f, .int .i64 e.l, .string e.t, .slice a2.a a2.n a2.c] 59)) 59 [.int .i64 e.k, .int .i64 e.rid, .slice b1.a b1.n b1.c, .int .i64 e.q, .int .i64 e.f, .int .i64 e.l, .string e.t, .slice b2.a b2.n b2.c]
    rw [hn1] at h
    exact h
  have BW : Hid (Below w.heap.size w ((w.alloc (.cells #[.int .i64 e.k, .int .i64 e.rid, .slice a1.a a1.n a1.c, .int .i64 e.q, .int .i64 e.f, .int .i64 e.l, .string e.t, .slice a2.a a2.n a2.c] 59)).alloc (.cells #[.int .i64 e.k, .int .i64 e.rid, .slice b1.a b1.n b1.c, .int .i64 e.q, .int .i64 e.f, .int .i64 e.l, .string e.t, .slice b2.a b2.n b2.c] 59))) := (((Below.refl _ _).alloc (by simp) _).alloc (by simp; try omega) _)
  clear hn1
  have H1 : Hid (OwnI ((w.alloc (.cells #[.int .i64 e.k, .int .i64 e.rid, .slice a1.a a1.n a1.c, .int .i64 e.q, .int .i64 e.f, .int .i64 e.l, .string e.t, .slice a2.a a2.n a2.c] 59)).alloc (.cells #[.int .i64 e.k, .int .i64 e.rid, .slice b1.a b1.n b1.c, .int .i64 e.q, .int .i64 e.f, .int .i64 e.l, .string e.t, .slice b2.a b2.n b2.c] 59)) 0 a1.v e.ms) := h1.out.keep fun _ _ hk => BW.out.block _ hk
  have H2 : Hid (OwnI ((w.alloc (.cells #[.int .i64 e.k, .int .i64 e.rid, .slice a1.a a1.n a1.c, .int .i64 e.q, .int .i64 e.f, .int .i64 e.l, .string e.t, .slice a2.a a2.n a2.c] 59)).alloc (.cells #[.int .i64 e.k, .int .i64 e.rid, .slice b1.a b1.n b1.c, .int .i64 e.q, .int .i64 e.f, .int .i64 e.l, .string e.t, .slice b2.a b2.n b2.c] 59)) 0 a2.v e.wi) := h2.out.keep fun _ _ hk => BW.out.block _ hk
  have H3 : Hid (OwnI ((w.alloc (.cells #[.int .i64 e.k, .int .i64 e.rid, .slice a1.a a1.n a1.c, .int .i64 e.q, .int .i64 e.f, .int .i64 e.l, .string e.t, .slice a2.a a2.n a2.c] 59)).alloc (.cells #[.int .i64 e.k, .int .i64 e.rid, .slice b1.a b1.n b1.c, .int .i64 e.q, .int .i64 e.f, .int .i64 e.l, .string e.t, .slice b2.a b2.n b2.c] 59)) 0 b1.v e.ms) := h3.out.keep fun _ _ hk => BW.out.block _ hk
  have H4 : Hid (OwnI ((w.alloc (.cells #[.int .i64 e.k, .int .i64 e.rid, .slice a1.a a1.n a1.c, .int .i64 e.q, .int .i64 e.f, .int .i64 e.l, .string e.t, .slice a2.a a2.n a2.c] 59)).alloc (.cells #[.int .i64 e.k, .int .i64 e.rid, .slice b1.a b1.n b1.c, .int .i64 e.q, .int .i64 e.f, .int .i64 e.l, .string e.t, .slice b2.a b2.n b2.c] 59)) 0 b2.v e.wi) := h4.out.keep fun _ _ hk => BW.out.block _ hk
  clear h1 h2 h3 h4
  have d0 : (e.k != e.k) = false := by simp
  have a0 := LA.out.cell 0
  have b0 := LB.out.cell 0
  simp only [List.getElem?_cons_zero] at a0 b0
  go_enter Try.func30, Try.ntmps30
  go_wp2_with (first | (refine wpList_ldG rfl 56 _ rfl w.heap.size 1 rfl 59 _ LA.out [.int .i64 e.rid, .slice a1.a a1.n a1.c] rfl _ Try.underlying56 rfl Try.sizeR ?_) | (refine wpList_ldG rfl 56 _ rfl (w.heap.size + 1) 1 rfl 59 _ LB.out [.int .i64 e.rid, .slice b1.a b1.n b1.c] rfl _ Try.underlying56 rfl Try.sizeR ?_))
  generalize ((w.alloc (.cells #[.int .i64 e.k, .int .i64 e.rid, .slice a1.a a1.n a1.c, .int .i64 e.q, .int .i64 e.f, .int .i64 e.l, .string e.t, .slice a2.a a2.n a2.c] 59)).alloc (.cells #[.int .i64 e.k, .int .i64 e.rid, .slice b1.a b1.n b1.c, .int .i64 e.q, .int .i64 e.f, .int .i64 e.l, .string e.t, .slice b2.a b2.n b2.c] 59)) = W at *
  clear a0 b0 d0
  refine (eqRing_same e.rid a1.v b1.v e.ms 0 0 _ H1 H3 hs.out.1).mono ?_
  rintro e w1 ⟨rfl, b⟩
  have z_w1 : W.heap.size ≤ w1.heap.size := b.size
  have H1 : Hid (OwnI w1 0 (a1.v) (e.ms)) := H1.out.keep fun _ _ hk => (b).block _ hk
  have H2 : Hid (OwnI w1 0 (a2.v) (e.wi)) := H2.out.keep fun _ _ hk => (b).block _ hk
  have H3 : Hid (OwnI w1 0 (b1.v) (e.ms)) := H3.out.keep fun _ _ hk => (b).block _ hk
  have H4 : Hid (OwnI w1 0 (b2.v) (e.wi)) := H4.out.keep fun _ _ hk => (b).block _ hk
  have LA : Hid (Bx w1 w.heap.size 59 [.int .i64 e.k, .int .i64 e.rid, .slice a1.a a1.n a1.c, .int .i64 e.q, .int .i64 e.f, .int .i64 e.l, .string e.t, .slice a2.a a2.n a2.c]) := LA.out.later b
  have LB : Hid (Bx w1 (w.heap.size + 1) 59 [.int .i64 e.k, .int .i64 e.rid, .slice b1.a b1.n b1.c, .int .i64 e.q, .int .i64 e.f, .int .i64 e.l, .string e.t, .slice b2.a b2.n b2.c]) := LB.out.later b
  have BW : Hid (Below w.heap.size w w1) := bl_next BW.out b
  clear b
  go_wp2_with (first | (refine wpList_ldG rfl 57 _ rfl w.heap.size 3 rfl 59 _ LA.out [.int .i64 e.q, .int .i64 e.f, .int .i64 e.l, .string e.t] rfl _ Try.underlying57 rfl Try.sizeI ?_) | (refine wpList_ldG rfl 57 _ rfl (w.heap.size + 1) 3 rfl 59 _ LB.out [.int .i64 e.q, .int .i64 e.f, .int .i64 e.l, .string e.t] rfl _ Try.underlying57 rfl Try.sizeI ?_))
  refine (eqItem_same e.q e.f e.l e.t _).mono ?_
  rintro e w2 ⟨rfl, b⟩
  have z_w2 : w1.heap.size ≤ w2.heap.size := b.size
  have H1 : Hid (OwnI w2 0 (a1.v) (e.ms)) := H1.out.keep fun _ _ hk => (b).block _ hk
  have H2 : Hid (OwnI w2 0 (a2.v) (e.wi)) := H2.out.keep fun _ _ hk => (b).block _ hk
  have H3 : Hid (OwnI w2 0 (b1.v) (e.ms)) := H3.out.keep fun _ _ hk => (b).block _ hk
  have H4 : Hid (OwnI w2 0 (b2.v) (e.wi)) := H4.out.keep fun _ _ hk => (b).block _ hk
  have LA : Hid (Bx w2 w.heap.size 59 [.int .i64 e.k, .int .i64 e.rid, .slice a1.a a1.n a1.c, .int .i64 e.q, .int .i64 e.f, .int .i64 e.l, .string e.t, .slice a2.a a2.n a2.c]) := LA.out.later b
  have LB : Hid (Bx w2 (w.heap.size + 1) 59 [.int .i64 e.k, .int .i64 e.rid, .slice b1.a b1.n b1.c, .int .i64 e.q, .int .i64 e.f, .int .i64 e.l, .string e.t, .slice b2.a b2.n b2.c]) := LB.out.later b
  have BW : Hid (Below w.heap.size w w2) := bl_next BW.out b
  clear b
  have a7 := LA.out.cell 7
  have b7 := LB.out.cell 7
  simp only [List.getElem?_cons_succ, List.getElem?_cons_zero] at a7 b7
  go_wp2_with fail
  clear a7 b7
  refine (eqI_same a2.v b2.v e.wi 0 0 _ H2.out H4.out hs.out.2.1).mono ?_
  rintro e w3 ⟨rfl, b⟩
  have z_w3 : w2.heap.size ≤ w3.heap.size := b.size
  have H1 : Hid (OwnI w3 0 (a1.v) (e.ms)) := H1.out.keep fun _ _ hk => (b).block _ hk
  have H2 : Hid (OwnI w3 0 (a2.v) (e.wi)) := H2.out.keep fun _ _ hk => (b).block _ hk
  have H3 : Hid (OwnI w3 0 (b1.v) (e.ms)) := H3.out.keep fun _ _ hk => (b).block _ hk
  have H4 : Hid (OwnI w3 0 (b2.v) (e.wi)) := H4.out.keep fun _ _ hk => (b).block _ hk
  have LA : Hid (Bx w3 w.heap.size 59 [.int .i64 e.k, .int .i64 e.rid, .slice a1.a a1.n a1.c, .int .i64 e.q, .int .i64 e.f, .int .i64 e.l, .string e.t, .slice a2.a a2.n a2.c]) := LA.out.later b
  have LB : Hid (Bx w3 (w.heap.size + 1) 59 [.int .i64 e.k, .int .i64 e.rid, .slice b1.a b1.n b1.c, .int .i64 e.q, .int .i64 e.f, .int .i64 e.l, .string e.t, .slice b2.a b2.n b2.c]) := LB.out.later b
  have BW : Hid (Below w.heap.size w w3) := bl_next BW.out b
  clear b
  go_wp2_with fail
  go_ret
  exact ⟨rfl, BW.out⟩
end Go.Proofs.Ytdodeillifoibaa


/- Lists of events that a law measures and copies. Written by gen_ls.py. -/
namespace Go.Proofs.Ytdodeillifoibaa
open Go.RowKit Pl
set_option linter.unusedVariables false
set_option linter.unusedSimpArgs false

theorem Ev.O.keep {w w' : World} {B : Nat} {e : Ev} (h : e.O w B) (hk : ∀ b, B ≤ b → b < w.heap.size → w'.heap[b]? = w.heap[b]?) : e.O w' B := ⟨h.1.keep fun b hb hl => hk b (h.1.lt b hb).1 hl, h.2.keep fun b hb hl => hk b (h.2.lt b hb).1 hl⟩
theorem Ev.O.below {w w' : World} {B : Nat} {e : Ev} (h : e.O w B) (b : Below w.heap.size w w') : e.O w' B := h.keep fun k _ hk => b.block k hk
theorem Ev.O.down {w : World} {B B' : Nat} {e : Ev} (h : e.O w B) (hB : B' ≤ B) : e.O w B' := ⟨h.1.down hB, h.2.down hB⟩
def Ev.own (e : Ev) (x : Nat) : Prop := e.sm.v.ownBlock = some x ∨ e.sw.v.ownBlock = some x
theorem Ev.O.lt {w : World} {B : Nat} {e : Ev} (h : e.O w B) (x : Nat) (hx : e.own x) : B ≤ x ∧ x < w.heap.size := by
  rcases hx with hx | hx
  · exact h.1.lt x hx
  · exact h.2.lt x hx
def Ev.Up (e : Ev) : Prop := ∀ a c, e.sm.v.ownBlock = some a → e.sw.v.ownBlock = some c → a < c
/-- a list of them that is read. -/
def EvsR (w : World) (s : Sv) (es : List Ev) : Prop := s.n = es.length ∧ RwA w s.a 8 (es.map Ev.row) ∧ ∀ e ∈ es, e.R w
theorem EvsR.stays {w w' : World} {s : Sv} {es : List Ev} (h : EvsR w s es) (b : Below w.heap.size w w') : EvsR w' s es := ⟨h.1, h.2.1.stays b, fun e he => (h.2.2 e he).stays b⟩
/-- a list of the call's own. -/
def EvsO (w : World) (B : Nat) (s : Sv) (es : List Ev) : Prop := SlN w 59 8 B s.v (es.map Ev.row) ∧ ∀ e ∈ es, e.O w B
theorem EvsO.r {w : World} {B : Nat} {s : Sv} {es : List Ev} (h : EvsO w B s es) : EvsR w s es := ⟨by have := h.1.slen; simpa using this, h.1.rwa, fun e he => (h.2 e he).r⟩
theorem EvsO.keep {w w' : World} {B : Nat} {s : Sv} {es : List Ev} (h : EvsO w B s es) (hk : ∀ b, B ≤ b → b < w.heap.size → w'.heap[b]? = w.heap[b]?) : EvsO w' B s es := ⟨h.1.keep fun b hb hl => hk b (h.1.lt b hb).1 hl, fun e he => (h.2 e he).keep hk⟩
theorem EvsO.below {w w' : World} {B : Nat} {s : Sv} {es : List Ev} (h : EvsO w B s es) (b : Below w.heap.size w w') : EvsO w' B s es := h.keep fun k _ hk => b.block k hk
theorem EvsO.down {w : World} {B B' : Nat} {s : Sv} {es : List Ev} (h : EvsO w B s es) (hB : B' ≤ B) : EvsO w B' s es := ⟨h.1.down hB, fun e he => (h.2 e he).down hB⟩
theorem EvsO.nil (w : World) (B : Nat) : EvsO w B zSv [] := ⟨SlN.nil _ _ _ _, fun e he => by cases he⟩
/-- each one's lists lie behind those of the ones ahead. -/
def EvsUp (es : List Ev) : Prop := (∀ e ∈ es, e.Up) ∧ es.Pairwise fun a b => ∀ x y, a.own x → b.own y → x < y
def Evs.tot (es : List Ev) : Nat := (es.map fun e => e.sz).sum
theorem Evs.tot_take (es : List Ev) (k : Nat) (hk : k < es.length) : Evs.tot (es.take (k + 1)) = Evs.tot (es.take k) + es[k].sz := by
  unfold Evs.tot
  rw [List.take_succ_eq_append_getElem hk, List.map_append, List.sum_append]
  simp

set_option maxRecDepth 100000 in
set_option maxHeartbeats 4000000 in
theorem szEvents_any (s : Sv) (es : List Ev) (left : Nat) (w : World) (hx : Hid (EvsR w s es)) (hleft : left ≤ 1048576) (hl : es.length ≤ 9223372036854775807) (hs : Hid (∀ e ∈ es, e.L)) :
    Calls Try.prog 7 #[.slice s.a s.n s.c, .int .i64 left] w fun x w' => (x = .returned (.int .i64 (-1)) ∨ ∃ z : Nat, x = .returned (.int .i64 z) ∧ Hid (z + (es.length + Evs.tot es) ≤ left)) ∧ Below w.heap.size w w' := by
  obtain ⟨a, n, c⟩ := s
  dsimp only
  have HN : Hid (n = es.length) := hx.out.1
  have hn : n ≤ 9223372036854775807 := by have := HN.out; omega
  clear hl
  by_cases h1 : left < n
  · have hd : decide ((left : Int) - (n : Int) < 0) = true := by simp; omega
    go_enter Try.func7, Try.ntmps7
    go_wp2_with fail
    go_ret
    exact ⟨.inl rfl, Below.refl _ _⟩
  have hd : decide ((left : Int) - (n : Int) < 0) = false := by simp; omega
  go_enter Try.func7, Try.ntmps7
  go_wp2_with fail
  clear hd
  go_loopw [1, 5] (fun lf i wr => ∃ (k z : Nat), k ≤ n ∧ z ≤ 1048576 ∧ lf = .int .i64 z ∧ i = .int .i64 k ∧ Hid (z + (es.length + Evs.tot (es.take k)) ≤ left) ∧ Hid (Below w.heap.size w wr)) (fun _ i _ => n - (intOf i).toNat)
  case atStart => exact ⟨0, left - n, Nat.zero_le _, by omega, by congr 1; omega, rfl, (by have := HN.out; simp [Evs.tot]; omega : left - n + (es.length + Evs.tot (es.take 0)) ≤ left), Below.refl _ _⟩
  case round =>
    obtain ⟨k, z, hk, hz, rfl, rfl, hsm, hb⟩ := hrel
    by_cases hlt : k < n
    · have hlt2 : k < es.length := by have := HN.out; omega
      obtain ⟨g, off, ha, hg, _, hr⟩ := (hx.out.stays hb.out).2.1 k (by simpa using hlt2)
      obtain ⟨e, he⟩ : ∃ e, e = es[k] := ⟨_, rfl⟩
      have hr2 : wr.rangeAt g (off + k * 8) e.row := by rw [he]; simpa using hr
      have HR : Hid (wr.rangeAt g (off + k * 8) e.row) := hr2
      have HE : Hid (e = es[k]) := he
      have RR : Hid (e.R wr) := by rw [he]; exact (hx.out.stays hb.out).2.2 _ (List.getElem_mem hlt2)
      have LL : Hid e.L := by rw [he]; exact hs.out _ (List.getElem_mem hlt2)
      have ha : a = some ⟨g, off, none⟩ := ha
      subst ha
      have i0 : (0 : Int) ≤ (k : Int) := by omega
      have i1 : (k : Int) < (n : Int) := by omega
      clear hr hr2 he hg
      go_wp2_with (first | (refine wpList_ldN rfl 55 _ rfl g (off + k * 8) (by rfl) e.row HR.out _ Try.underlying55 rfl Try.sizeLEv ?_))
      refine (szEvent_any e z _ RR LL (by omega)).mono ?_
      rintro x w1 ⟨rfl | ⟨r, rfl, hr1⟩, hb1⟩
      · go_wp2_with fail
        go_ret
        exact ⟨.inl rfl, bl_nxt hb.out hb1⟩
      · have B1 : Hid (Below w.heap.size w w1) := bl_nxt hb.out hb1
        have HR1 : Hid (r + e.sz ≤ z) := (by omega : r + e.sz ≤ z)
        have hrz : r ≤ 1048576 := by omega
        have hd : decide ((r : Int) < 0) = false := by simp
        have HS2 : Hid (r + (es.length + Evs.tot (es.take (k + 1))) ≤ left) := by
          have h1 := hsm.out
          have h2 := HR1.out
          have h3 := Evs.tot_take es k hlt2
          rw [← HE.out] at h3
          show _ ≤ _
          omega
        clear hb1 hr1 HR
        go_wp2_with fail
        go_roundw
        case rel => exact ⟨k + 1, r, by omega, hrz, rfl, by go_num, HS2, B1⟩
        case measure => simp [intOf]; omega
    · obtain rfl : k = n := by omega
      go_wp2_with fail
      go_ret
      exact ⟨.inr ⟨z, rfl, by have := hsm.out; rwa [HN.out, List.take_of_length_le (Nat.le_refl _)] at this⟩, hb.out⟩
theorem Try.infoEv : (Try.prog.info? 59).map (fun i => (i.zero, i.size, i.bytes)) = some (some (.agg #[.int .i64 0, .int .i64 0, .slice none 0 0, .int .i64 0, .int .i64 0, .int .i64 0, .string ⟨#[]⟩, .slice none 0 0]), 8, 104) := by kernel_rfl
set_option maxRecDepth 100000 in
set_option maxHeartbeats 8000000 in
theorem toEvents_any (s : Sv) (es : List Ev) (w : World) (hx : Hid (EvsR w s es)) (hl : es.length ≤ 1048576) (hs : Hid (∀ e ∈ es, e.S)) :
    Calls Try.prog 9 #[.slice s.a s.n s.c] w fun x w' => ∃ (u : Sv) (cs : List Ev), x = .returned (.slice u.a u.n u.c) ∧ cs.map Ev.pl = es.map Ev.pl ∧ EvsO w' w.heap.size u cs ∧ EvsUp cs ∧ (∀ b, u.v.ownBlock = some b → b = w.heap.size ∧ ∀ e ∈ cs, ∀ x, e.own x → b < x) ∧ Below w.heap.size w w' := by
  obtain ⟨a, n, c⟩ := s
  dsimp only
  have HN : Hid (n = es.length) := hx.out.1
  have hn : n ≤ 1048576 := by have := HN.out; omega
  clear hl
  obtain ⟨i0, hi, hz0, hz1, hz2⟩ := info_parts Try.infoEv
  obtain ⟨A, hA⟩ : ∃ A : Array Value, A = madeCells (Value.agg #[.int .i64 0, .int .i64 0, .slice none 0 0, .int .i64 0, .int .i64 0, .int .i64 0, .string ⟨#[]⟩, .slice none 0 0]).cells (n * 8) := ⟨_, rfl⟩
  have hmk : ∀ W : World, (Instr.makeSlice 26 (.int .i64 (n : Int)) (.int .i64 (n : Int))).run Try.prog W = .ok (.slice (some ⟨W.heap.size, 0, none⟩) n n) (W.alloc (.cells A 59)) := fun W => by
    have h := run_make (P := Try.prog) W 26 59 i0 _ Try.underlying26 hi hz0 .i64 .i64 (n : Int) (n : Int) (by omega) (by omega) (by rw [hz2]; omega) (by omega)
    rw [hz1, Int.toNat_natCast, ← hA] at h
    simpa using h
  have H0 : Hid (SlN (w.alloc (.cells A 59)) 59 8 w.heap.size (.slice (some ⟨w.heap.size, 0, none⟩) n n) (List.replicate n [.int .i64 0, .int .i64 0, .slice none 0 0, .int .i64 0, .int .i64 0, .int .i64 0, .string ⟨#[]⟩, .slice none 0 0])) := by rw [hA]; exact SlN.zeros w 59 [.int .i64 0, .int .i64 0, .slice none 0 0, .int .i64 0, .int .i64 0, .int .i64 0, .string ⟨#[]⟩, .slice none 0 0] (by simp) rfl n w.heap.size (Nat.le_refl _) hn
  clear hA
  have HB0 : Hid (Below w.heap.size w (w.alloc (.cells A 59))) := (Below.refl _ _).alloc (Nat.le_refl _) _
  have HZ0 : Hid (w.heap.size < (w.alloc (.cells A 59)).heap.size) := (by simp : _ < _)
  go_enter Try.func9, Try.ntmps9
  go_wp2_with fail
  generalize w.alloc (.cells A 59) = W at *
  clear hmk hi hz0 hz1 hz2
  go_loopw [4] (fun i wr => ∃ (k : Nat) (cs : List Ev), k ≤ n ∧ i = .int .i64 k ∧ Hid (cs.length = k) ∧ Hid (cs.map Ev.pl = (es.take k).map Ev.pl) ∧ Hid (SlN wr 59 8 w.heap.size (.slice (some ⟨w.heap.size, 0, none⟩) n n) (cs.map Ev.row ++ List.replicate (n - k) ([.int .i64 0, .int .i64 0, .slice none 0 0, .int .i64 0, .int .i64 0, .int .i64 0, .string ⟨#[]⟩, .slice none 0 0] : List Value))) ∧ Hid (∀ c ∈ cs, c.O wr (w.heap.size + 1)) ∧ Hid (EvsUp cs) ∧ Hid (w.heap.size < wr.heap.size) ∧ Hid (Below w.heap.size w wr)) (fun i _ => n - (intOf i).toNat)
  case atStart => exact ⟨0, [], Nat.zero_le _, rfl, rfl, rfl, (by have h := H0.out; simpa using h : SlN _ _ _ _ _ _), (fun c hc => (by cases hc) : ∀ c ∈ ([] : List Ev), _), ⟨fun e he => (by cases he), List.Pairwise.nil⟩, HZ0, HB0⟩
  case round =>
    obtain ⟨k, cs, hk, rfl, hcl, hpl, hrow, hown, hup, hzl, hb⟩ := hrel
    clear H0 HB0 HZ0
    by_cases hlt : k < n
    · have hlt2 : k < es.length := by have := HN.out; omega
      obtain ⟨g, off, ha, hg, _, hr⟩ := (hx.out.stays hb.out).2.1 k (by simpa using hlt2)
      obtain ⟨e, he⟩ : ∃ e, e = es[k] := ⟨_, rfl⟩
      have hr2 : wr.rangeAt g (off + k * 8) e.row := by rw [he]; simpa using hr
      have HR : Hid (wr.rangeAt g (off + k * 8) e.row) := hr2
      have HE : Hid (e = es[k]) := he
      have RR : Hid (e.R wr) := by rw [he]; exact (hx.out.stays hb.out).2.2 _ (List.getElem_mem hlt2)
      have SS : Hid e.S := by rw [he]; exact hs.out _ (List.getElem_mem hlt2)
      have ha : a = some ⟨g, off, none⟩ := ha
      subst ha
      have i0 : (0 : Int) ≤ (k : Int) := by omega
      have i1 : (k : Int) < (n : Int) := by omega
      clear hr hr2 he hg
      go_wp2_with (first | (refine wpList_ldN rfl 55 _ rfl g (off + k * 8) (by rfl) e.row HR.out _ Try.underlying55 rfl Try.sizeLEv ?_))
      refine (toEvent_any e _ RR SS).mono ?_
      rintro x w1 ⟨u1, u2, rfl, o1, o2, up, b1⟩
      obtain ⟨c1, hc⟩ : ∃ c : Ev, c = { e with sm := u1, sw := u2 } := ⟨_, rfl⟩
      have CO : Hid (c1.O w1 wr.heap.size) := by rw [hc]; exact ⟨o1, o2⟩
      have CU : Hid c1.Up := by rw [hc]; exact up
      have CP : Hid (c1.pl = e.pl) := by rw [hc]; exact rfl
      have CR : Hid (([.int .i64 e.k, .int .i64 e.rid, .slice u1.a u1.n u1.c, .int .i64 e.q, .int .i64 e.f, .int .i64 e.l, .string e.t, .slice u2.a u2.n u2.c] : List Value) = c1.row) := by rw [hc]; rfl
      have B1 : Hid (Below w.heap.size w w1) := bl_nxt hb.out b1
      have R1 : Hid (SlN w1 59 8 w.heap.size (.slice (some ⟨w.heap.size, 0, none⟩) n n) (cs.map Ev.row ++ List.replicate (n - k) ([.int .i64 0, .int .i64 0, .slice none 0 0, .int .i64 0, .int .i64 0, .int .i64 0, .string ⟨#[]⟩, .slice none 0 0] : List Value))) := hrow.out.below b1
      have O1 : Hid (∀ c ∈ cs, c.O w1 (w.heap.size + 1)) := fun c hc => (hown.out c hc).below b1
      have LT : Hid (∀ c ∈ cs, ∀ x, c.own x → x < wr.heap.size) := fun c hc x hx => ((hown.out c hc).lt x hx).2
      have ZL : Hid (w.heap.size + 1 ≤ wr.heap.size) := hzl.out
      have ZL1 : Hid (w.heap.size < w1.heap.size) := Nat.lt_of_lt_of_le hzl.out b1.size
      clear HR b1 hrow hown hb hc hzl
      go_wp2_with (first | (with_reducible refine wpList_haltS 59 _ _ rfl ?_))
      refine Stp.go ?_
      have HL : n = (cs.map Ev.row ++ List.replicate (n - k) ([.int .i64 0, .int .i64 0, .slice none 0 0, .int .i64 0, .int .i64 0, .int .i64 0, .string ⟨#[]⟩, .slice none 0 0] : List Value)).length := by have := hcl.out; simp; omega
      have R2 : SlN w1 59 8 w.heap.size (.slice (some ⟨w.heap.size, 0, none⟩) (cs.map Ev.row ++ List.replicate (n - k) ([.int .i64 0, .int .i64 0, .slice none 0 0, .int .i64 0, .int .i64 0, .int .i64 0, .string ⟨#[]⟩, .slice none 0 0] : List Value)).length n) (cs.map Ev.row ++ List.replicate (n - k) ([.int .i64 0, .int .i64 0, .slice none 0 0, .int .i64 0, .int .i64 0, .int .i64 0, .string ⟨#[]⟩, .slice none 0 0] : List Value)) := by rw [← HL]; exact R1.out
      refine wpList_stN (i := k) rfl 59 _ _ rfl R2 (by rw [← HL]; exact hlt) (by rw [Nat.zero_add]; rfl) ([.int .i64 e.k, .int .i64 e.rid, .slice u1.a u1.n u1.c, .int .i64 e.q, .int .i64 e.f, .int .i64 e.l, .string e.t, .slice u2.a u2.n u2.c]) rfl rfl rfl Try.sizeEv ?_
      intro w2 R3 T3
      rw [← HL, CR.out] at R3
      have e3 : (cs.map Ev.row ++ List.replicate (n - k) ([.int .i64 0, .int .i64 0, .slice none 0 0, .int .i64 0, .int .i64 0, .int .i64 0, .string ⟨#[]⟩, .slice none 0 0] : List Value)).set k c1.row = (cs ++ [c1]).map Ev.row ++ List.replicate (n - (k + 1)) ([.int .i64 0, .int .i64 0, .slice none 0 0, .int .i64 0, .int .i64 0, .int .i64 0, .string ⟨#[]⟩, .slice none 0 0] : List Value) := by
        have h := set_snoc (cs.map Ev.row) [.int .i64 0, .int .i64 0, .slice none 0 0, .int .i64 0, .int .i64 0, .int .i64 0, .string ⟨#[]⟩, .slice none 0 0] c1.row (n - (k + 1))
        rw [show n - (k + 1) + 1 = n - k by omega, List.length_map, hcl.out] at h
        rw [h, List.map_append]
        rfl
      rw [e3] at R3
      have R4 : Hid (SlN w2 59 8 w.heap.size (.slice (some ⟨w.heap.size, 0, none⟩) n n) ((cs ++ [c1]).map Ev.row ++ List.replicate (n - (k + 1)) ([.int .i64 0, .int .i64 0, .slice none 0 0, .int .i64 0, .int .i64 0, .int .i64 0, .string ⟨#[]⟩, .slice none 0 0] : List Value))) := R3
      have T4 : Hid (TurnAt w.heap.size w1 w2) := T3
      clear R1 R2 R3 T3 HL e3 CR
      go_wp2_with fail
      go_roundw
      case rel =>
        have kp : ∀ c : Ev, c.O w1 (w.heap.size + 1) → c.O w2 (w.heap.size + 1) := fun c h => h.keep fun b hb _ => T4.out.block b (by omega)
        refine ⟨k + 1, cs ++ [c1], by omega, by go_num, (by have := hcl.out; simp; omega : _ = _), ?_, R4, fun x hx => ?_, ⟨fun x hx => ?_, ?_⟩, (by have h := T4.out.size; have := ZL1.out; omega : _ < _), B1.out.trans (T4.out.below (Nat.le_refl _))⟩
        · show _ = _
          rw [List.map_append, hpl.out, List.take_succ_eq_append_getElem hlt2, List.map_append, ← HE.out]
          simp [CP.out]
        · rcases List.mem_append.1 hx with h | h
          · exact kp _ (O1.out x h)
          · rw [List.mem_singleton.1 h]; exact kp _ (CO.out.down ZL.out)
        · rcases List.mem_append.1 hx with h | h
          · exact hup.out.1 x h
          · rw [List.mem_singleton.1 h]; exact CU.out
        · refine List.pairwise_append.2 ⟨hup.out.2, List.pairwise_singleton _ _, fun a ha b hb x y hx hy => ?_⟩
          rw [List.mem_singleton.1 hb] at hy
          have h1 := LT.out a ha x hx
          have h2 := (CO.out.lt y hy).1
          omega
      case measure => simp [intOf]; omega
    · obtain rfl : k = n := by omega
      go_wp2_with fail
      go_ret
      have hr := hrow.out
      rw [Nat.sub_self, List.replicate_zero, List.append_nil] at hr
      refine ⟨⟨some ⟨w.heap.size, 0, none⟩, _, _⟩, cs, rfl, ?_, ⟨hr, fun e he => (hown.out e he).down (Nat.le_succ _)⟩, hup.out, fun b hb => ?_, hb.out⟩
      · have h := hpl.out
        rwa [HN.out, List.take_of_length_le (Nat.le_refl _)] at h
      · simp [Sv.v, Value.ownBlock] at hb
        subst hb
        exact ⟨rfl, fun e he x hx => by have := ((hown.out e he).lt x hx).1; omega⟩
end Go.Proofs.Ytdodeillifoibaa


/- The items of a ring in a log: both ItemsOf. -/
namespace Go.Proofs.Ytdodeillifoibaa
open Go.RowKit Pl
set_option linter.unusedVariables false
set_option linter.unusedSimpArgs false

/-- the item of an event. -/
def Ev.it (e : Ev) : It := (e.q, e.f, e.l, e.t)
/-- of a kind, and of a ring. -/
def Ev.isB (e : Ev) (k c : Int) : Bool := e.k == k && e.rid == c
/-- the items of a ring in a log. -/
def itemsP (c : Int) (es : List Ev) : List It := (es.filter fun e => e.isB 1 c).map Ev.it
theorem itemsP_step {c : Int} {es : List Ev} {k : Nat} (hk : k < es.length) : itemsP c (es.take (k + 1)) = itemsP c (es.take k) ++ if es[k].isB 1 c = true then [es[k].it] else [] := by
  unfold itemsP
  rw [List.take_succ_eq_append_getElem hk, List.filter_append, List.map_append]
  congr 1
  by_cases h : es[k].isB 1 c = true <;> simp [h]
theorem itemsP_len (c : Int) (es : List Ev) : (itemsP c es).length ≤ es.length := by
  unfold itemsP; rw [List.length_map]; exact List.length_filter_le _ _
theorem range_sub {w : World} {g off : Nat} {cs ds : List Value} (h : w.rangeAt g off cs) (k : Nat) (hp : ∀ j v, ds[j]? = some v → cs[k + j]? = some v) : w.rangeAt g (off + k) ds := fun j v hv => by
  rw [Nat.add_assoc]; exact h _ _ (hp j v hv)
theorem Ev.rng {w : World} {g off : Nat} {e : Ev} (h : w.rangeAt g off e.row) : w.cell? ⟨g, off, none⟩ = some (.int .i64 e.k) ∧ w.cell? ⟨g, off + 1, none⟩ = some (.int .i64 e.rid) ∧ w.rangeAt g (off + 3) [.int .i64 e.q, .int .i64 e.f, .int .i64 e.l, .string e.t] := by
  refine ⟨h 0 _ rfl, h 1 _ rfl, range_sub h 3 fun j v hv => ?_⟩
  match j, hv with
  | 0, hv => exact hv
  | 1, hv => exact hv
  | 2, hv => exact hv
  | 3, hv => exact hv
  | j + 4, hv => simp at hv

set_option maxRecDepth 100000 in
set_option maxHeartbeats 2000000 in
theorem evIs_any (e : Ev) (k c : Int) (w : World) :
    Calls Try.prog 27 #[.agg #[.int .i64 e.k, .int .i64 e.rid, .slice e.sm.a e.sm.n e.sm.c, .int .i64 e.q, .int .i64 e.f, .int .i64 e.l, .string e.t, .slice e.sw.a e.sw.n e.sw.c], .int .i64 k, .int .i64 c] w fun x w' => x = .returned (.bool (e.isB k c)) ∧ Below w.heap.size w w' := by
  have LA : Bx (w.alloc (.cells #[.int .i64 e.k, .int .i64 e.rid, .slice e.sm.a e.sm.n e.sm.c, .int .i64 e.q, .int .i64 e.f, .int .i64 e.l, .string e.t, .slice e.sw.a e.sw.n e.sw.c] 59)) w.heap.size 59 [.int .i64 e.k, .int .i64 e.rid, .slice e.sm.a e.sm.n e.sm.c, .int .i64 e.q, .int .i64 e.f, .int .i64 e.l, .string e.t, .slice e.sw.a e.sw.n e.sw.c] := Bx.new w 59 _
  have BW : Hid (Below w.heap.size w (w.alloc (.cells #[.int .i64 e.k, .int .i64 e.rid, .slice e.sm.a e.sm.n e.sm.c, .int .i64 e.q, .int .i64 e.f, .int .i64 e.l, .string e.t, .slice e.sw.a e.sw.n e.sw.c] 59))) := (Below.refl _ _).alloc (Nat.le_refl _) _
  have c0 := LA.cell 0
  have c1 := LA.cell 1
  simp only [List.getElem?_cons_succ, List.getElem?_cons_zero] at c0 c1
  clear LA
  go_enter Try.func27, Try.ntmps27
  cases h : e.k == k
  · go_wp2_with fail
    go_ret
    exact ⟨by simp [Ev.isB, h], (Below.refl _ _).alloc (Nat.le_refl _) _⟩
  · go_wp2_with fail
    go_ret
    exact ⟨by simp [Ev.isB, h], (Below.refl _ _).alloc (Nat.le_refl _) _⟩

set_option maxRecDepth 100000 in
set_option maxHeartbeats 4000000 in
theorem itemsOf_any (s : Sv) (es : List Ev) (c : Int) (w : World) (hx : Hid (EvsR w s es)) (hl : es.length ≤ 1048576) (hs : Hid (∀ e ∈ es, e.S)) :
    Calls Try.prog 10 #[.slice s.a s.n s.c, .int .i64 c] w fun x w' => ∃ u : Sv, x = .returned (.slice u.a u.n u.c) ∧ SlI w' w.heap.size u.v (itemsP c es) ∧ Below w.heap.size w w' := by
  obtain ⟨a, n, cp⟩ := s
  dsimp only
  have HN : Hid (n = es.length) := hx.out.1
  have hn : n ≤ 1048576 := by have := HN.out; omega
  clear hl
  have V0 : Hid (SlI (w.alloc (.cells #[] 57)) w.heap.size (.slice (some ⟨w.heap.size, 0, none⟩) 0 0) []) := SlI.made w w.heap.size (Nat.le_refl _)
  have B0 : Hid (Below w.heap.size w (w.alloc (.cells #[] 57))) := (Below.refl _ _).alloc (Nat.le_refl _) _
  go_enter Try.func10, Try.ntmps10
  go_wp2_with fail
  generalize w.alloc (.cells #[] 57) = W0 at *
  go_loopw [5, 10] (fun v i wr => ∃ k : Nat, k ≤ n ∧ i = .int .i64 k ∧ Hid (SlI wr w.heap.size v (itemsP c (es.take k))) ∧ Hid (Below w.heap.size w wr)) (fun _ i _ => n - (intOf i).toNat)
  case atStart => exact ⟨0, Nat.zero_le _, rfl, V0, B0⟩
  case round =>
    clear V0 B0
    obtain ⟨k, hk, rfl, hS, hb⟩ := hrel
    by_cases hlt : k < n
    · have hlt2 : k < es.length := by have := HN.out; omega
      obtain ⟨g, off, ha, hg, _, hr⟩ := (hx.out.stays hb.out).2.1 k (by simpa using hlt2)
      obtain ⟨e, he⟩ : ∃ e, e = es[k] := ⟨_, rfl⟩
      have hr2 : wr.rangeAt g (off + k * 8) e.row := by rw [he]; simpa using hr
      have HR : Hid (wr.rangeAt g (off + k * 8) e.row) := hr2
      have HE : Hid (e = es[k]) := he
      have HG : Hid (g < wr.heap.size) := hg
      have SS : Hid e.S := by rw [he]; exact hs.out _ (List.getElem_mem hlt2)
      have ha : a = some ⟨g, off, none⟩ := ha
      subst ha
      have i0 : (0 : Int) ≤ (k : Int) := by omega
      have i1 : (k : Int) < (n : Int) := by omega
      clear hr hr2 he hg
      go_wp2_with (first | (refine wpList_ldN rfl 59 _ rfl g (off + k * 8) (by rfl) e.row HR.out _ Try.underlying59 rfl Try.sizeEv ?_))
      refine (evIs_any e 1 c _).mono ?_
      rintro x w1 ⟨rfl, b1⟩
      have S1 : Hid (SlI w1 w.heap.size u5 (itemsP c (es.take k))) := hS.out.below b1
      have R1 : Hid (w1.rangeAt g (off + k * 8) e.row) := range_later HR.out HG.out b1
      have B1 : Hid (Below w.heap.size w w1) := bl_nxt hb.out b1
      clear b1 HR HG hS hb
      cases hq : e.isB 1 c
      · go_wp2_with fail
        go_roundw
        case rel => exact ⟨k + 1, by omega, by go_num, (by rw [itemsP_step hlt2, ← HE.out, hq]; simpa using S1.out : SlI _ _ _ _), B1⟩
        case measure => simp [intOf]; omega
      · go_wp2_with (first | (refine wpList_ldN rfl 57 _ rfl g (off + k * 8 + 3) (by rfl) [.int .i64 e.q, .int .i64 e.f, .int .i64 e.l, .string e.t] (Ev.rng R1.out).2.2 _ Try.underlying57 rfl Try.sizeI ?_))
        refine (copyItem_any e.q e.f e.l e.t _ SS.out.2.2).mono ?_
        rintro x w2 ⟨rfl, b2⟩
        have S2 : SlI w2 w.heap.size u5 (itemsP c (es.take k)) := S1.out.below b2
        have B2 : Below w.heap.size w w2 := bl_nxt B1.out b2
        have z2 : w.heap.size ≤ w2.heap.size := B2.size
        have hlk : (itemsP c (es.take k)).length ≤ 1048576 := by have := itemsP_len c (es.take k); rw [List.length_take] at this; omega
        clear b2 S1 B1 R1
        go_wp2_with (at_builtin; refine wpList_pushIt rfl _ _ 24 rfl Try.underlying24 w.heap.size u5 (itemsP c (es.take k)) rfl S2 e.it rfl hlk z2 ?_; intro v2 w3 S3 g3 b3 _)
        have S4 : Hid (SlI w3 w.heap.size v2 (itemsP c (es.take (k + 1)))) := by rw [itemsP_step hlt2, ← HE.out, hq]; exact S3
        have B4 : Hid (Below w.heap.size w w3) := B2.trans b3
        go_roundw
        case rel => exact ⟨k + 1, by omega, by go_num, S4, B4⟩
        case measure => simp [intOf]; omega
    · obtain rfl : k = n := by omega
      go_wp2_with fail
      go_ret
      have h := hS.out
      rw [List.take_of_length_le (by have := HN.out; omega)] at h
      obtain ⟨u, rfl⟩ := SlI.sv h
      exact ⟨u, rfl, h, hb.out⟩
end Go.Proofs.Ytdodeillifoibaa


/- What of a log is ahead of the end of a ring, and of the next one: the program's. -/
namespace Go.Proofs.Ytdodeillifoibaa
open Go.RowKit Pl
set_option linter.unusedVariables false
set_option linter.unusedSimpArgs false

/-- what is ahead of the first end of a ring. -/
def aheadP (c : Int) (es : List Ev) : List Ev := es.takeWhile fun e => !e.isB 2 c
/-- and of the next one's beginning behind it. -/
def aheadN (c : Int) (es : List Ev) : List Ev := es.take ((aheadP c es).length + 1) ++ (es.drop ((aheadP c es).length + 1)).takeWhile fun e => !(e.k == 3)
theorem tw_all {f : Ev → Bool} : ∀ {es : List Ev}, (∀ e ∈ es, f e = true) → es.takeWhile f = es
  | [], _ => rfl
  | e :: es, h => by rw [List.takeWhile_cons, h e (List.mem_cons_self ..), if_pos rfl, tw_all fun x hx => h x (List.mem_cons_of_mem _ hx)]
theorem tw_at {f : Ev → Bool} : ∀ {es : List Ev} {k : Nat} (hk : k < es.length), (∀ e ∈ es.take k, f e = true) → f es[k] = false → es.takeWhile f = es.take k
  | e :: es, 0, hk, h, h0 => by
    simp at h0
    rw [List.takeWhile_cons, h0]
    rfl
  | e :: es, k + 1, hk, h, h0 => by
    rw [List.takeWhile_cons, h e (by simp), if_pos rfl, List.take_succ_cons, tw_at (k := k) (by simpa using hk) (fun x hx => h x (by rw [List.take_succ_cons]; exact List.mem_cons_of_mem _ hx)) (by simpa using h0)]
theorem take_snoc {f : Ev → Bool} {es : List Ev} {k : Nat} (hk : k < es.length) (h : ∀ e ∈ es.take k, f e = true) (h0 : f es[k] = true) : ∀ e ∈ es.take (k + 1), f e = true := fun e he => by
  rw [List.take_succ_eq_append_getElem hk] at he
  rcases List.mem_append.1 he with he | he
  · exact h e he
  · rw [List.mem_singleton.1 he]; exact h0
theorem EvsR.take {w : World} {s : Sv} {es : List Ev} (h : EvsR w s es) (k c : Nat) (hk : k ≤ es.length) : EvsR w ⟨s.a, k, c⟩ (es.take k) := by
  refine ⟨by rw [List.length_take]; exact (Nat.min_eq_left hk).symm, fun i hi => ?_, fun e he => h.2.2 e (List.mem_of_mem_take he)⟩
  have hi' : i < (es.map Ev.row).length := by simp at hi ⊢; omega
  obtain ⟨g, off, a, b, l, r⟩ := h.2.1 i hi'
  have e1 : ((es.take k).map Ev.row)[i] = (es.map Ev.row)[i] := by simp
  rw [e1]
  exact ⟨g, off, a, b, l, r⟩
theorem aheadP_len (c : Int) (es : List Ev) : (aheadP c es).length ≤ es.length := (List.takeWhile_sublist _).length_le
theorem aheadP_take (c : Int) (es : List Ev) : aheadP c es = es.take (aheadP c es).length := (List.prefix_iff_eq_take.1 (List.takeWhile_prefix _))
/-- the slice of a list of the call's own. -/
theorem EvsO.cap {w : World} {B : Nat} {s : Sv} {es : List Ev} (h : EvsO w B s es) (h0 : 0 < es.length) : s.n ≤ s.c ∧ s.c ≤ 9223372036854775807 := by
  rcases h.1.1.2 with ⟨_, hn⟩ | ⟨g, off, cap, cur, hv, _, _, h1, h2, _⟩
  · simp at hn; rw [hn] at h0; simp at h0
  · unfold Sv.v at hv
    simp at hv
    obtain ⟨e1, e2, e3⟩ := hv
    unfold maxLen at h2
    exact ⟨by rw [e2, e3]; simpa using h1, by omega⟩

set_option maxRecDepth 100000 in
set_option maxHeartbeats 4000000 in
theorem aheadPart_any (s : Sv) (es : List Ev) (c : Int) (B : Nat) (w : World) (hx : Hid (EvsO w B s es)) (hl : es.length ≤ 1048576) :
    Calls Try.prog 79 #[.slice s.a s.n s.c, .int .i64 c] w fun x w' => x = .returned (.slice s.a (aheadP c es).length s.c) ∧ Below w.heap.size w w' := by
  obtain ⟨a, n, cp⟩ := s
  dsimp only
  have HN : Hid (n = es.length) := hx.out.r.1
  have hn : n ≤ 1048576 := by have := HN.out; omega
  clear hl
  go_enter Try.func79, Try.ntmps79
  go_wp2_with fail
  go_loopw [8] (fun i wr => ∃ k : Nat, k ≤ n ∧ i = .int .i64 k ∧ Hid (∀ e ∈ es.take k, (!e.isB 2 c) = true) ∧ Hid (Below w.heap.size w wr)) (fun i _ => n - (intOf i).toNat)
  case atStart => exact ⟨0, Nat.zero_le _, rfl, (fun e he => by simp at he : ∀ e ∈ es.take 0, (!e.isB 2 c) = true), Below.refl _ _⟩
  case round =>
    obtain ⟨k, hk, rfl, hS, hb⟩ := hrel
    by_cases hlt : k < n
    · have hlt2 : k < es.length := by have := HN.out; omega
      obtain ⟨g, off, ha, hg, _, hr⟩ := (hx.out.r.stays hb.out).2.1 k (by simpa using hlt2)
      obtain ⟨hc1, hc2⟩ := hx.out.cap (by omega)
      obtain ⟨e, he⟩ : ∃ e, e = es[k] := ⟨_, rfl⟩
      have hr2 : wr.rangeAt g (off + k * 8) e.row := by rw [he]; simpa using hr
      have HR : Hid (wr.rangeAt g (off + k * 8) e.row) := hr2
      have HE : Hid (e = es[k]) := he
      have ha : a = some ⟨g, off, none⟩ := ha
      subst ha
      have i0 : (0 : Int) ≤ (k : Int) := by omega
      have i1 : (k : Int) < (n : Int) := by omega
      have HC : Hid ((k : Int) ≤ (cp : Int)) := (by dsimp only at hc1; omega : (k : Int) ≤ (cp : Int))
      clear hr hr2 he hg hc1 hc2
      go_wp2_with (first | (refine wpList_ldN rfl 59 _ rfl g (off + k * 8) (by rfl) e.row HR.out _ Try.underlying59 rfl Try.sizeEv ?_))
      refine (evIs_any e 2 c _).mono ?_
      rintro x w1 ⟨rfl, b1⟩
      have B1 : Hid (Below w.heap.size w w1) := bl_nxt hb.out b1
      clear b1 HR hb
      cases hq : e.isB 2 c
      · go_wp2_with fail
        go_roundw
        case rel => exact ⟨k + 1, by omega, by go_num, (take_snoc hlt2 hS.out (by rw [← HE.out, hq]; rfl) : ∀ e ∈ es.take (k + 1), (!e.isB 2 c) = true), B1⟩
        case measure => simp [intOf]; omega
      · have hc0 := HC.out
        have hfin : (aheadP c es).length = k := by
          unfold aheadP
          rw [tw_at hlt2 hS.out (by rw [← HE.out, hq]; rfl), List.length_take]
          omega
        have HFI : Hid ((aheadP c es).length = k) := hfin
        clear hfin
        go_wp2_with fail
        go_ret
        exact ⟨by rw [HFI.out]; rfl, B1.out⟩
    · obtain rfl : k = n := by omega
      have hfin : (aheadP c es).length = k := by
        have h := hS.out
        rw [List.take_of_length_le (by have := HN.out; omega)] at h
        unfold aheadP
        rw [tw_all h]
        exact HN.out.symm
      have HFI : Hid ((aheadP c es).length = k) := hfin
      clear hfin
      go_wp2_with fail
      go_ret
      exact ⟨by rw [HFI.out]; rfl, hb.out⟩

set_option maxRecDepth 100000 in
set_option maxHeartbeats 4000000 in
theorem aheadNext_any (s : Sv) (es : List Ev) (c : Int) (B : Nat) (w : World) (hx : Hid (EvsO w B s es)) (hl : es.length ≤ 1048576) :
    Calls Try.prog 75 #[.slice s.a s.n s.c, .int .i64 c] w fun x w' => x = .returned (.slice s.a (aheadN c es).length s.c) ∧ (aheadN c es) = es.take (aheadN c es).length ∧ Below w.heap.size w w' := by
  have hP := aheadPart_any s es c B w hx hl
  obtain ⟨p, hp⟩ : ∃ p, p = (aheadP c es).length := ⟨_, rfl⟩
  rw [← hp] at hP
  have hpl : p ≤ es.length := by rw [hp]; exact aheadP_len c es
  have HF : Hid (aheadN c es = es.take (p + 1) ++ (es.drop (p + 1)).takeWhile fun e => !(e.k == 3)) := (by unfold aheadN; rw [hp] : _ = _)
  clear hp
  obtain ⟨a, n, cp⟩ := s
  dsimp only at hP ⊢
  have HN : Hid (n = es.length) := hx.out.r.1
  have hn : n ≤ 1048576 := by have := HN.out; omega
  clear hl
  go_enter Try.func75, Try.ntmps75
  go_wp2_with fail
  refine hP.mono ?_
  rintro x w1 ⟨rfl, b1⟩
  have B0 : Hid (Below w.heap.size w w1) := b1
  clear b1 hP
  go_wp2_with fail
  go_loopw [13] (fun i wr => ∃ k : Nat, k ≤ n ∧ i = .int .i64 k ∧ Hid (∀ e ∈ (es.take k).drop (p + 1), (!(e.k == 3)) = true) ∧ Hid (Below w.heap.size w wr)) (fun i _ => n - (intOf i).toNat)
  case atStart => exact ⟨0, Nat.zero_le _, rfl, (fun e he => by simp at he : ∀ e ∈ (es.take 0).drop (p + 1), (!(e.k == 3)) = true), B0⟩
  case round =>
    obtain ⟨k, hk, rfl, hS, hb⟩ := hrel
    by_cases hlt : k < n
    · have hlt2 : k < es.length := by have := HN.out; omega
      obtain ⟨g, off, ha, hg, _, hr⟩ := (hx.out.r.stays hb.out).2.1 k (by simpa using hlt2)
      obtain ⟨hc1, hc2⟩ := hx.out.cap (by omega)
      obtain ⟨e, he⟩ : ∃ e, e = es[k] := ⟨_, rfl⟩
      have hr2 : wr.rangeAt g (off + k * 8) e.row := by rw [he]; simpa using hr
      obtain ⟨c0, _, _⟩ := Ev.rng hr2
      have HE : Hid (e = es[k]) := he
      have ha : a = some ⟨g, off, none⟩ := ha
      subst ha
      have i0 : (0 : Int) ≤ (k : Int) := by omega
      have i1 : (k : Int) < (n : Int) := by omega
      have HC : Hid ((k : Int) ≤ (cp : Int)) := (by dsimp only at hc1; omega : (k : Int) ≤ (cp : Int))
      clear hr hr2 he hg hc1 hc2
      have nxt : (k ≤ p ∨ (e.k == 3) = false) → ∀ e ∈ (es.take (k + 1)).drop (p + 1), (!(e.k == 3)) = true := fun h y hy => by
        rw [List.take_succ_eq_append_getElem hlt2, List.drop_append] at hy
        rcases List.mem_append.1 hy with hy | hy
        · exact hS.out y hy
        · rcases h with h | h
          · rw [List.drop_of_length_le (by simp; omega)] at hy
            cases hy
          · have := List.mem_of_mem_drop hy
            rw [List.mem_singleton.1 this, ← HE.out, h]
            rfl
      have NX : Hid ((k ≤ p ∨ (e.k == 3) = false) → ∀ e ∈ (es.take (k + 1)).drop (p + 1), (!(e.k == 3)) = true) := nxt
      clear nxt
      by_cases hkp : k ≤ p
      · have hd : decide ((k : Int) > (p : Int)) = false := by simp; omega
        go_wp2_with fail
        go_roundw
        case rel => exact ⟨k + 1, by omega, by go_num, NX.out (.inl hkp), hb⟩
        case measure => simp [intOf]; omega
      have hd : decide ((k : Int) > (p : Int)) = true := by simp; omega
      cases hq : e.k == 3
      · go_wp2_with fail
        go_roundw
        case rel => exact ⟨k + 1, by omega, by go_num, NX.out (.inr hq), hb⟩
        case measure => simp [intOf]; omega
      · have hfin : aheadN c es = es.take k := by
          rw [HF.out, tw_at (k := k - (p + 1)) (by rw [List.length_drop]; omega) (fun y hy => hS.out y (by rw [List.drop_take]; exact hy)) (by rw [List.getElem_drop]; simp only [show p + 1 + (k - (p + 1)) = k by omega]; rw [← HE.out, hq]; rfl)]
          rw [← List.take_add, show p + 1 + (k - (p + 1)) = k by omega]
        have HFN : Hid (aheadN c es = es.take k) := hfin
        have HLN : Hid ((aheadN c es).length = k) := (by rw [hfin, List.length_take]; omega : (aheadN c es).length = k)
        clear hfin NX
        have hc0 := HC.out
        go_wp2_with fail
        go_ret
        exact ⟨by rw [HLN.out]; rfl, by rw [HLN.out]; exact HFN.out, hb.out⟩
    · obtain rfl : k = n := by omega
      have hfin : aheadN c es = es := by
        have h := hS.out
        rw [List.take_of_length_le (by have := HN.out; omega)] at h
        rw [HF.out, tw_all h, List.take_append_drop]
      have HLN : Hid ((aheadN c es).length = k) := (by rw [hfin]; exact HN.out.symm : (aheadN c es).length = k)
      have HFN : Hid (aheadN c es = es.take k) := (by rw [hfin, List.take_of_length_le (by have := HN.out; omega)] : _ = _)
      clear hfin
      go_wp2_with fail
      go_ret
      exact ⟨by rw [HLN.out]; rfl, by rw [HLN.out]; exact HFN.out, hb.out⟩
end Go.Proofs.Ytdodeillifoibaa


/- slices.Index, slices.Contains over items; the specification's l16PartAt, l16Has. Written by gen_kf.py. -/
namespace Go.Proofs.Ytdodeillifoibaa
open Go.RowKit Pl
set_option linter.unusedVariables false
set_option linter.unusedSimpArgs false

/-- the place of the first end of a ring, or -1. -/
def partP (c : Int) (es : List Ev) : Int := if (aheadP c es).length < es.length then ((aheadP c es).length : Int) else -1
theorem partP_at {c : Int} {es : List Ev} {k : Nat} (h : (aheadP c es).length = k) (hk : k < es.length) : partP c es = k := by unfold partP; rw [if_pos (by omega), h]
theorem partP_no {c : Int} {es : List Ev} (h : (aheadP c es).length = es.length) : partP c es = -1 := by unfold partP; rw [if_neg (by omega)]
/-- what an item is held against another one by. -/
def ky (x : It) : Int × Int × Int × List UInt8 := (x.1, x.2.1, x.2.2.1, x.2.2.2.toList)
/-- is one of them the same? -/
def memB (x : It) (ts : List It) : Bool := decide (ky x ∈ ts.map ky)
theorem memB_no {x : It} {ts : List It} (h : ∀ j (hj : j < ts.length), ky ts[j] ≠ ky x) : memB x ts = false := by
  unfold memB
  refine decide_eq_false fun hm => ?_
  obtain ⟨y, hy, e⟩ := List.mem_map.1 hm
  obtain ⟨j, hj, rfl⟩ := List.getElem_of_mem hy
  exact h j hj e
theorem memB_yes {x : It} {ts : List It} {j : Nat} (hj : j < ts.length) (h : ky ts[j] = ky x) : memB x ts = true := by
  unfold memB
  exact decide_eq_true (List.mem_map.2 ⟨_, List.getElem_mem hj, h⟩)

set_option maxRecDepth 100000 in
set_option maxHeartbeats 4000000 in
theorem indexIt_any (q f lv : Int) (tx : ByteArray) (a : Option Addr) (c : Nat) (ts : List It) (w : World) (A : Hid (ItemsAt w a ts)) (hl : ts.length ≤ 1048576) :
    Calls Try.prog 96 #[.slice a ts.length c, .agg #[.int .i64 q, .int .i64 f, .int .i64 lv, .string tx]] w fun e w' => ∃ r : Int, e = .returned (.int .i64 r) ∧ decide (r ≥ 0) = memB (q, f, lv, tx) ts ∧ Below w.heap.size w w' := by
  have LA : Hid (Bx (w.alloc (.cells #[.int .i64 q, .int .i64 f, .int .i64 lv, .string tx] 57)) w.heap.size 57 [.int .i64 q, .int .i64 f, .int .i64 lv, .string tx]) := Bx.new w 57 _
  have BW : Hid (Below w.heap.size w (w.alloc (.cells #[.int .i64 q, .int .i64 f, .int .i64 lv, .string tx] 57))) := (Below.refl _ _).alloc (Nat.le_refl _) _
  obtain ⟨n, hn1⟩ : ∃ n, n = ts.length := ⟨_, rfl⟩
  rw [← hn1]
  have N1 : Hid (n = ts.length) := hn1
  have hl : n ≤ 1048576 := by omega
  clear hn1
  go_enter Try.func96, Try.ntmps96
  go_wp2_with fail
  generalize w.alloc (.cells #[.int .i64 q, .int .i64 f, .int .i64 lv, .string tx] 57) = W at *
  go_loopw [8] (fun i wr => ∃ k : Nat, k ≤ n ∧ i = .int .i64 k ∧ Hid (∀ j (hj : j < ts.length), j < k → ky ts[j] ≠ ky (q, f, lv, tx)) ∧ Hid (Below W.heap.size W wr)) (fun i _ => n - (intOf i).toNat)
  case atStart => exact ⟨0, by omega, rfl, fun j _ h => absurd h (by omega), Below.refl _ _⟩
  case round =>
    obtain ⟨k, hk, rfl, hal, hb⟩ := hrel
    by_cases hlt : k < n
    · have hx : k < ts.length := by rw [← N1.out]; exact hlt
      obtain ⟨b1, off1, rfl, hbb1, h0, h1, h2, h3⟩ := (A.out.stays BW.out).stays hb.out k hx
      have X : Hid (Bx wr w.heap.size 57 [.int .i64 q, .int .i64 f, .int .i64 lv, .string tx]) := LA.out.later hb.out
      have x0 := X.out.cell 0
      have x1 := X.out.cell 1
      have x2 := X.out.cell 2
      have x3 := X.out.cell 3
      simp only [List.getElem?_cons_succ, List.getElem?_cons_zero] at x0 x1 x2 x3
      have HP : Hid (∃ x : It, x = ts[k]) := ⟨_, rfl⟩
      obtain ⟨⟨q', f', lv', tx'⟩, hp⟩ := HP.out
      rw [← hp] at h0 h1 h2 h3
      have K1 : Hid (ky ts[k] = (q', f', lv', tx'.toList)) := (by rw [← hp]; rfl : ky ts[k] = (q', f', lv', tx'.toList))
      clear hp HP X
      dsimp only at h0 h1 h2 h3
      have i0 : (0 : Int) ≤ (k : Int) := by omega
      have i1 : (k : Int) < (n : Int) := by omega
      have NX : Hid ((q', f', lv', tx'.toList) ≠ (q, f, lv, tx.toList) → ∀ j (hj : j < ts.length), j < k + 1 → ky ts[j] ≠ ky (q, f, lv, tx)) := fun h j hj hk => by
        by_cases hjk : j = k
        · subst hjk; rw [K1.out]; exact h
        · exact hal.out j hj (by omega)
      have B1 : Hid (Below W.heap.size W wr.drew) := hb.out.drew
      by_cases e0 : q = q'
      rotate_left
      · go_wp2_with fail
        go_region
        clear h0 h1 h2 h3 x0 x1 x2 x3
        generalize wr.drew = W1 at *
        go_wp2_with fail
        go_roundw
        case rel => exact ⟨k + 1, by omega, by go_num, NX.out (by intro h; simp only [Prod.mk.injEq] at h; exact e0 (by simp [h])), B1⟩
        case measure => simp [intOf]; omega
      by_cases e1 : f = f'
      rotate_left
      · go_wp2_with fail
        go_region
        clear h0 h1 h2 h3 x0 x1 x2 x3
        generalize wr.drew = W1 at *
        go_wp2_with fail
        go_roundw
        case rel => exact ⟨k + 1, by omega, by go_num, NX.out (by intro h; simp only [Prod.mk.injEq] at h; exact e1 (by simp [h])), B1⟩
        case measure => simp [intOf]; omega
      by_cases e2 : lv = lv'
      rotate_left
      · go_wp2_with fail
        go_region
        clear h0 h1 h2 h3 x0 x1 x2 x3
        generalize wr.drew = W1 at *
        go_wp2_with fail
        go_roundw
        case rel => exact ⟨k + 1, by omega, by go_num, NX.out (by intro h; simp only [Prod.mk.injEq] at h; exact e2 (by simp [h])), B1⟩
        case measure => simp [intOf]; omega
      by_cases e3 : tx.toList = tx'.toList
      rotate_left
      · go_wp2_with fail
        go_region
        clear h0 h1 h2 h3 x0 x1 x2 x3
        generalize wr.drew = W1 at *
        go_wp2_with fail
        go_roundw
        case rel => exact ⟨k + 1, by omega, by go_num, NX.out (by intro h; simp only [Prod.mk.injEq] at h; exact e3 (by simp [h])), B1⟩
        case measure => simp [intOf]; omega
      have HY : Hid (memB (q, f, lv, tx) ts = true) := (memB_yes hx (by rw [K1.out, ← e0, ← e1, ← e2, ← e3]; rfl) : memB _ _ = true)
      go_wp2_with fail
      go_region
      clear h0 h1 h2 h3 x0 x1 x2 x3 e0 e1 e2 e3 hal NX
      generalize wr.drew = W1 at *
      go_wp2_with fail
      go_ret
      exact ⟨k, rfl, by rw [HY.out]; simp, bl_next BW.out B1.out⟩
    · have HY : Hid (memB (q, f, lv, tx) ts = false) := (memB_no fun j hj => hal.out j hj (by have := N1.out; omega) : memB _ _ = false)
      go_wp2_with fail
      go_ret
      exact ⟨-1, rfl, by rw [HY.out]; rfl, bl_next BW.out hb.out⟩

set_option maxRecDepth 100000 in
set_option maxHeartbeats 4000000 in
theorem containsIt_any (q f lv : Int) (tx : ByteArray) (a : Option Addr) (c : Nat) (ts : List It) (w : World) (A : Hid (ItemsAt w a ts)) (hl : ts.length ≤ 1048576) :
    Calls Try.prog 77 #[.slice a ts.length c, .agg #[.int .i64 q, .int .i64 f, .int .i64 lv, .string tx]] w fun e w' => e = .returned (.bool (memB (q, f, lv, tx) ts)) ∧ Below w.heap.size w w' := by
  have LA : Hid (Bx (w.alloc (.cells #[.int .i64 q, .int .i64 f, .int .i64 lv, .string tx] 57)) w.heap.size 57 [.int .i64 q, .int .i64 f, .int .i64 lv, .string tx]) := Bx.new w 57 _
  have BW : Hid (Below w.heap.size w (w.alloc (.cells #[.int .i64 q, .int .i64 f, .int .i64 lv, .string tx] 57))) := (Below.refl _ _).alloc (Nat.le_refl _) _
  have A1 : Hid (ItemsAt (w.alloc (.cells #[.int .i64 q, .int .i64 f, .int .i64 lv, .string tx] 57)) a ts) := A.out.stays BW.out
  have x0 := LA.out.cell 0
  have x1 := LA.out.cell 1
  have x2 := LA.out.cell 2
  have x3 := LA.out.cell 3
  simp only [List.getElem?_cons_succ, List.getElem?_cons_zero] at x0 x1 x2 x3
  go_enter Try.func77, Try.ntmps77
  go_wp2_with fail
  generalize w.alloc (.cells #[.int .i64 q, .int .i64 f, .int .i64 lv, .string tx] 57) = W at *
  clear x0 x1 x2 x3
  refine (indexIt_any q f lv tx a c ts W A1 hl).mono ?_
  rintro e w1 ⟨r, rfl, hr, b1⟩
  have HR : Hid (decide (r ≥ 0) = memB (q, f, lv, tx) ts) := hr
  have B1 : Hid (Below w.heap.size w w1) := bl_next BW.out b1
  clear hr b1
  obtain ⟨M, hM⟩ : ∃ M, memB (q, f, lv, tx) ts = M := ⟨_, rfl⟩
  have hd : decide (r ≥ 0) = M := HR.out.trans hM
  have HM : Hid (memB (q, f, lv, tx) ts = M) := hM
  clear hM HR
  go_wp2_with fail
  go_ret
  exact ⟨by rw [HM.out]; rfl, B1.out⟩

set_option maxRecDepth 100000 in
set_option maxHeartbeats 4000000 in
theorem spPartAt_any (s : Sv) (es : List Ev) (c : Int) (w : World) (hx : Hid (EvsR w s es)) (hl : es.length ≤ 1048576) :
    Calls Try.prog 47 #[.slice s.a s.n s.c, .int .i64 c] w fun x w' => x = .returned (.int .i64 (partP c es)) ∧ Below w.heap.size w w' := by
  obtain ⟨a, n, cp⟩ := s
  dsimp only
  have HN : Hid (n = es.length) := hx.out.1
  have hn : n ≤ 1048576 := by have := HN.out; omega
  clear hl
  go_enter Try.func47, Try.ntmps47
  go_wp2_with fail
  go_loopw [5] (fun i wr => ∃ k : Nat, k ≤ n ∧ i = .int .i64 k ∧ Hid (∀ e ∈ es.take k, (!e.isB 2 c) = true) ∧ Hid (Below w.heap.size w wr)) (fun i _ => n - (intOf i).toNat)
  case atStart => exact ⟨0, Nat.zero_le _, rfl, (fun e he => by simp at he : ∀ e ∈ es.take 0, (!e.isB 2 c) = true), Below.refl _ _⟩
  case round =>
    obtain ⟨k, hk, rfl, hS, hb⟩ := hrel
    by_cases hlt : k < n
    · have hlt2 : k < es.length := by have := HN.out; omega
      obtain ⟨g, off, ha, hg, _, hr⟩ := (hx.out.stays hb.out).2.1 k (by simpa using hlt2)
      obtain ⟨e, he⟩ : ∃ e, e = es[k] := ⟨_, rfl⟩
      have hr2 : wr.rangeAt g (off + k * 8) e.row := by rw [he]; simpa using hr
      obtain ⟨c0, c1, _⟩ := Ev.rng hr2
      have HE : Hid (e = es[k]) := he
      have ha : a = some ⟨g, off, none⟩ := ha
      subst ha
      have i0 : (0 : Int) ≤ (k : Int) := by omega
      have i1 : (k : Int) < (n : Int) := by omega
      clear hr hr2 he hg
      have NX : Hid (e.isB 2 c = false → ∀ e ∈ es.take (k + 1), (!e.isB 2 c) = true) := fun h => take_snoc hlt2 hS.out (by rw [← HE.out, h]; rfl)
      cases hq1 : e.k == 2
      · go_wp2_with fail
        go_roundw
        case rel => exact ⟨k + 1, by omega, by go_num, NX.out (by simp [Ev.isB, hq1]), hb⟩
        case measure => simp [intOf]; omega
      cases hq2 : e.rid == c
      · go_wp2_with fail
        go_roundw
        case rel => exact ⟨k + 1, by omega, by go_num, NX.out (by simp [Ev.isB, hq2]), hb⟩
        case measure => simp [intOf]; omega
      have hfin : (aheadP c es).length = k := by
        unfold aheadP
        rw [tw_at hlt2 hS.out (by rw [← HE.out]; simp [Ev.isB, hq1, hq2]), List.length_take]
        omega
      have HFI : Hid ((aheadP c es).length = k) := hfin
      clear hfin NX
      go_wp2_with fail
      go_ret
      exact ⟨by rw [partP_at HFI.out hlt2]; rfl, hb.out⟩
    · obtain rfl : k = n := by omega
      have hfin : (aheadP c es).length = k := by
        have h := hS.out
        rw [List.take_of_length_le (by have := HN.out; omega)] at h
        unfold aheadP
        rw [tw_all h]
        exact HN.out.symm
      have HFI : Hid ((aheadP c es).length = k) := hfin
      clear hfin
      go_wp2_with fail
      go_ret
      exact ⟨by rw [partP_no (by rw [HFI.out]; exact HN.out)]; rfl, hb.out⟩

/-- is an item of a ring in a log, ahead of the first beginning of a ring behind a place? -/
def uptoN (p : Int) (es : List Ev) : List Ev := es.take (p + 1).toNat ++ (es.drop (p + 1).toNat).takeWhile fun e => !(e.k == 3)
theorem uptoN_at {p : Int} {es : List Ev} {k : Nat} (hk : k < es.length) (hp : (p + 1).toNat ≤ k) (h : ∀ e ∈ (es.take k).drop (p + 1).toNat, (!(e.k == 3)) = true) (h0 : (es[k].k == 3) = true) : uptoN p es = es.take k := by
  unfold uptoN
  rw [tw_at (k := k - (p + 1).toNat) (by rw [List.length_drop]; omega) (fun y hy => h y (by rw [List.drop_take]; exact hy)) (by rw [List.getElem_drop]; simp only [show (p + 1).toNat + (k - (p + 1).toNat) = k by omega]; rw [h0]; rfl), ← List.take_add, show (p + 1).toNat + (k - (p + 1).toNat) = k by omega]
theorem uptoN_all {p : Int} {es : List Ev} (h : ∀ e ∈ es.drop (p + 1).toNat, (!(e.k == 3)) = true) : uptoN p es = es := by
  unfold uptoN; rw [tw_all h, List.take_append_drop]
def hasP6 (p c : Int) (x : It) (es : List Ev) : Bool := memB x (itemsP c (uptoN p es))
theorem memB_items {x : It} {c : Int} {es : List Ev} : memB x (itemsP c es) = true ↔ ∃ e ∈ es, e.isB 1 c = true ∧ ky e.it = ky x := by
  unfold memB itemsP
  rw [decide_eq_true_iff]
  constructor
  · intro h
    obtain ⟨y, hy, e⟩ := List.mem_map.1 h
    obtain ⟨z, hz, rfl⟩ := List.mem_map.1 hy
    obtain ⟨h1, h2⟩ := List.mem_filter.1 hz
    exact ⟨z, h1, h2, e⟩
  · rintro ⟨e, he, h1, h2⟩
    exact List.mem_map.2 ⟨e.it, List.mem_map.2 ⟨e, List.mem_filter.2 ⟨he, h1⟩, rfl⟩, h2⟩
theorem mem_upto {p : Int} {es : List Ev} {k : Nat} (hk : k < es.length) (h : ∀ e ∈ (es.take (k + 1)).drop (p + 1).toNat, (!(e.k == 3)) = true) : es[k] ∈ uptoN p es := by
  unfold uptoN
  by_cases hp : k < (p + 1).toNat
  · exact List.mem_append_left _ (List.mem_take_iff_getElem.2 ⟨k, by omega, rfl⟩)
  · refine List.mem_append_right _ ?_
    have e : (es.take (k + 1)).drop (p + 1).toNat = (es.drop (p + 1).toNat).take (k + 1 - (p + 1).toNat) := by rw [List.drop_take]
    rw [e] at h
    have hd : es.drop (p + 1).toNat = (es.drop (p + 1).toNat).take (k + 1 - (p + 1).toNat) ++ (es.drop (p + 1).toNat).drop (k + 1 - (p + 1).toNat) := (List.take_append_drop _ _).symm
    rw [hd, List.takeWhile_append_of_pos h]
    refine List.mem_append_left _ (List.mem_take_iff_getElem.2 ⟨k - (p + 1).toNat, by rw [List.length_drop]; omega, ?_⟩)
    rw [List.getElem_drop]
    simp only [show (p + 1).toNat + (k - (p + 1).toNat) = k by omega]

set_option maxRecDepth 100000 in
set_option maxHeartbeats 8000000 in
theorem spHas_any (s : Sv) (es : List Ev) (p c q f lv : Int) (tx : ByteArray) (w : World) (hx : Hid (EvsR w s es)) (hl : es.length ≤ 1048576) (hp0 : 0 ≤ p) (hp1 : p ≤ 1048576) :
    Calls Try.prog 48 #[.slice s.a s.n s.c, .int .i64 p, .int .i64 c, .agg #[.int .i64 q, .int .i64 f, .int .i64 lv, .string tx]] w fun x w' => x = .returned (.bool (hasP6 p c (q, f, lv, tx) es)) ∧ Below w.heap.size w w' := by
  have LA : Hid (Bx (w.alloc (.cells #[.int .i64 q, .int .i64 f, .int .i64 lv, .string tx] 57)) w.heap.size 57 [.int .i64 q, .int .i64 f, .int .i64 lv, .string tx]) := Bx.new w 57 _
  have BW : Hid (Below w.heap.size w (w.alloc (.cells #[.int .i64 q, .int .i64 f, .int .i64 lv, .string tx] 57))) := (Below.refl _ _).alloc (Nat.le_refl _) _
  obtain ⟨a, n, cp⟩ := s
  dsimp only
  have HN : Hid (n = es.length) := hx.out.1
  have hn : n ≤ 1048576 := by have := HN.out; omega
  clear hl
  go_enter Try.func48, Try.ntmps48
  go_wp2_with fail
  generalize w.alloc (.cells #[.int .i64 q, .int .i64 f, .int .i64 lv, .string tx] 57) = W at *
  go_loopw [9] (fun i wr => ∃ k : Nat, k ≤ n ∧ i = .int .i64 k ∧ Hid (∀ e ∈ (es.take k).drop (p + 1).toNat, (!(e.k == 3)) = true) ∧ Hid (∀ e ∈ es.take k, e.isB 1 c = true → ky e.it ≠ ky (q, f, lv, tx)) ∧ Hid (Below W.heap.size W wr)) (fun i _ => n - (intOf i).toNat)
  case atStart => exact ⟨0, Nat.zero_le _, rfl, (fun e he => by simp at he : ∀ e ∈ (es.take 0).drop (p + 1).toNat, (!(e.k == 3)) = true), (fun e he => by simp at he : ∀ e ∈ es.take 0, e.isB 1 c = true → ky e.it ≠ ky (q, f, lv, tx)), Below.refl _ _⟩
  case round =>
    obtain ⟨k, hk, rfl, hS, hI, hb⟩ := hrel
    by_cases hlt : k < n
    · have hlt2 : k < es.length := by have := HN.out; omega
      obtain ⟨g, off, ha, hg, _, hr⟩ := ((hx.out.stays BW.out).stays hb.out).2.1 k (by simpa using hlt2)
      obtain ⟨e, he⟩ : ∃ e, e = es[k] := ⟨_, rfl⟩
      have hr2 : wr.rangeAt g (off + k * 8) e.row := by rw [he]; simpa using hr
      have RR : Hid (wr.rangeAt g (off + k * 8) e.row) := hr2
      have HE : Hid (e = es[k]) := he
      have ha : a = some ⟨g, off, none⟩ := ha
      subst ha
      have i0 : (0 : Int) ≤ (k : Int) := by omega
      have i1 : (k : Int) < (n : Int) := by omega
      clear hr hr2 he hg
      obtain ⟨c0, c1, _⟩ := Ev.rng RR.out
      have NX : Hid (((k : Int) ≤ p ∨ (e.k == 3) = false) → ∀ e ∈ (es.take (k + 1)).drop (p + 1).toNat, (!(e.k == 3)) = true) := fun h y hy => by
        rw [List.take_succ_eq_append_getElem hlt2, List.drop_append] at hy
        rcases List.mem_append.1 hy with hy | hy
        · exact hS.out y hy
        · rcases h with h | h
          · rw [List.drop_of_length_le (by simp; omega)] at hy
            cases hy
          · have := List.mem_of_mem_drop hy
            rw [List.mem_singleton.1 this, ← HE.out, h]
            rfl
      by_cases hst : ¬ (k : Int) ≤ p ∧ (e.k == 3) = true
      · have hd : decide ((k : Int) > p) = true := by simp; omega
        have h3 := hst.2
        have HF : Hid (hasP6 p c (q, f, lv, tx) es = false) := (by
          unfold hasP6
          rw [uptoN_at hlt2 (by omega) hS.out (by rw [← HE.out]; exact h3)]
          refine Bool.eq_false_iff.2 fun h => ?_
          obtain ⟨y, hy, h1, h2⟩ := memB_items.1 h
          exact hI.out y hy h1 h2 : hasP6 p c (q, f, lv, tx) es = false)
        clear hst NX
        go_wp2_with fail
        go_ret
        exact ⟨by rw [HF.out]; rfl, bl_next BW.out hb.out⟩
      have hst2 : (k : Int) ≤ p ∨ (e.k == 3) = false := by
        rcases (by omega : p < (k : Int) ∨ (k : Int) ≤ p) with h | h
        · exact .inr (by cases h3 : e.k == 3 with | false => rfl | true => exact absurd ⟨by omega, h3⟩ hst)
        · exact .inl h
      have NX : Hid (∀ e ∈ (es.take (k + 1)).drop (p + 1).toNat, (!(e.k == 3)) = true) := NX.out hst2
      have X : Hid (Bx wr w.heap.size 57 [.int .i64 q, .int .i64 f, .int .i64 lv, .string tx]) := LA.out.later hb.out
      have x0 := X.out.cell 0
      have x1 := X.out.cell 1
      have x2 := X.out.cell 2
      have x3 := X.out.cell 3
      simp only [List.getElem?_cons_succ, List.getElem?_cons_zero] at x0 x1 x2 x3
      have y3 := (Ev.rng RR.out).2.2 0 _ rfl
      have y4 := (Ev.rng RR.out).2.2 1 _ rfl
      have y5 := (Ev.rng RR.out).2.2 2 _ rfl
      have y6 := (Ev.rng RR.out).2.2 3 _ rfl
      have NI : Hid ((e.isB 1 c = true → ky e.it ≠ ky (q, f, lv, tx)) → ∀ e ∈ es.take (k + 1), e.isB 1 c = true → ky e.it ≠ ky (q, f, lv, tx)) := fun h y hy => by
        rw [List.take_succ_eq_append_getElem hlt2] at hy
        rcases List.mem_append.1 hy with hy | hy
        · exact hI.out y hy
        · rw [List.mem_singleton.1 hy, ← HE.out]; exact h
      have HY : Hid (e.isB 1 c = true → ky e.it = ky (q, f, lv, tx) → hasP6 p c (q, f, lv, tx) es = true) := fun h1 h2 => by
        unfold hasP6
        exact memB_items.2 ⟨e, by rw [HE.out]; exact mem_upto hlt2 NX.out, h1, h2⟩
      have B1 : Hid (Below W.heap.size W wr.drew) := hb.out.drew
      have hgo : (decide ((k : Int) > p) = false) ∨ (decide ((k : Int) > p) = true ∧ (e.k == 3) = false) := by
        rcases hst2 with h | h
        · exact .inl (by simp; omega)
        · cases hd : decide ((k : Int) > p) with
          | false => exact .inl rfl
          | true => exact .inr ⟨rfl, h⟩
      clear X hS hI hst hst2
      rcases hgo with hd | ⟨hd, h3⟩
      · skip
        cases hq1 : e.k == 1
        · go_wp2_with fail
          go_region
          clear c0 c1 x0 x1 x2 x3 y3 y4 y5 y6
          generalize wr.drew = W1 at *
          go_wp2_with fail
          go_roundw
          case rel => exact ⟨k + 1, by omega, by go_num, NX, NI.out (by intro h; simp [Ev.isB, hq1] at h), B1⟩
          case measure => simp [intOf]; omega
        cases hq2 : e.rid == c
        · go_wp2_with fail
          go_region
          clear c0 c1 x0 x1 x2 x3 y3 y4 y5 y6
          generalize wr.drew = W1 at *
          go_wp2_with fail
          go_roundw
          case rel => exact ⟨k + 1, by omega, by go_num, NX, NI.out (by intro h; simp [Ev.isB, hq2] at h), B1⟩
          case measure => simp [intOf]; omega
        by_cases e0 : e.q = q
        rotate_left
        · go_wp2_with fail
          go_region
          clear c0 c1 x0 x1 x2 x3 y3 y4 y5 y6
          generalize wr.drew = W1 at *
          go_wp2_with fail
          go_roundw
          case rel => exact ⟨k + 1, by omega, by go_num, NX, NI.out (by intro _ h; simp only [ky, Ev.it, Prod.mk.injEq] at h; exact e0 (by simp [h])), B1⟩
          case measure => simp [intOf]; omega
        by_cases e1 : e.f = f
        rotate_left
        · go_wp2_with fail
          go_region
          clear c0 c1 x0 x1 x2 x3 y3 y4 y5 y6
          generalize wr.drew = W1 at *
          go_wp2_with fail
          go_roundw
          case rel => exact ⟨k + 1, by omega, by go_num, NX, NI.out (by intro _ h; simp only [ky, Ev.it, Prod.mk.injEq] at h; exact e1 (by simp [h])), B1⟩
          case measure => simp [intOf]; omega
        by_cases e2 : e.l = lv
        rotate_left
        · go_wp2_with fail
          go_region
          clear c0 c1 x0 x1 x2 x3 y3 y4 y5 y6
          generalize wr.drew = W1 at *
          go_wp2_with fail
          go_roundw
          case rel => exact ⟨k + 1, by omega, by go_num, NX, NI.out (by intro _ h; simp only [ky, Ev.it, Prod.mk.injEq] at h; exact e2 (by simp [h])), B1⟩
          case measure => simp [intOf]; omega
        by_cases e3 : e.t.toList = tx.toList
        rotate_left
        · go_wp2_with fail
          go_region
          clear c0 c1 x0 x1 x2 x3 y3 y4 y5 y6
          generalize wr.drew = W1 at *
          go_wp2_with fail
          go_roundw
          case rel => exact ⟨k + 1, by omega, by go_num, NX, NI.out (by intro _ h; simp only [ky, Ev.it, Prod.mk.injEq] at h; exact e3 (by simp [h])), B1⟩
          case measure => simp [intOf]; omega
        have HT : Hid (hasP6 p c (q, f, lv, tx) es = true) := HY.out (by simp [Ev.isB, hq1, hq2]) (by simp [ky, Ev.it, e0, e1, e2, e3])
        go_wp2_with fail
        go_region
        clear c0 c1 x0 x1 x2 x3 y3 y4 y5 y6 e0 e1 e2 e3 NI NX HY
        generalize wr.drew = W1 at *
        go_wp2_with fail
        go_ret
        exact ⟨by rw [HT.out]; rfl, bl_next BW.out B1.out⟩
      · skip
        cases hq1 : e.k == 1
        · go_wp2_with fail
          go_region
          clear c0 c1 x0 x1 x2 x3 y3 y4 y5 y6
          generalize wr.drew = W1 at *
          go_wp2_with fail
          go_roundw
          case rel => exact ⟨k + 1, by omega, by go_num, NX, NI.out (by intro h; simp [Ev.isB, hq1] at h), B1⟩
          case measure => simp [intOf]; omega
        cases hq2 : e.rid == c
        · go_wp2_with fail
          go_region
          clear c0 c1 x0 x1 x2 x3 y3 y4 y5 y6
          generalize wr.drew = W1 at *
          go_wp2_with fail
          go_roundw
          case rel => exact ⟨k + 1, by omega, by go_num, NX, NI.out (by intro h; simp [Ev.isB, hq2] at h), B1⟩
          case measure => simp [intOf]; omega
        by_cases e0 : e.q = q
        rotate_left
        · go_wp2_with fail
          go_region
          clear c0 c1 x0 x1 x2 x3 y3 y4 y5 y6
          generalize wr.drew = W1 at *
          go_wp2_with fail
          go_roundw
          case rel => exact ⟨k + 1, by omega, by go_num, NX, NI.out (by intro _ h; simp only [ky, Ev.it, Prod.mk.injEq] at h; exact e0 (by simp [h])), B1⟩
          case measure => simp [intOf]; omega
        by_cases e1 : e.f = f
        rotate_left
        · go_wp2_with fail
          go_region
          clear c0 c1 x0 x1 x2 x3 y3 y4 y5 y6
          generalize wr.drew = W1 at *
          go_wp2_with fail
          go_roundw
          case rel => exact ⟨k + 1, by omega, by go_num, NX, NI.out (by intro _ h; simp only [ky, Ev.it, Prod.mk.injEq] at h; exact e1 (by simp [h])), B1⟩
          case measure => simp [intOf]; omega
        by_cases e2 : e.l = lv
        rotate_left
        · go_wp2_with fail
          go_region
          clear c0 c1 x0 x1 x2 x3 y3 y4 y5 y6
          generalize wr.drew = W1 at *
          go_wp2_with fail
          go_roundw
          case rel => exact ⟨k + 1, by omega, by go_num, NX, NI.out (by intro _ h; simp only [ky, Ev.it, Prod.mk.injEq] at h; exact e2 (by simp [h])), B1⟩
          case measure => simp [intOf]; omega
        by_cases e3 : e.t.toList = tx.toList
        rotate_left
        · go_wp2_with fail
          go_region
          clear c0 c1 x0 x1 x2 x3 y3 y4 y5 y6
          generalize wr.drew = W1 at *
          go_wp2_with fail
          go_roundw
          case rel => exact ⟨k + 1, by omega, by go_num, NX, NI.out (by intro _ h; simp only [ky, Ev.it, Prod.mk.injEq] at h; exact e3 (by simp [h])), B1⟩
          case measure => simp [intOf]; omega
        have HT : Hid (hasP6 p c (q, f, lv, tx) es = true) := HY.out (by simp [Ev.isB, hq1, hq2]) (by simp [ky, Ev.it, e0, e1, e2, e3])
        go_wp2_with fail
        go_region
        clear c0 c1 x0 x1 x2 x3 y3 y4 y5 y6 e0 e1 e2 e3 NI NX HY
        generalize wr.drew = W1 at *
        go_wp2_with fail
        go_ret
        exact ⟨by rw [HT.out]; rfl, bl_next BW.out B1.out⟩
    · have HF : Hid (hasP6 p c (q, f, lv, tx) es = false) := (by
        have h1 := hS.out
        have h2 := hI.out
        rw [List.take_of_length_le (by have := HN.out; omega)] at h1 h2
        unfold hasP6
        rw [uptoN_all h1]
        refine Bool.eq_false_iff.2 fun h => ?_
        obtain ⟨y, hy, h3, h4⟩ := memB_items.1 h
        exact h2 y hy h3 h4 : hasP6 p c (q, f, lv, tx) es = false)
      go_wp2_with fail
      go_ret
      exact ⟨by rw [HF.out]; rfl, bl_next BW.out hb.out⟩
end Go.Proofs.Ytdodeillifoibaa


/- Lists of bundles that a law measures and copies. Written by gen_ls.py. -/
namespace Go.Proofs.Ytdodeillifoibaa
open Go.RowKit Pl
set_option linter.unusedVariables false
set_option linter.unusedSimpArgs false

/-- a bundle, and where its list lies. -/
structure Bu where
  f : Int
  n : Int
  o : Int
  ts : List It
  s : Sv
def Bu.ok (b : Bu) : Bool := bunB b.f b.n b.o b.ts
/-- what a bundle says. -/
def Bu.pl (b : Bu) : Int × Int × Int × List It := (b.f, b.n, b.o, b.ts)
def Bu.row (b : Bu) : List Value := [.int .i64 b.f, .int .i64 b.n, .int .i64 b.o, .slice b.s.a b.s.n b.s.c]
def Bu.R (w : World) (b : Bu) : Prop := RSt w b.s b.ts
theorem Bu.R.stays {w w' : World} {b : Bu} (h : b.R w) (hb : Below w.heap.size w w') : b.R w' := RSt.stays h hb
def Bu.S (b : Bu) : Prop := b.ts.length ≤ 1048576
def Bu.L (b : Bu) : Prop := b.ts.length ≤ 9223372036854775807 ∧ ∀ x ∈ b.ts, x.2.2.2.size ≤ 9223372036854775807
def Bu.sz (b : Bu) : Nat := b.ts.length
def Bu.O (w : World) (B : Nat) (b : Bu) : Prop := SlI w B b.s.v b.ts
theorem Bu.O.r {w : World} {B : Nat} {b : Bu} (h : b.O w B) : b.R w := SlI.rst h
theorem Bu.O.keep {w w' : World} {B : Nat} {e : Bu} (h : e.O w B) (hk : ∀ b, B ≤ b → b < w.heap.size → w'.heap[b]? = w.heap[b]?) : e.O w' B := Sl.keep h fun b hb hl => hk b (Sl.lt h b hb).1 hl
theorem Bu.O.below {w w' : World} {B : Nat} {e : Bu} (h : e.O w B) (b : Below w.heap.size w w') : e.O w' B := h.keep fun k _ hk => b.block k hk
theorem Bu.O.down {w : World} {B B' : Nat} {e : Bu} (h : e.O w B) (hB : B' ≤ B) : e.O w B' := Sl.down h hB
def Bu.own (e : Bu) (x : Nat) : Prop := e.s.v.ownBlock = some x
theorem Bu.O.lt {w : World} {B : Nat} {e : Bu} (h : e.O w B) (x : Nat) (hx : e.own x) : B ≤ x ∧ x < w.heap.size := Sl.lt h x hx
def Bu.Up (e : Bu) : Prop := True
theorem szBu_any (e : Bu) (L : Nat) (w : World) (h : Hid (e.R w)) (hl : Hid e.L) (hL : L ≤ 1048576) :
    Calls Try.prog 84 #[.agg #[.int .i64 e.f, .int .i64 e.n, .int .i64 e.o, .slice e.s.a e.s.n e.s.c], .int .i64 L] w fun x w' => (x = .returned (.int .i64 (-1)) ∨ ∃ r : Nat, x = .returned (.int .i64 r) ∧ r + e.sz ≤ L) ∧ Below w.heap.size w w' :=
  (szBundle_any e.f e.n e.o e.s e.ts L w h hl.out.1 hl.out.2 hL).mono fun x w' ⟨a, b⟩ => ⟨a.imp id fun ⟨r, h1, _, h2⟩ => ⟨r, h1, h2.out.1⟩, b⟩
/-- a list of them that is read. -/
def BusR (w : World) (s : Sv) (es : List Bu) : Prop := s.n = es.length ∧ RwA w s.a 4 (es.map Bu.row) ∧ ∀ e ∈ es, e.R w
theorem BusR.stays {w w' : World} {s : Sv} {es : List Bu} (h : BusR w s es) (b : Below w.heap.size w w') : BusR w' s es := ⟨h.1, h.2.1.stays b, fun e he => (h.2.2 e he).stays b⟩
/-- a list of the call's own. -/
def BusO (w : World) (B : Nat) (s : Sv) (es : List Bu) : Prop := SlN w 115 4 B s.v (es.map Bu.row) ∧ ∀ e ∈ es, e.O w B
theorem BusO.r {w : World} {B : Nat} {s : Sv} {es : List Bu} (h : BusO w B s es) : BusR w s es := ⟨by have := h.1.slen; simpa using this, h.1.rwa, fun e he => (h.2 e he).r⟩
theorem BusO.keep {w w' : World} {B : Nat} {s : Sv} {es : List Bu} (h : BusO w B s es) (hk : ∀ b, B ≤ b → b < w.heap.size → w'.heap[b]? = w.heap[b]?) : BusO w' B s es := ⟨h.1.keep fun b hb hl => hk b (h.1.lt b hb).1 hl, fun e he => (h.2 e he).keep hk⟩
theorem BusO.below {w w' : World} {B : Nat} {s : Sv} {es : List Bu} (h : BusO w B s es) (b : Below w.heap.size w w') : BusO w' B s es := h.keep fun k _ hk => b.block k hk
theorem BusO.down {w : World} {B B' : Nat} {s : Sv} {es : List Bu} (h : BusO w B s es) (hB : B' ≤ B) : BusO w B' s es := ⟨h.1.down hB, fun e he => (h.2 e he).down hB⟩
theorem BusO.nil (w : World) (B : Nat) : BusO w B zSv [] := ⟨SlN.nil _ _ _ _, fun e he => by cases he⟩
/-- each one's lists lie behind those of the ones ahead. -/
def BusUp (es : List Bu) : Prop := (∀ e ∈ es, e.Up) ∧ es.Pairwise fun a b => ∀ x y, a.own x → b.own y → x < y
def Bus.tot (es : List Bu) : Nat := (es.map fun e => e.sz).sum
theorem Bus.tot_take (es : List Bu) (k : Nat) (hk : k < es.length) : Bus.tot (es.take (k + 1)) = Bus.tot (es.take k) + es[k].sz := by
  unfold Bus.tot
  rw [List.take_succ_eq_append_getElem hk, List.map_append, List.sum_append]
  simp

set_option maxRecDepth 100000 in
set_option maxHeartbeats 4000000 in
theorem szBundles_any (s : Sv) (es : List Bu) (left : Nat) (w : World) (hx : Hid (BusR w s es)) (hleft : left ≤ 1048576) (hl : es.length ≤ 9223372036854775807) (hs : Hid (∀ e ∈ es, e.L)) :
    Calls Try.prog 82 #[.slice s.a s.n s.c, .int .i64 left] w fun x w' => (x = .returned (.int .i64 (-1)) ∨ ∃ z : Nat, x = .returned (.int .i64 z) ∧ Hid (z + (es.length + Bus.tot es) ≤ left)) ∧ Below w.heap.size w w' := by
  obtain ⟨a, n, c⟩ := s
  dsimp only
  have HN : Hid (n = es.length) := hx.out.1
  have hn : n ≤ 9223372036854775807 := by have := HN.out; omega
  clear hl
  by_cases h1 : left < n
  · have hd : decide ((left : Int) - (n : Int) < 0) = true := by simp; omega
    go_enter Try.func82, Try.ntmps82
    go_wp2_with fail
    go_ret
    exact ⟨.inl rfl, Below.refl _ _⟩
  have hd : decide ((left : Int) - (n : Int) < 0) = false := by simp; omega
  go_enter Try.func82, Try.ntmps82
  go_wp2_with fail
  clear hd
  go_loopw [1, 5] (fun lf i wr => ∃ (k z : Nat), k ≤ n ∧ z ≤ 1048576 ∧ lf = .int .i64 z ∧ i = .int .i64 k ∧ Hid (z + (es.length + Bus.tot (es.take k)) ≤ left) ∧ Hid (Below w.heap.size w wr)) (fun _ i _ => n - (intOf i).toNat)
  case atStart => exact ⟨0, left - n, Nat.zero_le _, by omega, by congr 1; omega, rfl, (by have := HN.out; simp [Bus.tot]; omega : left - n + (es.length + Bus.tot (es.take 0)) ≤ left), Below.refl _ _⟩
  case round =>
    obtain ⟨k, z, hk, hz, rfl, rfl, hsm, hb⟩ := hrel
    by_cases hlt : k < n
    · have hlt2 : k < es.length := by have := HN.out; omega
      obtain ⟨g, off, ha, hg, _, hr⟩ := (hx.out.stays hb.out).2.1 k (by simpa using hlt2)
      obtain ⟨e, he⟩ : ∃ e, e = es[k] := ⟨_, rfl⟩
      have hr2 : wr.rangeAt g (off + k * 4) e.row := by rw [he]; simpa using hr
      have HR : Hid (wr.rangeAt g (off + k * 4) e.row) := hr2
      have HE : Hid (e = es[k]) := he
      have RR : Hid (e.R wr) := by rw [he]; exact (hx.out.stays hb.out).2.2 _ (List.getElem_mem hlt2)
      have LL : Hid e.L := by rw [he]; exact hs.out _ (List.getElem_mem hlt2)
      have ha : a = some ⟨g, off, none⟩ := ha
      subst ha
      have i0 : (0 : Int) ≤ (k : Int) := by omega
      have i1 : (k : Int) < (n : Int) := by omega
      clear hr hr2 he hg
      go_wp2_with (first | (refine wpList_ldN rfl 110 _ rfl g (off + k * 4) (by rfl) e.row HR.out _ Try.underlying110 rfl Try.sizeLBu ?_))
      refine (szBu_any e z _ RR LL (by omega)).mono ?_
      rintro x w1 ⟨rfl | ⟨r, rfl, hr1⟩, hb1⟩
      · go_wp2_with fail
        go_ret
        exact ⟨.inl rfl, bl_nxt hb.out hb1⟩
      · have B1 : Hid (Below w.heap.size w w1) := bl_nxt hb.out hb1
        have HR1 : Hid (r + e.sz ≤ z) := (by omega : r + e.sz ≤ z)
        have hrz : r ≤ 1048576 := by omega
        have hd : decide ((r : Int) < 0) = false := by simp
        have HS2 : Hid (r + (es.length + Bus.tot (es.take (k + 1))) ≤ left) := by
          have h1 := hsm.out
          have h2 := HR1.out
          have h3 := Bus.tot_take es k hlt2
          rw [← HE.out] at h3
          show _ ≤ _
          omega
        clear hb1 hr1 HR
        go_wp2_with fail
        go_roundw
        case rel => exact ⟨k + 1, r, by omega, hrz, rfl, by go_num, HS2, B1⟩
        case measure => simp [intOf]; omega
    · obtain rfl : k = n := by omega
      go_wp2_with fail
      go_ret
      exact ⟨.inr ⟨z, rfl, by have := hsm.out; rwa [HN.out, List.take_of_length_le (Nat.le_refl _)] at this⟩, hb.out⟩
theorem Try.infoBu : (Try.prog.info? 115).map (fun i => (i.zero, i.size, i.bytes)) = some (some (.agg #[.int .i64 0, .int .i64 0, .int .i64 0, .slice none 0 0]), 4, 48) := by kernel_rfl
set_option maxRecDepth 100000 in
set_option maxHeartbeats 8000000 in
theorem toBundles_any (s : Sv) (es : List Bu) (w : World) (hx : Hid (BusR w s es)) (hl : es.length ≤ 1048576) (hs : Hid (∀ e ∈ es, e.S)) :
    Calls Try.prog 86 #[.slice s.a s.n s.c] w fun x w' => ∃ (u : Sv) (cs : List Bu), x = .returned (.slice u.a u.n u.c) ∧ cs.map Bu.pl = es.map Bu.pl ∧ BusO w' w.heap.size u cs ∧ BusUp cs ∧ (∀ b, u.v.ownBlock = some b → b = w.heap.size ∧ ∀ e ∈ cs, ∀ x, e.own x → b < x) ∧ Below w.heap.size w w' := by
  obtain ⟨a, n, c⟩ := s
  dsimp only
  have HN : Hid (n = es.length) := hx.out.1
  have hn : n ≤ 1048576 := by have := HN.out; omega
  clear hl
  obtain ⟨i0, hi, hz0, hz1, hz2⟩ := info_parts Try.infoBu
  obtain ⟨A, hA⟩ : ∃ A : Array Value, A = madeCells (Value.agg #[.int .i64 0, .int .i64 0, .int .i64 0, .slice none 0 0]).cells (n * 4) := ⟨_, rfl⟩
  have hmk : ∀ W : World, (Instr.makeSlice 75 (.int .i64 (n : Int)) (.int .i64 (n : Int))).run Try.prog W = .ok (.slice (some ⟨W.heap.size, 0, none⟩) n n) (W.alloc (.cells A 115)) := fun W => by
    have h := run_make (P := Try.prog) W 75 115 i0 _ Try.underlying75 hi hz0 .i64 .i64 (n : Int) (n : Int) (by omega) (by omega) (by rw [hz2]; omega) (by omega)
    rw [hz1, Int.toNat_natCast, ← hA] at h
    simpa using h
  have H0 : Hid (SlN (w.alloc (.cells A 115)) 115 4 w.heap.size (.slice (some ⟨w.heap.size, 0, none⟩) n n) (List.replicate n [.int .i64 0, .int .i64 0, .int .i64 0, .slice none 0 0])) := by rw [hA]; exact SlN.zeros w 115 [.int .i64 0, .int .i64 0, .int .i64 0, .slice none 0 0] (by simp) rfl n w.heap.size (Nat.le_refl _) hn
  clear hA
  have HB0 : Hid (Below w.heap.size w (w.alloc (.cells A 115))) := (Below.refl _ _).alloc (Nat.le_refl _) _
  have HZ0 : Hid (w.heap.size < (w.alloc (.cells A 115)).heap.size) := (by simp : _ < _)
  go_enter Try.func86, Try.ntmps86
  go_wp2_with fail
  generalize w.alloc (.cells A 115) = W at *
  clear hmk hi hz0 hz1 hz2
  go_loopw [4] (fun i wr => ∃ (k : Nat) (cs : List Bu), k ≤ n ∧ i = .int .i64 k ∧ Hid (cs.length = k) ∧ Hid (cs.map Bu.pl = (es.take k).map Bu.pl) ∧ Hid (SlN wr 115 4 w.heap.size (.slice (some ⟨w.heap.size, 0, none⟩) n n) (cs.map Bu.row ++ List.replicate (n - k) ([.int .i64 0, .int .i64 0, .int .i64 0, .slice none 0 0] : List Value))) ∧ Hid (∀ c ∈ cs, c.O wr (w.heap.size + 1)) ∧ Hid (BusUp cs) ∧ Hid (w.heap.size < wr.heap.size) ∧ Hid (Below w.heap.size w wr)) (fun i _ => n - (intOf i).toNat)
  case atStart => exact ⟨0, [], Nat.zero_le _, rfl, rfl, rfl, (by have h := H0.out; simpa using h : SlN _ _ _ _ _ _), (fun c hc => (by cases hc) : ∀ c ∈ ([] : List Bu), _), ⟨fun e he => (by cases he), List.Pairwise.nil⟩, HZ0, HB0⟩
  case round =>
    obtain ⟨k, cs, hk, rfl, hcl, hpl, hrow, hown, hup, hzl, hb⟩ := hrel
    clear H0 HB0 HZ0
    by_cases hlt : k < n
    · have hlt2 : k < es.length := by have := HN.out; omega
      obtain ⟨g, off, ha, hg, _, hr⟩ := (hx.out.stays hb.out).2.1 k (by simpa using hlt2)
      obtain ⟨e, he⟩ : ∃ e, e = es[k] := ⟨_, rfl⟩
      have hr2 : wr.rangeAt g (off + k * 4) e.row := by rw [he]; simpa using hr
      have HR : Hid (wr.rangeAt g (off + k * 4) e.row) := hr2
      have HE : Hid (e = es[k]) := he
      have RR : Hid (e.R wr) := by rw [he]; exact (hx.out.stays hb.out).2.2 _ (List.getElem_mem hlt2)
      have SS : Hid e.S := by rw [he]; exact hs.out _ (List.getElem_mem hlt2)
      have ha : a = some ⟨g, off, none⟩ := ha
      subst ha
      have i0 : (0 : Int) ≤ (k : Int) := by omega
      have i1 : (k : Int) < (n : Int) := by omega
      clear hr hr2 he hg
      go_wp2_with (first | (refine wpList_ldN rfl 110 _ rfl g (off + k * 4) (by rfl) e.row HR.out _ Try.underlying110 rfl Try.sizeLBu ?_))
      refine (toBundle_any e.f e.n e.o e.s e.ts _ RR SS.out).mono ?_
      rintro x w1 ⟨u1, rfl, o1, b1⟩
      obtain ⟨c1, hc⟩ : ∃ c : Bu, c = { e with s := u1 } := ⟨_, rfl⟩
      have CO : Hid (c1.O w1 wr.heap.size) := by rw [hc]; exact o1
      have CU : Hid c1.Up := by rw [hc]; exact trivial
      have CP : Hid (c1.pl = e.pl) := by rw [hc]; exact rfl
      have CR : Hid (([.int .i64 e.f, .int .i64 e.n, .int .i64 e.o, .slice u1.a u1.n u1.c] : List Value) = c1.row) := by rw [hc]; rfl
      have B1 : Hid (Below w.heap.size w w1) := bl_nxt hb.out b1
      have R1 : Hid (SlN w1 115 4 w.heap.size (.slice (some ⟨w.heap.size, 0, none⟩) n n) (cs.map Bu.row ++ List.replicate (n - k) ([.int .i64 0, .int .i64 0, .int .i64 0, .slice none 0 0] : List Value))) := hrow.out.below b1
      have O1 : Hid (∀ c ∈ cs, c.O w1 (w.heap.size + 1)) := fun c hc => (hown.out c hc).below b1
      have LT : Hid (∀ c ∈ cs, ∀ x, c.own x → x < wr.heap.size) := fun c hc x hx => ((hown.out c hc).lt x hx).2
      have ZL : Hid (w.heap.size + 1 ≤ wr.heap.size) := hzl.out
      have ZL1 : Hid (w.heap.size < w1.heap.size) := Nat.lt_of_lt_of_le hzl.out b1.size
      clear HR b1 hrow hown hb hc hzl
      go_wp2_with (first | (with_reducible refine wpList_haltS 115 _ _ rfl ?_))
      refine Stp.go ?_
      have HL : n = (cs.map Bu.row ++ List.replicate (n - k) ([.int .i64 0, .int .i64 0, .int .i64 0, .slice none 0 0] : List Value)).length := by have := hcl.out; simp; omega
      have R2 : SlN w1 115 4 w.heap.size (.slice (some ⟨w.heap.size, 0, none⟩) (cs.map Bu.row ++ List.replicate (n - k) ([.int .i64 0, .int .i64 0, .int .i64 0, .slice none 0 0] : List Value)).length n) (cs.map Bu.row ++ List.replicate (n - k) ([.int .i64 0, .int .i64 0, .int .i64 0, .slice none 0 0] : List Value)) := by rw [← HL]; exact R1.out
      refine wpList_stN (i := k) rfl 115 _ _ rfl R2 (by rw [← HL]; exact hlt) (by rw [Nat.zero_add]; rfl) ([.int .i64 e.f, .int .i64 e.n, .int .i64 e.o, .slice u1.a u1.n u1.c]) rfl rfl rfl Try.sizeBu ?_
      intro w2 R3 T3
      rw [← HL, CR.out] at R3
      have e3 : (cs.map Bu.row ++ List.replicate (n - k) ([.int .i64 0, .int .i64 0, .int .i64 0, .slice none 0 0] : List Value)).set k c1.row = (cs ++ [c1]).map Bu.row ++ List.replicate (n - (k + 1)) ([.int .i64 0, .int .i64 0, .int .i64 0, .slice none 0 0] : List Value) := by
        have h := set_snoc (cs.map Bu.row) [.int .i64 0, .int .i64 0, .int .i64 0, .slice none 0 0] c1.row (n - (k + 1))
        rw [show n - (k + 1) + 1 = n - k by omega, List.length_map, hcl.out] at h
        rw [h, List.map_append]
        rfl
      rw [e3] at R3
      have R4 : Hid (SlN w2 115 4 w.heap.size (.slice (some ⟨w.heap.size, 0, none⟩) n n) ((cs ++ [c1]).map Bu.row ++ List.replicate (n - (k + 1)) ([.int .i64 0, .int .i64 0, .int .i64 0, .slice none 0 0] : List Value))) := R3
      have T4 : Hid (TurnAt w.heap.size w1 w2) := T3
      clear R1 R2 R3 T3 HL e3 CR
      go_wp2_with fail
      go_roundw
      case rel =>
        have kp : ∀ c : Bu, c.O w1 (w.heap.size + 1) → c.O w2 (w.heap.size + 1) := fun c h => h.keep fun b hb _ => T4.out.block b (by omega)
        refine ⟨k + 1, cs ++ [c1], by omega, by go_num, (by have := hcl.out; simp; omega : _ = _), ?_, R4, fun x hx => ?_, ⟨fun x hx => ?_, ?_⟩, (by have h := T4.out.size; have := ZL1.out; omega : _ < _), B1.out.trans (T4.out.below (Nat.le_refl _))⟩
        · show _ = _
          rw [List.map_append, hpl.out, List.take_succ_eq_append_getElem hlt2, List.map_append, ← HE.out]
          simp [CP.out]
        · rcases List.mem_append.1 hx with h | h
          · exact kp _ (O1.out x h)
          · rw [List.mem_singleton.1 h]; exact kp _ (CO.out.down ZL.out)
        · rcases List.mem_append.1 hx with h | h
          · exact hup.out.1 x h
          · rw [List.mem_singleton.1 h]; exact CU.out
        · refine List.pairwise_append.2 ⟨hup.out.2, List.pairwise_singleton _ _, fun a ha b hb x y hx hy => ?_⟩
          rw [List.mem_singleton.1 hb] at hy
          have h1 := LT.out a ha x hx
          have h2 := (CO.out.lt y hy).1
          omega
      case measure => simp [intOf]; omega
    · obtain rfl : k = n := by omega
      go_wp2_with fail
      go_ret
      have hr := hrow.out
      rw [Nat.sub_self, List.replicate_zero, List.append_nil] at hr
      refine ⟨⟨some ⟨w.heap.size, 0, none⟩, _, _⟩, cs, rfl, ?_, ⟨hr, fun e he => (hown.out e he).down (Nat.le_succ _)⟩, hup.out, fun b hb => ?_, hb.out⟩
      · have h := hpl.out
        rwa [HN.out, List.take_of_length_le (Nat.le_refl _)] at h
      · simp [Sv.v, Value.ownBlock] at hb
        subst hb
        exact ⟨rfl, fun e he x hx => by have := ((hown.out e he).lt x hx).1; omega⟩
end Go.Proofs.Ytdodeillifoibaa


/- Lists of events, held against each other. Written by gen_gs.py. -/
namespace Go.Proofs.Ytdodeillifoibaa
open Go.RowKit Pl
set_option linter.unusedVariables false
set_option linter.unusedSimpArgs false

set_option maxRecDepth 100000 in
set_option maxHeartbeats 4000000 in
theorem eqevents_sp (ao bo : Option Addr) (len c1 c2 : Nat) (r1 r2 : Nat → List Value) (w : World) (h1 : Hid (∀ j, j < len → ∃ g off, ao = some ⟨g, off, none⟩ ∧ g < w.heap.size ∧ (r1 j).length = 8 ∧ w.rangeAt g (off + j * 8) (r1 j))) (h2 : Hid (∀ j, j < len → ∃ g off, bo = some ⟨g, off, none⟩ ∧ g < w.heap.size ∧ (r2 j).length = 8 ∧ w.rangeAt g (off + j * 8) (r2 j))) (hE : Hid (∀ j, j < len → ∀ W, Below w.heap.size w W → Calls Try.prog 30 #[.agg (r1 j).toArray, .agg (r2 j).toArray] W fun e w' => e = .returned (.bool true) ∧ Below W.heap.size W w')) (hl : len ≤ 39999990) :
    Calls Try.prog 12 #[.slice ao len c1, .slice bo len c2] w fun e w' => e = .returned (.bool true) ∧ Below w.heap.size w w' := by
  go_enter Try.func12, Try.ntmps12
  go_wp2_with fail
  go_loopw [5] (fun i wr => ∃ (j : Nat), j ≤ len ∧ i = .int .i64 (j : Int) ∧ Hid (Below w.heap.size w wr)) (fun i _ => len - (intOf i).toNat)
  case atStart => exact ⟨0, by omega, rfl, Below.refl _ _⟩
  case round =>
    obtain ⟨j, hj, rfl, HB⟩ := hrel
    by_cases hlt : j < len
    · obtain ⟨g1, o1, rfl, l1, n1, x1⟩ := h1.out j hlt
      obtain ⟨g2, o2, rfl, l2, n2, x2⟩ := h2.out j hlt
      have X1 : Hid (w.rangeAt g1 (o1 + j * 8) (r1 j)) := x1
      have X2 : Hid (w.rangeAt g2 (o2 + j * 8) (r2 j)) := x2
      have N1 : Hid ((Try.prog.info? 59).map (·.size) = some (r1 j).length) := (by rw [n1]; exact Try.sizeEv : _ = _)
      have N2 : Hid ((Try.prog.info? 59).map (·.size) = some (r2 j).length) := (by rw [n2]; exact Try.sizeEv : _ = _)
      clear x1 x2 n1 n2
      have EJ : Hid _ := hE.out j hlt
      have i0 : (0 : Int) ≤ (j : Int) := by omega
      have i1 : (j : Int) < (len : Int) := by omega
      go_wp2_with fail
      have c : Below w.heap.size w wr.drew := HB.out.drew
      refine wp_region_held_drew (S := fun w' => Below w.heap.size w w') (by kernel_rfl) c (fun hHeld => ?_)
      refine wpAnyH_take (i := 0) (v := ?v0b1) rfl (by kernel_rfl) (by kernel_rfl) (by kernel_rfl) (fun _ _ _ h => h) (Or.inl ⟨by rfl, ?hy0b1⟩) (by assumption) ?_
      case hy0b1 => (intro w hSw; (try dsimp only at hSw); simp only [List.getElem_toArray, List.getElem_cons_zero, List.getElem_cons_succ]; go_simp; try with_reducible rfl)
      try simp only [Act.put, List.getElem_toArray, List.getElem_cons_zero, List.getElem_cons_succ, List.setIfInBounds_toArray, List.set_cons_zero, List.set_cons_succ]
      refine wpAnyH_take (i := 1) (v := ?v1b2) rfl (by kernel_rfl) (by kernel_rfl) (by kernel_rfl) (fun _ _ _ h => h) (Or.inl ⟨by rfl, ?hy1b2⟩) (by assumption) ?_
      case hy1b2 => (intro w hSw; (try dsimp only at hSw); simp only [List.getElem_toArray, List.getElem_cons_zero, List.getElem_cons_succ]; go_simp; try with_reducible rfl)
      try simp only [Act.put, List.getElem_toArray, List.getElem_cons_zero, List.getElem_cons_succ, List.setIfInBounds_toArray, List.set_cons_zero, List.set_cons_succ]
      refine wpAnyH_take (i := 2) (v := ?v2b3) rfl (by kernel_rfl) (by kernel_rfl) (by kernel_rfl) (fun _ _ _ h => h) (Or.inl ⟨by rfl, ?hy2b3⟩) (by assumption) ?_
      case hy2b3 => (intro w hSw; (try dsimp only at hSw); simp only [List.getElem_toArray, List.getElem_cons_zero, List.getElem_cons_succ]; go_simp; try with_reducible rfl)
      try simp only [Act.put, List.getElem_toArray, List.getElem_cons_zero, List.getElem_cons_succ, List.setIfInBounds_toArray, List.set_cons_zero, List.set_cons_succ]
      refine wpAnyH_take (i := 3) (v := _) rfl (by kernel_rfl) (by kernel_rfl) (by kernel_rfl) (fun _ _ _ h => h) (ldN_yield (by rfl) 59 _ rfl g1 (o1 + j * 8) (by rfl) (r1 j) (fun w hS => range_later X1.out l1 hS) _ Try.underlying59 rfl N1.out) (by assumption) ?_
      try simp only [Act.put, List.setIfInBounds_toArray, List.set_cons_zero, List.set_cons_succ]
      refine wpAnyH_take (i := 4) (v := ?v4b5) rfl (by kernel_rfl) (by kernel_rfl) (by kernel_rfl) (fun _ _ _ h => h) (Or.inl ⟨by rfl, ?hy4b5⟩) (by assumption) ?_
      case hy4b5 => (intro w hSw; (try dsimp only at hSw); simp only [List.getElem_toArray, List.getElem_cons_zero, List.getElem_cons_succ]; go_simp; try with_reducible rfl)
      try simp only [Act.put, List.getElem_toArray, List.getElem_cons_zero, List.getElem_cons_succ, List.setIfInBounds_toArray, List.set_cons_zero, List.set_cons_succ]
      refine wpAnyH_take (i := 5) (v := ?v5b6) rfl (by kernel_rfl) (by kernel_rfl) (by kernel_rfl) (fun _ _ _ h => h) (Or.inl ⟨by rfl, ?hy5b6⟩) (by assumption) ?_
      case hy5b6 => (intro w hSw; (try dsimp only at hSw); simp only [List.getElem_toArray, List.getElem_cons_zero, List.getElem_cons_succ]; go_simp; try with_reducible rfl)
      try simp only [Act.put, List.getElem_toArray, List.getElem_cons_zero, List.getElem_cons_succ, List.setIfInBounds_toArray, List.set_cons_zero, List.set_cons_succ]
      refine wpAnyH_take (i := 6) (v := ?v6b7) rfl (by kernel_rfl) (by kernel_rfl) (by kernel_rfl) (fun _ _ _ h => h) (Or.inl ⟨by rfl, ?hy6b7⟩) (by assumption) ?_
      case hy6b7 => (intro w hSw; (try dsimp only at hSw); simp only [List.getElem_toArray, List.getElem_cons_zero, List.getElem_cons_succ]; go_simp; try with_reducible rfl)
      try simp only [Act.put, List.getElem_toArray, List.getElem_cons_zero, List.getElem_cons_succ, List.setIfInBounds_toArray, List.set_cons_zero, List.set_cons_succ]
      refine wpAnyH_take (i := 7) (v := _) rfl (by kernel_rfl) (by kernel_rfl) (by kernel_rfl) (fun _ _ _ h => h) (ldN_yield (by rfl) 59 _ rfl g2 (o2 + j * 8) (by rfl) (r2 j) (fun w hS => range_later X2.out l2 hS) _ Try.underlying59 rfl N2.out) (by assumption) ?_
      try simp only [Act.put, List.setIfInBounds_toArray, List.set_cons_zero, List.set_cons_succ]
      refine wpAnyH_ready (rs := [8]) (by kernel_rfl) (by simp) ?_
      refine AllReadyH.cons (i := 8) rfl (fun K hK => ?_) AllReadyH.nil
      rw [if_pos (by rfl)]
      simp only [List.getElem_toArray, List.getElem_cons_zero, List.getElem_cons_succ]
      go_simp
      refine (EJ.out _ c).mono ?_
      rintro e y1 ⟨rfl, d1⟩
      have c1 : Below w.heap.size w y1 := bl_next c d1
      refine hK.out _ _ (c1) (fun hHeld => ?_)
      clear hK K
      try simp only [Act.put, List.getElem_toArray, List.getElem_cons_zero, List.getElem_cons_succ, List.setIfInBounds_toArray, List.set_cons_zero, List.set_cons_succ]
      clear d1
      refine wpAnyH_take (i := 9) (v := ?v9b9) rfl (by kernel_rfl) (by kernel_rfl) (by kernel_rfl) (fun _ _ _ h => h) (Or.inl ⟨by rfl, ?hy9b9⟩) (by assumption) ?_
      case hy9b9 => (intro w hSw; (try dsimp only at hSw); simp only [List.getElem_toArray, List.getElem_cons_zero, List.getElem_cons_succ]; go_simp; try with_reducible rfl)
      try simp only [Act.put, List.getElem_toArray, List.getElem_cons_zero, List.getElem_cons_succ, List.setIfInBounds_toArray, List.set_cons_zero, List.set_cons_succ]
      refine wpAnyH_done (by kernel_rfl) ?_ _
      have HB1 : Hid (Below w.heap.size w y1) := c1
      clear c c1 hHeld HB EJ X1 X2
      go_wp2_with fail
      go_roundw
      case rel => exact ⟨j + 1, by omega, by go_num, HB1⟩
      case measure => simp [intOf]; omega
    · obtain rfl : j = len := by omega
      go_wp2_with fail
      go_ret
      exact ⟨rfl, HB.out⟩
end Go.Proofs.Ytdodeillifoibaa


/- Lists of bundles, held against each other. Written by gen_gs.py. -/
namespace Go.Proofs.Ytdodeillifoibaa
open Go.RowKit Pl
set_option linter.unusedVariables false
set_option linter.unusedSimpArgs false

set_option maxRecDepth 100000 in
set_option maxHeartbeats 4000000 in
theorem eqbundles_sp (ao bo : Option Addr) (len c1 c2 : Nat) (r1 r2 : Nat → List Value) (w : World) (h1 : Hid (∀ j, j < len → ∃ g off, ao = some ⟨g, off, none⟩ ∧ g < w.heap.size ∧ (r1 j).length = 4 ∧ w.rangeAt g (off + j * 4) (r1 j))) (h2 : Hid (∀ j, j < len → ∃ g off, bo = some ⟨g, off, none⟩ ∧ g < w.heap.size ∧ (r2 j).length = 4 ∧ w.rangeAt g (off + j * 4) (r2 j))) (hE : Hid (∀ j, j < len → ∀ W, Below w.heap.size w W → Calls Try.prog 92 #[.agg (r1 j).toArray, .agg (r2 j).toArray] W fun e w' => e = .returned (.bool true) ∧ Below W.heap.size W w')) (hl : len ≤ 39999990) :
    Calls Try.prog 90 #[.slice ao len c1, .slice bo len c2] w fun e w' => e = .returned (.bool true) ∧ Below w.heap.size w w' := by
  go_enter Try.func90, Try.ntmps90
  go_wp2_with fail
  go_loopw [5] (fun i wr => ∃ (j : Nat), j ≤ len ∧ i = .int .i64 (j : Int) ∧ Hid (Below w.heap.size w wr)) (fun i _ => len - (intOf i).toNat)
  case atStart => exact ⟨0, by omega, rfl, Below.refl _ _⟩
  case round =>
    obtain ⟨j, hj, rfl, HB⟩ := hrel
    by_cases hlt : j < len
    · obtain ⟨g1, o1, rfl, l1, n1, x1⟩ := h1.out j hlt
      obtain ⟨g2, o2, rfl, l2, n2, x2⟩ := h2.out j hlt
      have X1 : Hid (w.rangeAt g1 (o1 + j * 4) (r1 j)) := x1
      have X2 : Hid (w.rangeAt g2 (o2 + j * 4) (r2 j)) := x2
      have N1 : Hid ((Try.prog.info? 115).map (·.size) = some (r1 j).length) := (by rw [n1]; exact Try.sizeBu : _ = _)
      have N2 : Hid ((Try.prog.info? 115).map (·.size) = some (r2 j).length) := (by rw [n2]; exact Try.sizeBu : _ = _)
      clear x1 x2 n1 n2
      have EJ : Hid _ := hE.out j hlt
      have i0 : (0 : Int) ≤ (j : Int) := by omega
      have i1 : (j : Int) < (len : Int) := by omega
      go_wp2_with fail
      have c : Below w.heap.size w wr.drew := HB.out.drew
      refine wp_region_held_drew (S := fun w' => Below w.heap.size w w') (by kernel_rfl) c (fun hHeld => ?_)
      refine wpAnyH_take (i := 0) (v := ?v0b10) rfl (by kernel_rfl) (by kernel_rfl) (by kernel_rfl) (fun _ _ _ h => h) (Or.inl ⟨by rfl, ?hy0b10⟩) (by assumption) ?_
      case hy0b10 => (intro w hSw; (try dsimp only at hSw); simp only [List.getElem_toArray, List.getElem_cons_zero, List.getElem_cons_succ]; go_simp; try with_reducible rfl)
      try simp only [Act.put, List.getElem_toArray, List.getElem_cons_zero, List.getElem_cons_succ, List.setIfInBounds_toArray, List.set_cons_zero, List.set_cons_succ]
      refine wpAnyH_take (i := 1) (v := ?v1b11) rfl (by kernel_rfl) (by kernel_rfl) (by kernel_rfl) (fun _ _ _ h => h) (Or.inl ⟨by rfl, ?hy1b11⟩) (by assumption) ?_
      case hy1b11 => (intro w hSw; (try dsimp only at hSw); simp only [List.getElem_toArray, List.getElem_cons_zero, List.getElem_cons_succ]; go_simp; try with_reducible rfl)
      try simp only [Act.put, List.getElem_toArray, List.getElem_cons_zero, List.getElem_cons_succ, List.setIfInBounds_toArray, List.set_cons_zero, List.set_cons_succ]
      refine wpAnyH_take (i := 2) (v := ?v2b12) rfl (by kernel_rfl) (by kernel_rfl) (by kernel_rfl) (fun _ _ _ h => h) (Or.inl ⟨by rfl, ?hy2b12⟩) (by assumption) ?_
      case hy2b12 => (intro w hSw; (try dsimp only at hSw); simp only [List.getElem_toArray, List.getElem_cons_zero, List.getElem_cons_succ]; go_simp; try with_reducible rfl)
      try simp only [Act.put, List.getElem_toArray, List.getElem_cons_zero, List.getElem_cons_succ, List.setIfInBounds_toArray, List.set_cons_zero, List.set_cons_succ]
      refine wpAnyH_take (i := 3) (v := _) rfl (by kernel_rfl) (by kernel_rfl) (by kernel_rfl) (fun _ _ _ h => h) (ldN_yield (by rfl) 115 _ rfl g1 (o1 + j * 4) (by rfl) (r1 j) (fun w hS => range_later X1.out l1 hS) _ Try.underlying115 rfl N1.out) (by assumption) ?_
      try simp only [Act.put, List.setIfInBounds_toArray, List.set_cons_zero, List.set_cons_succ]
      refine wpAnyH_take (i := 4) (v := ?v4b14) rfl (by kernel_rfl) (by kernel_rfl) (by kernel_rfl) (fun _ _ _ h => h) (Or.inl ⟨by rfl, ?hy4b14⟩) (by assumption) ?_
      case hy4b14 => (intro w hSw; (try dsimp only at hSw); simp only [List.getElem_toArray, List.getElem_cons_zero, List.getElem_cons_succ]; go_simp; try with_reducible rfl)
      try simp only [Act.put, List.getElem_toArray, List.getElem_cons_zero, List.getElem_cons_succ, List.setIfInBounds_toArray, List.set_cons_zero, List.set_cons_succ]
      refine wpAnyH_take (i := 5) (v := ?v5b15) rfl (by kernel_rfl) (by kernel_rfl) (by kernel_rfl) (fun _ _ _ h => h) (Or.inl ⟨by rfl, ?hy5b15⟩) (by assumption) ?_
      case hy5b15 => (intro w hSw; (try dsimp only at hSw); simp only [List.getElem_toArray, List.getElem_cons_zero, List.getElem_cons_succ]; go_simp; try with_reducible rfl)
      try simp only [Act.put, List.getElem_toArray, List.getElem_cons_zero, List.getElem_cons_succ, List.setIfInBounds_toArray, List.set_cons_zero, List.set_cons_succ]
      refine wpAnyH_take (i := 6) (v := ?v6b16) rfl (by kernel_rfl) (by kernel_rfl) (by kernel_rfl) (fun _ _ _ h => h) (Or.inl ⟨by rfl, ?hy6b16⟩) (by assumption) ?_
      case hy6b16 => (intro w hSw; (try dsimp only at hSw); simp only [List.getElem_toArray, List.getElem_cons_zero, List.getElem_cons_succ]; go_simp; try with_reducible rfl)
      try simp only [Act.put, List.getElem_toArray, List.getElem_cons_zero, List.getElem_cons_succ, List.setIfInBounds_toArray, List.set_cons_zero, List.set_cons_succ]
      refine wpAnyH_take (i := 7) (v := _) rfl (by kernel_rfl) (by kernel_rfl) (by kernel_rfl) (fun _ _ _ h => h) (ldN_yield (by rfl) 115 _ rfl g2 (o2 + j * 4) (by rfl) (r2 j) (fun w hS => range_later X2.out l2 hS) _ Try.underlying115 rfl N2.out) (by assumption) ?_
      try simp only [Act.put, List.setIfInBounds_toArray, List.set_cons_zero, List.set_cons_succ]
      refine wpAnyH_ready (rs := [8]) (by kernel_rfl) (by simp) ?_
      refine AllReadyH.cons (i := 8) rfl (fun K hK => ?_) AllReadyH.nil
      rw [if_pos (by rfl)]
      simp only [List.getElem_toArray, List.getElem_cons_zero, List.getElem_cons_succ]
      go_simp
      refine (EJ.out _ c).mono ?_
      rintro e y1 ⟨rfl, d1⟩
      have c1 : Below w.heap.size w y1 := bl_next c d1
      refine hK.out _ _ (c1) (fun hHeld => ?_)
      clear hK K
      try simp only [Act.put, List.getElem_toArray, List.getElem_cons_zero, List.getElem_cons_succ, List.setIfInBounds_toArray, List.set_cons_zero, List.set_cons_succ]
      clear d1
      refine wpAnyH_take (i := 9) (v := ?v9b18) rfl (by kernel_rfl) (by kernel_rfl) (by kernel_rfl) (fun _ _ _ h => h) (Or.inl ⟨by rfl, ?hy9b18⟩) (by assumption) ?_
      case hy9b18 => (intro w hSw; (try dsimp only at hSw); simp only [List.getElem_toArray, List.getElem_cons_zero, List.getElem_cons_succ]; go_simp; try with_reducible rfl)
      try simp only [Act.put, List.getElem_toArray, List.getElem_cons_zero, List.getElem_cons_succ, List.setIfInBounds_toArray, List.set_cons_zero, List.set_cons_succ]
      refine wpAnyH_done (by kernel_rfl) ?_ _
      have HB1 : Hid (Below w.heap.size w y1) := c1
      clear c c1 hHeld HB EJ X1 X2
      go_wp2_with fail
      go_roundw
      case rel => exact ⟨j + 1, by omega, by go_num, HB1⟩
      case measure => simp [intOf]; omega
    · obtain rfl : j = len := by omega
      go_wp2_with fail
      go_ret
      exact ⟨rfl, HB.out⟩
end Go.Proofs.Ytdodeillifoibaa


/- Lists of events, lists of bundles: held against each other. -/
namespace Go.Proofs.Ytdodeillifoibaa
open Go.RowKit Pl
set_option linter.unusedVariables false
set_option linter.unusedSimpArgs false

theorem rowsAt {w : World} {T size B : Nat} {s : Sv} {rows : List (List Value)} (h : SlN w T size B s.v rows) (j : Nat) (hj : j < rows.length) : ∃ g off, s.a = some ⟨g, off, none⟩ ∧ g < w.heap.size ∧ ((rows[j]?).getD []).length = size ∧ w.rangeAt g (off + j * size) ((rows[j]?).getD []) := by
  obtain ⟨g, off, c, h1, h2, h3, h4⟩ := h.read hj
  simp only [Sv.v, Value.slice.injEq] at h1
  rw [List.getElem?_eq_getElem hj]
  exact ⟨g, off, h1.1, h3, h.lens _ (List.getElem_mem hj), h4⟩
theorem eqEvs_any (s1 s2 : Sv) (es fs : List Ev) (B1 B2 : Nat) (w : World) (h1 : Hid (EvsO w B1 s1 es)) (h2 : Hid (EvsO w B2 s2 fs)) (hpl : Hid (es.map Ev.pl = fs.map Ev.pl)) (hl : es.length ≤ 1048576) (hs : Hid (∀ e ∈ es, e.S)) :
    Calls Try.prog 12 #[.slice s1.a s1.n s1.c, .slice s2.a s2.n s2.c] w fun x w' => x = .returned (.bool true) ∧ Below w.heap.size w w' := by
  have n1 : s1.n = es.length := by have := h1.out.1.slen; simpa using this
  have hfl : fs.length = es.length := by have := congrArg List.length hpl.out; simp at this; omega
  have n2 : s2.n = es.length := by have := h2.out.1.slen; simp at this; omega
  rw [n1, n2]
  refine eqevents_sp s1.a s2.a es.length s1.c s2.c (fun j => ((es.map Ev.row)[j]?).getD []) (fun j => ((fs.map Ev.row)[j]?).getD []) w (fun j hj => rowsAt h1.out.1 j (by simpa using hj)) (fun j hj => rowsAt h2.out.1 j (by simpa [hfl] using hj)) ?_ (by omega)
  intro j hj W b
  have hj2 : j < fs.length := by omega
  have e1 : ((es.map Ev.row)[j]?).getD [] = es[j].row := by simp [hj]
  have e2 : ((fs.map Ev.row)[j]?).getD [] = fs[j].row := by simp [hj2]
  have hp : es[j].pl = fs[j].pl := by
    have h := congrArg (fun l => l[j]?) hpl.out
    simpa [hj, hj2] using h
  try dsimp only
  rw [e1, e2]
  have o1 := (h1.out.2 _ (List.getElem_mem hj)).below b
  have o2 := (h2.out.2 _ (List.getElem_mem hj2)).below b
  obtain ⟨e, he⟩ : ∃ e, e = es[j] := ⟨_, rfl⟩
  obtain ⟨f, hf⟩ : ∃ f, f = fs[j] := ⟨_, rfl⟩
  have hS := hs.out _ (List.getElem_mem hj)
  rw [← he] at o1 hS hp
  rw [← hf] at o2 hp
  rw [← he, ← hf]
  obtain ⟨k, rid, ms, q, ff, l, t, wi, sm, sw⟩ := f
  simp only [Ev.pl, Prod.mk.injEq] at hp
  obtain ⟨rfl, rfl, rfl, ⟨rfl, rfl, rfl, rfl⟩, rfl⟩ := hp
  exact eqEvent_any e e.sm e.sw sm sw W hS (o1.1.down (Nat.zero_le _)) (o1.2.down (Nat.zero_le _)) (o2.1.down (Nat.zero_le _)) (o2.2.down (Nat.zero_le _))
theorem eqBus_any (s1 s2 : Sv) (es fs : List Bu) (B1 B2 : Nat) (w : World) (h1 : Hid (BusO w B1 s1 es)) (h2 : Hid (BusO w B2 s2 fs)) (hpl : Hid (es.map Bu.pl = fs.map Bu.pl)) (hl : es.length ≤ 1048576) (hs : Hid (∀ e ∈ es, e.S)) :
    Calls Try.prog 90 #[.slice s1.a s1.n s1.c, .slice s2.a s2.n s2.c] w fun x w' => x = .returned (.bool true) ∧ Below w.heap.size w w' := by
  have n1 : s1.n = es.length := by have := h1.out.1.slen; simpa using this
  have hfl : fs.length = es.length := by have := congrArg List.length hpl.out; simp at this; omega
  have n2 : s2.n = es.length := by have := h2.out.1.slen; simp at this; omega
  rw [n1, n2]
  refine eqbundles_sp s1.a s2.a es.length s1.c s2.c (fun j => ((es.map Bu.row)[j]?).getD []) (fun j => ((fs.map Bu.row)[j]?).getD []) w (fun j hj => rowsAt h1.out.1 j (by simpa using hj)) (fun j hj => rowsAt h2.out.1 j (by simpa [hfl] using hj)) ?_ (by omega)
  intro j hj W b
  have hj2 : j < fs.length := by omega
  have e1 : ((es.map Bu.row)[j]?).getD [] = es[j].row := by simp [hj]
  have e2 : ((fs.map Bu.row)[j]?).getD [] = fs[j].row := by simp [hj2]
  have hp : es[j].pl = fs[j].pl := by
    have h := congrArg (fun l => l[j]?) hpl.out
    simpa [hj, hj2] using h
  try dsimp only
  rw [e1, e2]
  have o1 := (h1.out.2 _ (List.getElem_mem hj)).below b
  have o2 := (h2.out.2 _ (List.getElem_mem hj2)).below b
  obtain ⟨e, he⟩ : ∃ e, e = es[j] := ⟨_, rfl⟩
  obtain ⟨f, hf⟩ : ∃ f, f = fs[j] := ⟨_, rfl⟩
  have hS := hs.out _ (List.getElem_mem hj)
  rw [← he] at o1 hS hp
  rw [← hf] at o2 hp
  rw [← he, ← hf]
  obtain ⟨f1, n1, o1', ts, s⟩ := f
  simp only [Bu.pl, Prod.mk.injEq] at hp
  obtain ⟨rfl, rfl, rfl, rfl⟩ := hp
  exact eqBundle_same e.f e.n e.o e.s s e.ts B1 B2 W o1 o2 hS
end Go.Proofs.Ytdodeillifoibaa


/- Daemons in plain words and in memory; a daemon measured, copied, held against another. Written by gen_dm.py. -/
namespace Go.Proofs.Ytdodeillifoibaa
open Go.RowKit Pl
set_option linter.unusedVariables false
set_option linter.unusedSimpArgs false

theorem Try.sizeBo : (Try.prog.info? 4).map (·.size) = some 1 := by kernel_rfl
/-- a daemon, and where its lists lie. -/
structure Dm where
  id : Int
  dead : Bool
  m : Mt
  mv : Mv
  most : Int
  old : Int
  jid : Int
  jms : List Int
  js : Sv
  bu : List Bu
  bs : Sv
  lo : List Ev
  ls : Sv
/-- its lists are read. -/
structure DmR (w : World) (d : Dm) : Prop where
  mt : MtR w d.m d.mv
  jo : RI w d.js.v d.jms
  bu : BusR w d.bs d.bu
  lo : EvsR w d.ls d.lo
theorem DmR.stays {w w' : World} {d : Dm} (h : DmR w d) (b : Below w.heap.size w w') : DmR w' d := ⟨h.mt.stays b, h.jo.stays b, h.bu.stays b, h.lo.stays b⟩
/-- its lists are of a call's own. -/
structure DmO (w : World) (B : Nat) (d : Dm) : Prop where
  mt : MtO w B d.m d.mv
  jo : OwnI w B d.js.v d.jms
  bu : BusO w B d.bs d.bu
  lo : EvsO w B d.ls d.lo
theorem DmO.r {w : World} {B : Nat} {d : Dm} (h : DmO w B d) : DmR w d := ⟨h.mt.r, h.jo.ri, h.bu.r, h.lo.r⟩
theorem DmO.keep {w w' : World} {B : Nat} {d : Dm} (h : DmO w B d) (hk : ∀ b, B ≤ b → b < w.heap.size → w'.heap[b]? = w.heap[b]?) : DmO w' B d :=
  ⟨h.mt.keep fun b hb hl => hk b (h.mt.lt hb).1 hl, h.jo.keep fun b hb hl => hk b (h.jo.lt b hb).1 hl, h.bu.keep hk, h.lo.keep hk⟩
theorem DmO.below {w w' : World} {B : Nat} {d : Dm} (h : DmO w B d) (b : Below w.heap.size w w') : DmO w' B d := h.keep fun k _ hk => b.block k hk
theorem DmO.down {w : World} {B B' : Nat} {d : Dm} (h : DmO w B d) (hB : B' ≤ B) : DmO w B' d := ⟨h.mt.down hB, h.jo.down hB, h.bu.down hB, h.lo.down hB⟩
/-- no longer than can be. -/
structure DmL (d : Dm) : Prop where
  mt : MtL d.m
  jo : d.jms.length ≤ 9223372036854775807
  bu : d.bu.length ≤ 9223372036854775807 ∧ ∀ b ∈ d.bu, b.L
  lo : d.lo.length ≤ 9223372036854775807 ∧ ∀ e ∈ d.lo, e.L
/-- not too long. -/
structure DmS (d : Dm) : Prop where
  mt : MtS d.m
  jo : d.jms.length ≤ 1048576
  bu : d.bu.length + Bus.tot d.bu ≤ 1048576
  lo : d.lo.length + Evs.tot d.lo ≤ 1048576
theorem tot_le {α : Type} (f : α → Nat) : ∀ (l : List α) (x : α), x ∈ l → f x ≤ (l.map f).sum
  | a :: l, x, h => by
    rw [List.map_cons, List.sum_cons]
    rcases List.mem_cons.1 h with rfl | h
    · omega
    · have := tot_le f l x h; omega
theorem DmS.bus {d : Dm} (h : DmS d) : d.bu.length ≤ 1048576 ∧ ∀ b ∈ d.bu, b.S := ⟨by have := h.bu; omega, fun b hb => by have h1 := tot_le (fun e : Bu => e.sz) _ b hb; have h2 := h.bu; unfold Bus.tot at h2; unfold Bu.S; unfold Bu.sz at h1 h2; omega⟩
theorem DmS.los {d : Dm} (h : DmS d) : d.lo.length ≤ 1048576 ∧ ∀ e ∈ d.lo, e.S := ⟨by have := h.lo; omega, fun e he => by have h1 := tot_le (fun e : Ev => e.sz) _ e he; have h2 := h.lo; unfold Evs.tot at h2; unfold Ev.S; unfold Ev.sz at h1 h2; omega⟩
/-- the same, in plain words. -/
structure Dm.Same (a b : Dm) : Prop where
  id : a.id = b.id
  dead : a.dead = b.dead
  m : a.m = b.m
  most : a.most = b.most
  old : a.old = b.old
  jid : a.jid = b.jid
  jms : a.jms = b.jms
  bu : a.bu.map Bu.pl = b.bu.map Bu.pl
  lo : a.lo.map Ev.pl = b.lo.map Ev.pl
theorem Dm.Same.symm {a b : Dm} (h : a.Same b) : b.Same a := ⟨h.id.symm, h.dead.symm, h.m.symm, h.most.symm, h.old.symm, h.jid.symm, h.jms.symm, h.bu.symm, h.lo.symm⟩
theorem Dm.Same.trans {a b c : Dm} (h : a.Same b) (k : b.Same c) : a.Same c := ⟨h.id.trans k.id, h.dead.trans k.dead, h.m.trans k.m, h.most.trans k.most, h.old.trans k.old, h.jid.trans k.jid, h.jms.trans k.jms, h.bu.trans k.bu, h.lo.trans k.lo⟩
theorem sz_of_pl {a b : List Bu} (h : a.map Bu.pl = b.map Bu.pl) : Bus.tot a = Bus.tot b := by
  have e : ∀ l : List Bu, l.map (fun e => e.sz) = (l.map Bu.pl).map (fun p => p.2.2.2.length) := fun l => by rw [List.map_map]; rfl
  unfold Bus.tot; rw [e, e, h]
theorem sz_of_ple {a b : List Ev} (h : a.map Ev.pl = b.map Ev.pl) : Evs.tot a = Evs.tot b := by
  have e : ∀ l : List Ev, l.map (fun e => e.sz) = (l.map Ev.pl).map (fun p => p.2.2.1.length + p.2.2.2.1.2.2.2.size + p.2.2.2.2.length) := fun l => by rw [List.map_map]; rfl
  unfold Evs.tot; rw [e, e, h]
theorem Dm.Same.small {a b : Dm} (h : a.Same b) (k : DmS b) : DmS a := by
  have l1 : a.bu.length = b.bu.length := by have := congrArg List.length h.bu; simpa using this
  have l2 : a.lo.length = b.lo.length := by have := congrArg List.length h.lo; simpa using this
  exact ⟨h.m ▸ k.mt, h.jms ▸ k.jo, by rw [l1, sz_of_pl h.bu]; exact k.bu, by rw [l2, sz_of_ple h.lo]; exact k.lo⟩
/-- the blocks of a list of bundles, of a list of events. -/
def BusOwn (s : Sv) (bs : List Bu) (y : Nat) : Prop := s.v.ownBlock = some y ∨ ∃ b ∈ bs, b.own y
def EvsOwn (s : Sv) (es : List Ev) (y : Nat) : Prop := s.v.ownBlock = some y ∨ ∃ e ∈ es, e.own y
/-- each of its lists lies apart. -/
structure BusA (s : Sv) (bs : List Bu) : Prop where
  row : ∀ y, s.v.ownBlock = some y → ∀ b ∈ bs, ¬ b.own y
  two : bs.Pairwise fun a b => ∀ x, a.own x → ¬ b.own x
structure EvsA (s : Sv) (es : List Ev) : Prop where
  row : ∀ y, s.v.ownBlock = some y → ∀ e ∈ es, ¬ e.own y
  one : ∀ e ∈ es, ∀ x, e.sm.v.ownBlock = some x → e.sw.v.ownBlock ≠ some x
  two : es.Pairwise fun a b => ∀ x, a.own x → ¬ b.own x
structure DmA (d : Dm) : Prop where
  mj : ∀ x, d.mv.own x → d.js.v.ownBlock ≠ some x
  mb : ∀ x, d.mv.own x → ¬ BusOwn d.bs d.bu x
  ml : ∀ x, d.mv.own x → ¬ EvsOwn d.ls d.lo x
  jb : ∀ x, d.js.v.ownBlock = some x → ¬ BusOwn d.bs d.bu x
  jl : ∀ x, d.js.v.ownBlock = some x → ¬ EvsOwn d.ls d.lo x
  bl : ∀ x, BusOwn d.bs d.bu x → ¬ EvsOwn d.ls d.lo x
  bu : BusA d.bs d.bu
  lo : EvsA d.ls d.lo
theorem BusO.olt {w : World} {B : Nat} {s : Sv} {bs : List Bu} (h : BusO w B s bs) {y : Nat} (hy : BusOwn s bs y) : B ≤ y ∧ y < w.heap.size := by
  rcases hy with hy | ⟨b, hb, hy⟩
  · exact h.1.lt y hy
  · exact (h.2 b hb).lt y hy
theorem EvsO.olt {w : World} {B : Nat} {s : Sv} {es : List Ev} (h : EvsO w B s es) {y : Nat} (hy : EvsOwn s es y) : B ≤ y ∧ y < w.heap.size := by
  rcases hy with hy | ⟨b, hb, hy⟩
  · exact h.1.lt y hy
  · exact (h.2 b hb).lt y hy
theorem BusUp.a {s : Sv} {bs : List Bu} (h : BusUp bs) (hr : ∀ b, s.v.ownBlock = some b → ∀ e ∈ bs, ∀ x, e.own x → b < x) : BusA s bs :=
  ⟨fun y hy b hb hx => by have := hr y hy b hb y hx; omega, h.2.imp fun h x hx hy => by have := h x x hx hy; omega⟩
theorem EvsUp.a {s : Sv} {es : List Ev} (h : EvsUp es) (hr : ∀ b, s.v.ownBlock = some b → ∀ e ∈ es, ∀ x, e.own x → b < x) : EvsA s es :=
  ⟨fun y hy b hb hx => by have := hr y hy b hb y hx; omega, fun e he x h1 h2 => by have := h.1 e he x x h1 h2; omega, h.2.imp fun h x hx hy => by have := h x x hx hy; omega⟩
set_option maxRecDepth 100000 in
set_option maxHeartbeats 16000000 in
theorem toDaemon_any (d : Dm) (w : World) (h : Hid (DmR w d)) (hs : Hid (DmS d)) :
    Calls Try.prog 61 #[.agg #[.int .i64 d.id, .bool d.dead, .int .i64 d.m.id, .int .i64 d.m.rid, .slice d.mv.ms.a d.mv.ms.n d.mv.ms.c, .slice d.mv.its.a d.mv.its.n d.mv.its.c, .slice d.mv.lv.a d.mv.lv.n d.mv.lv.c, .slice d.mv.tx.a d.mv.tx.n d.mv.tx.c, .int .i64 d.m.rd, .int .i64 d.m.se, .int .i64 d.m.li, .int .i64 d.m.he, .int .i64 d.m.la.c, .int .i64 d.m.la.r, .int .i64 d.m.la.q, .int .i64 d.m.la.a, .int .i64 d.m.la.b, .slice d.mv.ws.a d.mv.ws.n d.mv.ws.c, .int .i64 d.most, .int .i64 d.old, .int .i64 d.jid, .slice d.js.a d.js.n d.js.c, .slice d.bs.a d.bs.n d.bs.c, .slice d.ls.a d.ls.n d.ls.c]] w fun x w' => ∃ d' : Dm, x = .returned (.agg #[.int .i64 d'.id, .bool d'.dead, .int .i64 d'.m.id, .int .i64 d'.m.rid, .slice d'.mv.ms.a d'.mv.ms.n d'.mv.ms.c, .slice d'.mv.its.a d'.mv.its.n d'.mv.its.c, .slice d'.mv.lv.a d'.mv.lv.n d'.mv.lv.c, .slice d'.mv.tx.a d'.mv.tx.n d'.mv.tx.c, .int .i64 d'.m.rd, .int .i64 d'.m.se, .int .i64 d'.m.li, .int .i64 d'.m.he, .int .i64 d'.m.la.c, .int .i64 d'.m.la.r, .int .i64 d'.m.la.q, .int .i64 d'.m.la.a, .int .i64 d'.m.la.b, .slice d'.mv.ws.a d'.mv.ws.n d'.mv.ws.c, .int .i64 d'.most, .int .i64 d'.old, .int .i64 d'.jid, .slice d'.js.a d'.js.n d'.js.c, .slice d'.bs.a d'.bs.n d'.bs.c, .slice d'.ls.a d'.ls.n d'.ls.c]) ∧ d'.Same d ∧ DmO w' w.heap.size d' ∧ DmA d' ∧ Below w.heap.size w w' := by
  have hn1 : (w.alloc (.cells #[.int .i64 d.id, .bool d.dead, .int .i64 d.m.id, .int .i64 d.m.rid, .slice d.mv.ms.a d.mv.ms.n d.mv.ms.c, .slice d.mv.its.a d.mv.its.n d.mv.its.c, .slice d.mv.lv.a d.mv.lv.n d.mv.lv.c, .slice d.mv.tx.a d.mv.tx.n d.mv.tx.c, .int .i64 d.m.rd, .int .i64 d.m.se, .int .i64 d.m.li, .int .i64 d.m.he, .int .i64 d.m.la.c, .int .i64 d.m.la.r, .int .i64 d.m.la.q, .int .i64 d.m.la.a, .int .i64 d.m.la.b, .slice d.mv.ws.a d.mv.ws.n d.mv.ws.c, .int .i64 d.most, .int .i64 d.old, .int .i64 d.jid, .slice d.js.a d.js.n d.js.c, .slice d.bs.a d.bs.n d.bs.c, .slice d.ls.a d.ls.n d.ls.c] 107)).heap.size = w.heap.size + 1 := by simp
  have hn2 : ((w.alloc (.cells #[.int .i64 d.id, .bool d.dead, .int .i64 d.m.id, .int .i64 d.m.rid, .slice d.mv.ms.a d.mv.ms.n d.mv.ms.c, .slice d.mv.its.a d.mv.its.n d.mv.its.c, .slice d.mv.lv.a d.mv.lv.n d.mv.lv.c, .slice d.mv.tx.a d.mv.tx.n d.mv.tx.c, .int .i64 d.m.rd, .int .i64 d.m.se, .int .i64 d.m.li, .int .i64 d.m.he, .int .i64 d.m.la.c, .int .i64 d.m.la.r, .int .i64 d.m.la.q, .int .i64 d.m.la.a, .int .i64 d.m.la.b, .slice d.mv.ws.a d.mv.ws.n d.mv.ws.c, .int .i64 d.most, .int .i64 d.old, .int .i64 d.jid, .slice d.js.a d.js.n d.js.c, .slice d.bs.a d.bs.n d.bs.c, .slice d.ls.a d.ls.n d.ls.c] 107)).alloc (.cells #[.int .i64 0, .bool false, .int .i64 0, .int .i64 0, .slice none 0 0, .slice none 0 0, .slice none 0 0, .slice none 0 0, .int .i64 0, .int .i64 0, .int .i64 0, .int .i64 0, .int .i64 0, .int .i64 0, .int .i64 0, .int .i64 0, .int .i64 0, .slice none 0 0, .int .i64 0, .int .i64 0, .int .i64 0, .slice none 0 0, .slice none 0 0, .slice none 0 0] 77)).heap.size = w.heap.size + 2 := by simp
  have LA : Hid (Bx (((w.alloc (.cells #[.int .i64 d.id, .bool d.dead, .int .i64 d.m.id, .int .i64 d.m.rid, .slice d.mv.ms.a d.mv.ms.n d.mv.ms.c, .slice d.mv.its.a d.mv.its.n d.mv.its.c, .slice d.mv.lv.a d.mv.lv.n d.mv.lv.c, .slice d.mv.tx.a d.mv.tx.n d.mv.tx.c, .int .i64 d.m.rd, .int .i64 d.m.se, .int .i64 d.m.li, .int .i64 d.m.he, .int .i64 d.m.la.c, .int .i64 d.m.la.r, .int .i64 d.m.la.q, .int .i64 d.m.la.a, .int .i64 d.m.la.b, .slice d.mv.ws.a d.mv.ws.n d.mv.ws.c, .int .i64 d.most, .int .i64 d.old, .int .i64 d.jid, .slice d.js.a d.js.n d.js.c, .slice d.bs.a d.bs.n d.bs.c, .slice d.ls.a d.ls.n d.ls.c] 107)).alloc (.cells #[.int .i64 0, .bool false, .int .i64 0, .int .i64 0, .slice none 0 0, .slice none 0 0, .slice none 0 0, .slice none 0 0, .int .i64 0, .int .i64 0, .int .i64 0, .int .i64 0, .int .i64 0, .int .i64 0, .int .i64 0, .int .i64 0, .int .i64 0, .slice none 0 0, .int .i64 0, .int .i64 0, .int .i64 0, .slice none 0 0, .slice none 0 0, .slice none 0 0] 77)).alloc (.cells #[.int .i64 0, .bool false, .int .i64 0, .int .i64 0, .slice none 0 0, .slice none 0 0, .slice none 0 0, .slice none 0 0, .int .i64 0, .int .i64 0, .int .i64 0, .int .i64 0, .int .i64 0, .int .i64 0, .int .i64 0, .int .i64 0, .int .i64 0, .slice none 0 0, .int .i64 0, .int .i64 0, .int .i64 0, .slice none 0 0, .slice none 0 0, .slice none 0 0] 77)) w.heap.size 107 [.int .i64 d.id, .bool d.dead, .int .i64 d.m.id, .int .i64 d.m.rid, .slice d.mv.ms.a d.mv.ms.n d.mv.ms.c, .slice d.mv.its.a d.mv.its.n d.mv.its.c, .slice d.mv.lv.a d.mv.lv.n d.mv.lv.c, .slice d.mv.tx.a d.mv.tx.n d.mv.tx.c, .int .i64 d.m.rd, .int .i64 d.m.se, .int .i64 d.m.li, .int .i64 d.m.he, .int .i64 d.m.la.c, .int .i64 d.m.la.r, .int .i64 d.m.la.q, .int .i64 d.m.la.a, .int .i64 d.m.la.b, .slice d.mv.ws.a d.mv.ws.n d.mv.ws.c, .int .i64 d.most, .int .i64 d.old, .int .i64 d.jid, .slice d.js.a d.js.n d.js.c, .slice d.bs.a d.bs.n d.bs.c, .slice d.ls.a d.ls.n d.ls.c]) := by
    have h := Bx.new w 107 [.int .i64 d.id, .bool d.dead, .int .i64 d.m.id, .int .i64 d.m.rid, .slice d.mv.ms.a d.mv.ms.n d.mv.ms.c, .slice d.mv.its.a d.mv.its.n d.mv.its.c, .slice d.mv.lv.a d.mv.lv.n d.mv.lv.c, .slice d.mv.tx.a d.mv.tx.n d.mv.tx.c, .int .i64 d.m.rd, .int .i64 d.m.se, .int .i64 d.m.li, .int .i64 d.m.he, .int .i64 d.m.la.c, .int .i64 d.m.la.r, .int .i64 d.m.la.q, .int .i64 d.m.la.a, .int .i64 d.m.la.b, .slice d.mv.ws.a d.mv.ws.n d.mv.ws.c, .int .i64 d.most, .int .i64 d.old, .int .i64 d.jid, .slice d.js.a d.js.n d.js.c, .slice d.bs.a d.bs.n d.bs.c, .slice d.ls.a d.ls.n d.ls.c]
    exact ((h).later ((Below.refl _ _).alloc (Nat.le_refl _) _)).later ((Below.refl _ _).alloc (Nat.le_refl _) _)
  have EB : Hid (Bx (((w.alloc (.cells #[.int .i64 d.id, .bool d.dead, .int .i64 d.m.id, .int .i64 d.m.rid, .slice d.mv.ms.a d.mv.ms.n d.mv.ms.c, .slice d.mv.its.a d.mv.its.n d.mv.its.c, .slice d.mv.lv.a d.mv.lv.n d.mv.lv.c, .slice d.mv.tx.a d.mv.tx.n d.mv.tx.c, .int .i64 d.m.rd, .int .i64 d.m.se, .int .i64 d.m.li, .int .i64 d.m.he, .int .i64 d.m.la.c, .int .i64 d.m.la.r, .int .i64 d.m.la.q, .int .i64 d.m.la.a, .int .i64 d.m.la.b, .slice d.mv.ws.a d.mv.ws.n d.mv.ws.c, .int .i64 d.most, .int .i64 d.old, .int .i64 d.jid, .slice d.js.a d.js.n d.js.c, .slice d.bs.a d.bs.n d.bs.c, .slice d.ls.a d.ls.n d.ls.c] 107)).alloc (.cells #[.int .i64 0, .bool false, .int .i64 0, .int .i64 0, .slice none 0 0, .slice none 0 0, .slice none 0 0, .slice none 0 0, .int .i64 0, .int .i64 0, .int .i64 0, .int .i64 0, .int .i64 0, .int .i64 0, .int .i64 0, .int .i64 0, .int .i64 0, .slice none 0 0, .int .i64 0, .int .i64 0, .int .i64 0, .slice none 0 0, .slice none 0 0, .slice none 0 0] 77)).alloc (.cells #[.int .i64 0, .bool false, .int .i64 0, .int .i64 0, .slice none 0 0, .slice none 0 0, .slice none 0 0, .slice none 0 0, .int .i64 0, .int .i64 0, .int .i64 0, .int .i64 0, .int .i64 0, .int .i64 0, .int .i64 0, .int .i64 0, .int .i64 0, .slice none 0 0, .int .i64 0, .int .i64 0, .int .i64 0, .slice none 0 0, .slice none 0 0, .slice none 0 0] 77)) (w.heap.size + 1) 77 [.int .i64 0, .bool false, .int .i64 0, .int .i64 0, .slice none 0 0, .slice none 0 0, .slice none 0 0, .slice none 0 0, .int .i64 0, .int .i64 0, .int .i64 0, .int .i64 0, .int .i64 0, .int .i64 0, .int .i64 0, .int .i64 0, .int .i64 0, .slice none 0 0, .int .i64 0, .int .i64 0, .int .i64 0, .slice none 0 0, .slice none 0 0, .slice none 0 0]) := by
    have h := Bx.new (w.alloc (.cells #[.int .i64 d.id, .bool d.dead, .int .i64 d.m.id, .int .i64 d.m.rid, .slice d.mv.ms.a d.mv.ms.n d.mv.ms.c, .slice d.mv.its.a d.mv.its.n d.mv.its.c, .slice d.mv.lv.a d.mv.lv.n d.mv.lv.c, .slice d.mv.tx.a d.mv.tx.n d.mv.tx.c, .int .i64 d.m.rd, .int .i64 d.m.se, .int .i64 d.m.li, .int .i64 d.m.he, .int .i64 d.m.la.c, .int .i64 d.m.la.r, .int .i64 d.m.la.q, .int .i64 d.m.la.a, .int .i64 d.m.la.b, .slice d.mv.ws.a d.mv.ws.n d.mv.ws.c, .int .i64 d.most, .int .i64 d.old, .int .i64 d.jid, .slice d.js.a d.js.n d.js.c, .slice d.bs.a d.bs.n d.bs.c, .slice d.ls.a d.ls.n d.ls.c] 107)) 77 [.int .i64 0, .bool false, .int .i64 0, .int .i64 0, .slice none 0 0, .slice none 0 0, .slice none 0 0, .slice none 0 0, .int .i64 0, .int .i64 0, .int .i64 0, .int .i64 0, .int .i64 0, .int .i64 0, .int .i64 0, .int .i64 0, .int .i64 0, .slice none 0 0, .int .i64 0, .int .i64 0, .int .i64 0, .slice none 0 0, .slice none 0 0, .slice none 0 0]
    rw [hn1] at h
    exact (h).later ((Below.refl _ _).alloc (Nat.le_refl _) _)
  have VB : Hid (Bx (((w.alloc (.cells #[.int .i64 d.id, .bool d.dead, .int .i64 d.m.id, .int .i64 d.m.rid, .slice d.mv.ms.a d.mv.ms.n d.mv.ms.c, .slice d.mv.its.a d.mv.its.n d.mv.its.c, .slice d.mv.lv.a d.mv.lv.n d.mv.lv.c, .slice d.mv.tx.a d.mv.tx.n d.mv.tx.c, .int .i64 d.m.rd, .int .i64 d.m.se, .int .i64 d.m.li, .int .i64 d.m.he, .int .i64 d.m.la.c, .int .i64 d.m.la.r, .int .i64 d.m.la.q, .int .i64 d.m.la.a, .int .i64 d.m.la.b, .slice d.mv.ws.a d.mv.ws.n d.mv.ws.c, .int .i64 d.most, .int .i64 d.old, .int .i64 d.jid, .slice d.js.a d.js.n d.js.c, .slice d.bs.a d.bs.n d.bs.c, .slice d.ls.a d.ls.n d.ls.c] 107)).alloc (.cells #[.int .i64 0, .bool false, .int .i64 0, .int .i64 0, .slice none 0 0, .slice none 0 0, .slice none 0 0, .slice none 0 0, .int .i64 0, .int .i64 0, .int .i64 0, .int .i64 0, .int .i64 0, .int .i64 0, .int .i64 0, .int .i64 0, .int .i64 0, .slice none 0 0, .int .i64 0, .int .i64 0, .int .i64 0, .slice none 0 0, .slice none 0 0, .slice none 0 0] 77)).alloc (.cells #[.int .i64 0, .bool false, .int .i64 0, .int .i64 0, .slice none 0 0, .slice none 0 0, .slice none 0 0, .slice none 0 0, .int .i64 0, .int .i64 0, .int .i64 0, .int .i64 0, .int .i64 0, .int .i64 0, .int .i64 0, .int .i64 0, .int .i64 0, .slice none 0 0, .int .i64 0, .int .i64 0, .int .i64 0, .slice none 0 0, .slice none 0 0, .slice none 0 0] 77)) (w.heap.size + 2) 77 [.int .i64 0, .bool false, .int .i64 0, .int .i64 0, .slice none 0 0, .slice none 0 0, .slice none 0 0, .slice none 0 0, .int .i64 0, .int .i64 0, .int .i64 0, .int .i64 0, .int .i64 0, .int .i64 0, .int .i64 0, .int .i64 0, .int .i64 0, .slice none 0 0, .int .i64 0, .int .i64 0, .int .i64 0, .slice none 0 0, .slice none 0 0, .slice none 0 0]) := by
    have h := Bx.new ((w.alloc (.cells #[.int .i64 d.id, .bool d.dead, .int .i64 d.m.id, .int .i64 d.m.rid, .slice d.mv.ms.a d.mv.ms.n d.mv.ms.c, .slice d.mv.its.a d.mv.its.n d.mv.its.c, .slice d.mv.lv.a d.mv.lv.n d.mv.lv.c, .slice d.mv.tx.a d.mv.tx.n d.mv.tx.c, .int .i64 d.m.rd, .int .i64 d.m.se, .int .i64 d.m.li, .int .i64 d.m.he, .int .i64 d.m.la.c, .int .i64 d.m.la.r, .int .i64 d.m.la.q, .int .i64 d.m.la.a, .int .i64 d.m.la.b, .slice d.mv.ws.a d.mv.ws.n d.mv.ws.c, .int .i64 d.most, .int .i64 d.old, .int .i64 d.jid, .slice d.js.a d.js.n d.js.c, .slice d.bs.a d.bs.n d.bs.c, .slice d.ls.a d.ls.n d.ls.c] 107)).alloc (.cells #[.int .i64 0, .bool false, .int .i64 0, .int .i64 0, .slice none 0 0, .slice none 0 0, .slice none 0 0, .slice none 0 0, .int .i64 0, .int .i64 0, .int .i64 0, .int .i64 0, .int .i64 0, .int .i64 0, .int .i64 0, .int .i64 0, .int .i64 0, .slice none 0 0, .int .i64 0, .int .i64 0, .int .i64 0, .slice none 0 0, .slice none 0 0, .slice none 0 0] 77)) 77 [.int .i64 0, .bool false, .int .i64 0, .int .i64 0, .slice none 0 0, .slice none 0 0, .slice none 0 0, .slice none 0 0, .int .i64 0, .int .i64 0, .int .i64 0, .int .i64 0, .int .i64 0, .int .i64 0, .int .i64 0, .int .i64 0, .int .i64 0, .slice none 0 0, .int .i64 0, .int .i64 0, .int .i64 0, .slice none 0 0, .slice none 0 0, .slice none 0 0]
    rw [hn2] at h
    exact h
  have BW : Hid (Below w.heap.size w (((w.alloc (.cells #[.int .i64 d.id, .bool d.dead, .int .i64 d.m.id, .int .i64 d.m.rid, .slice d.mv.ms.a d.mv.ms.n d.mv.ms.c, .slice d.mv.its.a d.mv.its.n d.mv.its.c, .slice d.mv.lv.a d.mv.lv.n d.mv.lv.c, .slice d.mv.tx.a d.mv.tx.n d.mv.tx.c, .int .i64 d.m.rd, .int .i64 d.m.se, .int .i64 d.m.li, .int .i64 d.m.he, .int .i64 d.m.la.c, .int .i64 d.m.la.r, .int .i64 d.m.la.q, .int .i64 d.m.la.a, .int .i64 d.m.la.b, .slice d.mv.ws.a d.mv.ws.n d.mv.ws.c, .int .i64 d.most, .int .i64 d.old, .int .i64 d.jid, .slice d.js.a d.js.n d.js.c, .slice d.bs.a d.bs.n d.bs.c, .slice d.ls.a d.ls.n d.ls.c] 107)).alloc (.cells #[.int .i64 0, .bool false, .int .i64 0, .int .i64 0, .slice none 0 0, .slice none 0 0, .slice none 0 0, .slice none 0 0, .int .i64 0, .int .i64 0, .int .i64 0, .int .i64 0, .int .i64 0, .int .i64 0, .int .i64 0, .int .i64 0, .int .i64 0, .slice none 0 0, .int .i64 0, .int .i64 0, .int .i64 0, .slice none 0 0, .slice none 0 0, .slice none 0 0] 77)).alloc (.cells #[.int .i64 0, .bool false, .int .i64 0, .int .i64 0, .slice none 0 0, .slice none 0 0, .slice none 0 0, .slice none 0 0, .int .i64 0, .int .i64 0, .int .i64 0, .int .i64 0, .int .i64 0, .int .i64 0, .int .i64 0, .int .i64 0, .int .i64 0, .slice none 0 0, .int .i64 0, .int .i64 0, .int .i64 0, .slice none 0 0, .slice none 0 0, .slice none 0 0] 77))) := ((((Below.refl _ _).alloc (by simp) _).alloc (by simp; try omega) _).alloc (by simp; try omega) _)
  clear hn1 hn2
  have h0 := h
  clear h
  go_enter Try.func61, Try.ntmps61
  have c0 := LA.out.cell 0
  simp only [List.getElem?_cons_zero] at c0
  go_wp2_with (first | (with_reducible refine wpList_haltS 3 _ _ rfl ?_))
  refine Stp.go ?_
  generalize (((w.alloc (.cells #[.int .i64 d.id, .bool d.dead, .int .i64 d.m.id, .int .i64 d.m.rid, .slice d.mv.ms.a d.mv.ms.n d.mv.ms.c, .slice d.mv.its.a d.mv.its.n d.mv.its.c, .slice d.mv.lv.a d.mv.lv.n d.mv.lv.c, .slice d.mv.tx.a d.mv.tx.n d.mv.tx.c, .int .i64 d.m.rd, .int .i64 d.m.se, .int .i64 d.m.li, .int .i64 d.m.he, .int .i64 d.m.la.c, .int .i64 d.m.la.r, .int .i64 d.m.la.q, .int .i64 d.m.la.a, .int .i64 d.m.la.b, .slice d.mv.ws.a d.mv.ws.n d.mv.ws.c, .int .i64 d.most, .int .i64 d.old, .int .i64 d.jid, .slice d.js.a d.js.n d.js.c, .slice d.bs.a d.bs.n d.bs.c, .slice d.ls.a d.ls.n d.ls.c] 107)).alloc (.cells #[.int .i64 0, .bool false, .int .i64 0, .int .i64 0, .slice none 0 0, .slice none 0 0, .slice none 0 0, .slice none 0 0, .int .i64 0, .int .i64 0, .int .i64 0, .int .i64 0, .int .i64 0, .int .i64 0, .int .i64 0, .int .i64 0, .int .i64 0, .slice none 0 0, .int .i64 0, .int .i64 0, .int .i64 0, .slice none 0 0, .slice none 0 0, .slice none 0 0] 77)).alloc (.cells #[.int .i64 0, .bool false, .int .i64 0, .int .i64 0, .slice none 0 0, .slice none 0 0, .slice none 0 0, .slice none 0 0, .int .i64 0, .int .i64 0, .int .i64 0, .int .i64 0, .int .i64 0, .int .i64 0, .int .i64 0, .int .i64 0, .int .i64 0, .slice none 0 0, .int .i64 0, .int .i64 0, .int .i64 0, .slice none 0 0, .slice none 0 0, .slice none 0 0] 77)) = W at *
  have zW : w.heap.size + 2 < W.heap.size := VB.out.lt
  clear c0
  refine wpList_st1 rfl 3 _ _ rfl (w.heap.size + 2) 0 rfl 77 _ VB.out (.int .i64 d.id) rfl (by simp) rfl Try.size3 [.int .i64 d.id, .bool false, .int .i64 0, .int .i64 0, .slice none 0 0, .slice none 0 0, .slice none 0 0, .slice none 0 0, .int .i64 0, .int .i64 0, .int .i64 0, .int .i64 0, .int .i64 0, .int .i64 0, .int .i64 0, .int .i64 0, .int .i64 0, .slice none 0 0, .int .i64 0, .int .i64 0, .int .i64 0, .slice none 0 0, .slice none 0 0, .slice none 0 0] rfl ?_
  intro w1 OB TB
  have z_w1 : W.heap.size ≤ w1.heap.size := Nat.le_of_eq TB.size.symm
  have LA : Hid (Bx w1 w.heap.size 107 [.int .i64 d.id, .bool d.dead, .int .i64 d.m.id, .int .i64 d.m.rid, .slice d.mv.ms.a d.mv.ms.n d.mv.ms.c, .slice d.mv.its.a d.mv.its.n d.mv.its.c, .slice d.mv.lv.a d.mv.lv.n d.mv.lv.c, .slice d.mv.tx.a d.mv.tx.n d.mv.tx.c, .int .i64 d.m.rd, .int .i64 d.m.se, .int .i64 d.m.li, .int .i64 d.m.he, .int .i64 d.m.la.c, .int .i64 d.m.la.r, .int .i64 d.m.la.q, .int .i64 d.m.la.a, .int .i64 d.m.la.b, .slice d.mv.ws.a d.mv.ws.n d.mv.ws.c, .int .i64 d.most, .int .i64 d.old, .int .i64 d.jid, .slice d.js.a d.js.n d.js.c, .slice d.bs.a d.bs.n d.bs.c, .slice d.ls.a d.ls.n d.ls.c]) := LA.out.turn TB (by omega)
  have EB : Hid (Bx w1 (w.heap.size + 1) 77 [.int .i64 0, .bool false, .int .i64 0, .int .i64 0, .slice none 0 0, .slice none 0 0, .slice none 0 0, .slice none 0 0, .int .i64 0, .int .i64 0, .int .i64 0, .int .i64 0, .int .i64 0, .int .i64 0, .int .i64 0, .int .i64 0, .int .i64 0, .slice none 0 0, .int .i64 0, .int .i64 0, .int .i64 0, .slice none 0 0, .slice none 0 0, .slice none 0 0]) := EB.out.turn TB (by omega)
  have BW : Hid (Below w.heap.size w w1) := BW.out.trans (TB.below (by omega))
  have VB : Hid (Bx w1 (w.heap.size + 2) 77 [.int .i64 d.id, .bool false, .int .i64 0, .int .i64 0, .slice none 0 0, .slice none 0 0, .slice none 0 0, .slice none 0 0, .int .i64 0, .int .i64 0, .int .i64 0, .int .i64 0, .int .i64 0, .int .i64 0, .int .i64 0, .int .i64 0, .int .i64 0, .slice none 0 0, .int .i64 0, .int .i64 0, .int .i64 0, .slice none 0 0, .slice none 0 0, .slice none 0 0]) := OB
  clear OB TB
  have c1 := LA.out.cell 1
  simp only [List.getElem?_cons_succ, List.getElem?_cons_zero] at c1
  go_wp2_with (first | (with_reducible refine wpList_haltS 4 _ _ rfl ?_))
  refine Stp.go ?_
  clear c1
  refine wpList_st1 rfl 4 _ _ rfl (w.heap.size + 2) 1 rfl 77 _ VB.out (.bool d.dead) rfl (by simp) rfl Try.sizeBo [.int .i64 d.id, .bool d.dead, .int .i64 0, .int .i64 0, .slice none 0 0, .slice none 0 0, .slice none 0 0, .slice none 0 0, .int .i64 0, .int .i64 0, .int .i64 0, .int .i64 0, .int .i64 0, .int .i64 0, .int .i64 0, .int .i64 0, .int .i64 0, .slice none 0 0, .int .i64 0, .int .i64 0, .int .i64 0, .slice none 0 0, .slice none 0 0, .slice none 0 0] rfl ?_
  intro w2 OB TB
  have z_w2 : w1.heap.size ≤ w2.heap.size := Nat.le_of_eq TB.size.symm
  have LA : Hid (Bx w2 w.heap.size 107 [.int .i64 d.id, .bool d.dead, .int .i64 d.m.id, .int .i64 d.m.rid, .slice d.mv.ms.a d.mv.ms.n d.mv.ms.c, .slice d.mv.its.a d.mv.its.n d.mv.its.c, .slice d.mv.lv.a d.mv.lv.n d.mv.lv.c, .slice d.mv.tx.a d.mv.tx.n d.mv.tx.c, .int .i64 d.m.rd, .int .i64 d.m.se, .int .i64 d.m.li, .int .i64 d.m.he, .int .i64 d.m.la.c, .int .i64 d.m.la.r, .int .i64 d.m.la.q, .int .i64 d.m.la.a, .int .i64 d.m.la.b, .slice d.mv.ws.a d.mv.ws.n d.mv.ws.c, .int .i64 d.most, .int .i64 d.old, .int .i64 d.jid, .slice d.js.a d.js.n d.js.c, .slice d.bs.a d.bs.n d.bs.c, .slice d.ls.a d.ls.n d.ls.c]) := LA.out.turn TB (by omega)
  have EB : Hid (Bx w2 (w.heap.size + 1) 77 [.int .i64 0, .bool false, .int .i64 0, .int .i64 0, .slice none 0 0, .slice none 0 0, .slice none 0 0, .slice none 0 0, .int .i64 0, .int .i64 0, .int .i64 0, .int .i64 0, .int .i64 0, .int .i64 0, .int .i64 0, .int .i64 0, .int .i64 0, .slice none 0 0, .int .i64 0, .int .i64 0, .int .i64 0, .slice none 0 0, .slice none 0 0, .slice none 0 0]) := EB.out.turn TB (by omega)
  have BW : Hid (Below w.heap.size w w2) := BW.out.trans (TB.below (by omega))
  have VB : Hid (Bx w2 (w.heap.size + 2) 77 [.int .i64 d.id, .bool d.dead, .int .i64 0, .int .i64 0, .slice none 0 0, .slice none 0 0, .slice none 0 0, .slice none 0 0, .int .i64 0, .int .i64 0, .int .i64 0, .int .i64 0, .int .i64 0, .int .i64 0, .int .i64 0, .int .i64 0, .int .i64 0, .slice none 0 0, .int .i64 0, .int .i64 0, .int .i64 0, .slice none 0 0, .slice none 0 0, .slice none 0 0]) := OB
  clear OB TB
  have HR : Hid (MtR w2 d.m d.mv) := h0.out.mt.stays BW.out
  go_wp2_with (first | (refine wpList_ldG rfl 104 _ rfl w.heap.size 2 rfl 107 _ LA.out [.int .i64 d.m.id, .int .i64 d.m.rid, .slice d.mv.ms.a d.mv.ms.n d.mv.ms.c, .slice d.mv.its.a d.mv.its.n d.mv.its.c, .slice d.mv.lv.a d.mv.lv.n d.mv.lv.c, .slice d.mv.tx.a d.mv.tx.n d.mv.tx.c, .int .i64 d.m.rd, .int .i64 d.m.se, .int .i64 d.m.li, .int .i64 d.m.he, .int .i64 d.m.la.c, .int .i64 d.m.la.r, .int .i64 d.m.la.q, .int .i64 d.m.la.a, .int .i64 d.m.la.b, .slice d.mv.ws.a d.mv.ws.n d.mv.ws.c] rfl _ Try.underlying104 rfl Try.sizeL ?_))
  refine (toMate_any d.m d.mv _ HR hs.out.mt).mono ?_
  rintro e w3 ⟨u, rfl, o1, b⟩
  have MO : Hid (MtO w3 (w.heap.size + 3) d.m u) := o1.down (by omega)
  have ML : Hid (∀ x, u.own x → x < w3.heap.size) := fun x hx => (o1.lt hx).2
  clear o1 HR
  have z_w3 : w2.heap.size ≤ w3.heap.size := b.size
  have LA : Hid (Bx w3 w.heap.size 107 [.int .i64 d.id, .bool d.dead, .int .i64 d.m.id, .int .i64 d.m.rid, .slice d.mv.ms.a d.mv.ms.n d.mv.ms.c, .slice d.mv.its.a d.mv.its.n d.mv.its.c, .slice d.mv.lv.a d.mv.lv.n d.mv.lv.c, .slice d.mv.tx.a d.mv.tx.n d.mv.tx.c, .int .i64 d.m.rd, .int .i64 d.m.se, .int .i64 d.m.li, .int .i64 d.m.he, .int .i64 d.m.la.c, .int .i64 d.m.la.r, .int .i64 d.m.la.q, .int .i64 d.m.la.a, .int .i64 d.m.la.b, .slice d.mv.ws.a d.mv.ws.n d.mv.ws.c, .int .i64 d.most, .int .i64 d.old, .int .i64 d.jid, .slice d.js.a d.js.n d.js.c, .slice d.bs.a d.bs.n d.bs.c, .slice d.ls.a d.ls.n d.ls.c]) := LA.out.later b
  have EB : Hid (Bx w3 (w.heap.size + 1) 77 [.int .i64 0, .bool false, .int .i64 0, .int .i64 0, .slice none 0 0, .slice none 0 0, .slice none 0 0, .slice none 0 0, .int .i64 0, .int .i64 0, .int .i64 0, .int .i64 0, .int .i64 0, .int .i64 0, .int .i64 0, .int .i64 0, .int .i64 0, .slice none 0 0, .int .i64 0, .int .i64 0, .int .i64 0, .slice none 0 0, .slice none 0 0, .slice none 0 0]) := EB.out.later b
  have VB : Hid (Bx w3 (w.heap.size + 2) 77 [.int .i64 d.id, .bool d.dead, .int .i64 0, .int .i64 0, .slice none 0 0, .slice none 0 0, .slice none 0 0, .slice none 0 0, .int .i64 0, .int .i64 0, .int .i64 0, .int .i64 0, .int .i64 0, .int .i64 0, .int .i64 0, .int .i64 0, .int .i64 0, .slice none 0 0, .int .i64 0, .int .i64 0, .int .i64 0, .slice none 0 0, .slice none 0 0, .slice none 0 0]) := VB.out.later b
  have BW : Hid (Below w.heap.size w w3) := bl_next BW.out b
  clear b
  go_wp2_with (first | (with_reducible refine wpList_haltS 74 _ _ rfl ?_))
  refine Stp.go ?_
  refine wpList_stB rfl 74 _ _ rfl (w.heap.size + 2) 2 rfl 77 _ VB.out [.int .i64 d.m.id, .int .i64 d.m.rid, .slice u.ms.a u.ms.n u.ms.c, .slice u.its.a u.its.n u.its.c, .slice u.lv.a u.lv.n u.lv.c, .slice u.tx.a u.tx.n u.tx.c, .int .i64 d.m.rd, .int .i64 d.m.se, .int .i64 d.m.li, .int .i64 d.m.he, .int .i64 d.m.la.c, .int .i64 d.m.la.r, .int .i64 d.m.la.q, .int .i64 d.m.la.a, .int .i64 d.m.la.b, .slice u.ws.a u.ws.n u.ws.c] rfl (by simp) Try.sizeM rfl [.int .i64 d.id, .bool d.dead, .int .i64 d.m.id, .int .i64 d.m.rid, .slice u.ms.a u.ms.n u.ms.c, .slice u.its.a u.its.n u.its.c, .slice u.lv.a u.lv.n u.lv.c, .slice u.tx.a u.tx.n u.tx.c, .int .i64 d.m.rd, .int .i64 d.m.se, .int .i64 d.m.li, .int .i64 d.m.he, .int .i64 d.m.la.c, .int .i64 d.m.la.r, .int .i64 d.m.la.q, .int .i64 d.m.la.a, .int .i64 d.m.la.b, .slice u.ws.a u.ws.n u.ws.c, .int .i64 0, .int .i64 0, .int .i64 0, .slice none 0 0, .slice none 0 0, .slice none 0 0] rfl ?_
  intro w4 OB TB
  have z_w4 : w3.heap.size ≤ w4.heap.size := Nat.le_of_eq TB.size.symm
  have LA : Hid (Bx w4 w.heap.size 107 [.int .i64 d.id, .bool d.dead, .int .i64 d.m.id, .int .i64 d.m.rid, .slice d.mv.ms.a d.mv.ms.n d.mv.ms.c, .slice d.mv.its.a d.mv.its.n d.mv.its.c, .slice d.mv.lv.a d.mv.lv.n d.mv.lv.c, .slice d.mv.tx.a d.mv.tx.n d.mv.tx.c, .int .i64 d.m.rd, .int .i64 d.m.se, .int .i64 d.m.li, .int .i64 d.m.he, .int .i64 d.m.la.c, .int .i64 d.m.la.r, .int .i64 d.m.la.q, .int .i64 d.m.la.a, .int .i64 d.m.la.b, .slice d.mv.ws.a d.mv.ws.n d.mv.ws.c, .int .i64 d.most, .int .i64 d.old, .int .i64 d.jid, .slice d.js.a d.js.n d.js.c, .slice d.bs.a d.bs.n d.bs.c, .slice d.ls.a d.ls.n d.ls.c]) := LA.out.turn TB (by omega)
  have EB : Hid (Bx w4 (w.heap.size + 1) 77 [.int .i64 0, .bool false, .int .i64 0, .int .i64 0, .slice none 0 0, .slice none 0 0, .slice none 0 0, .slice none 0 0, .int .i64 0, .int .i64 0, .int .i64 0, .int .i64 0, .int .i64 0, .int .i64 0, .int .i64 0, .int .i64 0, .int .i64 0, .slice none 0 0, .int .i64 0, .int .i64 0, .int .i64 0, .slice none 0 0, .slice none 0 0, .slice none 0 0]) := EB.out.turn TB (by omega)
  have BW : Hid (Below w.heap.size w w4) := BW.out.trans (TB.below (by omega))
  have MO : Hid (MtO w4 (w.heap.size + 3) d.m u) := MO.out.keep fun b hb _ => TB.block b (by have := (MO.out.lt hb).1; omega)
  have VB : Hid (Bx w4 (w.heap.size + 2) 77 [.int .i64 d.id, .bool d.dead, .int .i64 d.m.id, .int .i64 d.m.rid, .slice u.ms.a u.ms.n u.ms.c, .slice u.its.a u.its.n u.its.c, .slice u.lv.a u.lv.n u.lv.c, .slice u.tx.a u.tx.n u.tx.c, .int .i64 d.m.rd, .int .i64 d.m.se, .int .i64 d.m.li, .int .i64 d.m.he, .int .i64 d.m.la.c, .int .i64 d.m.la.r, .int .i64 d.m.la.q, .int .i64 d.m.la.a, .int .i64 d.m.la.b, .slice u.ws.a u.ws.n u.ws.c, .int .i64 0, .int .i64 0, .int .i64 0, .slice none 0 0, .slice none 0 0, .slice none 0 0]) := OB
  clear OB TB
  have c18 := LA.out.cell 18
  simp only [List.getElem?_cons_succ, List.getElem?_cons_zero] at c18
  go_wp2_with (first | (with_reducible refine wpList_haltS 3 _ _ rfl ?_))
  refine Stp.go ?_
  clear c18
  refine wpList_st1 rfl 3 _ _ rfl (w.heap.size + 2) 18 rfl 77 _ VB.out (.int .i64 d.most) rfl (by simp) rfl Try.size3 [.int .i64 d.id, .bool d.dead, .int .i64 d.m.id, .int .i64 d.m.rid, .slice u.ms.a u.ms.n u.ms.c, .slice u.its.a u.its.n u.its.c, .slice u.lv.a u.lv.n u.lv.c, .slice u.tx.a u.tx.n u.tx.c, .int .i64 d.m.rd, .int .i64 d.m.se, .int .i64 d.m.li, .int .i64 d.m.he, .int .i64 d.m.la.c, .int .i64 d.m.la.r, .int .i64 d.m.la.q, .int .i64 d.m.la.a, .int .i64 d.m.la.b, .slice u.ws.a u.ws.n u.ws.c, .int .i64 d.most, .int .i64 0, .int .i64 0, .slice none 0 0, .slice none 0 0, .slice none 0 0] rfl ?_
  intro w5 OB TB
  have z_w5 : w4.heap.size ≤ w5.heap.size := Nat.le_of_eq TB.size.symm
  have LA : Hid (Bx w5 w.heap.size 107 [.int .i64 d.id, .bool d.dead, .int .i64 d.m.id, .int .i64 d.m.rid, .slice d.mv.ms.a d.mv.ms.n d.mv.ms.c, .slice d.mv.its.a d.mv.its.n d.mv.its.c, .slice d.mv.lv.a d.mv.lv.n d.mv.lv.c, .slice d.mv.tx.a d.mv.tx.n d.mv.tx.c, .int .i64 d.m.rd, .int .i64 d.m.se, .int .i64 d.m.li, .int .i64 d.m.he, .int .i64 d.m.la.c, .int .i64 d.m.la.r, .int .i64 d.m.la.q, .int .i64 d.m.la.a, .int .i64 d.m.la.b, .slice d.mv.ws.a d.mv.ws.n d.mv.ws.c, .int .i64 d.most, .int .i64 d.old, .int .i64 d.jid, .slice d.js.a d.js.n d.js.c, .slice d.bs.a d.bs.n d.bs.c, .slice d.ls.a d.ls.n d.ls.c]) := LA.out.turn TB (by omega)
  have EB : Hid (Bx w5 (w.heap.size + 1) 77 [.int .i64 0, .bool false, .int .i64 0, .int .i64 0, .slice none 0 0, .slice none 0 0, .slice none 0 0, .slice none 0 0, .int .i64 0, .int .i64 0, .int .i64 0, .int .i64 0, .int .i64 0, .int .i64 0, .int .i64 0, .int .i64 0, .int .i64 0, .slice none 0 0, .int .i64 0, .int .i64 0, .int .i64 0, .slice none 0 0, .slice none 0 0, .slice none 0 0]) := EB.out.turn TB (by omega)
  have BW : Hid (Below w.heap.size w w5) := BW.out.trans (TB.below (by omega))
  have MO : Hid (MtO w5 (w.heap.size + 3) d.m u) := MO.out.keep fun b hb _ => TB.block b (by have := (MO.out.lt hb).1; omega)
  have VB : Hid (Bx w5 (w.heap.size + 2) 77 [.int .i64 d.id, .bool d.dead, .int .i64 d.m.id, .int .i64 d.m.rid, .slice u.ms.a u.ms.n u.ms.c, .slice u.its.a u.its.n u.its.c, .slice u.lv.a u.lv.n u.lv.c, .slice u.tx.a u.tx.n u.tx.c, .int .i64 d.m.rd, .int .i64 d.m.se, .int .i64 d.m.li, .int .i64 d.m.he, .int .i64 d.m.la.c, .int .i64 d.m.la.r, .int .i64 d.m.la.q, .int .i64 d.m.la.a, .int .i64 d.m.la.b, .slice u.ws.a u.ws.n u.ws.c, .int .i64 d.most, .int .i64 0, .int .i64 0, .slice none 0 0, .slice none 0 0, .slice none 0 0]) := OB
  clear OB TB
  have c19 := LA.out.cell 19
  simp only [List.getElem?_cons_succ, List.getElem?_cons_zero] at c19
  go_wp2_with (first | (with_reducible refine wpList_haltS 3 _ _ rfl ?_))
  refine Stp.go ?_
  clear c19
  refine wpList_st1 rfl 3 _ _ rfl (w.heap.size + 2) 19 rfl 77 _ VB.out (.int .i64 d.old) rfl (by simp) rfl Try.size3 [.int .i64 d.id, .bool d.dead, .int .i64 d.m.id, .int .i64 d.m.rid, .slice u.ms.a u.ms.n u.ms.c, .slice u.its.a u.its.n u.its.c, .slice u.lv.a u.lv.n u.lv.c, .slice u.tx.a u.tx.n u.tx.c, .int .i64 d.m.rd, .int .i64 d.m.se, .int .i64 d.m.li, .int .i64 d.m.he, .int .i64 d.m.la.c, .int .i64 d.m.la.r, .int .i64 d.m.la.q, .int .i64 d.m.la.a, .int .i64 d.m.la.b, .slice u.ws.a u.ws.n u.ws.c, .int .i64 d.most, .int .i64 d.old, .int .i64 0, .slice none 0 0, .slice none 0 0, .slice none 0 0] rfl ?_
  intro w6 OB TB
  have z_w6 : w5.heap.size ≤ w6.heap.size := Nat.le_of_eq TB.size.symm
  have LA : Hid (Bx w6 w.heap.size 107 [.int .i64 d.id, .bool d.dead, .int .i64 d.m.id, .int .i64 d.m.rid, .slice d.mv.ms.a d.mv.ms.n d.mv.ms.c, .slice d.mv.its.a d.mv.its.n d.mv.its.c, .slice d.mv.lv.a d.mv.lv.n d.mv.lv.c, .slice d.mv.tx.a d.mv.tx.n d.mv.tx.c, .int .i64 d.m.rd, .int .i64 d.m.se, .int .i64 d.m.li, .int .i64 d.m.he, .int .i64 d.m.la.c, .int .i64 d.m.la.r, .int .i64 d.m.la.q, .int .i64 d.m.la.a, .int .i64 d.m.la.b, .slice d.mv.ws.a d.mv.ws.n d.mv.ws.c, .int .i64 d.most, .int .i64 d.old, .int .i64 d.jid, .slice d.js.a d.js.n d.js.c, .slice d.bs.a d.bs.n d.bs.c, .slice d.ls.a d.ls.n d.ls.c]) := LA.out.turn TB (by omega)
  have EB : Hid (Bx w6 (w.heap.size + 1) 77 [.int .i64 0, .bool false, .int .i64 0, .int .i64 0, .slice none 0 0, .slice none 0 0, .slice none 0 0, .slice none 0 0, .int .i64 0, .int .i64 0, .int .i64 0, .int .i64 0, .int .i64 0, .int .i64 0, .int .i64 0, .int .i64 0, .int .i64 0, .slice none 0 0, .int .i64 0, .int .i64 0, .int .i64 0, .slice none 0 0, .slice none 0 0, .slice none 0 0]) := EB.out.turn TB (by omega)
  have BW : Hid (Below w.heap.size w w6) := BW.out.trans (TB.below (by omega))
  have MO : Hid (MtO w6 (w.heap.size + 3) d.m u) := MO.out.keep fun b hb _ => TB.block b (by have := (MO.out.lt hb).1; omega)
  have VB : Hid (Bx w6 (w.heap.size + 2) 77 [.int .i64 d.id, .bool d.dead, .int .i64 d.m.id, .int .i64 d.m.rid, .slice u.ms.a u.ms.n u.ms.c, .slice u.its.a u.its.n u.its.c, .slice u.lv.a u.lv.n u.lv.c, .slice u.tx.a u.tx.n u.tx.c, .int .i64 d.m.rd, .int .i64 d.m.se, .int .i64 d.m.li, .int .i64 d.m.he, .int .i64 d.m.la.c, .int .i64 d.m.la.r, .int .i64 d.m.la.q, .int .i64 d.m.la.a, .int .i64 d.m.la.b, .slice u.ws.a u.ws.n u.ws.c, .int .i64 d.most, .int .i64 d.old, .int .i64 0, .slice none 0 0, .slice none 0 0, .slice none 0 0]) := OB
  clear OB TB
  have HR : Hid (RI w6 d.js.v d.jms) := h0.out.jo.stays BW.out
  go_wp2_with (first | (refine wpList_ldG rfl 51 _ rfl w.heap.size 20 rfl 107 _ LA.out [.int .i64 d.jid, .slice d.js.a d.js.n d.js.c] rfl _ Try.underlying51 rfl Try.sizeLR ?_))
  refine (toRing_r d.jid d.js d.jms _ HR hs.out.jo).mono ?_
  rintro e w7 ⟨s1, rfl, o1, b⟩
  have JO : Hid (OwnI w7 (w.heap.size + 3) s1.v d.jms) := o1.down (by omega)
  have JL : Hid (∀ x, s1.v.ownBlock = some x → w6.heap.size ≤ x ∧ x < w7.heap.size) := fun x hx => o1.lt x hx
  clear o1 HR
  have z_w7 : w6.heap.size ≤ w7.heap.size := b.size
  have LA : Hid (Bx w7 w.heap.size 107 [.int .i64 d.id, .bool d.dead, .int .i64 d.m.id, .int .i64 d.m.rid, .slice d.mv.ms.a d.mv.ms.n d.mv.ms.c, .slice d.mv.its.a d.mv.its.n d.mv.its.c, .slice d.mv.lv.a d.mv.lv.n d.mv.lv.c, .slice d.mv.tx.a d.mv.tx.n d.mv.tx.c, .int .i64 d.m.rd, .int .i64 d.m.se, .int .i64 d.m.li, .int .i64 d.m.he, .int .i64 d.m.la.c, .int .i64 d.m.la.r, .int .i64 d.m.la.q, .int .i64 d.m.la.a, .int .i64 d.m.la.b, .slice d.mv.ws.a d.mv.ws.n d.mv.ws.c, .int .i64 d.most, .int .i64 d.old, .int .i64 d.jid, .slice d.js.a d.js.n d.js.c, .slice d.bs.a d.bs.n d.bs.c, .slice d.ls.a d.ls.n d.ls.c]) := LA.out.later b
  have EB : Hid (Bx w7 (w.heap.size + 1) 77 [.int .i64 0, .bool false, .int .i64 0, .int .i64 0, .slice none 0 0, .slice none 0 0, .slice none 0 0, .slice none 0 0, .int .i64 0, .int .i64 0, .int .i64 0, .int .i64 0, .int .i64 0, .int .i64 0, .int .i64 0, .int .i64 0, .int .i64 0, .slice none 0 0, .int .i64 0, .int .i64 0, .int .i64 0, .slice none 0 0, .slice none 0 0, .slice none 0 0]) := EB.out.later b
  have VB : Hid (Bx w7 (w.heap.size + 2) 77 [.int .i64 d.id, .bool d.dead, .int .i64 d.m.id, .int .i64 d.m.rid, .slice u.ms.a u.ms.n u.ms.c, .slice u.its.a u.its.n u.its.c, .slice u.lv.a u.lv.n u.lv.c, .slice u.tx.a u.tx.n u.tx.c, .int .i64 d.m.rd, .int .i64 d.m.se, .int .i64 d.m.li, .int .i64 d.m.he, .int .i64 d.m.la.c, .int .i64 d.m.la.r, .int .i64 d.m.la.q, .int .i64 d.m.la.a, .int .i64 d.m.la.b, .slice u.ws.a u.ws.n u.ws.c, .int .i64 d.most, .int .i64 d.old, .int .i64 0, .slice none 0 0, .slice none 0 0, .slice none 0 0]) := VB.out.later b
  have BW : Hid (Below w.heap.size w w7) := bl_next BW.out b
  have MO : Hid (MtO w7 (w.heap.size + 3) d.m u) := MO.out.later b
  clear b
  go_wp2_with (first | (with_reducible refine wpList_haltS 56 _ _ rfl ?_))
  refine Stp.go ?_
  refine wpList_stB rfl 56 _ _ rfl (w.heap.size + 2) 20 rfl 77 _ VB.out [.int .i64 d.jid, .slice s1.a s1.n s1.c] rfl (by simp) Try.sizeR rfl [.int .i64 d.id, .bool d.dead, .int .i64 d.m.id, .int .i64 d.m.rid, .slice u.ms.a u.ms.n u.ms.c, .slice u.its.a u.its.n u.its.c, .slice u.lv.a u.lv.n u.lv.c, .slice u.tx.a u.tx.n u.tx.c, .int .i64 d.m.rd, .int .i64 d.m.se, .int .i64 d.m.li, .int .i64 d.m.he, .int .i64 d.m.la.c, .int .i64 d.m.la.r, .int .i64 d.m.la.q, .int .i64 d.m.la.a, .int .i64 d.m.la.b, .slice u.ws.a u.ws.n u.ws.c, .int .i64 d.most, .int .i64 d.old, .int .i64 d.jid, .slice s1.a s1.n s1.c, .slice none 0 0, .slice none 0 0] rfl ?_
  intro w8 OB TB
  have z_w8 : w7.heap.size ≤ w8.heap.size := Nat.le_of_eq TB.size.symm
  have LA : Hid (Bx w8 w.heap.size 107 [.int .i64 d.id, .bool d.dead, .int .i64 d.m.id, .int .i64 d.m.rid, .slice d.mv.ms.a d.mv.ms.n d.mv.ms.c, .slice d.mv.its.a d.mv.its.n d.mv.its.c, .slice d.mv.lv.a d.mv.lv.n d.mv.lv.c, .slice d.mv.tx.a d.mv.tx.n d.mv.tx.c, .int .i64 d.m.rd, .int .i64 d.m.se, .int .i64 d.m.li, .int .i64 d.m.he, .int .i64 d.m.la.c, .int .i64 d.m.la.r, .int .i64 d.m.la.q, .int .i64 d.m.la.a, .int .i64 d.m.la.b, .slice d.mv.ws.a d.mv.ws.n d.mv.ws.c, .int .i64 d.most, .int .i64 d.old, .int .i64 d.jid, .slice d.js.a d.js.n d.js.c, .slice d.bs.a d.bs.n d.bs.c, .slice d.ls.a d.ls.n d.ls.c]) := LA.out.turn TB (by omega)
  have EB : Hid (Bx w8 (w.heap.size + 1) 77 [.int .i64 0, .bool false, .int .i64 0, .int .i64 0, .slice none 0 0, .slice none 0 0, .slice none 0 0, .slice none 0 0, .int .i64 0, .int .i64 0, .int .i64 0, .int .i64 0, .int .i64 0, .int .i64 0, .int .i64 0, .int .i64 0, .int .i64 0, .slice none 0 0, .int .i64 0, .int .i64 0, .int .i64 0, .slice none 0 0, .slice none 0 0, .slice none 0 0]) := EB.out.turn TB (by omega)
  have BW : Hid (Below w.heap.size w w8) := BW.out.trans (TB.below (by omega))
  have MO : Hid (MtO w8 (w.heap.size + 3) d.m u) := MO.out.keep fun b hb _ => TB.block b (by have := (MO.out.lt hb).1; omega)
  have JO : Hid (OwnI w8 (w.heap.size + 3) s1.v d.jms) := JO.out.keep fun b hb _ => TB.block b (by have := (JO.out.lt b hb).1; omega)
  have VB : Hid (Bx w8 (w.heap.size + 2) 77 [.int .i64 d.id, .bool d.dead, .int .i64 d.m.id, .int .i64 d.m.rid, .slice u.ms.a u.ms.n u.ms.c, .slice u.its.a u.its.n u.its.c, .slice u.lv.a u.lv.n u.lv.c, .slice u.tx.a u.tx.n u.tx.c, .int .i64 d.m.rd, .int .i64 d.m.se, .int .i64 d.m.li, .int .i64 d.m.he, .int .i64 d.m.la.c, .int .i64 d.m.la.r, .int .i64 d.m.la.q, .int .i64 d.m.la.a, .int .i64 d.m.la.b, .slice u.ws.a u.ws.n u.ws.c, .int .i64 d.most, .int .i64 d.old, .int .i64 d.jid, .slice s1.a s1.n s1.c, .slice none 0 0, .slice none 0 0]) := OB
  clear OB TB
  have HR : Hid (BusR w8 d.bs d.bu) := h0.out.bu.stays BW.out
  have c22 := LA.out.cell 22
  simp only [List.getElem?_cons_succ, List.getElem?_cons_zero] at c22
  go_wp2_with fail
  clear c22
  refine (toBundles_any d.bs d.bu _ HR hs.out.bus.1 hs.out.bus.2).mono ?_
  rintro e w9 ⟨s2, cs, rfl, p2, o2, up2, r2, b⟩
  have BO : Hid (BusO w9 (w.heap.size + 3) s2 cs) := o2.down (by omega)
  have BP : Hid (cs.map Bu.pl = d.bu.map Bu.pl) := p2
  have BA : Hid (BusA s2 cs) := up2.a fun b hb => (r2 b hb).2
  have BL : Hid (∀ x, BusOwn s2 cs x → w8.heap.size ≤ x ∧ x < w9.heap.size) := fun x hx => o2.olt hx
  clear o2 p2 up2 r2 HR
  have z_w9 : w8.heap.size ≤ w9.heap.size := b.size
  have LA : Hid (Bx w9 w.heap.size 107 [.int .i64 d.id, .bool d.dead, .int .i64 d.m.id, .int .i64 d.m.rid, .slice d.mv.ms.a d.mv.ms.n d.mv.ms.c, .slice d.mv.its.a d.mv.its.n d.mv.its.c, .slice d.mv.lv.a d.mv.lv.n d.mv.lv.c, .slice d.mv.tx.a d.mv.tx.n d.mv.tx.c, .int .i64 d.m.rd, .int .i64 d.m.se, .int .i64 d.m.li, .int .i64 d.m.he, .int .i64 d.m.la.c, .int .i64 d.m.la.r, .int .i64 d.m.la.q, .int .i64 d.m.la.a, .int .i64 d.m.la.b, .slice d.mv.ws.a d.mv.ws.n d.mv.ws.c, .int .i64 d.most, .int .i64 d.old, .int .i64 d.jid, .slice d.js.a d.js.n d.js.c, .slice d.bs.a d.bs.n d.bs.c, .slice d.ls.a d.ls.n d.ls.c]) := LA.out.later b
  have EB : Hid (Bx w9 (w.heap.size + 1) 77 [.int .i64 0, .bool false, .int .i64 0, .int .i64 0, .slice none 0 0, .slice none 0 0, .slice none 0 0, .slice none 0 0, .int .i64 0, .int .i64 0, .int .i64 0, .int .i64 0, .int .i64 0, .int .i64 0, .int .i64 0, .int .i64 0, .int .i64 0, .slice none 0 0, .int .i64 0, .int .i64 0, .int .i64 0, .slice none 0 0, .slice none 0 0, .slice none 0 0]) := EB.out.later b
  have VB : Hid (Bx w9 (w.heap.size + 2) 77 [.int .i64 d.id, .bool d.dead, .int .i64 d.m.id, .int .i64 d.m.rid, .slice u.ms.a u.ms.n u.ms.c, .slice u.its.a u.its.n u.its.c, .slice u.lv.a u.lv.n u.lv.c, .slice u.tx.a u.tx.n u.tx.c, .int .i64 d.m.rd, .int .i64 d.m.se, .int .i64 d.m.li, .int .i64 d.m.he, .int .i64 d.m.la.c, .int .i64 d.m.la.r, .int .i64 d.m.la.q, .int .i64 d.m.la.a, .int .i64 d.m.la.b, .slice u.ws.a u.ws.n u.ws.c, .int .i64 d.most, .int .i64 d.old, .int .i64 d.jid, .slice s1.a s1.n s1.c, .slice none 0 0, .slice none 0 0]) := VB.out.later b
  have BW : Hid (Below w.heap.size w w9) := bl_next BW.out b
  have MO : Hid (MtO w9 (w.heap.size + 3) d.m u) := MO.out.later b
  have JO : Hid (OwnI w9 (w.heap.size + 3) s1.v d.jms) := JO.out.keep fun _ _ hk => (b).block _ hk
  clear b
  go_wp2_with (first | (with_reducible refine wpList_haltS 75 _ _ rfl ?_))
  refine Stp.go ?_
  refine wpList_st1 rfl 75 _ _ rfl (w.heap.size + 2) 22 rfl 77 _ VB.out (.slice s2.a s2.n s2.c) rfl (by simp) rfl Try.sizeBus [.int .i64 d.id, .bool d.dead, .int .i64 d.m.id, .int .i64 d.m.rid, .slice u.ms.a u.ms.n u.ms.c, .slice u.its.a u.its.n u.its.c, .slice u.lv.a u.lv.n u.lv.c, .slice u.tx.a u.tx.n u.tx.c, .int .i64 d.m.rd, .int .i64 d.m.se, .int .i64 d.m.li, .int .i64 d.m.he, .int .i64 d.m.la.c, .int .i64 d.m.la.r, .int .i64 d.m.la.q, .int .i64 d.m.la.a, .int .i64 d.m.la.b, .slice u.ws.a u.ws.n u.ws.c, .int .i64 d.most, .int .i64 d.old, .int .i64 d.jid, .slice s1.a s1.n s1.c, .slice s2.a s2.n s2.c, .slice none 0 0] rfl ?_
  intro w10 OB TB
  have z_w10 : w9.heap.size ≤ w10.heap.size := Nat.le_of_eq TB.size.symm
  have LA : Hid (Bx w10 w.heap.size 107 [.int .i64 d.id, .bool d.dead, .int .i64 d.m.id, .int .i64 d.m.rid, .slice d.mv.ms.a d.mv.ms.n d.mv.ms.c, .slice d.mv.its.a d.mv.its.n d.mv.its.c, .slice d.mv.lv.a d.mv.lv.n d.mv.lv.c, .slice d.mv.tx.a d.mv.tx.n d.mv.tx.c, .int .i64 d.m.rd, .int .i64 d.m.se, .int .i64 d.m.li, .int .i64 d.m.he, .int .i64 d.m.la.c, .int .i64 d.m.la.r, .int .i64 d.m.la.q, .int .i64 d.m.la.a, .int .i64 d.m.la.b, .slice d.mv.ws.a d.mv.ws.n d.mv.ws.c, .int .i64 d.most, .int .i64 d.old, .int .i64 d.jid, .slice d.js.a d.js.n d.js.c, .slice d.bs.a d.bs.n d.bs.c, .slice d.ls.a d.ls.n d.ls.c]) := LA.out.turn TB (by omega)
  have EB : Hid (Bx w10 (w.heap.size + 1) 77 [.int .i64 0, .bool false, .int .i64 0, .int .i64 0, .slice none 0 0, .slice none 0 0, .slice none 0 0, .slice none 0 0, .int .i64 0, .int .i64 0, .int .i64 0, .int .i64 0, .int .i64 0, .int .i64 0, .int .i64 0, .int .i64 0, .int .i64 0, .slice none 0 0, .int .i64 0, .int .i64 0, .int .i64 0, .slice none 0 0, .slice none 0 0, .slice none 0 0]) := EB.out.turn TB (by omega)
  have BW : Hid (Below w.heap.size w w10) := BW.out.trans (TB.below (by omega))
  have MO : Hid (MtO w10 (w.heap.size + 3) d.m u) := MO.out.keep fun b hb _ => TB.block b (by have := (MO.out.lt hb).1; omega)
  have JO : Hid (OwnI w10 (w.heap.size + 3) s1.v d.jms) := JO.out.keep fun b hb _ => TB.block b (by have := (JO.out.lt b hb).1; omega)
  have BO : Hid (BusO w10 (w.heap.size + 3) s2 cs) := BO.out.keep fun b hb _ => TB.block b (by omega)
  have VB : Hid (Bx w10 (w.heap.size + 2) 77 [.int .i64 d.id, .bool d.dead, .int .i64 d.m.id, .int .i64 d.m.rid, .slice u.ms.a u.ms.n u.ms.c, .slice u.its.a u.its.n u.its.c, .slice u.lv.a u.lv.n u.lv.c, .slice u.tx.a u.tx.n u.tx.c, .int .i64 d.m.rd, .int .i64 d.m.se, .int .i64 d.m.li, .int .i64 d.m.he, .int .i64 d.m.la.c, .int .i64 d.m.la.r, .int .i64 d.m.la.q, .int .i64 d.m.la.a, .int .i64 d.m.la.b, .slice u.ws.a u.ws.n u.ws.c, .int .i64 d.most, .int .i64 d.old, .int .i64 d.jid, .slice s1.a s1.n s1.c, .slice s2.a s2.n s2.c, .slice none 0 0]) := OB
  clear OB TB
  have HR : Hid (EvsR w10 d.ls d.lo) := h0.out.lo.stays BW.out
  have c23 := LA.out.cell 23
  simp only [List.getElem?_cons_succ, List.getElem?_cons_zero] at c23
  go_wp2_with fail
  clear c23
  refine (toEvents_any d.ls d.lo _ HR hs.out.los.1 hs.out.los.2).mono ?_
  rintro e w11 ⟨s3, es, rfl, p2, o2, up2, r2, b⟩
  have LO : Hid (EvsO w11 (w.heap.size + 3) s3 es) := o2.down (by omega)
  have LP : Hid (es.map Ev.pl = d.lo.map Ev.pl) := p2
  have LA2 : Hid (EvsA s3 es) := up2.a fun b hb => (r2 b hb).2
  have LL : Hid (∀ x, EvsOwn s3 es x → w10.heap.size ≤ x ∧ x < w11.heap.size) := fun x hx => o2.olt hx
  clear o2 p2 up2 r2 HR
  have z_w11 : w10.heap.size ≤ w11.heap.size := b.size
  have LA : Hid (Bx w11 w.heap.size 107 [.int .i64 d.id, .bool d.dead, .int .i64 d.m.id, .int .i64 d.m.rid, .slice d.mv.ms.a d.mv.ms.n d.mv.ms.c, .slice d.mv.its.a d.mv.its.n d.mv.its.c, .slice d.mv.lv.a d.mv.lv.n d.mv.lv.c, .slice d.mv.tx.a d.mv.tx.n d.mv.tx.c, .int .i64 d.m.rd, .int .i64 d.m.se, .int .i64 d.m.li, .int .i64 d.m.he, .int .i64 d.m.la.c, .int .i64 d.m.la.r, .int .i64 d.m.la.q, .int .i64 d.m.la.a, .int .i64 d.m.la.b, .slice d.mv.ws.a d.mv.ws.n d.mv.ws.c, .int .i64 d.most, .int .i64 d.old, .int .i64 d.jid, .slice d.js.a d.js.n d.js.c, .slice d.bs.a d.bs.n d.bs.c, .slice d.ls.a d.ls.n d.ls.c]) := LA.out.later b
  have EB : Hid (Bx w11 (w.heap.size + 1) 77 [.int .i64 0, .bool false, .int .i64 0, .int .i64 0, .slice none 0 0, .slice none 0 0, .slice none 0 0, .slice none 0 0, .int .i64 0, .int .i64 0, .int .i64 0, .int .i64 0, .int .i64 0, .int .i64 0, .int .i64 0, .int .i64 0, .int .i64 0, .slice none 0 0, .int .i64 0, .int .i64 0, .int .i64 0, .slice none 0 0, .slice none 0 0, .slice none 0 0]) := EB.out.later b
  have VB : Hid (Bx w11 (w.heap.size + 2) 77 [.int .i64 d.id, .bool d.dead, .int .i64 d.m.id, .int .i64 d.m.rid, .slice u.ms.a u.ms.n u.ms.c, .slice u.its.a u.its.n u.its.c, .slice u.lv.a u.lv.n u.lv.c, .slice u.tx.a u.tx.n u.tx.c, .int .i64 d.m.rd, .int .i64 d.m.se, .int .i64 d.m.li, .int .i64 d.m.he, .int .i64 d.m.la.c, .int .i64 d.m.la.r, .int .i64 d.m.la.q, .int .i64 d.m.la.a, .int .i64 d.m.la.b, .slice u.ws.a u.ws.n u.ws.c, .int .i64 d.most, .int .i64 d.old, .int .i64 d.jid, .slice s1.a s1.n s1.c, .slice s2.a s2.n s2.c, .slice none 0 0]) := VB.out.later b
  have BW : Hid (Below w.heap.size w w11) := bl_next BW.out b
  have MO : Hid (MtO w11 (w.heap.size + 3) d.m u) := MO.out.later b
  have JO : Hid (OwnI w11 (w.heap.size + 3) s1.v d.jms) := JO.out.keep fun _ _ hk => (b).block _ hk
  have BO : Hid (BusO w11 (w.heap.size + 3) s2 cs) := BO.out.below b
  clear b
  go_wp2_with (first | (with_reducible refine wpList_haltS 26 _ _ rfl ?_))
  refine Stp.go ?_
  refine wpList_st1 rfl 26 _ _ rfl (w.heap.size + 2) 23 rfl 77 _ VB.out (.slice s3.a s3.n s3.c) rfl (by simp) rfl Try.sizeEvs [.int .i64 d.id, .bool d.dead, .int .i64 d.m.id, .int .i64 d.m.rid, .slice u.ms.a u.ms.n u.ms.c, .slice u.its.a u.its.n u.its.c, .slice u.lv.a u.lv.n u.lv.c, .slice u.tx.a u.tx.n u.tx.c, .int .i64 d.m.rd, .int .i64 d.m.se, .int .i64 d.m.li, .int .i64 d.m.he, .int .i64 d.m.la.c, .int .i64 d.m.la.r, .int .i64 d.m.la.q, .int .i64 d.m.la.a, .int .i64 d.m.la.b, .slice u.ws.a u.ws.n u.ws.c, .int .i64 d.most, .int .i64 d.old, .int .i64 d.jid, .slice s1.a s1.n s1.c, .slice s2.a s2.n s2.c, .slice s3.a s3.n s3.c] rfl ?_
  intro w12 OB TB
  have z_w12 : w11.heap.size ≤ w12.heap.size := Nat.le_of_eq TB.size.symm
  have LA : Hid (Bx w12 w.heap.size 107 [.int .i64 d.id, .bool d.dead, .int .i64 d.m.id, .int .i64 d.m.rid, .slice d.mv.ms.a d.mv.ms.n d.mv.ms.c, .slice d.mv.its.a d.mv.its.n d.mv.its.c, .slice d.mv.lv.a d.mv.lv.n d.mv.lv.c, .slice d.mv.tx.a d.mv.tx.n d.mv.tx.c, .int .i64 d.m.rd, .int .i64 d.m.se, .int .i64 d.m.li, .int .i64 d.m.he, .int .i64 d.m.la.c, .int .i64 d.m.la.r, .int .i64 d.m.la.q, .int .i64 d.m.la.a, .int .i64 d.m.la.b, .slice d.mv.ws.a d.mv.ws.n d.mv.ws.c, .int .i64 d.most, .int .i64 d.old, .int .i64 d.jid, .slice d.js.a d.js.n d.js.c, .slice d.bs.a d.bs.n d.bs.c, .slice d.ls.a d.ls.n d.ls.c]) := LA.out.turn TB (by omega)
  have EB : Hid (Bx w12 (w.heap.size + 1) 77 [.int .i64 0, .bool false, .int .i64 0, .int .i64 0, .slice none 0 0, .slice none 0 0, .slice none 0 0, .slice none 0 0, .int .i64 0, .int .i64 0, .int .i64 0, .int .i64 0, .int .i64 0, .int .i64 0, .int .i64 0, .int .i64 0, .int .i64 0, .slice none 0 0, .int .i64 0, .int .i64 0, .int .i64 0, .slice none 0 0, .slice none 0 0, .slice none 0 0]) := EB.out.turn TB (by omega)
  have BW : Hid (Below w.heap.size w w12) := BW.out.trans (TB.below (by omega))
  have MO : Hid (MtO w12 (w.heap.size + 3) d.m u) := MO.out.keep fun b hb _ => TB.block b (by have := (MO.out.lt hb).1; omega)
  have JO : Hid (OwnI w12 (w.heap.size + 3) s1.v d.jms) := JO.out.keep fun b hb _ => TB.block b (by have := (JO.out.lt b hb).1; omega)
  have BO : Hid (BusO w12 (w.heap.size + 3) s2 cs) := BO.out.keep fun b hb _ => TB.block b (by omega)
  have LO : Hid (EvsO w12 (w.heap.size + 3) s3 es) := LO.out.keep fun b hb _ => TB.block b (by omega)
  have VB : Hid (Bx w12 (w.heap.size + 2) 77 [.int .i64 d.id, .bool d.dead, .int .i64 d.m.id, .int .i64 d.m.rid, .slice u.ms.a u.ms.n u.ms.c, .slice u.its.a u.its.n u.its.c, .slice u.lv.a u.lv.n u.lv.c, .slice u.tx.a u.tx.n u.tx.c, .int .i64 d.m.rd, .int .i64 d.m.se, .int .i64 d.m.li, .int .i64 d.m.he, .int .i64 d.m.la.c, .int .i64 d.m.la.r, .int .i64 d.m.la.q, .int .i64 d.m.la.a, .int .i64 d.m.la.b, .slice u.ws.a u.ws.n u.ws.c, .int .i64 d.most, .int .i64 d.old, .int .i64 d.jid, .slice s1.a s1.n s1.c, .slice s2.a s2.n s2.c, .slice s3.a s3.n s3.c]) := OB
  clear OB TB
  go_wp2_with (first | (refine wpList_ldG rfl 77 _ rfl (w.heap.size + 2) 0 rfl 77 _ VB.out [.int .i64 d.id, .bool d.dead, .int .i64 d.m.id, .int .i64 d.m.rid, .slice u.ms.a u.ms.n u.ms.c, .slice u.its.a u.its.n u.its.c, .slice u.lv.a u.lv.n u.lv.c, .slice u.tx.a u.tx.n u.tx.c, .int .i64 d.m.rd, .int .i64 d.m.se, .int .i64 d.m.li, .int .i64 d.m.he, .int .i64 d.m.la.c, .int .i64 d.m.la.r, .int .i64 d.m.la.q, .int .i64 d.m.la.a, .int .i64 d.m.la.b, .slice u.ws.a u.ws.n u.ws.c, .int .i64 d.most, .int .i64 d.old, .int .i64 d.jid, .slice s1.a s1.n s1.c, .slice s2.a s2.n s2.c, .slice s3.a s3.n s3.c] rfl _ Try.underlying77 rfl Try.sizeDa ?_) | (with_reducible refine wpList_haltS 77 _ _ rfl ?_))
  refine Stp.go ?_
  refine wpList_stB rfl 77 _ _ rfl (w.heap.size + 1) 0 rfl 77 _ EB.out [.int .i64 d.id, .bool d.dead, .int .i64 d.m.id, .int .i64 d.m.rid, .slice u.ms.a u.ms.n u.ms.c, .slice u.its.a u.its.n u.its.c, .slice u.lv.a u.lv.n u.lv.c, .slice u.tx.a u.tx.n u.tx.c, .int .i64 d.m.rd, .int .i64 d.m.se, .int .i64 d.m.li, .int .i64 d.m.he, .int .i64 d.m.la.c, .int .i64 d.m.la.r, .int .i64 d.m.la.q, .int .i64 d.m.la.a, .int .i64 d.m.la.b, .slice u.ws.a u.ws.n u.ws.c, .int .i64 d.most, .int .i64 d.old, .int .i64 d.jid, .slice s1.a s1.n s1.c, .slice s2.a s2.n s2.c, .slice s3.a s3.n s3.c] rfl (by simp) Try.sizeDa rfl [.int .i64 d.id, .bool d.dead, .int .i64 d.m.id, .int .i64 d.m.rid, .slice u.ms.a u.ms.n u.ms.c, .slice u.its.a u.its.n u.its.c, .slice u.lv.a u.lv.n u.lv.c, .slice u.tx.a u.tx.n u.tx.c, .int .i64 d.m.rd, .int .i64 d.m.se, .int .i64 d.m.li, .int .i64 d.m.he, .int .i64 d.m.la.c, .int .i64 d.m.la.r, .int .i64 d.m.la.q, .int .i64 d.m.la.a, .int .i64 d.m.la.b, .slice u.ws.a u.ws.n u.ws.c, .int .i64 d.most, .int .i64 d.old, .int .i64 d.jid, .slice s1.a s1.n s1.c, .slice s2.a s2.n s2.c, .slice s3.a s3.n s3.c] rfl ?_
  intro w13 OB TB
  have z_w13 : w12.heap.size ≤ w13.heap.size := Nat.le_of_eq TB.size.symm
  have LA : Hid (Bx w13 w.heap.size 107 [.int .i64 d.id, .bool d.dead, .int .i64 d.m.id, .int .i64 d.m.rid, .slice d.mv.ms.a d.mv.ms.n d.mv.ms.c, .slice d.mv.its.a d.mv.its.n d.mv.its.c, .slice d.mv.lv.a d.mv.lv.n d.mv.lv.c, .slice d.mv.tx.a d.mv.tx.n d.mv.tx.c, .int .i64 d.m.rd, .int .i64 d.m.se, .int .i64 d.m.li, .int .i64 d.m.he, .int .i64 d.m.la.c, .int .i64 d.m.la.r, .int .i64 d.m.la.q, .int .i64 d.m.la.a, .int .i64 d.m.la.b, .slice d.mv.ws.a d.mv.ws.n d.mv.ws.c, .int .i64 d.most, .int .i64 d.old, .int .i64 d.jid, .slice d.js.a d.js.n d.js.c, .slice d.bs.a d.bs.n d.bs.c, .slice d.ls.a d.ls.n d.ls.c]) := LA.out.turn TB (by omega)
  have VB : Hid (Bx w13 (w.heap.size + 2) 77 [.int .i64 d.id, .bool d.dead, .int .i64 d.m.id, .int .i64 d.m.rid, .slice u.ms.a u.ms.n u.ms.c, .slice u.its.a u.its.n u.its.c, .slice u.lv.a u.lv.n u.lv.c, .slice u.tx.a u.tx.n u.tx.c, .int .i64 d.m.rd, .int .i64 d.m.se, .int .i64 d.m.li, .int .i64 d.m.he, .int .i64 d.m.la.c, .int .i64 d.m.la.r, .int .i64 d.m.la.q, .int .i64 d.m.la.a, .int .i64 d.m.la.b, .slice u.ws.a u.ws.n u.ws.c, .int .i64 d.most, .int .i64 d.old, .int .i64 d.jid, .slice s1.a s1.n s1.c, .slice s2.a s2.n s2.c, .slice s3.a s3.n s3.c]) := VB.out.turn TB (by omega)
  have BW : Hid (Below w.heap.size w w13) := BW.out.trans (TB.below (by omega))
  have MO : Hid (MtO w13 (w.heap.size + 3) d.m u) := MO.out.keep fun b hb _ => TB.block b (by have := (MO.out.lt hb).1; omega)
  have JO : Hid (OwnI w13 (w.heap.size + 3) s1.v d.jms) := JO.out.keep fun b hb _ => TB.block b (by have := (JO.out.lt b hb).1; omega)
  have BO : Hid (BusO w13 (w.heap.size + 3) s2 cs) := BO.out.keep fun b hb _ => TB.block b (by omega)
  have LO : Hid (EvsO w13 (w.heap.size + 3) s3 es) := LO.out.keep fun b hb _ => TB.block b (by omega)
  have EB : Hid (Bx w13 (w.heap.size + 1) 77 [.int .i64 d.id, .bool d.dead, .int .i64 d.m.id, .int .i64 d.m.rid, .slice u.ms.a u.ms.n u.ms.c, .slice u.its.a u.its.n u.its.c, .slice u.lv.a u.lv.n u.lv.c, .slice u.tx.a u.tx.n u.tx.c, .int .i64 d.m.rd, .int .i64 d.m.se, .int .i64 d.m.li, .int .i64 d.m.he, .int .i64 d.m.la.c, .int .i64 d.m.la.r, .int .i64 d.m.la.q, .int .i64 d.m.la.a, .int .i64 d.m.la.b, .slice u.ws.a u.ws.n u.ws.c, .int .i64 d.most, .int .i64 d.old, .int .i64 d.jid, .slice s1.a s1.n s1.c, .slice s2.a s2.n s2.c, .slice s3.a s3.n s3.c]) := OB
  clear OB TB
  go_wp2_with fail
  refine bodyPost_ret (results_b Try.results61 (w.heap.size + 1) 77 [.int .i64 d.id, .bool d.dead, .int .i64 d.m.id, .int .i64 d.m.rid, .slice u.ms.a u.ms.n u.ms.c, .slice u.its.a u.its.n u.its.c, .slice u.lv.a u.lv.n u.lv.c, .slice u.tx.a u.tx.n u.tx.c, .int .i64 d.m.rd, .int .i64 d.m.se, .int .i64 d.m.li, .int .i64 d.m.he, .int .i64 d.m.la.c, .int .i64 d.m.la.r, .int .i64 d.m.la.q, .int .i64 d.m.la.a, .int .i64 d.m.la.b, .slice u.ws.a u.ws.n u.ws.c, .int .i64 d.most, .int .i64 d.old, .int .i64 d.jid, .slice s1.a s1.n s1.c, .slice s2.a s2.n s2.c, .slice s3.a s3.n s3.c] _ rfl EB.out Try.underlying77 rfl Try.sizeDa) rfl ?_
  refine ⟨{ d with mv := u, js := s1, bu := cs, bs := s2, lo := es, ls := s3 }, rfl, ⟨rfl, rfl, rfl, rfl, rfl, rfl, rfl, BP.out, LP.out⟩, ⟨MO.out.down (by omega), JO.out.down (by omega), BO.out.down (by omega), LO.out.down (by omega)⟩, ?_, BW.out⟩
  exact ⟨fun x h1 h2 => by have := ML.out x h1; have := (JL.out x h2).1; omega, fun x h1 h2 => by have := ML.out x h1; have := (BL.out x h2).1; omega, fun x h1 h2 => by have := ML.out x h1; have := (LL.out x h2).1; omega, fun x h1 h2 => by have := (JL.out x h1).2; have := (BL.out x h2).1; omega, fun x h1 h2 => by have := (JL.out x h1).2; have := (LL.out x h2).1; omega, fun x h1 h2 => by have := (BL.out x h1).2; have := (LL.out x h2).1; omega, BA.out, LA2.out⟩
set_option maxRecDepth 100000 in
set_option maxHeartbeats 16000000 in
theorem eqDaemon_0 (d : Dm) (mv : Mv) (js bs ls : Sv) (bu : List Bu) (lo : List Ev) (B1 B2 : Nat) (w : World) (h1 : Hid (DmO w B1 d)) (h2 : Hid (DmO w B2 { d with mv := mv, js := js, bs := bs, ls := ls, bu := bu, lo := lo })) (hb : Hid (d.bu.map Bu.pl = bu.map Bu.pl)) (hl : Hid (d.lo.map Ev.pl = lo.map Ev.pl)) (hs : Hid (DmS d)) :
    Calls Try.prog 65 #[.agg #[.int .i64 d.id, .bool d.dead, .int .i64 d.m.id, .int .i64 d.m.rid, .slice d.mv.ms.a d.mv.ms.n d.mv.ms.c, .slice d.mv.its.a d.mv.its.n d.mv.its.c, .slice d.mv.lv.a d.mv.lv.n d.mv.lv.c, .slice d.mv.tx.a d.mv.tx.n d.mv.tx.c, .int .i64 d.m.rd, .int .i64 d.m.se, .int .i64 d.m.li, .int .i64 d.m.he, .int .i64 d.m.la.c, .int .i64 d.m.la.r, .int .i64 d.m.la.q, .int .i64 d.m.la.a, .int .i64 d.m.la.b, .slice d.mv.ws.a d.mv.ws.n d.mv.ws.c, .int .i64 d.most, .int .i64 d.old, .int .i64 d.jid, .slice d.js.a d.js.n d.js.c, .slice d.bs.a d.bs.n d.bs.c, .slice d.ls.a d.ls.n d.ls.c], .agg #[.int .i64 d.id, .bool d.dead, .int .i64 d.m.id, .int .i64 d.m.rid, .slice mv.ms.a mv.ms.n mv.ms.c, .slice mv.its.a mv.its.n mv.its.c, .slice mv.lv.a mv.lv.n mv.lv.c, .slice mv.tx.a mv.tx.n mv.tx.c, .int .i64 d.m.rd, .int .i64 d.m.se, .int .i64 d.m.li, .int .i64 d.m.he, .int .i64 d.m.la.c, .int .i64 d.m.la.r, .int .i64 d.m.la.q, .int .i64 d.m.la.a, .int .i64 d.m.la.b, .slice mv.ws.a mv.ws.n mv.ws.c, .int .i64 d.most, .int .i64 d.old, .int .i64 d.jid, .slice js.a js.n js.c, .slice bs.a bs.n bs.c, .slice ls.a ls.n ls.c]] w fun x w' => x = .returned (.bool true) ∧ Below w.heap.size w w' := by
  have hn1 : (w.alloc (.cells #[.int .i64 d.id, .bool d.dead, .int .i64 d.m.id, .int .i64 d.m.rid, .slice d.mv.ms.a d.mv.ms.n d.mv.ms.c, .slice d.mv.its.a d.mv.its.n d.mv.its.c, .slice d.mv.lv.a d.mv.lv.n d.mv.lv.c, .slice d.mv.tx.a d.mv.tx.n d.mv.tx.c, .int .i64 d.m.rd, .int .i64 d.m.se, .int .i64 d.m.li, .int .i64 d.m.he, .int .i64 d.m.la.c, .int .i64 d.m.la.r, .int .i64 d.m.la.q, .int .i64 d.m.la.a, .int .i64 d.m.la.b, .slice d.mv.ws.a d.mv.ws.n d.mv.ws.c, .int .i64 d.most, .int .i64 d.old, .int .i64 d.jid, .slice d.js.a d.js.n d.js.c, .slice d.bs.a d.bs.n d.bs.c, .slice d.ls.a d.ls.n d.ls.c] 77)).heap.size = w.heap.size + 1 := by simp
  have LA : Hid (Bx ((w.alloc (.cells #[.int .i64 d.id, .bool d.dead, .int .i64 d.m.id, .int .i64 d.m.rid, .slice d.mv.ms.a d.mv.ms.n d.mv.ms.c, .slice d.mv.its.a d.mv.its.n d.mv.its.c, .slice d.mv.lv.a d.mv.lv.n d.mv.lv.c, .slice d.mv.tx.a d.mv.tx.n d.mv.tx.c, .int .i64 d.m.rd, .int .i64 d.m.se, .int .i64 d.m.li, .int .i64 d.m.he, .int .i64 d.m.la.c, .int .i64 d.m.la.r, .int .i64 d.m.la.q, .int .i64 d.m.la.a, .int .i64 d.m.la.b, .slice d.mv.ws.a d.mv.ws.n d.mv.ws.c, .int .i64 d.most, .int .i64 d.old, .int .i64 d.jid, .slice d.js.a d.js.n d.js.c, .slice d.bs.a d.bs.n d.bs.c, .slice d.ls.a d.ls.n d.ls.c] 77)).alloc (.cells #[.int .i64 d.id, .bool d.dead, .int .i64 d.m.id, .int .i64 d.m.rid, .slice mv.ms.a mv.ms.n mv.ms.c, .slice mv.its.a mv.its.n mv.its.c, .slice mv.lv.a mv.lv.n mv.lv.c, .slice mv.tx.a mv.tx.n mv.tx.c, .int .i64 d.m.rd, .int .i64 d.m.se, .int .i64 d.m.li, .int .i64 d.m.he, .int .i64 d.m.la.c, .int .i64 d.m.la.r, .int .i64 d.m.la.q, .int .i64 d.m.la.a, .int .i64 d.m.la.b, .slice mv.ws.a mv.ws.n mv.ws.c, .int .i64 d.most, .int .i64 d.old, .int .i64 d.jid, .slice js.a js.n js.c, .slice bs.a bs.n bs.c, .slice ls.a ls.n ls.c] 77)) w.heap.size 77 [.int .i64 d.id, .bool d.dead, .int .i64 d.m.id, .int .i64 d.m.rid, .slice d.mv.ms.a d.mv.ms.n d.mv.ms.c, .slice d.mv.its.a d.mv.its.n d.mv.its.c, .slice d.mv.lv.a d.mv.lv.n d.mv.lv.c, .slice d.mv.tx.a d.mv.tx.n d.mv.tx.c, .int .i64 d.m.rd, .int .i64 d.m.se, .int .i64 d.m.li, .int .i64 d.m.he, .int .i64 d.m.la.c, .int .i64 d.m.la.r, .int .i64 d.m.la.q, .int .i64 d.m.la.a, .int .i64 d.m.la.b, .slice d.mv.ws.a d.mv.ws.n d.mv.ws.c, .int .i64 d.most, .int .i64 d.old, .int .i64 d.jid, .slice d.js.a d.js.n d.js.c, .slice d.bs.a d.bs.n d.bs.c, .slice d.ls.a d.ls.n d.ls.c]) := by
    have h := Bx.new w 77 [.int .i64 d.id, .bool d.dead, .int .i64 d.m.id, .int .i64 d.m.rid, .slice d.mv.ms.a d.mv.ms.n d.mv.ms.c, .slice d.mv.its.a d.mv.its.n d.mv.its.c, .slice d.mv.lv.a d.mv.lv.n d.mv.lv.c, .slice d.mv.tx.a d.mv.tx.n d.mv.tx.c, .int .i64 d.m.rd, .int .i64 d.m.se, .int .i64 d.m.li, .int .i64 d.m.he, .int .i64 d.m.la.c, .int .i64 d.m.la.r, .int .i64 d.m.la.q, .int .i64 d.m.la.a, .int .i64 d.m.la.b, .slice d.mv.ws.a d.mv.ws.n d.mv.ws.c, .int .i64 d.most, .int .i64 d.old, .int .i64 d.jid, .slice d.js.a d.js.n d.js.c, .slice d.bs.a d.bs.n d.bs.c, .slice d.ls.a d.ls.n d.ls.c]
    exact (h).later ((Below.refl _ _).alloc (Nat.le_refl _) _)
  have LB : Hid (Bx ((w.alloc (.cells #[.int .i64 d.id, .bool d.dead, .int .i64 d.m.id, .int .i64 d.m.rid, .slice d.mv.ms.a d.mv.ms.n d.mv.ms.c, .slice d.mv.its.a d.mv.its.n d.mv.its.c, .slice d.mv.lv.a d.mv.lv.n d.mv.lv.c, .slice d.mv.tx.a d.mv.tx.n d.mv.tx.c, .int .i64 d.m.rd, .int .i64 d.m.se, .int .i64 d.m.li, .int .i64 d.m.he, .int .i64 d.m.la.c, .int .i64 d.m.la.r, .int .i64 d.m.la.q, .int .i64 d.m.la.a, .int .i64 d.m.la.b, .slice d.mv.ws.a d.mv.ws.n d.mv.ws.c, .int .i64 d.most, .int .i64 d.old, .int .i64 d.jid, .slice d.js.a d.js.n d.js.c, .slice d.bs.a d.bs.n d.bs.c, .slice d.ls.a d.ls.n d.ls.c] 77)).alloc (.cells #[.int .i64 d.id, .bool d.dead, .int .i64 d.m.id, .int .i64 d.m.rid, .slice mv.ms.a mv.ms.n mv.ms.c, .slice mv.its.a mv.its.n mv.its.c, .slice mv.lv.a mv.lv.n mv.lv.c, .slice mv.tx.a mv.tx.n mv.tx.c, .int .i64 d.m.rd, .int .i64 d.m.se, .int .i64 d.m.li, .int .i64 d.m.he, .int .i64 d.m.la.c, .int .i64 d.m.la.r, .int .i64 d.m.la.q, .int .i64 d.m.la.a, .int .i64 d.m.la.b, .slice mv.ws.a mv.ws.n mv.ws.c, .int .i64 d.most, .int .i64 d.old, .int .i64 d.jid, .slice js.a js.n js.c, .slice bs.a bs.n bs.c, .slice ls.a ls.n ls.c] 77)) (w.heap.size + 1) 77 [.int .i64 d.id, .bool d.dead, .int .i64 d.m.id, .int .i64 d.m.rid, .slice mv.ms.a mv.ms.n mv.ms.c, .slice mv.its.a mv.its.n mv.its.c, .slice mv.lv.a mv.lv.n mv.lv.c, .slice mv.tx.a mv.tx.n mv.tx.c, .int .i64 d.m.rd, .int .i64 d.m.se, .int .i64 d.m.li, .int .i64 d.m.he, .int .i64 d.m.la.c, .int .i64 d.m.la.r, .int .i64 d.m.la.q, .int .i64 d.m.la.a, .int .i64 d.m.la.b, .slice mv.ws.a mv.ws.n mv.ws.c, .int .i64 d.most, .int .i64 d.old, .int .i64 d.jid, .slice js.a js.n js.c, .slice bs.a bs.n bs.c, .slice ls.a ls.n ls.c]) := by
    have h := Bx.new (w.alloc (.cells #[.int .i64 d.id, .bool d.dead, .int .i64 d.m.id, .int .i64 d.m.rid, .slice d.mv.ms.a d.mv.ms.n d.mv.ms.c, .slice d.mv.its.a d.mv.its.n d.mv.its.c, .slice d.mv.lv.a d.mv.lv.n d.mv.lv.c, .slice d.mv.tx.a d.mv.tx.n d.mv.tx.c, .int .i64 d.m.rd, .int .i64 d.m.se, .int .i64 d.m.li, .int .i64 d.m.he, .int .i64 d.m.la.c, .int .i64 d.m.la.r, .int .i64 d.m.la.q, .int .i64 d.m.la.a, .int .i64 d.m.la.b, .slice d.mv.ws.a d.mv.ws.n d.mv.ws.c, .int .i64 d.most, .int .i64 d.old, .int .i64 d.jid, .slice d.js.a d.js.n d.js.c, .slice d.bs.a d.bs.n d.bs.c, .slice d.ls.a d.ls.n d.ls.c] 77)) 77 [.int .i64 d.id, .bool d.dead, .int .i64 d.m.id, .int .i64 d.m.rid, .slice mv.ms.a mv.ms.n mv.ms.c, .slice mv.its.a mv.its.n mv.its.c, .slice mv.lv.a mv.lv.n mv.lv.c, .slice mv.tx.a mv.tx.n mv.tx.c, .int .i64 d.m.rd, .int .i64 d.m.se, .int .i64 d.m.li, .int .i64 d.m.he, .int .i64 d.m.la.c, .int .i64 d.m.la.r, .int .i64 d.m.la.q, .int .i64 d.m.la.a, .int .i64 d.m.la.b, .slice mv.ws.a mv.ws.n mv.ws.c, .int .i64 d.most, .int .i64 d.old, .int .i64 d.jid, .slice js.a js.n js.c, .slice bs.a bs.n bs.c, .slice ls.a ls.n ls.c]
    rw [hn1] at h
    exact h
  have BW : Hid (Below w.heap.size w ((w.alloc (.cells #[.int .i64 d.id, .bool d.dead, .int .i64 d.m.id, .int .i64 d.m.rid, .slice d.mv.ms.a d.mv.ms.n d.mv.ms.c, .slice d.mv.its.a d.mv.its.n d.mv.its.c, .slice d.mv.lv.a d.mv.lv.n d.mv.lv.c, .slice d.mv.tx.a d.mv.tx.n d.mv.tx.c, .int .i64 d.m.rd, .int .i64 d.m.se, .int .i64 d.m.li, .int .i64 d.m.he, .int .i64 d.m.la.c, .int .i64 d.m.la.r, .int .i64 d.m.la.q, .int .i64 d.m.la.a, .int .i64 d.m.la.b, .slice d.mv.ws.a d.mv.ws.n d.mv.ws.c, .int .i64 d.most, .int .i64 d.old, .int .i64 d.jid, .slice d.js.a d.js.n d.js.c, .slice d.bs.a d.bs.n d.bs.c, .slice d.ls.a d.ls.n d.ls.c] 77)).alloc (.cells #[.int .i64 d.id, .bool d.dead, .int .i64 d.m.id, .int .i64 d.m.rid, .slice mv.ms.a mv.ms.n mv.ms.c, .slice mv.its.a mv.its.n mv.its.c, .slice mv.lv.a mv.lv.n mv.lv.c, .slice mv.tx.a mv.tx.n mv.tx.c, .int .i64 d.m.rd, .int .i64 d.m.se, .int .i64 d.m.li, .int .i64 d.m.he, .int .i64 d.m.la.c, .int .i64 d.m.la.r, .int .i64 d.m.la.q, .int .i64 d.m.la.a, .int .i64 d.m.la.b, .slice mv.ws.a mv.ws.n mv.ws.c, .int .i64 d.most, .int .i64 d.old, .int .i64 d.jid, .slice js.a js.n js.c, .slice bs.a bs.n bs.c, .slice ls.a ls.n ls.c] 77))) := (((Below.refl _ _).alloc (by simp) _).alloc (by simp; try omega) _)
  clear hn1
  have P1 : Hid (DmO ((w.alloc (.cells #[.int .i64 d.id, .bool d.dead, .int .i64 d.m.id, .int .i64 d.m.rid, .slice d.mv.ms.a d.mv.ms.n d.mv.ms.c, .slice d.mv.its.a d.mv.its.n d.mv.its.c, .slice d.mv.lv.a d.mv.lv.n d.mv.lv.c, .slice d.mv.tx.a d.mv.tx.n d.mv.tx.c, .int .i64 d.m.rd, .int .i64 d.m.se, .int .i64 d.m.li, .int .i64 d.m.he, .int .i64 d.m.la.c, .int .i64 d.m.la.r, .int .i64 d.m.la.q, .int .i64 d.m.la.a, .int .i64 d.m.la.b, .slice d.mv.ws.a d.mv.ws.n d.mv.ws.c, .int .i64 d.most, .int .i64 d.old, .int .i64 d.jid, .slice d.js.a d.js.n d.js.c, .slice d.bs.a d.bs.n d.bs.c, .slice d.ls.a d.ls.n d.ls.c] 77)).alloc (.cells #[.int .i64 d.id, .bool d.dead, .int .i64 d.m.id, .int .i64 d.m.rid, .slice mv.ms.a mv.ms.n mv.ms.c, .slice mv.its.a mv.its.n mv.its.c, .slice mv.lv.a mv.lv.n mv.lv.c, .slice mv.tx.a mv.tx.n mv.tx.c, .int .i64 d.m.rd, .int .i64 d.m.se, .int .i64 d.m.li, .int .i64 d.m.he, .int .i64 d.m.la.c, .int .i64 d.m.la.r, .int .i64 d.m.la.q, .int .i64 d.m.la.a, .int .i64 d.m.la.b, .slice mv.ws.a mv.ws.n mv.ws.c, .int .i64 d.most, .int .i64 d.old, .int .i64 d.jid, .slice js.a js.n js.c, .slice bs.a bs.n bs.c, .slice ls.a ls.n ls.c] 77)) B1 d) := h1.out.below BW.out
  have P2 : Hid (DmO ((w.alloc (.cells #[.int .i64 d.id, .bool d.dead, .int .i64 d.m.id, .int .i64 d.m.rid, .slice d.mv.ms.a d.mv.ms.n d.mv.ms.c, .slice d.mv.its.a d.mv.its.n d.mv.its.c, .slice d.mv.lv.a d.mv.lv.n d.mv.lv.c, .slice d.mv.tx.a d.mv.tx.n d.mv.tx.c, .int .i64 d.m.rd, .int .i64 d.m.se, .int .i64 d.m.li, .int .i64 d.m.he, .int .i64 d.m.la.c, .int .i64 d.m.la.r, .int .i64 d.m.la.q, .int .i64 d.m.la.a, .int .i64 d.m.la.b, .slice d.mv.ws.a d.mv.ws.n d.mv.ws.c, .int .i64 d.most, .int .i64 d.old, .int .i64 d.jid, .slice d.js.a d.js.n d.js.c, .slice d.bs.a d.bs.n d.bs.c, .slice d.ls.a d.ls.n d.ls.c] 77)).alloc (.cells #[.int .i64 d.id, .bool d.dead, .int .i64 d.m.id, .int .i64 d.m.rid, .slice mv.ms.a mv.ms.n mv.ms.c, .slice mv.its.a mv.its.n mv.its.c, .slice mv.lv.a mv.lv.n mv.lv.c, .slice mv.tx.a mv.tx.n mv.tx.c, .int .i64 d.m.rd, .int .i64 d.m.se, .int .i64 d.m.li, .int .i64 d.m.he, .int .i64 d.m.la.c, .int .i64 d.m.la.r, .int .i64 d.m.la.q, .int .i64 d.m.la.a, .int .i64 d.m.la.b, .slice mv.ws.a mv.ws.n mv.ws.c, .int .i64 d.most, .int .i64 d.old, .int .i64 d.jid, .slice js.a js.n js.c, .slice bs.a bs.n bs.c, .slice ls.a ls.n ls.c] 77)) B2 { d with mv := mv, js := js, bs := bs, ls := ls, bu := bu, lo := lo }) := h2.out.below BW.out
  clear h1 h2
  have a0 := LA.out.cell 0
  have b0 := LB.out.cell 0
  have a1 := LA.out.cell 1
  have b1 := LB.out.cell 1
  simp only [List.getElem?_cons_succ, List.getElem?_cons_zero] at a0 b0 a1 b1
  have d0 : (d.id != d.id) = false := by simp
  have d1 : (d.dead != d.dead) = false := by simp
  have d2 : (d.most != d.most) = false := by simp
  have d3 : (d.old != d.old) = false := by simp
  go_enter Try.func65, Try.ntmps65
  go_wp2_with (first | (refine wpList_ldG rfl 74 _ rfl w.heap.size 2 rfl 77 _ LA.out [.int .i64 d.m.id, .int .i64 d.m.rid, .slice d.mv.ms.a d.mv.ms.n d.mv.ms.c, .slice d.mv.its.a d.mv.its.n d.mv.its.c, .slice d.mv.lv.a d.mv.lv.n d.mv.lv.c, .slice d.mv.tx.a d.mv.tx.n d.mv.tx.c, .int .i64 d.m.rd, .int .i64 d.m.se, .int .i64 d.m.li, .int .i64 d.m.he, .int .i64 d.m.la.c, .int .i64 d.m.la.r, .int .i64 d.m.la.q, .int .i64 d.m.la.a, .int .i64 d.m.la.b, .slice d.mv.ws.a d.mv.ws.n d.mv.ws.c] rfl _ Try.underlying74 rfl Try.sizeM ?_) | (refine wpList_ldG rfl 74 _ rfl (w.heap.size + 1) 2 rfl 77 _ LB.out [.int .i64 d.m.id, .int .i64 d.m.rid, .slice mv.ms.a mv.ms.n mv.ms.c, .slice mv.its.a mv.its.n mv.its.c, .slice mv.lv.a mv.lv.n mv.lv.c, .slice mv.tx.a mv.tx.n mv.tx.c, .int .i64 d.m.rd, .int .i64 d.m.se, .int .i64 d.m.li, .int .i64 d.m.he, .int .i64 d.m.la.c, .int .i64 d.m.la.r, .int .i64 d.m.la.q, .int .i64 d.m.la.a, .int .i64 d.m.la.b, .slice mv.ws.a mv.ws.n mv.ws.c] rfl _ Try.underlying74 rfl Try.sizeM ?_))
  generalize ((w.alloc (.cells #[.int .i64 d.id, .bool d.dead, .int .i64 d.m.id, .int .i64 d.m.rid, .slice d.mv.ms.a d.mv.ms.n d.mv.ms.c, .slice d.mv.its.a d.mv.its.n d.mv.its.c, .slice d.mv.lv.a d.mv.lv.n d.mv.lv.c, .slice d.mv.tx.a d.mv.tx.n d.mv.tx.c, .int .i64 d.m.rd, .int .i64 d.m.se, .int .i64 d.m.li, .int .i64 d.m.he, .int .i64 d.m.la.c, .int .i64 d.m.la.r, .int .i64 d.m.la.q, .int .i64 d.m.la.a, .int .i64 d.m.la.b, .slice d.mv.ws.a d.mv.ws.n d.mv.ws.c, .int .i64 d.most, .int .i64 d.old, .int .i64 d.jid, .slice d.js.a d.js.n d.js.c, .slice d.bs.a d.bs.n d.bs.c, .slice d.ls.a d.ls.n d.ls.c] 77)).alloc (.cells #[.int .i64 d.id, .bool d.dead, .int .i64 d.m.id, .int .i64 d.m.rid, .slice mv.ms.a mv.ms.n mv.ms.c, .slice mv.its.a mv.its.n mv.its.c, .slice mv.lv.a mv.lv.n mv.lv.c, .slice mv.tx.a mv.tx.n mv.tx.c, .int .i64 d.m.rd, .int .i64 d.m.se, .int .i64 d.m.li, .int .i64 d.m.he, .int .i64 d.m.la.c, .int .i64 d.m.la.r, .int .i64 d.m.la.q, .int .i64 d.m.la.a, .int .i64 d.m.la.b, .slice mv.ws.a mv.ws.n mv.ws.c, .int .i64 d.most, .int .i64 d.old, .int .i64 d.jid, .slice js.a js.n js.c, .slice bs.a bs.n bs.c, .slice ls.a ls.n ls.c] 77)) = W at *
  clear a0 b0 a1 b1
  refine (eqMate_same d.m d.mv mv B1 B2 _ P1.out.mt (show Hid (MtO W B2 d.m mv) from P2.out.mt) hs.out.mt).mono ?_
  rintro e w1 ⟨rfl, b⟩
  have z_w1 : W.heap.size ≤ w1.heap.size := b.size
  have LA : Hid (Bx w1 w.heap.size 77 [.int .i64 d.id, .bool d.dead, .int .i64 d.m.id, .int .i64 d.m.rid, .slice d.mv.ms.a d.mv.ms.n d.mv.ms.c, .slice d.mv.its.a d.mv.its.n d.mv.its.c, .slice d.mv.lv.a d.mv.lv.n d.mv.lv.c, .slice d.mv.tx.a d.mv.tx.n d.mv.tx.c, .int .i64 d.m.rd, .int .i64 d.m.se, .int .i64 d.m.li, .int .i64 d.m.he, .int .i64 d.m.la.c, .int .i64 d.m.la.r, .int .i64 d.m.la.q, .int .i64 d.m.la.a, .int .i64 d.m.la.b, .slice d.mv.ws.a d.mv.ws.n d.mv.ws.c, .int .i64 d.most, .int .i64 d.old, .int .i64 d.jid, .slice d.js.a d.js.n d.js.c, .slice d.bs.a d.bs.n d.bs.c, .slice d.ls.a d.ls.n d.ls.c]) := LA.out.later b
  have LB : Hid (Bx w1 (w.heap.size + 1) 77 [.int .i64 d.id, .bool d.dead, .int .i64 d.m.id, .int .i64 d.m.rid, .slice mv.ms.a mv.ms.n mv.ms.c, .slice mv.its.a mv.its.n mv.its.c, .slice mv.lv.a mv.lv.n mv.lv.c, .slice mv.tx.a mv.tx.n mv.tx.c, .int .i64 d.m.rd, .int .i64 d.m.se, .int .i64 d.m.li, .int .i64 d.m.he, .int .i64 d.m.la.c, .int .i64 d.m.la.r, .int .i64 d.m.la.q, .int .i64 d.m.la.a, .int .i64 d.m.la.b, .slice mv.ws.a mv.ws.n mv.ws.c, .int .i64 d.most, .int .i64 d.old, .int .i64 d.jid, .slice js.a js.n js.c, .slice bs.a bs.n bs.c, .slice ls.a ls.n ls.c]) := LB.out.later b
  have BW : Hid (Below w.heap.size w w1) := bl_next BW.out b
  have P1 : Hid (DmO w1 B1 d) := P1.out.below b
  have P2 : Hid (DmO w1 B2 { d with mv := mv, js := js, bs := bs, ls := ls, bu := bu, lo := lo }) := P2.out.below b
  clear b
  have a18 := LA.out.cell 18
  have b18 := LB.out.cell 18
  have a19 := LA.out.cell 19
  have b19 := LB.out.cell 19
  simp only [List.getElem?_cons_succ, List.getElem?_cons_zero] at a18 b18 a19 b19
  go_wp2_with (first | (refine wpList_ldG rfl 56 _ rfl w.heap.size 20 rfl 77 _ LA.out [.int .i64 d.jid, .slice d.js.a d.js.n d.js.c] rfl _ Try.underlying56 rfl Try.sizeR ?_) | (refine wpList_ldG rfl 56 _ rfl (w.heap.size + 1) 20 rfl 77 _ LB.out [.int .i64 d.jid, .slice js.a js.n js.c] rfl _ Try.underlying56 rfl Try.sizeR ?_))
  clear a18 b18 a19 b19
  refine (eqRing_same d.jid d.js.v js.v d.jms B1 B2 _ P1.out.jo (show Hid (OwnI w1 B2 js.v d.jms) from P2.out.jo) hs.out.jo).mono ?_
  rintro e w2 ⟨rfl, b⟩
  have z_w2 : w1.heap.size ≤ w2.heap.size := b.size
  have LA : Hid (Bx w2 w.heap.size 77 [.int .i64 d.id, .bool d.dead, .int .i64 d.m.id, .int .i64 d.m.rid, .slice d.mv.ms.a d.mv.ms.n d.mv.ms.c, .slice d.mv.its.a d.mv.its.n d.mv.its.c, .slice d.mv.lv.a d.mv.lv.n d.mv.lv.c, .slice d.mv.tx.a d.mv.tx.n d.mv.tx.c, .int .i64 d.m.rd, .int .i64 d.m.se, .int .i64 d.m.li, .int .i64 d.m.he, .int .i64 d.m.la.c, .int .i64 d.m.la.r, .int .i64 d.m.la.q, .int .i64 d.m.la.a, .int .i64 d.m.la.b, .slice d.mv.ws.a d.mv.ws.n d.mv.ws.c, .int .i64 d.most, .int .i64 d.old, .int .i64 d.jid, .slice d.js.a d.js.n d.js.c, .slice d.bs.a d.bs.n d.bs.c, .slice d.ls.a d.ls.n d.ls.c]) := LA.out.later b
  have LB : Hid (Bx w2 (w.heap.size + 1) 77 [.int .i64 d.id, .bool d.dead, .int .i64 d.m.id, .int .i64 d.m.rid, .slice mv.ms.a mv.ms.n mv.ms.c, .slice mv.its.a mv.its.n mv.its.c, .slice mv.lv.a mv.lv.n mv.lv.c, .slice mv.tx.a mv.tx.n mv.tx.c, .int .i64 d.m.rd, .int .i64 d.m.se, .int .i64 d.m.li, .int .i64 d.m.he, .int .i64 d.m.la.c, .int .i64 d.m.la.r, .int .i64 d.m.la.q, .int .i64 d.m.la.a, .int .i64 d.m.la.b, .slice mv.ws.a mv.ws.n mv.ws.c, .int .i64 d.most, .int .i64 d.old, .int .i64 d.jid, .slice js.a js.n js.c, .slice bs.a bs.n bs.c, .slice ls.a ls.n ls.c]) := LB.out.later b
  have BW : Hid (Below w.heap.size w w2) := bl_next BW.out b
  have P1 : Hid (DmO w2 B1 d) := P1.out.below b
  have P2 : Hid (DmO w2 B2 { d with mv := mv, js := js, bs := bs, ls := ls, bu := bu, lo := lo }) := P2.out.below b
  clear b
  have a22 := LA.out.cell 22
  have b22 := LB.out.cell 22
  simp only [List.getElem?_cons_succ, List.getElem?_cons_zero] at a22 b22
  go_wp2_with fail
  clear a22 b22
  refine (eqBus_any d.bs bs d.bu bu B1 B2 _ P1.out.bu (show Hid (BusO w2 B2 bs bu) from P2.out.bu) hb hs.out.bus.1 hs.out.bus.2).mono ?_
  rintro e w3 ⟨rfl, b⟩
  have z_w3 : w2.heap.size ≤ w3.heap.size := b.size
  have LA : Hid (Bx w3 w.heap.size 77 [.int .i64 d.id, .bool d.dead, .int .i64 d.m.id, .int .i64 d.m.rid, .slice d.mv.ms.a d.mv.ms.n d.mv.ms.c, .slice d.mv.its.a d.mv.its.n d.mv.its.c, .slice d.mv.lv.a d.mv.lv.n d.mv.lv.c, .slice d.mv.tx.a d.mv.tx.n d.mv.tx.c, .int .i64 d.m.rd, .int .i64 d.m.se, .int .i64 d.m.li, .int .i64 d.m.he, .int .i64 d.m.la.c, .int .i64 d.m.la.r, .int .i64 d.m.la.q, .int .i64 d.m.la.a, .int .i64 d.m.la.b, .slice d.mv.ws.a d.mv.ws.n d.mv.ws.c, .int .i64 d.most, .int .i64 d.old, .int .i64 d.jid, .slice d.js.a d.js.n d.js.c, .slice d.bs.a d.bs.n d.bs.c, .slice d.ls.a d.ls.n d.ls.c]) := LA.out.later b
  have LB : Hid (Bx w3 (w.heap.size + 1) 77 [.int .i64 d.id, .bool d.dead, .int .i64 d.m.id, .int .i64 d.m.rid, .slice mv.ms.a mv.ms.n mv.ms.c, .slice mv.its.a mv.its.n mv.its.c, .slice mv.lv.a mv.lv.n mv.lv.c, .slice mv.tx.a mv.tx.n mv.tx.c, .int .i64 d.m.rd, .int .i64 d.m.se, .int .i64 d.m.li, .int .i64 d.m.he, .int .i64 d.m.la.c, .int .i64 d.m.la.r, .int .i64 d.m.la.q, .int .i64 d.m.la.a, .int .i64 d.m.la.b, .slice mv.ws.a mv.ws.n mv.ws.c, .int .i64 d.most, .int .i64 d.old, .int .i64 d.jid, .slice js.a js.n js.c, .slice bs.a bs.n bs.c, .slice ls.a ls.n ls.c]) := LB.out.later b
  have BW : Hid (Below w.heap.size w w3) := bl_next BW.out b
  have P1 : Hid (DmO w3 B1 d) := P1.out.below b
  have P2 : Hid (DmO w3 B2 { d with mv := mv, js := js, bs := bs, ls := ls, bu := bu, lo := lo }) := P2.out.below b
  clear b
  have a23 := LA.out.cell 23
  have b23 := LB.out.cell 23
  simp only [List.getElem?_cons_succ, List.getElem?_cons_zero] at a23 b23
  go_wp2_with fail
  clear a23 b23
  refine (eqEvs_any d.ls ls d.lo lo B1 B2 _ P1.out.lo (show Hid (EvsO w3 B2 ls lo) from P2.out.lo) hl hs.out.los.1 hs.out.los.2).mono ?_
  rintro e w4 ⟨rfl, b⟩
  have z_w4 : w3.heap.size ≤ w4.heap.size := b.size
  have LA : Hid (Bx w4 w.heap.size 77 [.int .i64 d.id, .bool d.dead, .int .i64 d.m.id, .int .i64 d.m.rid, .slice d.mv.ms.a d.mv.ms.n d.mv.ms.c, .slice d.mv.its.a d.mv.its.n d.mv.its.c, .slice d.mv.lv.a d.mv.lv.n d.mv.lv.c, .slice d.mv.tx.a d.mv.tx.n d.mv.tx.c, .int .i64 d.m.rd, .int .i64 d.m.se, .int .i64 d.m.li, .int .i64 d.m.he, .int .i64 d.m.la.c, .int .i64 d.m.la.r, .int .i64 d.m.la.q, .int .i64 d.m.la.a, .int .i64 d.m.la.b, .slice d.mv.ws.a d.mv.ws.n d.mv.ws.c, .int .i64 d.most, .int .i64 d.old, .int .i64 d.jid, .slice d.js.a d.js.n d.js.c, .slice d.bs.a d.bs.n d.bs.c, .slice d.ls.a d.ls.n d.ls.c]) := LA.out.later b
  have LB : Hid (Bx w4 (w.heap.size + 1) 77 [.int .i64 d.id, .bool d.dead, .int .i64 d.m.id, .int .i64 d.m.rid, .slice mv.ms.a mv.ms.n mv.ms.c, .slice mv.its.a mv.its.n mv.its.c, .slice mv.lv.a mv.lv.n mv.lv.c, .slice mv.tx.a mv.tx.n mv.tx.c, .int .i64 d.m.rd, .int .i64 d.m.se, .int .i64 d.m.li, .int .i64 d.m.he, .int .i64 d.m.la.c, .int .i64 d.m.la.r, .int .i64 d.m.la.q, .int .i64 d.m.la.a, .int .i64 d.m.la.b, .slice mv.ws.a mv.ws.n mv.ws.c, .int .i64 d.most, .int .i64 d.old, .int .i64 d.jid, .slice js.a js.n js.c, .slice bs.a bs.n bs.c, .slice ls.a ls.n ls.c]) := LB.out.later b
  have BW : Hid (Below w.heap.size w w4) := bl_next BW.out b
  have P1 : Hid (DmO w4 B1 d) := P1.out.below b
  have P2 : Hid (DmO w4 B2 { d with mv := mv, js := js, bs := bs, ls := ls, bu := bu, lo := lo }) := P2.out.below b
  clear b
  go_wp2_with fail
  go_ret
  exact ⟨rfl, BW.out⟩
theorem eqDaemon_any (a b : Dm) (B1 B2 : Nat) (w : World) (h1 : Hid (DmO w B1 a)) (h2 : Hid (DmO w B2 b)) (he : Hid (a.Same b)) (hs : Hid (DmS a)) :
    Calls Try.prog 65 #[.agg #[.int .i64 a.id, .bool a.dead, .int .i64 a.m.id, .int .i64 a.m.rid, .slice a.mv.ms.a a.mv.ms.n a.mv.ms.c, .slice a.mv.its.a a.mv.its.n a.mv.its.c, .slice a.mv.lv.a a.mv.lv.n a.mv.lv.c, .slice a.mv.tx.a a.mv.tx.n a.mv.tx.c, .int .i64 a.m.rd, .int .i64 a.m.se, .int .i64 a.m.li, .int .i64 a.m.he, .int .i64 a.m.la.c, .int .i64 a.m.la.r, .int .i64 a.m.la.q, .int .i64 a.m.la.a, .int .i64 a.m.la.b, .slice a.mv.ws.a a.mv.ws.n a.mv.ws.c, .int .i64 a.most, .int .i64 a.old, .int .i64 a.jid, .slice a.js.a a.js.n a.js.c, .slice a.bs.a a.bs.n a.bs.c, .slice a.ls.a a.ls.n a.ls.c], .agg #[.int .i64 b.id, .bool b.dead, .int .i64 b.m.id, .int .i64 b.m.rid, .slice b.mv.ms.a b.mv.ms.n b.mv.ms.c, .slice b.mv.its.a b.mv.its.n b.mv.its.c, .slice b.mv.lv.a b.mv.lv.n b.mv.lv.c, .slice b.mv.tx.a b.mv.tx.n b.mv.tx.c, .int .i64 b.m.rd, .int .i64 b.m.se, .int .i64 b.m.li, .int .i64 b.m.he, .int .i64 b.m.la.c, .int .i64 b.m.la.r, .int .i64 b.m.la.q, .int .i64 b.m.la.a, .int .i64 b.m.la.b, .slice b.mv.ws.a b.mv.ws.n b.mv.ws.c, .int .i64 b.most, .int .i64 b.old, .int .i64 b.jid, .slice b.js.a b.js.n b.js.c, .slice b.bs.a b.bs.n b.bs.c, .slice b.ls.a b.ls.n b.ls.c]] w fun x w' => x = .returned (.bool true) ∧ Below w.heap.size w w' := by
  obtain ⟨e1, e2, e3, e4, e5, e6, e7, e8, e9⟩ := he.out
  obtain ⟨id, dead, m, mv, most, old, jid, jms, js, bu, bs, lo, ls⟩ := b
  dsimp only at e1 e2 e3 e4 e5 e6 e7 e8 e9
  subst e1 e2 e3 e4 e5 e6 e7
  exact eqDaemon_0 a mv js bs ls bu lo B1 B2 w h1 h2 e8 e9 hs
end Go.Proofs.Ytdodeillifoibaa


/- Events that are copied. Written by gen_cd.py. -/
namespace Go.Proofs.Ytdodeillifoibaa
open Go.RowKit Pl
set_option linter.unusedVariables false
set_option linter.unusedSimpArgs false

/-- append([]int{}, xs...), right behind the making of the empty list: as a call that gives a list of its own. -/
theorem wpList_dupI {P : Program} {w : World} {ops : Array Oper} {rest : List Oper} {o : Oper} {a : Act} {Q : Exit → Act → World → Prop}
    (hgd : o.guard = none) (s x : Operand) (t : TypeId) (ho : o.op = .call { callee := .builtin .append, args := #[s, x], argTypes := #[t, t] })
    (ht : P.underlying t = some (.slice 3)) (hinfo : (P.info? 3).map (fun i => (i.zero, i.size, i.bytes)) = some (some (.int .i64 0), 1, 8))
    (hs : a.eval s = .slice (some ⟨w.heap.size, 0, none⟩) 0 0) (u : Sv) (ys : List Int) (hx : a.eval x = .slice u.a u.n u.c) (hu : RI w u.v ys) (hn : ys.length ≤ 1048576)
    (h : ∀ (v : Sv) w', OwnI w' w.heap.size v.v ys → Below w.heap.size w w' → wpList P ops Q rest (a.put o.dst (.slice v.a v.n v.c)) w') :
    wpList P ops Q (o :: rest) a (w.alloc (.cells #[] 3)) := by
  have b : Below w.heap.size w (w.alloc (.cells #[] 3)) := (Below.refl _ _).alloc (Nat.le_refl _) _
  have o1 : OwnI (w.alloc (.cells #[] 3)) w.heap.size (.slice (some ⟨w.heap.size, 0, none⟩) 0 0) [] := OwnI.made w w.heap.size (Nat.le_refl _)
  refine wpList_catR hgd s x t ho ht hinfo w.heap.size _ [] hs o1 (.slice u.a u.n u.c) ys hx (hu.stays b) (by simp; omega) b.size (fun h => by cases h) ?_
  intro v' w' h1 h2
  rw [List.nil_append] at h1
  obtain ⟨v, rfl⟩ := h1.sv
  exact h v w' h1 (b.grown h2 b.size (fun k hk => (o1.lt k hk).1))
end Go.Proofs.Ytdodeillifoibaa


/- A function held against nil. -/
namespace Go.Proofs.Ytdodeillifoibaa
open Go.RowKit Pl
set_option linter.unusedVariables false
set_option linter.unusedSimpArgs false

theorem run_equalIn_nf (P : Program) (w : World) (d : Nat) (t : TypeId) (x y : Array TypeId) (z : Bool) (h : P.underlying t = some (.func x y z)) : (Op.equalIn (d + 1) t .nilFunc .nilFunc).run P w = .ok true w := by
  simp [Op.equalIn, run_underlying h]
theorem run_equalIn_ff (P : Program) (w : World) (d : Nat) (t : TypeId) (x y : Array TypeId) (z : Bool) (f : Fn) (a b : Array Value) (h : P.underlying t = some (.func x y z)) : (Op.equalIn (d + 1) t (.func f a b) .nilFunc).run P w = .ok false w := by
  simp [Op.equalIn, run_underlying h]
theorem run_neq_nf (P : Program) (w : World) (t : TypeId) (x y : Array TypeId) (z : Bool) (h : P.underlying t = some (.func x y z)) : (Go.binOp .neq t .nilFunc .nilFunc).run P w = .ok (.bool false) w := by
  simp only [Go.binOp]
  simp [Op.equal, Op.maxDepth, run_equalIn_nf P w 9999 t x y z h]
theorem run_neq_ff (P : Program) (w : World) (t : TypeId) (x y : Array TypeId) (z : Bool) (f : Fn) (a b : Array Value) (h : P.underlying t = some (.func x y z)) : (Go.binOp .neq t (.func f a b) .nilFunc).run P w = .ok (.bool true) w := by
  simp only [Go.binOp]
  simp [Op.equal, Op.maxDepth, run_equalIn_ff P w 9999 t x y z f a b h]
end Go.Proofs.Ytdodeillifoibaa


/- A member, a daemon measured within any budget. Written by gen_sw.py. -/
namespace Go.Proofs.Ytdodeillifoibaa
open Go.RowKit Pl
set_option linter.unusedVariables false
set_option linter.unusedSimpArgs false

set_option maxRecDepth 100000 in
set_option maxHeartbeats 2000000 in
theorem szMate_left (m : Mt) (v : Mv) (L : Nat) (hL : L ≤ 1048576) (w : World) (h : Hid (MtR w m v)) (hl : Hid (MtL m)) :
    Calls Try.prog 81 #[.agg #[.int .i64 m.id, .int .i64 m.rid, .slice v.ms.a v.ms.n v.ms.c, .slice v.its.a v.its.n v.its.c, .slice v.lv.a v.lv.n v.lv.c, .slice v.tx.a v.tx.n v.tx.c, .int .i64 m.rd, .int .i64 m.se, .int .i64 m.li, .int .i64 m.he, .int .i64 m.la.c, .int .i64 m.la.r, .int .i64 m.la.q, .int .i64 m.la.a, .int .i64 m.la.b, .slice v.ws.a v.ws.n v.ws.c], .int .i64 L] w fun e w' => LeftM m e ∧ Below w.heap.size w w' := by
  have HB : Hid (MtB (w.alloc (.cells #[.int .i64 m.id, .int .i64 m.rid, .slice v.ms.a v.ms.n v.ms.c, .slice v.its.a v.its.n v.its.c, .slice v.lv.a v.lv.n v.lv.c, .slice v.tx.a v.tx.n v.tx.c, .int .i64 m.rd, .int .i64 m.se, .int .i64 m.li, .int .i64 m.he, .int .i64 m.la.c, .int .i64 m.la.r, .int .i64 m.la.q, .int .i64 m.la.a, .int .i64 m.la.b, .slice v.ws.a v.ws.n v.ws.c] 104)) w.heap.size 104 m v) := Bx.new w 104 _
  have HL : Hid (Below w.heap.size w (w.alloc (.cells #[.int .i64 m.id, .int .i64 m.rid, .slice v.ms.a v.ms.n v.ms.c, .slice v.its.a v.its.n v.its.c, .slice v.lv.a v.lv.n v.lv.c, .slice v.tx.a v.tx.n v.tx.c, .int .i64 m.rd, .int .i64 m.se, .int .i64 m.li, .int .i64 m.he, .int .i64 m.la.c, .int .i64 m.la.r, .int .i64 m.la.q, .int .i64 m.la.a, .int .i64 m.la.b, .slice v.ws.a v.ws.n v.ws.c] 104))) := (Below.refl _ _).alloc (Nat.le_refl _) _
  have HR : Hid (MtR (w.alloc (.cells #[.int .i64 m.id, .int .i64 m.rid, .slice v.ms.a v.ms.n v.ms.c, .slice v.its.a v.its.n v.its.c, .slice v.lv.a v.lv.n v.lv.c, .slice v.tx.a v.tx.n v.tx.c, .int .i64 m.rd, .int .i64 m.se, .int .i64 m.li, .int .i64 m.he, .int .i64 m.la.c, .int .i64 m.la.r, .int .i64 m.la.q, .int .i64 m.la.a, .int .i64 m.la.b, .slice v.ws.a v.ws.n v.ws.c] 104)) m v) := h.out.stays HL.out
  have LEN : Hid (v.ms.n = m.ms.length ∧ v.lv.n = m.lv.length ∧ v.ws.n = m.la.ws.length) := ⟨RI.len h.out.ms, RI.len h.out.lv, RI.len h.out.ws⟩
  clear h
  go_enter Try.func81, Try.ntmps81
  go_wp2_with fail
  generalize w.alloc (.cells #[.int .i64 m.id, .int .i64 m.rid, .slice v.ms.a v.ms.n v.ms.c, .slice v.its.a v.its.n v.its.c, .slice v.lv.a v.lv.n v.lv.c, .slice v.tx.a v.tx.n v.tx.c, .int .i64 m.rd, .int .i64 m.se, .int .i64 m.li, .int .i64 m.he, .int .i64 m.la.c, .int .i64 m.la.r, .int .i64 m.la.q, .int .i64 m.la.a, .int .i64 m.la.b, .slice v.ws.a v.ws.n v.ws.c] 104) = W at *
  refine (szRing_left m.rid v.ms.a v.ms.n v.ms.c L _ hL (by have := LEN.out.1; have := hl.out.ms; omega)).mono ?_
  rintro e w1 ⟨hl1, b1⟩
  have HB : Hid (MtB w1 w.heap.size 104 m v) := Bx.later HB.out b1
  have HR : Hid (MtR w1 m v) := HR.out.stays b1
  have HL : Hid (Below w.heap.size w w1) := bl_next HL.out b1
  clear b1
  rcases hl1 with rfl | ⟨z1, rfl, hz1⟩
  · go_wp2_with fail
    go_ret
    exact ⟨.inl rfl, HL.out⟩
  have E1 : Hid _ := hz1
  have k1 : z1 ≤ 1048576 := by omega
  have hd1 : decide ((z1 : Int) < 0) = false := by simp
  clear hz1
  obtain ⟨⟨c0, c1, c2, c3, c4, c5⟩, ⟨c6, c7, c8, c9⟩, c10, c11, c12, c13, c14, c15⟩ := HB.out.cells
  go_wp2_with fail
  clear hd1 c0 c1 c2 c3 c4 c5 c6 c7 c8 c9 c10 c11 c12 c13 c14 c15
  refine (szIt_r v.its m.its z1 _ (show Hid (RIt w1 v.its.v m.its) from (HR.out).its) (by omega) hl.out.its hl.out.it).mono ?_
  rintro e w2 ⟨hl2, b2⟩
  have HB : Hid (MtB w2 w.heap.size 104 m v) := Bx.later HB.out b2
  have HR : Hid (MtR w2 m v) := HR.out.stays b2
  have HL : Hid (Below w.heap.size w w2) := bl_next HL.out b2
  clear b2
  rcases hl2 with rfl | ⟨z2, rfl, hz2⟩
  · go_wp2_with fail
    go_ret
    exact ⟨.inl rfl, HL.out⟩
  have E2 : Hid _ := hz2
  have k2 : z2 ≤ 1048576 := by have := hz2.1; omega
  have hd2 : decide ((z2 : Int) < 0) = false := by simp
  clear hz2
  obtain ⟨⟨c0, c1, c2, c3, c4, c5⟩, ⟨c6, c7, c8, c9⟩, c10, c11, c12, c13, c14, c15⟩ := HB.out.cells
  go_wp2_with fail
  clear hd2 c0 c1 c2 c3 c4 c5 c6 c7 c8 c9 c10 c11 c12 c13 c14 c15
  refine (szI_left v.lv.a v.lv.n v.lv.c z2 _ (by omega) (by have := LEN.out.2.1; have := hl.out.lv; omega)).mono ?_
  rintro e w3 ⟨hl3, hq3⟩
  have b3 : Below w2.heap.size w2 w3 := same_below hq3
  clear hq3
  have HB : Hid (MtB w3 w.heap.size 104 m v) := Bx.later HB.out b3
  have HR : Hid (MtR w3 m v) := HR.out.stays b3
  have HL : Hid (Below w.heap.size w w3) := bl_next HL.out b3
  clear b3
  rcases hl3 with rfl | ⟨z3, rfl, hz3⟩
  · go_wp2_with fail
    go_ret
    exact ⟨.inl rfl, HL.out⟩
  have E3 : Hid _ := hz3
  have k3 : z3 ≤ 1048576 := by omega
  have hd3 : decide ((z3 : Int) < 0) = false := by simp
  clear hz3
  obtain ⟨⟨c0, c1, c2, c3, c4, c5⟩, ⟨c6, c7, c8, c9⟩, c10, c11, c12, c13, c14, c15⟩ := HB.out.cells
  go_wp2_with fail
  clear hd3 c0 c1 c2 c3 c4 c5 c6 c7 c8 c9 c10 c11 c12 c13 c14 c15
  refine (szT_r v.tx m.tx z3 _ (show Hid (RT w3 v.tx.v m.tx) from (HR.out).tx) (by omega) hl.out.tx hl.out.te).mono ?_
  rintro e w4 ⟨hl4, hq4⟩
  have b4 : Below w3.heap.size w3 w4 := same_below hq4
  clear hq4
  have HB : Hid (MtB w4 w.heap.size 104 m v) := Bx.later HB.out b4
  have HR : Hid (MtR w4 m v) := HR.out.stays b4
  have HL : Hid (Below w.heap.size w w4) := bl_next HL.out b4
  clear b4
  rcases hl4 with rfl | ⟨z4, rfl, hz4⟩
  · go_wp2_with fail
    go_ret
    exact ⟨.inl rfl, HL.out⟩
  have E4 : Hid _ := hz4
  have k4 : z4 ≤ 1048576 := by have := hz4.out.1; omega
  have hd4 : decide ((z4 : Int) < 0) = false := by simp
  clear hz4
  obtain ⟨⟨c0, c1, c2, c3, c4, c5⟩, ⟨c6, c7, c8, c9⟩, c10, c11, c12, c13, c14, c15⟩ := HB.out.cells
  go_wp2_with fail
  clear hd4 c0 c1 c2 c3 c4 c5 c6 c7 c8 c9 c10 c11 c12 c13 c14 c15
  refine (szTok_left m.la.c m.la.r m.la.q m.la.a m.la.b v.ws.a v.ws.n v.ws.c z4 _ (by omega) (by have := LEN.out.2.2; have := hl.out.ws; omega)).mono ?_
  rintro e w5 ⟨hl5, b5⟩
  have HB : Hid (MtB w5 w.heap.size 104 m v) := Bx.later HB.out b5
  have HR : Hid (MtR w5 m v) := HR.out.stays b5
  have HL : Hid (Below w.heap.size w w5) := bl_next HL.out b5
  clear b5
  rcases hl5 with rfl | ⟨z5, rfl, hz5⟩
  · go_wp2_with fail
    go_ret
    exact ⟨.inl rfl, HL.out⟩
  have E5 : Hid _ := hz5
  have k5 : z5 ≤ 1048576 := by omega
  have hd5 : decide ((z5 : Int) < 0) = false := by simp
  clear hz5
  obtain ⟨⟨c0, c1, c2, c3, c4, c5⟩, ⟨c6, c7, c8, c9⟩, c10, c11, c12, c13, c14, c15⟩ := HB.out.cells
  go_wp2_with fail
  go_ret
  obtain ⟨q1, q3, q5⟩ := LEN.out
  have e1 := E1.out
  have e2 := E2.out
  have e3 := E3.out
  have e4 := E4.out
  have e5 := E5.out
  exact ⟨.inr ⟨z5, rfl, ⟨by omega, by omega, by omega, by omega, by omega, e2.2, e4.2, by omega⟩, by omega⟩, HL.out⟩
set_option maxRecDepth 100000 in
set_option maxHeartbeats 8000000 in
theorem szDaemon_left (d : Dm) (L : Nat) (hL : L ≤ 1048576) (w : World) (h : Hid (DmR w d)) (hl : Hid (DmL d)) :
    Calls Try.prog 59 #[.agg #[.int .i64 d.id, .bool d.dead, .int .i64 d.m.id, .int .i64 d.m.rid, .slice d.mv.ms.a d.mv.ms.n d.mv.ms.c, .slice d.mv.its.a d.mv.its.n d.mv.its.c, .slice d.mv.lv.a d.mv.lv.n d.mv.lv.c, .slice d.mv.tx.a d.mv.tx.n d.mv.tx.c, .int .i64 d.m.rd, .int .i64 d.m.se, .int .i64 d.m.li, .int .i64 d.m.he, .int .i64 d.m.la.c, .int .i64 d.m.la.r, .int .i64 d.m.la.q, .int .i64 d.m.la.a, .int .i64 d.m.la.b, .slice d.mv.ws.a d.mv.ws.n d.mv.ws.c, .int .i64 d.most, .int .i64 d.old, .int .i64 d.jid, .slice d.js.a d.js.n d.js.c, .slice d.bs.a d.bs.n d.bs.c, .slice d.ls.a d.ls.n d.ls.c], .int .i64 L] w fun x w' => (x = .returned (.int .i64 (-1)) ∨ ∃ z : Nat, x = .returned (.int .i64 z) ∧ z ≤ 1048576 ∧ Hid (DmS d)) ∧ Below w.heap.size w w' := by
  have LA : Hid (Bx (w.alloc (.cells #[.int .i64 d.id, .bool d.dead, .int .i64 d.m.id, .int .i64 d.m.rid, .slice d.mv.ms.a d.mv.ms.n d.mv.ms.c, .slice d.mv.its.a d.mv.its.n d.mv.its.c, .slice d.mv.lv.a d.mv.lv.n d.mv.lv.c, .slice d.mv.tx.a d.mv.tx.n d.mv.tx.c, .int .i64 d.m.rd, .int .i64 d.m.se, .int .i64 d.m.li, .int .i64 d.m.he, .int .i64 d.m.la.c, .int .i64 d.m.la.r, .int .i64 d.m.la.q, .int .i64 d.m.la.a, .int .i64 d.m.la.b, .slice d.mv.ws.a d.mv.ws.n d.mv.ws.c, .int .i64 d.most, .int .i64 d.old, .int .i64 d.jid, .slice d.js.a d.js.n d.js.c, .slice d.bs.a d.bs.n d.bs.c, .slice d.ls.a d.ls.n d.ls.c] 107)) w.heap.size 107 [.int .i64 d.id, .bool d.dead, .int .i64 d.m.id, .int .i64 d.m.rid, .slice d.mv.ms.a d.mv.ms.n d.mv.ms.c, .slice d.mv.its.a d.mv.its.n d.mv.its.c, .slice d.mv.lv.a d.mv.lv.n d.mv.lv.c, .slice d.mv.tx.a d.mv.tx.n d.mv.tx.c, .int .i64 d.m.rd, .int .i64 d.m.se, .int .i64 d.m.li, .int .i64 d.m.he, .int .i64 d.m.la.c, .int .i64 d.m.la.r, .int .i64 d.m.la.q, .int .i64 d.m.la.a, .int .i64 d.m.la.b, .slice d.mv.ws.a d.mv.ws.n d.mv.ws.c, .int .i64 d.most, .int .i64 d.old, .int .i64 d.jid, .slice d.js.a d.js.n d.js.c, .slice d.bs.a d.bs.n d.bs.c, .slice d.ls.a d.ls.n d.ls.c]) := by
    have h := Bx.new w 107 [.int .i64 d.id, .bool d.dead, .int .i64 d.m.id, .int .i64 d.m.rid, .slice d.mv.ms.a d.mv.ms.n d.mv.ms.c, .slice d.mv.its.a d.mv.its.n d.mv.its.c, .slice d.mv.lv.a d.mv.lv.n d.mv.lv.c, .slice d.mv.tx.a d.mv.tx.n d.mv.tx.c, .int .i64 d.m.rd, .int .i64 d.m.se, .int .i64 d.m.li, .int .i64 d.m.he, .int .i64 d.m.la.c, .int .i64 d.m.la.r, .int .i64 d.m.la.q, .int .i64 d.m.la.a, .int .i64 d.m.la.b, .slice d.mv.ws.a d.mv.ws.n d.mv.ws.c, .int .i64 d.most, .int .i64 d.old, .int .i64 d.jid, .slice d.js.a d.js.n d.js.c, .slice d.bs.a d.bs.n d.bs.c, .slice d.ls.a d.ls.n d.ls.c]
    exact h
  have BW : Hid (Below w.heap.size w (w.alloc (.cells #[.int .i64 d.id, .bool d.dead, .int .i64 d.m.id, .int .i64 d.m.rid, .slice d.mv.ms.a d.mv.ms.n d.mv.ms.c, .slice d.mv.its.a d.mv.its.n d.mv.its.c, .slice d.mv.lv.a d.mv.lv.n d.mv.lv.c, .slice d.mv.tx.a d.mv.tx.n d.mv.tx.c, .int .i64 d.m.rd, .int .i64 d.m.se, .int .i64 d.m.li, .int .i64 d.m.he, .int .i64 d.m.la.c, .int .i64 d.m.la.r, .int .i64 d.m.la.q, .int .i64 d.m.la.a, .int .i64 d.m.la.b, .slice d.mv.ws.a d.mv.ws.n d.mv.ws.c, .int .i64 d.most, .int .i64 d.old, .int .i64 d.jid, .slice d.js.a d.js.n d.js.c, .slice d.bs.a d.bs.n d.bs.c, .slice d.ls.a d.ls.n d.ls.c] 107))) := ((Below.refl _ _).alloc (by simp) _)
  have HR : Hid (DmR (w.alloc (.cells #[.int .i64 d.id, .bool d.dead, .int .i64 d.m.id, .int .i64 d.m.rid, .slice d.mv.ms.a d.mv.ms.n d.mv.ms.c, .slice d.mv.its.a d.mv.its.n d.mv.its.c, .slice d.mv.lv.a d.mv.lv.n d.mv.lv.c, .slice d.mv.tx.a d.mv.tx.n d.mv.tx.c, .int .i64 d.m.rd, .int .i64 d.m.se, .int .i64 d.m.li, .int .i64 d.m.he, .int .i64 d.m.la.c, .int .i64 d.m.la.r, .int .i64 d.m.la.q, .int .i64 d.m.la.a, .int .i64 d.m.la.b, .slice d.mv.ws.a d.mv.ws.n d.mv.ws.c, .int .i64 d.most, .int .i64 d.old, .int .i64 d.jid, .slice d.js.a d.js.n d.js.c, .slice d.bs.a d.bs.n d.bs.c, .slice d.ls.a d.ls.n d.ls.c] 107)) d) := h.out.stays BW.out
  have HJ : Hid (d.js.n = d.jms.length) := h.out.jo.len
  have hj1 : d.js.n ≤ 9223372036854775807 := by have := hl.out.jo; have := HJ.out; omega
  clear h
  go_enter Try.func59, Try.ntmps59
  go_wp2_with (first | (refine wpList_ldG rfl 104 _ rfl w.heap.size 2 rfl 107 _ LA.out [.int .i64 d.m.id, .int .i64 d.m.rid, .slice d.mv.ms.a d.mv.ms.n d.mv.ms.c, .slice d.mv.its.a d.mv.its.n d.mv.its.c, .slice d.mv.lv.a d.mv.lv.n d.mv.lv.c, .slice d.mv.tx.a d.mv.tx.n d.mv.tx.c, .int .i64 d.m.rd, .int .i64 d.m.se, .int .i64 d.m.li, .int .i64 d.m.he, .int .i64 d.m.la.c, .int .i64 d.m.la.r, .int .i64 d.m.la.q, .int .i64 d.m.la.a, .int .i64 d.m.la.b, .slice d.mv.ws.a d.mv.ws.n d.mv.ws.c] rfl _ Try.underlying104 rfl Try.sizeL ?_))
  generalize (w.alloc (.cells #[.int .i64 d.id, .bool d.dead, .int .i64 d.m.id, .int .i64 d.m.rid, .slice d.mv.ms.a d.mv.ms.n d.mv.ms.c, .slice d.mv.its.a d.mv.its.n d.mv.its.c, .slice d.mv.lv.a d.mv.lv.n d.mv.lv.c, .slice d.mv.tx.a d.mv.tx.n d.mv.tx.c, .int .i64 d.m.rd, .int .i64 d.m.se, .int .i64 d.m.li, .int .i64 d.m.he, .int .i64 d.m.la.c, .int .i64 d.m.la.r, .int .i64 d.m.la.q, .int .i64 d.m.la.a, .int .i64 d.m.la.b, .slice d.mv.ws.a d.mv.ws.n d.mv.ws.c, .int .i64 d.most, .int .i64 d.old, .int .i64 d.jid, .slice d.js.a d.js.n d.js.c, .slice d.bs.a d.bs.n d.bs.c, .slice d.ls.a d.ls.n d.ls.c] 107)) = W at *
  refine (szMate_left d.m d.mv L hL _ HR.out.mt hl.out.mt).mono ?_
  rintro x w1 ⟨rfl | ⟨z1, rfl, hm1, hz1⟩, b⟩
  · go_wp2_with fail
    go_ret
    exact ⟨.inl rfl, bl_next BW.out b⟩
  have HM : Hid (MtS d.m) := hm1
  have hd1 : decide ((z1 : Int) < 0) = false := by simp
  have LA : Hid (Bx w1 w.heap.size 107 [.int .i64 d.id, .bool d.dead, .int .i64 d.m.id, .int .i64 d.m.rid, .slice d.mv.ms.a d.mv.ms.n d.mv.ms.c, .slice d.mv.its.a d.mv.its.n d.mv.its.c, .slice d.mv.lv.a d.mv.lv.n d.mv.lv.c, .slice d.mv.tx.a d.mv.tx.n d.mv.tx.c, .int .i64 d.m.rd, .int .i64 d.m.se, .int .i64 d.m.li, .int .i64 d.m.he, .int .i64 d.m.la.c, .int .i64 d.m.la.r, .int .i64 d.m.la.q, .int .i64 d.m.la.a, .int .i64 d.m.la.b, .slice d.mv.ws.a d.mv.ws.n d.mv.ws.c, .int .i64 d.most, .int .i64 d.old, .int .i64 d.jid, .slice d.js.a d.js.n d.js.c, .slice d.bs.a d.bs.n d.bs.c, .slice d.ls.a d.ls.n d.ls.c]) := LA.out.later b
  have BW : Hid (Below w.heap.size w w1) := bl_next BW.out b
  have HR : Hid (DmR w1 d) := HR.out.stays b
  clear b hm1
  go_wp2_with (first | (refine wpList_ldG rfl 51 _ rfl w.heap.size 20 rfl 107 _ LA.out [.int .i64 d.jid, .slice d.js.a d.js.n d.js.c] rfl _ Try.underlying51 rfl Try.sizeLR ?_))
  refine (szRing_left d.jid d.js.a d.js.n d.js.c z1 _ hz1 hj1).mono ?_
  rintro x w2 ⟨rfl | ⟨z2, rfl, hz2⟩, b⟩
  · go_wp2_with fail
    go_ret
    exact ⟨.inl rfl, bl_next BW.out b⟩
  have HZ2 : Hid (z2 + d.js.n = z1) := hz2
  have hzl2 : z2 ≤ 1048576 := by omega
  have hd2 : decide ((z2 : Int) < 0) = false := by simp
  have LA : Hid (Bx w2 w.heap.size 107 [.int .i64 d.id, .bool d.dead, .int .i64 d.m.id, .int .i64 d.m.rid, .slice d.mv.ms.a d.mv.ms.n d.mv.ms.c, .slice d.mv.its.a d.mv.its.n d.mv.its.c, .slice d.mv.lv.a d.mv.lv.n d.mv.lv.c, .slice d.mv.tx.a d.mv.tx.n d.mv.tx.c, .int .i64 d.m.rd, .int .i64 d.m.se, .int .i64 d.m.li, .int .i64 d.m.he, .int .i64 d.m.la.c, .int .i64 d.m.la.r, .int .i64 d.m.la.q, .int .i64 d.m.la.a, .int .i64 d.m.la.b, .slice d.mv.ws.a d.mv.ws.n d.mv.ws.c, .int .i64 d.most, .int .i64 d.old, .int .i64 d.jid, .slice d.js.a d.js.n d.js.c, .slice d.bs.a d.bs.n d.bs.c, .slice d.ls.a d.ls.n d.ls.c]) := LA.out.later b
  have BW : Hid (Below w.heap.size w w2) := bl_next BW.out b
  have HR : Hid (DmR w2 d) := HR.out.stays b
  clear b hz2
  have c22 := LA.out.cell 22
  simp only [List.getElem?_cons_succ, List.getElem?_cons_zero] at c22
  go_wp2_with fail
  clear c22
  refine (szBundles_any d.bs d.bu z2 _ (show Hid (BusR w2 d.bs d.bu) from HR.out.bu) hzl2 hl.out.bu.1 hl.out.bu.2).mono ?_
  rintro x w3 ⟨rfl | ⟨z3, rfl, hz3⟩, b⟩
  · go_wp2_with fail
    go_ret
    exact ⟨.inl rfl, bl_next BW.out b⟩
  have hzl3 : z3 ≤ 1048576 := by have := hz3.out; omega
  have hd3 : decide ((z3 : Int) < 0) = false := by simp
  have LA : Hid (Bx w3 w.heap.size 107 [.int .i64 d.id, .bool d.dead, .int .i64 d.m.id, .int .i64 d.m.rid, .slice d.mv.ms.a d.mv.ms.n d.mv.ms.c, .slice d.mv.its.a d.mv.its.n d.mv.its.c, .slice d.mv.lv.a d.mv.lv.n d.mv.lv.c, .slice d.mv.tx.a d.mv.tx.n d.mv.tx.c, .int .i64 d.m.rd, .int .i64 d.m.se, .int .i64 d.m.li, .int .i64 d.m.he, .int .i64 d.m.la.c, .int .i64 d.m.la.r, .int .i64 d.m.la.q, .int .i64 d.m.la.a, .int .i64 d.m.la.b, .slice d.mv.ws.a d.mv.ws.n d.mv.ws.c, .int .i64 d.most, .int .i64 d.old, .int .i64 d.jid, .slice d.js.a d.js.n d.js.c, .slice d.bs.a d.bs.n d.bs.c, .slice d.ls.a d.ls.n d.ls.c]) := LA.out.later b
  have BW : Hid (Below w.heap.size w w3) := bl_next BW.out b
  have HR : Hid (DmR w3 d) := HR.out.stays b
  clear b
  have c23 := LA.out.cell 23
  simp only [List.getElem?_cons_succ, List.getElem?_cons_zero] at c23
  go_wp2_with fail
  clear c23
  refine (szEvents_any d.ls d.lo z3 _ (show Hid (EvsR w3 d.ls d.lo) from HR.out.lo) hzl3 hl.out.lo.1 hl.out.lo.2).mono ?_
  rintro x w4 ⟨rfl | ⟨z4, rfl, hz4⟩, b⟩
  · go_wp2_with fail
    go_ret
    exact ⟨.inl rfl, bl_next BW.out b⟩
  have hzl4 : z4 ≤ 1048576 := by have := hz4.out; omega
  have hd4 : decide ((z4 : Int) < 0) = false := by simp
  have LA : Hid (Bx w4 w.heap.size 107 [.int .i64 d.id, .bool d.dead, .int .i64 d.m.id, .int .i64 d.m.rid, .slice d.mv.ms.a d.mv.ms.n d.mv.ms.c, .slice d.mv.its.a d.mv.its.n d.mv.its.c, .slice d.mv.lv.a d.mv.lv.n d.mv.lv.c, .slice d.mv.tx.a d.mv.tx.n d.mv.tx.c, .int .i64 d.m.rd, .int .i64 d.m.se, .int .i64 d.m.li, .int .i64 d.m.he, .int .i64 d.m.la.c, .int .i64 d.m.la.r, .int .i64 d.m.la.q, .int .i64 d.m.la.a, .int .i64 d.m.la.b, .slice d.mv.ws.a d.mv.ws.n d.mv.ws.c, .int .i64 d.most, .int .i64 d.old, .int .i64 d.jid, .slice d.js.a d.js.n d.js.c, .slice d.bs.a d.bs.n d.bs.c, .slice d.ls.a d.ls.n d.ls.c]) := LA.out.later b
  have BW : Hid (Below w.heap.size w w4) := bl_next BW.out b
  have HR : Hid (DmR w4 d) := HR.out.stays b
  clear b
  go_wp2_with fail
  go_ret
  exact ⟨.inr ⟨z4, rfl, hzl4, ⟨HM.out, by have := HZ2.out; have := HJ.out; omega, by have := hz3.out; omega, by have := hz4.out; omega⟩⟩, BW.out⟩
end Go.Proofs.Ytdodeillifoibaa


