/- Joined texts: CHf CShr CSla CLem14 CLs CEv CEvs CIto CGp CBus CGbm CGem2 CGee CGeb CEqw CDm CGpl CLio. -/
import Derived.Test.YtdodeillifoibaaIo16
import Derived.Test.YtdodeillifoibaaIo15
import Derived.Test.YtdodeillifoibaaIo14
import Derived.Test.YtdodeillifoibaaIo8
import Derived.Test.YtdodeillifoibaaIo11
import Derived.Laws.MakeOwn
import Derived.Test.YtdodeillifoibaaIo13
import Derived.Test.YtdodeillifoibaaIo5
/- Hear. -/
namespace Go.Proofs.Ytdodeillifoibaa
open Go.RowKit Pl
set_option linter.unusedVariables false
set_option linter.unusedSimpArgs false

/-- the member behind it. -/
def Mt.hadH (m : Mt) : Mt := m.setH (m.he + m.hear.length)

end Go.Proofs.Ytdodeillifoibaa


/- What a member hears: the specification's Hear, where the member is right. Written by gen_shr.py. -/
namespace Go.Proofs.Ytdodeillifoibaa
open Go.RowKit Pl
set_option linter.unusedVariables false
set_option linter.unusedSimpArgs false
end Go.Proofs.Ytdodeillifoibaa


/- What a token wants yet: the specification's Lacks. Written by gen_sla.py. -/
namespace Go.Proofs.Ytdodeillifoibaa
open Go.RowKit Pl
set_option linter.unusedVariables false
set_option linter.unusedSimpArgs false

/-- whether a number is wanted yet. -/
def slB (ws lk : List Int) (its : List It) (n : Int) : Bool := (!hasP its n && inB ws n) || inB lk n
def slGo (ws lk : List Int) (its : List It) : Nat → Nat → List Int → List Int
  | 0, _, acc => acc
  | f + 1, n, acc => if acc.length < 20 then slGo ws lk its f (n + 1) (if slB ws lk its (n : Int) = true then acc ++ [(n : Int)] else acc) else acc
def slackP (ws : List Int) (its : List It) (q : Int) : List Int := slGo ws (missP its q) its 60 1 []
end Go.Proofs.Ytdodeillifoibaa


/- Small lemmas of round 14: rows that are read in drawn regions, lists cut, lengths of slices. -/
namespace Go.Proofs.Ytdodeillifoibaa
open Go.RowKit Pl
set_option linter.unusedVariables false
set_option linter.unusedSimpArgs false

theorem ldN_yield {P : Program} {ops : Array Oper} {o : Oper} {a : Act} {S : World → Prop} (hw : Region.wanted o (yielded ops a.tmps) = true) (ty : TypeId) (x : Operand) (ho : o.op = .load ty x) (g off : Nat) (hx : a.eval x = .pointer (some ⟨g, off, none⟩)) (cs : List Value) (hS : ∀ w, S w → w.rangeAt g off cs)
    (d : TypeDesc) (hu : P.underlying ty = some d) (hd : d.isRow = true) (hi : (P.info? ty).map (·.size) = some cs.length) : YieldsIf P ops S o (.agg cs.toArray) a :=
  yieldsIf_load_mid hw ty x ho g off hx cs d hS hu hd hi
theorem range_later {w w' : World} {g off : Nat} {cs : List Value} (h : w.rangeAt g off cs) (hg : g < w.heap.size) (b : Below w.heap.size w w') : w'.rangeAt g off cs := fun j v hv => (b.cell (p := ⟨g, off + j, none⟩) hg).trans (h j v hv)
theorem SlI.len {w : World} {B : Nat} {s : Sv} {ts : List It} (h : SlI w B s.v ts) : s.n = ts.length := by obtain ⟨a, c, h1⟩ := Sl.form h; simp only [Sv.v, Value.slice.injEq] at h1; exact h1.2.1
theorem Pl.OwnI.slen {w : World} {B : Nat} {s : Sv} {ts : List Int} (h : OwnI w B s.v ts) : s.n = ts.length := by obtain ⟨a, c, h1⟩ := h.form; simp only [Sv.v, Value.slice.injEq] at h1; exact h1.2.1
theorem Pl.OwnS.slen {w : World} {B : Nat} {s : Sv} {ts : List ByteArray} (h : OwnS w B s.v ts) : s.n = ts.length := by obtain ⟨a, c, h1⟩ := h.form; simp only [Sv.v, Value.slice.injEq] at h1; exact h1.2.1
theorem SlI.at {w : World} {B : Nat} {s : Sv} {ts : List It} (h : SlI w B s.v ts) {k : Nat} (hk : k < ts.length) : ∃ g off, s.a = some ⟨g, off, none⟩ ∧ B ≤ g ∧ g < w.heap.size ∧ w.rangeAt g (off + k * 4) [.int .i64 ts[k].1, .int .i64 ts[k].2.1, .int .i64 ts[k].2.2.1, .string ts[k].2.2.2] := by
  obtain ⟨ao, cap, h1, h2⟩ := h.rit
  have hh := h
  obtain ⟨g, off, e, hlt, c0, c1, c2, c3⟩ := h2 k hk
  simp only [Sv.v, Value.slice.injEq] at h1
  refine ⟨g, off, by rw [h1.1, e], ?_, hlt, ?_⟩
  · exact (h.lt g (by simp [Sv.v, Value.ownBlock, h1.1, e])).1
  · intro j v hv
    match j, hv with
    | 0, hv => simp at hv; subst hv; simpa using c0
    | 1, hv => simp at hv; subst hv; simpa using c1
    | 2, hv => simp at hv; subst hv; simpa using c2
    | 3, hv => simp at hv; subst hv; simpa using c3
end Go.Proofs.Ytdodeillifoibaa


/- Lists of structs: rows that are read, rows that were made. No function of the program is named here. -/
namespace Go.Proofs.Ytdodeillifoibaa
open Go.RowKit Pl
set_option linter.unusedVariables false
set_option linter.unusedSimpArgs false

/-- rows that are read. -/
def RwA (w : World) (a : Option Addr) (size : Nat) (rows : List (List Value)) : Prop :=
  ∀ i (h : i < rows.length), ∃ g off, a = some ⟨g, off, none⟩ ∧ g < w.heap.size ∧ rows[i].length = size ∧ w.rangeAt g (off + i * size) rows[i]
section
variable {w w' : World} {a : Option Addr} {size T B : Nat} {rows : List (List Value)}
theorem RwA.stays (h : RwA w a size rows) (b : Below w.heap.size w w') : RwA w' a size rows := fun i hi => by
  obtain ⟨g, off, h1, h2, h3, h4⟩ := h i hi
  exact ⟨g, off, h1, Nat.lt_of_lt_of_le h2 b.size, h3, range_later h4 h2 b⟩
theorem RwA.nil (w : World) (a : Option Addr) (size : Nat) : RwA w a size [] := fun i hi => absurd hi (Nat.not_lt_zero _)
theorem SlN.rwa {s : Sv} (h : SlN w T size B s.v rows) : RwA w s.a size rows := fun i hi => by
  obtain ⟨g, off, cap, h1, h2, h3, h4⟩ := h.read hi
  simp only [Sv.v, Value.slice.injEq] at h1
  exact ⟨g, off, h1.1, h3, h.lens _ (List.getElem_mem hi), h4⟩
theorem SlN.slen {s : Sv} (h : SlN w T size B s.v rows) : s.n = rows.length := by
  obtain ⟨s', e, hn⟩ := h.form
  simp only [Sv.v, Value.slice.injEq] at e
  omega
end
theorem made_flat (zr : List Value) (h0 : 0 < zr.length) (n : Nat) : (madeCells zr.toArray (n * zr.length)).toList = (List.replicate n zr).flatten := by
  apply List.ext_getElem?
  intro j
  have hl : ((List.replicate n zr).flatten).length = n * zr.length := by simp
  by_cases hj : j < n * zr.length
  · have hm : j % zr.length < zr.length := Nat.mod_lt _ h0
    have hd : j / zr.length < n := Nat.div_lt_of_lt_mul (by rw [Nat.mul_comm]; exact hj)
    have e : j = (j / zr.length) * zr.length + j % zr.length := by rw [Nat.mul_comm]; exact (Nat.div_add_mod j zr.length).symm
    have h1 : (madeCells zr.toArray (n * zr.length)).toList[j]? = some (zr[j % zr.length]'hm) := by simp [madeCells, hj, hm]
    rw [h1]
    have h2 : ∀ (m i r : Nat) (hr : r < zr.length), i < m → ((List.replicate m zr).flatten)[i * zr.length + r]? = zr[r]? := by
      intro m
      induction m with
      | zero => intro i r hr hi; omega
      | succ m ih =>
        intro i r hr hi
        rw [List.replicate_succ, List.flatten_cons]
        cases i with
        | zero => rw [List.getElem?_append_left (by simpa using hr)]; simp
        | succ i =>
          rw [List.getElem?_append_right (by rw [Nat.succ_mul]; omega), show (i + 1) * zr.length + r - zr.length = i * zr.length + r by rw [Nat.succ_mul]; omega]
          exact ih i r hr (by omega)
    have h3 := h2 n (j / zr.length) (j % zr.length) hm hd
    rw [← e] at h3
    rw [h3, List.getElem?_eq_getElem hm]
  · rw [List.getElem?_eq_none (by simp [madeCells]; omega), List.getElem?_eq_none (by rw [hl]; omega)]
/-- a list that was just made. -/
theorem SlN.zeros (w : World) (T : TypeId) (zr : List Value) (h0 : 0 < zr.length) (h1 : zr.all (·.oneCell') = true) (n B : Nat) (hB : B ≤ w.heap.size) (hn : n ≤ 1048576) : SlN (w.alloc (.cells (madeCells zr.toArray (n * zr.length)) T)) T zr.length B (.slice (some ⟨w.heap.size, 0, none⟩) n n) (List.replicate n zr) := by
  refine ⟨?_, fun r hr => ?_⟩
  · rw [List.length_replicate]
    refine ⟨by simp, .inr ⟨w.heap.size, 0, n, _, rfl, hB, heap_alloc_new w _, Nat.le_refl _, by unfold maxLen; omega, by rw [size_madeCells]; omega, fun j hj => ?_⟩⟩
    rw [← made_flat zr h0 n, Nat.zero_add, Array.getElem?_toList]
  · rw [(List.mem_replicate.1 hr).2]
    exact ⟨rfl, List.all_eq_true.1 h1⟩
theorem set_snoc {α : Type} (xs : List α) (z x : α) (n : Nat) : (xs ++ List.replicate (n + 1) z).set xs.length x = (xs ++ [x]) ++ List.replicate n z := by
  rw [List.set_append_right _ _ (Nat.le_refl _), Nat.sub_self, List.replicate_succ, List.set_cons_zero, List.append_assoc]
  rfl
end Go.Proofs.Ytdodeillifoibaa


/- Events in plain words and in memory; one event measured, copied, held against another. Written by gen_ev.py. -/
namespace Go.Proofs.Ytdodeillifoibaa
open Go.RowKit Pl
set_option linter.unusedVariables false
set_option linter.unusedSimpArgs false

/-- an event, and where its lists lie. -/
structure Ev where
  k : Int
  rid : Int
  ms : List Int
  q : Int
  f : Int
  l : Int
  t : ByteArray
  wi : List Int
  sm : Sv
  sw : Sv
def Ev.row (e : Ev) : List Value := [.int .i64 e.k, .int .i64 e.rid, .slice e.sm.a e.sm.n e.sm.c, .int .i64 e.q, .int .i64 e.f, .int .i64 e.l, .string e.t, .slice e.sw.a e.sw.n e.sw.c]
/-- what an event says. -/
def Ev.pl (e : Ev) : Int × Int × List Int × It × List Int := (e.k, e.rid, e.ms, (e.q, e.f, e.l, e.t), e.wi)
/-- its lists are read. -/
def Ev.R (w : World) (e : Ev) : Prop := RI w e.sm.v e.ms ∧ RI w e.sw.v e.wi
theorem Ev.R.stays {w w' : World} {e : Ev} (h : e.R w) (b : Below w.heap.size w w') : e.R w' := ⟨h.1.stays b, h.2.stays b⟩
def Ev.S (e : Ev) : Prop := e.ms.length ≤ 1048576 ∧ e.wi.length ≤ 1048576 ∧ e.t.size ≤ 1048576
def Ev.L (e : Ev) : Prop := e.ms.length ≤ 9223372036854775807 ∧ e.wi.length ≤ 9223372036854775807 ∧ e.t.size ≤ 9223372036854775807
def Ev.sz (e : Ev) : Nat := e.ms.length + e.t.size + e.wi.length
/-- its lists are of a call's own. -/
def Ev.O (w : World) (B : Nat) (e : Ev) : Prop := OwnI w B e.sm.v e.ms ∧ OwnI w B e.sw.v e.wi
theorem Ev.O.r {w : World} {B : Nat} {e : Ev} (h : e.O w B) : e.R w := ⟨h.1.ri, h.2.ri⟩
theorem szItem_left (q f l : Int) (t : ByteArray) (L : Nat) (w : World) (hL : L ≤ 1048576) (hn : t.size ≤ 9223372036854775807) :
    Calls Try.prog 51 #[.agg #[.int .i64 q, .int .i64 f, .int .i64 l, .string t], .int .i64 L] w fun e w' => Left L t.size e ∧ Below w.heap.size w w' := by
  by_cases h : L < t.size
  · exact (szItem_long q f l t L w h hn hL).mono fun e w' ⟨a, b⟩ => ⟨.inl a, b⟩
  · exact (szItem_any q f l t L w (by omega) hL).mono fun e w' ⟨a, b⟩ => ⟨.inr ⟨L - t.size, a, by omega⟩, b⟩
set_option maxRecDepth 100000 in
set_option maxHeartbeats 4000000 in
theorem szEvent_any (e : Ev) (L : Nat) (w : World) (h : Hid (e.R w)) (hl : Hid e.L) (hL : L ≤ 1048576) :
    Calls Try.prog 25 #[.agg #[.int .i64 e.k, .int .i64 e.rid, .slice e.sm.a e.sm.n e.sm.c, .int .i64 e.q, .int .i64 e.f, .int .i64 e.l, .string e.t, .slice e.sw.a e.sw.n e.sw.c], .int .i64 L] w fun x w' => Left L e.sz x ∧ Below w.heap.size w w' := by
  have LA : Hid (Bx (w.alloc (.cells #[.int .i64 e.k, .int .i64 e.rid, .slice e.sm.a e.sm.n e.sm.c, .int .i64 e.q, .int .i64 e.f, .int .i64 e.l, .string e.t, .slice e.sw.a e.sw.n e.sw.c] 55)) w.heap.size 55 [.int .i64 e.k, .int .i64 e.rid, .slice e.sm.a e.sm.n e.sm.c, .int .i64 e.q, .int .i64 e.f, .int .i64 e.l, .string e.t, .slice e.sw.a e.sw.n e.sw.c]) := by
    have h := Bx.new w 55 [.int .i64 e.k, .int .i64 e.rid, .slice e.sm.a e.sm.n e.sm.c, .int .i64 e.q, .int .i64 e.f, .int .i64 e.l, .string e.t, .slice e.sw.a e.sw.n e.sw.c]
    exact h
  have BW : Hid (Below w.heap.size w (w.alloc (.cells #[.int .i64 e.k, .int .i64 e.rid, .slice e.sm.a e.sm.n e.sm.c, .int .i64 e.q, .int .i64 e.f, .int .i64 e.l, .string e.t, .slice e.sw.a e.sw.n e.sw.c] 55))) := ((Below.refl _ _).alloc (by simp) _)
  have HS1 : Hid (e.sm.n = e.ms.length) := h.out.1.len
  have HS2 : Hid (e.sw.n = e.wi.length) := h.out.2.len
  have hx1 : e.sm.n ≤ 9223372036854775807 := by have := hl.out.1; have := HS1.out; omega
  have hx2 : e.sw.n ≤ 9223372036854775807 := by have := hl.out.2.1; have := HS2.out; omega
  go_enter Try.func25, Try.ntmps25
  go_wp2_with (first | (refine wpList_ldG rfl 51 _ rfl w.heap.size 1 rfl 55 _ LA.out [.int .i64 e.rid, .slice e.sm.a e.sm.n e.sm.c] rfl _ Try.underlying51 rfl Try.sizeLR ?_))
  generalize (w.alloc (.cells #[.int .i64 e.k, .int .i64 e.rid, .slice e.sm.a e.sm.n e.sm.c, .int .i64 e.q, .int .i64 e.f, .int .i64 e.l, .string e.t, .slice e.sw.a e.sw.n e.sw.c] 55)) = W at *
  refine (szRing_left e.rid e.sm.a e.sm.n e.sm.c L _ hL hx1).mono ?_
  rintro x w1 ⟨rfl | ⟨z1, rfl, hz1⟩, b⟩
  · go_wp2_with fail
    go_ret
    exact ⟨.inl rfl, bl_next BW.out b⟩
  have hd1 : decide ((z1 : Int) < 0) = false := by simp
  have LA : Hid (Bx w1 w.heap.size 55 [.int .i64 e.k, .int .i64 e.rid, .slice e.sm.a e.sm.n e.sm.c, .int .i64 e.q, .int .i64 e.f, .int .i64 e.l, .string e.t, .slice e.sw.a e.sw.n e.sw.c]) := LA.out.later b
  have BW : Hid (Below w.heap.size w w1) := bl_next BW.out b
  clear b
  have HZ1 : Hid (z1 + e.sm.n = L) := hz1
  have hzl1 : z1 ≤ 1048576 := by omega
  clear hz1
  go_wp2_with (first | (refine wpList_ldG rfl 53 _ rfl w.heap.size 3 rfl 55 _ LA.out [.int .i64 e.q, .int .i64 e.f, .int .i64 e.l, .string e.t] rfl _ Try.underlying53 rfl Try.sizeLI ?_))
  refine (szItem_left e.q e.f e.l e.t z1 _ hzl1 hl.out.2.2).mono ?_
  rintro x w2 ⟨rfl | ⟨z2, rfl, hz2⟩, b⟩
  · go_wp2_with fail
    go_ret
    exact ⟨.inl rfl, bl_next BW.out b⟩
  have hd2 : decide ((z2 : Int) < 0) = false := by simp
  have LA : Hid (Bx w2 w.heap.size 55 [.int .i64 e.k, .int .i64 e.rid, .slice e.sm.a e.sm.n e.sm.c, .int .i64 e.q, .int .i64 e.f, .int .i64 e.l, .string e.t, .slice e.sw.a e.sw.n e.sw.c]) := LA.out.later b
  have BW : Hid (Below w.heap.size w w2) := bl_next BW.out b
  clear b
  have HZ2 : Hid (z2 + e.t.size = z1) := hz2
  have hzl2 : z2 ≤ 1048576 := by omega
  clear hz2
  have c7 := LA.out.cell 7
  simp only [List.getElem?_cons_succ, List.getElem?_cons_zero] at c7
  go_wp2_with fail
  refine (szI_left e.sw.a e.sw.n e.sw.c z2 _ hzl2 hx2).mono ?_
  rintro x w3 ⟨rfl | ⟨z3, rfl, hz3⟩, rfl⟩
  · go_wp2_with fail
    go_ret
    exact ⟨.inl rfl, BW.out⟩
  have hd3 : decide ((z3 : Int) < 0) = false := by simp
  have HZ3 : Hid (z3 + e.sw.n = z2) := hz3
  clear hz3
  go_wp2_with fail
  go_ret
  exact ⟨.inr ⟨z3, rfl, by have := HZ1.out; have := HZ2.out; have := HZ3.out; have := HS1.out; have := HS2.out; unfold Ev.sz; omega⟩, BW.out⟩
set_option maxRecDepth 100000 in
set_option maxHeartbeats 8000000 in
theorem toEvent_any (e : Ev) (w : World) (h : Hid (e.R w)) (hs : Hid e.S) :
    Calls Try.prog 26 #[.agg #[.int .i64 e.k, .int .i64 e.rid, .slice e.sm.a e.sm.n e.sm.c, .int .i64 e.q, .int .i64 e.f, .int .i64 e.l, .string e.t, .slice e.sw.a e.sw.n e.sw.c]] w fun x w' => ∃ u1 u2 : Sv, x = .returned (.agg #[.int .i64 e.k, .int .i64 e.rid, .slice u1.a u1.n u1.c, .int .i64 e.q, .int .i64 e.f, .int .i64 e.l, .string e.t, .slice u2.a u2.n u2.c]) ∧ OwnI w' w.heap.size u1.v e.ms ∧ OwnI w' w.heap.size u2.v e.wi ∧ (∀ a c, u1.v.ownBlock = some a → u2.v.ownBlock = some c → a < c) ∧ Below w.heap.size w w' := by
  have hn1 : (w.alloc (.cells #[.int .i64 e.k, .int .i64 e.rid, .slice e.sm.a e.sm.n e.sm.c, .int .i64 e.q, .int .i64 e.f, .int .i64 e.l, .string e.t, .slice e.sw.a e.sw.n e.sw.c] 55)).heap.size = w.heap.size + 1 := by simp
  have hn2 : ((w.alloc (.cells #[.int .i64 e.k, .int .i64 e.rid, .slice e.sm.a e.sm.n e.sm.c, .int .i64 e.q, .int .i64 e.f, .int .i64 e.l, .string e.t, .slice e.sw.a e.sw.n e.sw.c] 55)).alloc (.cells #[.int .i64 0, .int .i64 0, .slice none 0 0, .int .i64 0, .int .i64 0, .int .i64 0, .string ⟨#[]⟩, .slice none 0 0] 59)).heap.size = w.heap.size + 2 := by simp
  have LA : Hid (Bx (((w.alloc (.cells #[.int .i64 e.k, .int .i64 e.rid, .slice e.sm.a e.sm.n e.sm.c, .int .i64 e.q, .int .i64 e.f, .int .i64 e.l, .string e.t, .slice e.sw.a e.sw.n e.sw.c] 55)).alloc (.cells #[.int .i64 0, .int .i64 0, .slice none 0 0, .int .i64 0, .int .i64 0, .int .i64 0, .string ⟨#[]⟩, .slice none 0 0] 59)).alloc (.cells #[.int .i64 0, .int .i64 0, .slice none 0 0, .int .i64 0, .int .i64 0, .int .i64 0, .string ⟨#[]⟩, .slice none 0 0] 59)) w.heap.size 55 [.int .i64 e.k, .int .i64 e.rid, .slice e.sm.a e.sm.n e.sm.c, .int .i64 e.q, .int .i64 e.f, .int .i64 e.l, .string e.t, .slice e.sw.a e.sw.n e.sw.c]) := by
    have h := Bx.new w 55 [.int .i64 e.k, .int .i64 e.rid, .slice e.sm.a e.sm.n e.sm.c, .int .i64 e.q, .int .i64 e.f, .int .i64 e.l, .string e.t, .slice e.sw.a e.sw.n e.sw.c]
    exact ((h).later ((Below.refl _ _).alloc (Nat.le_refl _) _)).later ((Below.refl _ _).alloc (Nat.le_refl _) _)
  have EB : Hid (Bx (((w.alloc (.cells #[.int .i64 e.k, .int .i64 e.rid, .slice e.sm.a e.sm.n e.sm.c, .int .i64 e.q, .int .i64 e.f, .int .i64 e.l, .string e.t, .slice e.sw.a e.sw.n e.sw.c] 55)).alloc (.cells #[.int .i64 0, .int .i64 0, .slice none 0 0, .int .i64 0, .int .i64 0, .int .i64 0, .string ⟨#[]⟩, .slice none 0 0] 59)).alloc (.cells #[.int .i64 0, .int .i64 0, .slice none 0 0, .int .i64 0, .int .i64 0, .int .i64 0, .string ⟨#[]⟩, .slice none 0 0] 59)) (w.heap.size + 1) 59 [.int .i64 0, .int .i64 0, .slice none 0 0, .int .i64 0, .int .i64 0, .int .i64 0, .string ⟨#[]⟩, .slice none 0 0]) := by
    have h := Bx.new (w.alloc (.cells #[.int .i64 e.k, .int .i64 e.rid, .slice e.sm.a e.sm.n e.sm.c, .int .i64 e.q, .int .i64 e.f, .int .i64 e.l, .string e.t, .slice e.sw.a e.sw.n e.sw.c] 55)) 59 [.int .i64 0, .int .i64 0, .slice none 0 0, .int .i64 0, .int .i64 0, .int .i64 0, .string ⟨#[]⟩, .slice none 0 0]
    rw [hn1] at h
    exact (h).later ((Below.refl _ _).alloc (Nat.le_refl _) _)
  have VB : Hid (Bx (((w.alloc (.cells #[.int .i64 e.k, .int .i64 e.rid, .slice e.sm.a e.sm.n e.sm.c, .int .i64 e.q, .int .i64 e.f, .int .i64 e.l, .string e.t, .slice e.sw.a e.sw.n e.sw.c] 55)).alloc (.cells #[.int .i64 0, .int .i64 0, .slice none 0 0, .int .i64 0, .int .i64 0, .int .i64 0, .string ⟨#[]⟩, .slice none 0 0] 59)).alloc (.cells #[.int .i64 0, .int .i64 0, .slice none 0 0, .int .i64 0, .int .i64 0, .int .i64 0, .string ⟨#[]⟩, .slice none 0 0] 59)) (w.heap.size + 2) 59 [.int .i64 0, .int .i64 0, .slice none 0 0, .int .i64 0, .int .i64 0, .int .i64 0, .string ⟨#[]⟩, .slice none 0 0]) := by
    have h := Bx.new ((w.alloc (.cells #[.int .i64 e.k, .int .i64 e.rid, .slice e.sm.a e.sm.n e.sm.c, .int .i64 e.q, .int .i64 e.f, .int .i64 e.l, .string e.t, .slice e.sw.a e.sw.n e.sw.c] 55)).alloc (.cells #[.int .i64 0, .int .i64 0, .slice none 0 0, .int .i64 0, .int .i64 0, .int .i64 0, .string ⟨#[]⟩, .slice none 0 0] 59)) 59 [.int .i64 0, .int .i64 0, .slice none 0 0, .int .i64 0, .int .i64 0, .int .i64 0, .string ⟨#[]⟩, .slice none 0 0]
    rw [hn2] at h
    exact h
  have BW : Hid (Below w.heap.size w (((w.alloc (.cells #[.int .i64 e.k, .int .i64 e.rid, .slice e.sm.a e.sm.n e.sm.c, .int .i64 e.q, .int .i64 e.f, .int .i64 e.l, .string e.t, .slice e.sw.a e.sw.n e.sw.c] 55)).alloc (.cells #[.int .i64 0, .int .i64 0, .slice none 0 0, .int .i64 0, .int .i64 0, .int .i64 0, .string ⟨#[]⟩, .slice none 0 0] 59)).alloc (.cells #[.int .i64 0, .int .i64 0, .slice none 0 0, .int .i64 0, .int .i64 0, .int .i64 0, .string ⟨#[]⟩, .slice none 0 0] 59))) := ((((Below.refl _ _).alloc (by simp) _).alloc (by simp; try omega) _).alloc (by simp; try omega) _)
  clear hn1 hn2
  have HR1 : Hid (RI (((w.alloc (.cells #[.int .i64 e.k, .int .i64 e.rid, .slice e.sm.a e.sm.n e.sm.c, .int .i64 e.q, .int .i64 e.f, .int .i64 e.l, .string e.t, .slice e.sw.a e.sw.n e.sw.c] 55)).alloc (.cells #[.int .i64 0, .int .i64 0, .slice none 0 0, .int .i64 0, .int .i64 0, .int .i64 0, .string ⟨#[]⟩, .slice none 0 0] 59)).alloc (.cells #[.int .i64 0, .int .i64 0, .slice none 0 0, .int .i64 0, .int .i64 0, .int .i64 0, .string ⟨#[]⟩, .slice none 0 0] 59)) e.sm.v e.ms) := h.out.1.stays BW.out
  have HR2 : Hid (RI (((w.alloc (.cells #[.int .i64 e.k, .int .i64 e.rid, .slice e.sm.a e.sm.n e.sm.c, .int .i64 e.q, .int .i64 e.f, .int .i64 e.l, .string e.t, .slice e.sw.a e.sw.n e.sw.c] 55)).alloc (.cells #[.int .i64 0, .int .i64 0, .slice none 0 0, .int .i64 0, .int .i64 0, .int .i64 0, .string ⟨#[]⟩, .slice none 0 0] 59)).alloc (.cells #[.int .i64 0, .int .i64 0, .slice none 0 0, .int .i64 0, .int .i64 0, .int .i64 0, .string ⟨#[]⟩, .slice none 0 0] 59)) e.sw.v e.wi) := h.out.2.stays BW.out
  have h0 := h
  clear h
  go_enter Try.func26, Try.ntmps26
  have c0 := LA.out.cell 0
  simp only [List.getElem?_cons_zero] at c0
  go_wp2_with (first | (with_reducible refine wpList_haltS 3 _ _ rfl ?_))
  refine Stp.go ?_
  generalize (((w.alloc (.cells #[.int .i64 e.k, .int .i64 e.rid, .slice e.sm.a e.sm.n e.sm.c, .int .i64 e.q, .int .i64 e.f, .int .i64 e.l, .string e.t, .slice e.sw.a e.sw.n e.sw.c] 55)).alloc (.cells #[.int .i64 0, .int .i64 0, .slice none 0 0, .int .i64 0, .int .i64 0, .int .i64 0, .string ⟨#[]⟩, .slice none 0 0] 59)).alloc (.cells #[.int .i64 0, .int .i64 0, .slice none 0 0, .int .i64 0, .int .i64 0, .int .i64 0, .string ⟨#[]⟩, .slice none 0 0] 59)) = W at *
  have zW : w.heap.size + 2 < W.heap.size := VB.out.lt
  clear c0
  refine wpList_st1 rfl 3 _ _ rfl (w.heap.size + 2) 0 rfl 59 _ VB.out (.int .i64 e.k) rfl (by simp) rfl Try.size3 [.int .i64 e.k, .int .i64 0, .slice none 0 0, .int .i64 0, .int .i64 0, .int .i64 0, .string ⟨#[]⟩, .slice none 0 0] rfl ?_
  intro w1 OB TB
  have z_w1 : W.heap.size ≤ w1.heap.size := Nat.le_of_eq TB.size.symm
  have LA : Hid (Bx w1 w.heap.size 55 [.int .i64 e.k, .int .i64 e.rid, .slice e.sm.a e.sm.n e.sm.c, .int .i64 e.q, .int .i64 e.f, .int .i64 e.l, .string e.t, .slice e.sw.a e.sw.n e.sw.c]) := LA.out.turn TB (by omega)
  have EB : Hid (Bx w1 (w.heap.size + 1) 59 [.int .i64 0, .int .i64 0, .slice none 0 0, .int .i64 0, .int .i64 0, .int .i64 0, .string ⟨#[]⟩, .slice none 0 0]) := EB.out.turn TB (by omega)
  have BW : Hid (Below w.heap.size w w1) := BW.out.trans (TB.below (by omega))
  have VB : Hid (Bx w1 (w.heap.size + 2) 59 [.int .i64 e.k, .int .i64 0, .slice none 0 0, .int .i64 0, .int .i64 0, .int .i64 0, .string ⟨#[]⟩, .slice none 0 0]) := OB
  clear OB TB
  have HR1 : Hid (RI w1 e.sm.v e.ms) := h0.out.1.stays BW.out
  have HR2 : Hid (RI w1 e.sw.v e.wi) := h0.out.2.stays BW.out
  go_wp2_with (first | (refine wpList_ldG rfl 51 _ rfl w.heap.size 1 rfl 55 _ LA.out [.int .i64 e.rid, .slice e.sm.a e.sm.n e.sm.c] rfl _ Try.underlying51 rfl Try.sizeLR ?_))
  refine (toRing_r e.rid e.sm e.ms _ HR1 hs.out.1).mono ?_
  rintro e w2 ⟨u1, rfl, o1, b⟩
  have zo1 : w.heap.size ≤ w1.heap.size := BW.out.size
  have O1 : Hid (OwnI w2 w.heap.size u1.v e.ms) := o1.down zo1
  have L1 : Hid (∀ a, u1.v.ownBlock = some a → a < w2.heap.size) := fun a ha => (o1.lt a ha).2
  clear o1
  have z_w2 : w1.heap.size ≤ w2.heap.size := b.size
  have LA : Hid (Bx w2 w.heap.size 55 [.int .i64 e.k, .int .i64 e.rid, .slice e.sm.a e.sm.n e.sm.c, .int .i64 e.q, .int .i64 e.f, .int .i64 e.l, .string e.t, .slice e.sw.a e.sw.n e.sw.c]) := LA.out.later b
  have EB : Hid (Bx w2 (w.heap.size + 1) 59 [.int .i64 0, .int .i64 0, .slice none 0 0, .int .i64 0, .int .i64 0, .int .i64 0, .string ⟨#[]⟩, .slice none 0 0]) := EB.out.later b
  have VB : Hid (Bx w2 (w.heap.size + 2) 59 [.int .i64 e.k, .int .i64 0, .slice none 0 0, .int .i64 0, .int .i64 0, .int .i64 0, .string ⟨#[]⟩, .slice none 0 0]) := VB.out.later b
  have BW : Hid (Below w.heap.size w w2) := bl_next BW.out b
  have HR1 : Hid (RI w2 (e.sm.v) (e.ms)) := HR1.out.stays b
  have HR2 : Hid (RI w2 (e.sw.v) (e.wi)) := HR2.out.stays b
  clear b
  go_wp2_with (first | (with_reducible refine wpList_haltS 56 _ _ rfl ?_))
  refine Stp.go ?_
  refine wpList_stB rfl 56 _ _ rfl (w.heap.size + 2) 1 rfl 59 _ VB.out [.int .i64 e.rid, .slice u1.a u1.n u1.c] rfl (by simp) Try.sizeR rfl [.int .i64 e.k, .int .i64 e.rid, .slice u1.a u1.n u1.c, .int .i64 0, .int .i64 0, .int .i64 0, .string ⟨#[]⟩, .slice none 0 0] rfl ?_
  intro w3 OB TB
  have z_w3 : w2.heap.size ≤ w3.heap.size := Nat.le_of_eq TB.size.symm
  have LA : Hid (Bx w3 w.heap.size 55 [.int .i64 e.k, .int .i64 e.rid, .slice e.sm.a e.sm.n e.sm.c, .int .i64 e.q, .int .i64 e.f, .int .i64 e.l, .string e.t, .slice e.sw.a e.sw.n e.sw.c]) := LA.out.turn TB (by omega)
  have EB : Hid (Bx w3 (w.heap.size + 1) 59 [.int .i64 0, .int .i64 0, .slice none 0 0, .int .i64 0, .int .i64 0, .int .i64 0, .string ⟨#[]⟩, .slice none 0 0]) := EB.out.turn TB (by omega)
  have BW : Hid (Below w.heap.size w w3) := BW.out.trans (TB.below (by omega))
  have O1 : Hid (OwnI w3 w.heap.size (u1.v) (e.ms)) := O1.out.past VB.out TB (by decide)
  have VB : Hid (Bx w3 (w.heap.size + 2) 59 [.int .i64 e.k, .int .i64 e.rid, .slice u1.a u1.n u1.c, .int .i64 0, .int .i64 0, .int .i64 0, .string ⟨#[]⟩, .slice none 0 0]) := OB
  clear OB TB
  have HR2 : Hid (RI w3 e.sw.v e.wi) := h0.out.2.stays BW.out
  go_wp2_with (first | (refine wpList_ldG rfl 53 _ rfl w.heap.size 3 rfl 55 _ LA.out [.int .i64 e.q, .int .i64 e.f, .int .i64 e.l, .string e.t] rfl _ Try.underlying53 rfl Try.sizeLI ?_))
  refine (toItem_any e.q e.f e.l e.t _).mono ?_
  rintro e w4 ⟨rfl, b⟩
  have z_w4 : w3.heap.size ≤ w4.heap.size := b.size
  have LA : Hid (Bx w4 w.heap.size 55 [.int .i64 e.k, .int .i64 e.rid, .slice e.sm.a e.sm.n e.sm.c, .int .i64 e.q, .int .i64 e.f, .int .i64 e.l, .string e.t, .slice e.sw.a e.sw.n e.sw.c]) := LA.out.later b
  have EB : Hid (Bx w4 (w.heap.size + 1) 59 [.int .i64 0, .int .i64 0, .slice none 0 0, .int .i64 0, .int .i64 0, .int .i64 0, .string ⟨#[]⟩, .slice none 0 0]) := EB.out.later b
  have VB : Hid (Bx w4 (w.heap.size + 2) 59 [.int .i64 e.k, .int .i64 e.rid, .slice u1.a u1.n u1.c, .int .i64 0, .int .i64 0, .int .i64 0, .string ⟨#[]⟩, .slice none 0 0]) := VB.out.later b
  have BW : Hid (Below w.heap.size w w4) := bl_next BW.out b
  have O1 : Hid (OwnI w4 w.heap.size (u1.v) (e.ms)) := O1.out.keep fun _ _ hk => (b).block _ hk
  have HR2 : Hid (RI w4 (e.sw.v) (e.wi)) := HR2.out.stays b
  clear b
  go_wp2_with (first | (with_reducible refine wpList_haltS 57 _ _ rfl ?_))
  refine Stp.go ?_
  refine wpList_stB rfl 57 _ _ rfl (w.heap.size + 2) 3 rfl 59 _ VB.out [.int .i64 e.q, .int .i64 e.f, .int .i64 e.l, .string e.t] rfl (by simp) Try.sizeI rfl [.int .i64 e.k, .int .i64 e.rid, .slice u1.a u1.n u1.c, .int .i64 e.q, .int .i64 e.f, .int .i64 e.l, .string e.t, .slice none 0 0] rfl ?_
  intro w5 OB TB
  have z_w5 : w4.heap.size ≤ w5.heap.size := Nat.le_of_eq TB.size.symm
  have LA : Hid (Bx w5 w.heap.size 55 [.int .i64 e.k, .int .i64 e.rid, .slice e.sm.a e.sm.n e.sm.c, .int .i64 e.q, .int .i64 e.f, .int .i64 e.l, .string e.t, .slice e.sw.a e.sw.n e.sw.c]) := LA.out.turn TB (by omega)
  have EB : Hid (Bx w5 (w.heap.size + 1) 59 [.int .i64 0, .int .i64 0, .slice none 0 0, .int .i64 0, .int .i64 0, .int .i64 0, .string ⟨#[]⟩, .slice none 0 0]) := EB.out.turn TB (by omega)
  have BW : Hid (Below w.heap.size w w5) := BW.out.trans (TB.below (by omega))
  have O1 : Hid (OwnI w5 w.heap.size (u1.v) (e.ms)) := O1.out.past VB.out TB (by decide)
  have VB : Hid (Bx w5 (w.heap.size + 2) 59 [.int .i64 e.k, .int .i64 e.rid, .slice u1.a u1.n u1.c, .int .i64 e.q, .int .i64 e.f, .int .i64 e.l, .string e.t, .slice none 0 0]) := OB
  clear OB TB
  have HR2 : Hid (RI w5 e.sw.v e.wi) := h0.out.2.stays BW.out
  have c7 := LA.out.cell 7
  simp only [List.getElem?_cons_succ, List.getElem?_cons_zero] at c7
  go_wp2_with fail
  clear c7
  refine (toI_r e.sw e.wi _ HR2 hs.out.2.1).mono ?_
  rintro e w6 ⟨u2, rfl, o2, b⟩
  have zo2 : w.heap.size ≤ w5.heap.size := BW.out.size
  have O2 : Hid (OwnI w6 w.heap.size u2.v e.wi) := o2.down zo2
  have UP : Hid (∀ a c, u1.v.ownBlock = some a → u2.v.ownBlock = some c → a < c) := fun a c ha hc => by have h1 := L1.out a ha; have h2 := (o2.lt c hc).1; omega
  clear o2
  have z_w6 : w5.heap.size ≤ w6.heap.size := b.size
  have LA : Hid (Bx w6 w.heap.size 55 [.int .i64 e.k, .int .i64 e.rid, .slice e.sm.a e.sm.n e.sm.c, .int .i64 e.q, .int .i64 e.f, .int .i64 e.l, .string e.t, .slice e.sw.a e.sw.n e.sw.c]) := LA.out.later b
  have EB : Hid (Bx w6 (w.heap.size + 1) 59 [.int .i64 0, .int .i64 0, .slice none 0 0, .int .i64 0, .int .i64 0, .int .i64 0, .string ⟨#[]⟩, .slice none 0 0]) := EB.out.later b
  have VB : Hid (Bx w6 (w.heap.size + 2) 59 [.int .i64 e.k, .int .i64 e.rid, .slice u1.a u1.n u1.c, .int .i64 e.q, .int .i64 e.f, .int .i64 e.l, .string e.t, .slice none 0 0]) := VB.out.later b
  have BW : Hid (Below w.heap.size w w6) := bl_next BW.out b
  have O1 : Hid (OwnI w6 w.heap.size (u1.v) (e.ms)) := O1.out.keep fun _ _ hk => (b).block _ hk
  have HR2 : Hid (RI w6 (e.sw.v) (e.wi)) := HR2.out.stays b
  clear b
  go_wp2_with (first | (with_reducible refine wpList_haltS 49 _ _ rfl ?_))
  refine Stp.go ?_
  refine wpList_st1 rfl 49 _ _ rfl (w.heap.size + 2) 7 rfl 59 _ VB.out (.slice u2.a u2.n u2.c) rfl (by simp) rfl Try.sizeNs [.int .i64 e.k, .int .i64 e.rid, .slice u1.a u1.n u1.c, .int .i64 e.q, .int .i64 e.f, .int .i64 e.l, .string e.t, .slice u2.a u2.n u2.c] rfl ?_
  intro w7 OB TB
  have z_w7 : w6.heap.size ≤ w7.heap.size := Nat.le_of_eq TB.size.symm
  have LA : Hid (Bx w7 w.heap.size 55 [.int .i64 e.k, .int .i64 e.rid, .slice e.sm.a e.sm.n e.sm.c, .int .i64 e.q, .int .i64 e.f, .int .i64 e.l, .string e.t, .slice e.sw.a e.sw.n e.sw.c]) := LA.out.turn TB (by omega)
  have EB : Hid (Bx w7 (w.heap.size + 1) 59 [.int .i64 0, .int .i64 0, .slice none 0 0, .int .i64 0, .int .i64 0, .int .i64 0, .string ⟨#[]⟩, .slice none 0 0]) := EB.out.turn TB (by omega)
  have BW : Hid (Below w.heap.size w w7) := BW.out.trans (TB.below (by omega))
  have O1 : Hid (OwnI w7 w.heap.size (u1.v) (e.ms)) := O1.out.past VB.out TB (by decide)
  have O2 : Hid (OwnI w7 w.heap.size (u2.v) (e.wi)) := O2.out.past VB.out TB (by decide)
  have VB : Hid (Bx w7 (w.heap.size + 2) 59 [.int .i64 e.k, .int .i64 e.rid, .slice u1.a u1.n u1.c, .int .i64 e.q, .int .i64 e.f, .int .i64 e.l, .string e.t, .slice u2.a u2.n u2.c]) := OB
  clear OB TB
  go_wp2_with (first | (refine wpList_ldG rfl 59 _ rfl (w.heap.size + 2) 0 rfl 59 _ VB.out [.int .i64 e.k, .int .i64 e.rid, .slice u1.a u1.n u1.c, .int .i64 e.q, .int .i64 e.f, .int .i64 e.l, .string e.t, .slice u2.a u2.n u2.c] rfl _ Try.underlying59 rfl Try.sizeEv ?_) | (with_reducible refine wpList_haltS 59 _ _ rfl ?_))
  refine Stp.go ?_
  refine wpList_stB rfl 59 _ _ rfl (w.heap.size + 1) 0 rfl 59 _ EB.out [.int .i64 e.k, .int .i64 e.rid, .slice u1.a u1.n u1.c, .int .i64 e.q, .int .i64 e.f, .int .i64 e.l, .string e.t, .slice u2.a u2.n u2.c] rfl (by simp) Try.sizeEv rfl [.int .i64 e.k, .int .i64 e.rid, .slice u1.a u1.n u1.c, .int .i64 e.q, .int .i64 e.f, .int .i64 e.l, .string e.t, .slice u2.a u2.n u2.c] rfl ?_
  intro w8 OB TB
  have z_w8 : w7.heap.size ≤ w8.heap.size := Nat.le_of_eq TB.size.symm
  have LA : Hid (Bx w8 w.heap.size 55 [.int .i64 e.k, .int .i64 e.rid, .slice e.sm.a e.sm.n e.sm.c, .int .i64 e.q, .int .i64 e.f, .int .i64 e.l, .string e.t, .slice e.sw.a e.sw.n e.sw.c]) := LA.out.turn TB (by omega)
  have VB : Hid (Bx w8 (w.heap.size + 2) 59 [.int .i64 e.k, .int .i64 e.rid, .slice u1.a u1.n u1.c, .int .i64 e.q, .int .i64 e.f, .int .i64 e.l, .string e.t, .slice u2.a u2.n u2.c]) := VB.out.turn TB (by omega)
  have BW : Hid (Below w.heap.size w w8) := BW.out.trans (TB.below (by omega))
  have O1 : Hid (OwnI w8 w.heap.size (u1.v) (e.ms)) := O1.out.past EB.out TB (by decide)
  have O2 : Hid (OwnI w8 w.heap.size (u2.v) (e.wi)) := O2.out.past EB.out TB (by decide)
  have EB : Hid (Bx w8 (w.heap.size + 1) 59 [.int .i64 e.k, .int .i64 e.rid, .slice u1.a u1.n u1.c, .int .i64 e.q, .int .i64 e.f, .int .i64 e.l, .string e.t, .slice u2.a u2.n u2.c]) := OB
  clear OB TB
  go_wp2_with fail
  refine bodyPost_ret (results_b Try.results26 (w.heap.size + 1) 59 [.int .i64 e.k, .int .i64 e.rid, .slice u1.a u1.n u1.c, .int .i64 e.q, .int .i64 e.f, .int .i64 e.l, .string e.t, .slice u2.a u2.n u2.c] _ rfl EB.out Try.underlying59 rfl Try.sizeEv) rfl ?_
  exact ⟨u1, u2, rfl, O1.out, O2.out, UP.out, BW.out⟩
set_option maxRecDepth 100000 in
set_option maxHeartbeats 8000000 in
theorem eqEvent_any (e : Ev) (a1 a2 b1 b2 : Sv) (w : World) (hs : Hid e.S) (h1 : Hid (OwnI w 0 a1.v e.ms)) (h2 : Hid (OwnI w 0 a2.v e.wi)) (h3 : Hid (OwnI w 0 b1.v e.ms)) (h4 : Hid (OwnI w 0 b2.v e.wi)) :
    Calls Try.prog 30 #[.agg #[.int .i64 e.k, .int .i64 e.rid, .slice a1.a a1.n a1.c, .int .i64 e.q, .int .i64 e.f, .int .i64 e.l, .string e.t, .slice a2.a a2.n a2.c], .agg #[.int .i64 e.k, .int .i64 e.rid, .slice b1.a b1.n b1.c, .int .i64 e.q, .int .i64 e.f, .int .i64 e.l, .string e.t, .slice b2.a b2.n b2.c]] w fun x w' => x = .returned (.bool true) ∧ Below w.heap.size w w' := by
  have hn1 : (w.alloc (.cells #[.int .i64 e.k, .int .i64 e.rid, .slice a1.a a1.n a1.c, .int .i64 e.q, .int .i64 e.f, .int .i64 e.l, .string e.t, .slice a2.a a2.n a2.c] 59)).heap.size = w.heap.size + 1 := by simp
  have LA : Hid (Bx ((w.alloc (.cells #[.int .i64 e.k, .int .i64 e.rid, .slice a1.a a1.n a1.c, .int .i64 e.q, .int .i64 e.f, .int .i64 e.l, .string e.t, .slice a2.a a2.n a2.c] 59)).alloc (.cells #[.int .i64 e.k, .int .i64 e.rid, .slice b1.a b1.n b1.c, .int .i64 e.q, .int .i64 e.f, .int .i64 e.l, .string e.t, .slice b2.a b2.n b2.c] 59)) w.heap.size 59 [.int .i64 e.k, .int .i64 e.rid, .slice a1.a a1.n a1.c, .int .i64 e.q, .int .i64 e.f, .int .i64 e.l, .string e.t, .slice a2.a a2.n a2.c]) := by
    have h := Bx.new w 59 [.int .i64 e.k, .int .i64 e.rid, .slice a1.a a1.n a1.c, .int .i64 e.q, .int .i64 e.f, .int .i64 e.l, .string e.t, .slice a2.a a2.n a2.c]
    exact (h).later ((Below.refl _ _).alloc (Nat.le_refl _) _)
  have LB : Hid (Bx ((w.alloc (.cells #[.int .i64 e.k, .int .i64 e.rid, .slice a1.a a1.n a1.c, .int .i64 e.q, .int .i64 e.f, .int .i64 e.l, .string e.t, .slice a2.a a2.n a2.c] 59)).alloc (.cells #[.int .i64 e.k, .int .i64 e.rid, .slice b1.a b1.n b1.c, .int .i64 e.q, .int .i64 e.f, .int .i64 e.l, .string e.t, .slice b2.a b2.n b2.c] 59)) (w.heap.size + 1) 59 [.int .i64 e.k, .int .i64 e.rid, .slice b1.a b1.n b1.c, .int .i64 e.q, .int .i64 e.f, .int .i64 e.l, .string e.t, .slice b2.a b2.n b2.c]) := by
    have h := Bx.new (w.alloc (.cells #[.int .i64 e.k, .int .i64 e.rid, .slice a1.a a1.n a1.c, .int .i64 e.q, .int .i64 e.f, .int .i64 e.l, .string e.t, .slice a2.a a2.n a2.c] 59)) 59 [.int .i64 e.k, .int .i64 e.rid, .slice b1.a b1.n b1.c, .int .i64 e.q, .int .i64 e.f, .int .i64 e.l, .string e.t, .slice b2.a b2.n b2.c]
    rw [hn1] at h
    exact h
  have BW : Hid (Below w.heap.size w ((w.alloc (.cells #[.int .i64 e.k, .int .i64 e.rid, .slice a1.a a1.n a1.c, .int .i64 e.q, .int .i64 e.f, .int .i64 e.l, .string e.t, .slice a2.a a2.n a2.c] 59)).alloc (.cells #[.int .i64 e.k, .int .i64 e.rid, .slice b1.a b1.n b1.c, .int .i64 e.q, .int .i64 e.f, .int .i64 e.l, .string e.t, .slice b2.a b2.n b2.c] 59))) := (((Below.refl _ _).alloc (by simp) _).alloc (by simp; try omega) _)
  clear hn1
  have H1 : Hid (OwnI ((w.alloc (.cells #[.int .i64 e.k, .int .i64 e.rid, .slice a1.a a1.n a1.c, .int .i64 e.q, .int .i64 e.f, .int .i64 e.l, .string e.t, .slice a2.a a2.n a2.c] 59)).alloc (.cells #[.int .i64 e.k, .int .i64 e.rid, .slice b1.a b1.n b1.c, .int .i64 e.q, .int .i64 e.f, .int .i64 e.l, .string e.t, .slice b2.a b2.n b2.c] 59)) 0 a1.v e.ms) := h1.out.keep fun _ _ hk => BW.out.block _ hk
  have H2 : Hid (OwnI ((w.alloc (.cells #[.int .i64 e.k, .int .i64 e.rid, .slice a1.a a1.n a1.c, .int .i64 e.q, .int .i64 e.f, .int .i64 e.l, .string e.t, .slice a2.a a2.n a2.c] 59)).alloc (.cells #[.int .i64 e.k, .int .i64 e.rid, .slice b1.a b1.n b1.c, .int .i64 e.q, .int .i64 e.f, .int .i64 e.l, .string e.t, .slice b2.a b2.n b2.c] 59)) 0 a2.v e.wi) := h2.out.keep fun _ _ hk => BW.out.block _ hk
  have H3 : Hid (OwnI ((w.alloc (.cells #[.int .i64 e.k, .int .i64 e.rid, .slice a1.a a1.n a1.c, .int .i64 e.q, .int .i64 e.f, .int .i64 e.l, .string e.t, .slice a2.a a2.n a2.c] 59)).alloc (.cells #[.int .i64 e.k, .int .i64 e.rid, .slice b1.a b1.n b1.c, .int .i64 e.q, .int .i64 e.f, .int .i64 e.l, .string e.t, .slice b2.a b2.n b2.c] 59)) 0 b1.v e.ms) := h3.out.keep fun _ _ hk => BW.out.block _ hk
  have H4 : Hid (OwnI ((w.alloc (.cells #[.int .i64 e.k, .int .i64 e.rid, .slice a1.a a1.n a1.c, .int .i64 e.q, .int .i64 e.f, .int .i64 e.l, .string e.t, .slice a2.a a2.n a2.c] 59)).alloc (.cells #[.int .i64 e.k, .int .i64 e.rid, .slice b1.a b1.n b1.c, .int .i64 e.q, .int .i64 e.f, .int .i64 e.l, .string e.t, .slice b2.a b2.n b2.c] 59)) 0 b2.v e.wi) := h4.out.keep fun _ _ hk => BW.out.block _ hk
  clear h1 h2 h3 h4
  have d0 : (e.k != e.k) = false := by simp
  have a0 := LA.out.cell 0
  have b0 := LB.out.cell 0
  simp only [List.getElem?_cons_zero] at a0 b0
  go_enter Try.func30, Try.ntmps30
  go_wp2_with (first | (refine wpList_ldG rfl 56 _ rfl w.heap.size 1 rfl 59 _ LA.out [.int .i64 e.rid, .slice a1.a a1.n a1.c] rfl _ Try.underlying56 rfl Try.sizeR ?_) | (refine wpList_ldG rfl 56 _ rfl (w.heap.size + 1) 1 rfl 59 _ LB.out [.int .i64 e.rid, .slice b1.a b1.n b1.c] rfl _ Try.underlying56 rfl Try.sizeR ?_))
  generalize ((w.alloc (.cells #[.int .i64 e.k, .int .i64 e.rid, .slice a1.a a1.n a1.c, .int .i64 e.q, .int .i64 e.f, .int .i64 e.l, .string e.t, .slice a2.a a2.n a2.c] 59)).alloc (.cells #[.int .i64 e.k, .int .i64 e.rid, .slice b1.a b1.n b1.c, .int .i64 e.q, .int .i64 e.f, .int .i64 e.l, .string e.t, .slice b2.a b2.n b2.c] 59)) = W at *
  clear a0 b0 d0
  refine (eqRing_same e.rid a1.v b1.v e.ms 0 0 _ H1 H3 hs.out.1).mono ?_
  rintro e w1 ⟨rfl, b⟩
  have z_w1 : W.heap.size ≤ w1.heap.size := b.size
  have H1 : Hid (OwnI w1 0 (a1.v) (e.ms)) := H1.out.keep fun _ _ hk => (b).block _ hk
  have H2 : Hid (OwnI w1 0 (a2.v) (e.wi)) := H2.out.keep fun _ _ hk => (b).block _ hk
  have H3 : Hid (OwnI w1 0 (b1.v) (e.ms)) := H3.out.keep fun _ _ hk => (b).block _ hk
  have H4 : Hid (OwnI w1 0 (b2.v) (e.wi)) := H4.out.keep fun _ _ hk => (b).block _ hk
  have LA : Hid (Bx w1 w.heap.size 59 [.int .i64 e.k, .int .i64 e.rid, .slice a1.a a1.n a1.c, .int .i64 e.q, .int .i64 e.f, .int .i64 e.l, .string e.t, .slice a2.a a2.n a2.c]) := LA.out.later b
  have LB : Hid (Bx w1 (w.heap.size + 1) 59 [.int .i64 e.k, .int .i64 e.rid, .slice b1.a b1.n b1.c, .int .i64 e.q, .int .i64 e.f, .int .i64 e.l, .string e.t, .slice b2.a b2.n b2.c]) := LB.out.later b
  have BW : Hid (Below w.heap.size w w1) := bl_next BW.out b
  clear b
  go_wp2_with (first | (refine wpList_ldG rfl 57 _ rfl w.heap.size 3 rfl 59 _ LA.out [.int .i64 e.q, .int .i64 e.f, .int .i64 e.l, .string e.t] rfl _ Try.underlying57 rfl Try.sizeI ?_) | (refine wpList_ldG rfl 57 _ rfl (w.heap.size + 1) 3 rfl 59 _ LB.out [.int .i64 e.q, .int .i64 e.f, .int .i64 e.l, .string e.t] rfl _ Try.underlying57 rfl Try.sizeI ?_))
  refine (eqItem_same e.q e.f e.l e.t _).mono ?_
  rintro e w2 ⟨rfl, b⟩
  have z_w2 : w1.heap.size ≤ w2.heap.size := b.size
  have H1 : Hid (OwnI w2 0 (a1.v) (e.ms)) := H1.out.keep fun _ _ hk => (b).block _ hk
  have H2 : Hid (OwnI w2 0 (a2.v) (e.wi)) := H2.out.keep fun _ _ hk => (b).block _ hk
  have H3 : Hid (OwnI w2 0 (b1.v) (e.ms)) := H3.out.keep fun _ _ hk => (b).block _ hk
  have H4 : Hid (OwnI w2 0 (b2.v) (e.wi)) := H4.out.keep fun _ _ hk => (b).block _ hk
  have LA : Hid (Bx w2 w.heap.size 59 [.int .i64 e.k, .int .i64 e.rid, .slice a1.a a1.n a1.c, .int .i64 e.q, .int .i64 e.f, .int .i64 e.l, .string e.t, .slice a2.a a2.n a2.c]) := LA.out.later b
  have LB : Hid (Bx w2 (w.heap.size + 1) 59 [.int .i64 e.k, .int .i64 e.rid, .slice b1.a b1.n b1.c, .int .i64 e.q, .int .i64 e.f, .int .i64 e.l, .string e.t, .slice b2.a b2.n b2.c]) := LB.out.later b
  have BW : Hid (Below w.heap.size w w2) := bl_next BW.out b
  clear b
  have a7 := LA.out.cell 7
  have b7 := LB.out.cell 7
  simp only [List.getElem?_cons_succ, List.getElem?_cons_zero] at a7 b7
  go_wp2_with fail
  clear a7 b7
  refine (eqI_same a2.v b2.v e.wi 0 0 _ H2.out H4.out hs.out.2.1).mono ?_
  rintro e w3 ⟨rfl, b⟩
  have z_w3 : w2.heap.size ≤ w3.heap.size := b.size
  have H1 : Hid (OwnI w3 0 (a1.v) (e.ms)) := H1.out.keep fun _ _ hk => (b).block _ hk
  have H2 : Hid (OwnI w3 0 (a2.v) (e.wi)) := H2.out.keep fun _ _ hk => (b).block _ hk
  have H3 : Hid (OwnI w3 0 (b1.v) (e.ms)) := H3.out.keep fun _ _ hk => (b).block _ hk
  have H4 : Hid (OwnI w3 0 (b2.v) (e.wi)) := H4.out.keep fun _ _ hk => (b).block _ hk
  have LA : Hid (Bx w3 w.heap.size 59 [.int .i64 e.k, .int .i64 e.rid, .slice a1.a a1.n a1.c, .int .i64 e.q, .int .i64 e.f, .int .i64 e.l, .string e.t, .slice a2.a a2.n a2.c]) := LA.out.later b
  have LB : Hid (Bx w3 (w.heap.size + 1) 59 [.int .i64 e.k, .int .i64 e.rid, .slice b1.a b1.n b1.c, .int .i64 e.q, .int .i64 e.f, .int .i64 e.l, .string e.t, .slice b2.a b2.n b2.c]) := LB.out.later b
  have BW : Hid (Below w.heap.size w w3) := bl_next BW.out b
  clear b
  go_wp2_with fail
  go_ret
  exact ⟨rfl, BW.out⟩
end Go.Proofs.Ytdodeillifoibaa


/- Lists of events that a law measures and copies. Written by gen_ls.py. -/
namespace Go.Proofs.Ytdodeillifoibaa
open Go.RowKit Pl
set_option linter.unusedVariables false
set_option linter.unusedSimpArgs false

theorem Ev.O.keep {w w' : World} {B : Nat} {e : Ev} (h : e.O w B) (hk : ∀ b, B ≤ b → b < w.heap.size → w'.heap[b]? = w.heap[b]?) : e.O w' B := ⟨h.1.keep fun b hb hl => hk b (h.1.lt b hb).1 hl, h.2.keep fun b hb hl => hk b (h.2.lt b hb).1 hl⟩
theorem Ev.O.below {w w' : World} {B : Nat} {e : Ev} (h : e.O w B) (b : Below w.heap.size w w') : e.O w' B := h.keep fun k _ hk => b.block k hk
theorem Ev.O.down {w : World} {B B' : Nat} {e : Ev} (h : e.O w B) (hB : B' ≤ B) : e.O w B' := ⟨h.1.down hB, h.2.down hB⟩
def Ev.own (e : Ev) (x : Nat) : Prop := e.sm.v.ownBlock = some x ∨ e.sw.v.ownBlock = some x
theorem Ev.O.lt {w : World} {B : Nat} {e : Ev} (h : e.O w B) (x : Nat) (hx : e.own x) : B ≤ x ∧ x < w.heap.size := by
  rcases hx with hx | hx
  · exact h.1.lt x hx
  · exact h.2.lt x hx
def Ev.Up (e : Ev) : Prop := ∀ a c, e.sm.v.ownBlock = some a → e.sw.v.ownBlock = some c → a < c
/-- a list of them that is read. -/
def EvsR (w : World) (s : Sv) (es : List Ev) : Prop := s.n = es.length ∧ RwA w s.a 8 (es.map Ev.row) ∧ ∀ e ∈ es, e.R w
theorem EvsR.stays {w w' : World} {s : Sv} {es : List Ev} (h : EvsR w s es) (b : Below w.heap.size w w') : EvsR w' s es := ⟨h.1, h.2.1.stays b, fun e he => (h.2.2 e he).stays b⟩
/-- a list of the call's own. -/
def EvsO (w : World) (B : Nat) (s : Sv) (es : List Ev) : Prop := SlN w 59 8 B s.v (es.map Ev.row) ∧ ∀ e ∈ es, e.O w B
theorem EvsO.r {w : World} {B : Nat} {s : Sv} {es : List Ev} (h : EvsO w B s es) : EvsR w s es := ⟨by have := h.1.slen; simpa using this, h.1.rwa, fun e he => (h.2 e he).r⟩
theorem EvsO.keep {w w' : World} {B : Nat} {s : Sv} {es : List Ev} (h : EvsO w B s es) (hk : ∀ b, B ≤ b → b < w.heap.size → w'.heap[b]? = w.heap[b]?) : EvsO w' B s es := ⟨h.1.keep fun b hb hl => hk b (h.1.lt b hb).1 hl, fun e he => (h.2 e he).keep hk⟩
theorem EvsO.below {w w' : World} {B : Nat} {s : Sv} {es : List Ev} (h : EvsO w B s es) (b : Below w.heap.size w w') : EvsO w' B s es := h.keep fun k _ hk => b.block k hk
theorem EvsO.down {w : World} {B B' : Nat} {s : Sv} {es : List Ev} (h : EvsO w B s es) (hB : B' ≤ B) : EvsO w B' s es := ⟨h.1.down hB, fun e he => (h.2 e he).down hB⟩
theorem EvsO.nil (w : World) (B : Nat) : EvsO w B zSv [] := ⟨SlN.nil _ _ _ _, fun e he => by cases he⟩
/-- each one's lists lie behind those of the ones ahead. -/
def EvsUp (es : List Ev) : Prop := (∀ e ∈ es, e.Up) ∧ es.Pairwise fun a b => ∀ x y, a.own x → b.own y → x < y
def Evs.tot (es : List Ev) : Nat := (es.map fun e => e.sz).sum
theorem Evs.tot_take (es : List Ev) (k : Nat) (hk : k < es.length) : Evs.tot (es.take (k + 1)) = Evs.tot (es.take k) + es[k].sz := by
  unfold Evs.tot
  rw [List.take_succ_eq_append_getElem hk, List.map_append, List.sum_append]
  simp

set_option maxRecDepth 100000 in
set_option maxHeartbeats 4000000 in
theorem szEvents_any (s : Sv) (es : List Ev) (left : Nat) (w : World) (hx : Hid (EvsR w s es)) (hleft : left ≤ 1048576) (hl : es.length ≤ 9223372036854775807) (hs : Hid (∀ e ∈ es, e.L)) :
    Calls Try.prog 7 #[.slice s.a s.n s.c, .int .i64 left] w fun x w' => (x = .returned (.int .i64 (-1)) ∨ ∃ z : Nat, x = .returned (.int .i64 z) ∧ Hid (z + (es.length + Evs.tot es) ≤ left)) ∧ Below w.heap.size w w' := by
  obtain ⟨a, n, c⟩ := s
  dsimp only
  have HN : Hid (n = es.length) := hx.out.1
  have hn : n ≤ 9223372036854775807 := by have := HN.out; omega
  clear hl
  by_cases h1 : left < n
  · have hd : decide ((left : Int) - (n : Int) < 0) = true := by simp; omega
    go_enter Try.func7, Try.ntmps7
    go_wp2_with fail
    go_ret
    exact ⟨.inl rfl, Below.refl _ _⟩
  have hd : decide ((left : Int) - (n : Int) < 0) = false := by simp; omega
  go_enter Try.func7, Try.ntmps7
  go_wp2_with fail
  clear hd
  go_loopw [1, 5] (fun lf i wr => ∃ (k z : Nat), k ≤ n ∧ z ≤ 1048576 ∧ lf = .int .i64 z ∧ i = .int .i64 k ∧ Hid (z + (es.length + Evs.tot (es.take k)) ≤ left) ∧ Hid (Below w.heap.size w wr)) (fun _ i _ => n - (intOf i).toNat)
  case atStart => exact ⟨0, left - n, Nat.zero_le _, by omega, by congr 1; omega, rfl, (by have := HN.out; simp [Evs.tot]; omega : left - n + (es.length + Evs.tot (es.take 0)) ≤ left), Below.refl _ _⟩
  case round =>
    obtain ⟨k, z, hk, hz, rfl, rfl, hsm, hb⟩ := hrel
    by_cases hlt : k < n
    · have hlt2 : k < es.length := by have := HN.out; omega
      obtain ⟨g, off, ha, hg, _, hr⟩ := (hx.out.stays hb.out).2.1 k (by simpa using hlt2)
      obtain ⟨e, he⟩ : ∃ e, e = es[k] := ⟨_, rfl⟩
      have hr2 : wr.rangeAt g (off + k * 8) e.row := by rw [he]; simpa using hr
      have HR : Hid (wr.rangeAt g (off + k * 8) e.row) := hr2
      have HE : Hid (e = es[k]) := he
      have RR : Hid (e.R wr) := by rw [he]; exact (hx.out.stays hb.out).2.2 _ (List.getElem_mem hlt2)
      have LL : Hid e.L := by rw [he]; exact hs.out _ (List.getElem_mem hlt2)
      have ha : a = some ⟨g, off, none⟩ := ha
      subst ha
      have i0 : (0 : Int) ≤ (k : Int) := by omega
      have i1 : (k : Int) < (n : Int) := by omega
      clear hr hr2 he hg
      go_wp2_with (first | (refine wpList_ldN rfl 55 _ rfl g (off + k * 8) (by rfl) e.row HR.out _ Try.underlying55 rfl Try.sizeLEv ?_))
      refine (szEvent_any e z _ RR LL (by omega)).mono ?_
      rintro x w1 ⟨rfl | ⟨r, rfl, hr1⟩, hb1⟩
      · go_wp2_with fail
        go_ret
        exact ⟨.inl rfl, bl_nxt hb.out hb1⟩
      · have B1 : Hid (Below w.heap.size w w1) := bl_nxt hb.out hb1
        have HR1 : Hid (r + e.sz ≤ z) := (by omega : r + e.sz ≤ z)
        have hrz : r ≤ 1048576 := by omega
        have hd : decide ((r : Int) < 0) = false := by simp
        have HS2 : Hid (r + (es.length + Evs.tot (es.take (k + 1))) ≤ left) := by
          have h1 := hsm.out
          have h2 := HR1.out
          have h3 := Evs.tot_take es k hlt2
          rw [← HE.out] at h3
          show _ ≤ _
          omega
        clear hb1 hr1 HR
        go_wp2_with fail
        go_roundw
        case rel => exact ⟨k + 1, r, by omega, hrz, rfl, by go_num, HS2, B1⟩
        case measure => simp [intOf]; omega
    · obtain rfl : k = n := by omega
      go_wp2_with fail
      go_ret
      exact ⟨.inr ⟨z, rfl, by have := hsm.out; rwa [HN.out, List.take_of_length_le (Nat.le_refl _)] at this⟩, hb.out⟩
theorem Try.infoEv : (Try.prog.info? 59).map (fun i => (i.zero, i.size, i.bytes)) = some (some (.agg #[.int .i64 0, .int .i64 0, .slice none 0 0, .int .i64 0, .int .i64 0, .int .i64 0, .string ⟨#[]⟩, .slice none 0 0]), 8, 104) := by kernel_rfl
set_option maxRecDepth 100000 in
set_option maxHeartbeats 8000000 in
theorem toEvents_any (s : Sv) (es : List Ev) (w : World) (hx : Hid (EvsR w s es)) (hl : es.length ≤ 1048576) (hs : Hid (∀ e ∈ es, e.S)) :
    Calls Try.prog 9 #[.slice s.a s.n s.c] w fun x w' => ∃ (u : Sv) (cs : List Ev), x = .returned (.slice u.a u.n u.c) ∧ cs.map Ev.pl = es.map Ev.pl ∧ EvsO w' w.heap.size u cs ∧ EvsUp cs ∧ (∀ b, u.v.ownBlock = some b → b = w.heap.size ∧ ∀ e ∈ cs, ∀ x, e.own x → b < x) ∧ Below w.heap.size w w' := by
  obtain ⟨a, n, c⟩ := s
  dsimp only
  have HN : Hid (n = es.length) := hx.out.1
  have hn : n ≤ 1048576 := by have := HN.out; omega
  clear hl
  obtain ⟨i0, hi, hz0, hz1, hz2⟩ := info_parts Try.infoEv
  obtain ⟨A, hA⟩ : ∃ A : Array Value, A = madeCells (Value.agg #[.int .i64 0, .int .i64 0, .slice none 0 0, .int .i64 0, .int .i64 0, .int .i64 0, .string ⟨#[]⟩, .slice none 0 0]).cells (n * 8) := ⟨_, rfl⟩
  have hmk : ∀ W : World, (Instr.makeSlice 26 (.int .i64 (n : Int)) (.int .i64 (n : Int))).run Try.prog W = .ok (.slice (some ⟨W.heap.size, 0, none⟩) n n) (W.alloc (.cells A 59)) := fun W => by
    have h := run_make (P := Try.prog) W 26 59 i0 _ Try.underlying26 hi hz0 .i64 .i64 (n : Int) (n : Int) (by omega) (by omega) (by rw [hz2]; omega) (by omega)
    rw [hz1, Int.toNat_natCast, ← hA] at h
    simpa using h
  have H0 : Hid (SlN (w.alloc (.cells A 59)) 59 8 w.heap.size (.slice (some ⟨w.heap.size, 0, none⟩) n n) (List.replicate n [.int .i64 0, .int .i64 0, .slice none 0 0, .int .i64 0, .int .i64 0, .int .i64 0, .string ⟨#[]⟩, .slice none 0 0])) := by rw [hA]; exact SlN.zeros w 59 [.int .i64 0, .int .i64 0, .slice none 0 0, .int .i64 0, .int .i64 0, .int .i64 0, .string ⟨#[]⟩, .slice none 0 0] (by simp) rfl n w.heap.size (Nat.le_refl _) hn
  clear hA
  have HB0 : Hid (Below w.heap.size w (w.alloc (.cells A 59))) := (Below.refl _ _).alloc (Nat.le_refl _) _
  have HZ0 : Hid (w.heap.size < (w.alloc (.cells A 59)).heap.size) := (by simp : _ < _)
  go_enter Try.func9, Try.ntmps9
  go_wp2_with fail
  generalize w.alloc (.cells A 59) = W at *
  clear hmk hi hz0 hz1 hz2
  go_loopw [4] (fun i wr => ∃ (k : Nat) (cs : List Ev), k ≤ n ∧ i = .int .i64 k ∧ Hid (cs.length = k) ∧ Hid (cs.map Ev.pl = (es.take k).map Ev.pl) ∧ Hid (SlN wr 59 8 w.heap.size (.slice (some ⟨w.heap.size, 0, none⟩) n n) (cs.map Ev.row ++ List.replicate (n - k) ([.int .i64 0, .int .i64 0, .slice none 0 0, .int .i64 0, .int .i64 0, .int .i64 0, .string ⟨#[]⟩, .slice none 0 0] : List Value))) ∧ Hid (∀ c ∈ cs, c.O wr (w.heap.size + 1)) ∧ Hid (EvsUp cs) ∧ Hid (w.heap.size < wr.heap.size) ∧ Hid (Below w.heap.size w wr)) (fun i _ => n - (intOf i).toNat)
  case atStart => exact ⟨0, [], Nat.zero_le _, rfl, rfl, rfl, (by have h := H0.out; simpa using h : SlN _ _ _ _ _ _), (fun c hc => (by cases hc) : ∀ c ∈ ([] : List Ev), _), ⟨fun e he => (by cases he), List.Pairwise.nil⟩, HZ0, HB0⟩
  case round =>
    obtain ⟨k, cs, hk, rfl, hcl, hpl, hrow, hown, hup, hzl, hb⟩ := hrel
    clear H0 HB0 HZ0
    by_cases hlt : k < n
    · have hlt2 : k < es.length := by have := HN.out; omega
      obtain ⟨g, off, ha, hg, _, hr⟩ := (hx.out.stays hb.out).2.1 k (by simpa using hlt2)
      obtain ⟨e, he⟩ : ∃ e, e = es[k] := ⟨_, rfl⟩
      have hr2 : wr.rangeAt g (off + k * 8) e.row := by rw [he]; simpa using hr
      have HR : Hid (wr.rangeAt g (off + k * 8) e.row) := hr2
      have HE : Hid (e = es[k]) := he
      have RR : Hid (e.R wr) := by rw [he]; exact (hx.out.stays hb.out).2.2 _ (List.getElem_mem hlt2)
      have SS : Hid e.S := by rw [he]; exact hs.out _ (List.getElem_mem hlt2)
      have ha : a = some ⟨g, off, none⟩ := ha
      subst ha
      have i0 : (0 : Int) ≤ (k : Int) := by omega
      have i1 : (k : Int) < (n : Int) := by omega
      clear hr hr2 he hg
      go_wp2_with (first | (refine wpList_ldN rfl 55 _ rfl g (off + k * 8) (by rfl) e.row HR.out _ Try.underlying55 rfl Try.sizeLEv ?_))
      refine (toEvent_any e _ RR SS).mono ?_
      rintro x w1 ⟨u1, u2, rfl, o1, o2, up, b1⟩
      obtain ⟨c1, hc⟩ : ∃ c : Ev, c = { e with sm := u1, sw := u2 } := ⟨_, rfl⟩
      have CO : Hid (c1.O w1 wr.heap.size) := by rw [hc]; exact ⟨o1, o2⟩
      have CU : Hid c1.Up := by rw [hc]; exact up
      have CP : Hid (c1.pl = e.pl) := by rw [hc]; exact rfl
      have CR : Hid (([.int .i64 e.k, .int .i64 e.rid, .slice u1.a u1.n u1.c, .int .i64 e.q, .int .i64 e.f, .int .i64 e.l, .string e.t, .slice u2.a u2.n u2.c] : List Value) = c1.row) := by rw [hc]; rfl
      have B1 : Hid (Below w.heap.size w w1) := bl_nxt hb.out b1
      have R1 : Hid (SlN w1 59 8 w.heap.size (.slice (some ⟨w.heap.size, 0, none⟩) n n) (cs.map Ev.row ++ List.replicate (n - k) ([.int .i64 0, .int .i64 0, .slice none 0 0, .int .i64 0, .int .i64 0, .int .i64 0, .string ⟨#[]⟩, .slice none 0 0] : List Value))) := hrow.out.below b1
      have O1 : Hid (∀ c ∈ cs, c.O w1 (w.heap.size + 1)) := fun c hc => (hown.out c hc).below b1
      have LT : Hid (∀ c ∈ cs, ∀ x, c.own x → x < wr.heap.size) := fun c hc x hx => ((hown.out c hc).lt x hx).2
      have ZL : Hid (w.heap.size + 1 ≤ wr.heap.size) := hzl.out
      have ZL1 : Hid (w.heap.size < w1.heap.size) := Nat.lt_of_lt_of_le hzl.out b1.size
      clear HR b1 hrow hown hb hc hzl
      go_wp2_with (first | (with_reducible refine wpList_haltS 59 _ _ rfl ?_))
      refine Stp.go ?_
      have HL : n = (cs.map Ev.row ++ List.replicate (n - k) ([.int .i64 0, .int .i64 0, .slice none 0 0, .int .i64 0, .int .i64 0, .int .i64 0, .string ⟨#[]⟩, .slice none 0 0] : List Value)).length := by have := hcl.out; simp; omega
      have R2 : SlN w1 59 8 w.heap.size (.slice (some ⟨w.heap.size, 0, none⟩) (cs.map Ev.row ++ List.replicate (n - k) ([.int .i64 0, .int .i64 0, .slice none 0 0, .int .i64 0, .int .i64 0, .int .i64 0, .string ⟨#[]⟩, .slice none 0 0] : List Value)).length n) (cs.map Ev.row ++ List.replicate (n - k) ([.int .i64 0, .int .i64 0, .slice none 0 0, .int .i64 0, .int .i64 0, .int .i64 0, .string ⟨#[]⟩, .slice none 0 0] : List Value)) := by rw [← HL]; exact R1.out
      refine wpList_stN (i := k) rfl 59 _ _ rfl R2 (by rw [← HL]; exact hlt) (by rw [Nat.zero_add]; rfl) ([.int .i64 e.k, .int .i64 e.rid, .slice u1.a u1.n u1.c, .int .i64 e.q, .int .i64 e.f, .int .i64 e.l, .string e.t, .slice u2.a u2.n u2.c]) rfl rfl rfl Try.sizeEv ?_
      intro w2 R3 T3
      rw [← HL, CR.out] at R3
      have e3 : (cs.map Ev.row ++ List.replicate (n - k) ([.int .i64 0, .int .i64 0, .slice none 0 0, .int .i64 0, .int .i64 0, .int .i64 0, .string ⟨#[]⟩, .slice none 0 0] : List Value)).set k c1.row = (cs ++ [c1]).map Ev.row ++ List.replicate (n - (k + 1)) ([.int .i64 0, .int .i64 0, .slice none 0 0, .int .i64 0, .int .i64 0, .int .i64 0, .string ⟨#[]⟩, .slice none 0 0] : List Value) := by
        have h := set_snoc (cs.map Ev.row) [.int .i64 0, .int .i64 0, .slice none 0 0, .int .i64 0, .int .i64 0, .int .i64 0, .string ⟨#[]⟩, .slice none 0 0] c1.row (n - (k + 1))
        rw [show n - (k + 1) + 1 = n - k by omega, List.length_map, hcl.out] at h
        rw [h, List.map_append]
        rfl
      rw [e3] at R3
      have R4 : Hid (SlN w2 59 8 w.heap.size (.slice (some ⟨w.heap.size, 0, none⟩) n n) ((cs ++ [c1]).map Ev.row ++ List.replicate (n - (k + 1)) ([.int .i64 0, .int .i64 0, .slice none 0 0, .int .i64 0, .int .i64 0, .int .i64 0, .string ⟨#[]⟩, .slice none 0 0] : List Value))) := R3
      have T4 : Hid (TurnAt w.heap.size w1 w2) := T3
      clear R1 R2 R3 T3 HL e3 CR
      go_wp2_with fail
      go_roundw
      case rel =>
        have kp : ∀ c : Ev, c.O w1 (w.heap.size + 1) → c.O w2 (w.heap.size + 1) := fun c h => h.keep fun b hb _ => T4.out.block b (by omega)
        refine ⟨k + 1, cs ++ [c1], by omega, by go_num, (by have := hcl.out; simp; omega : _ = _), ?_, R4, fun x hx => ?_, ⟨fun x hx => ?_, ?_⟩, (by have h := T4.out.size; have := ZL1.out; omega : _ < _), B1.out.trans (T4.out.below (Nat.le_refl _))⟩
        · show _ = _
          rw [List.map_append, hpl.out, List.take_succ_eq_append_getElem hlt2, List.map_append, ← HE.out]
          simp [CP.out]
        · rcases List.mem_append.1 hx with h | h
          · exact kp _ (O1.out x h)
          · rw [List.mem_singleton.1 h]; exact kp _ (CO.out.down ZL.out)
        · rcases List.mem_append.1 hx with h | h
          · exact hup.out.1 x h
          · rw [List.mem_singleton.1 h]; exact CU.out
        · refine List.pairwise_append.2 ⟨hup.out.2, List.pairwise_singleton _ _, fun a ha b hb x y hx hy => ?_⟩
          rw [List.mem_singleton.1 hb] at hy
          have h1 := LT.out a ha x hx
          have h2 := (CO.out.lt y hy).1
          omega
      case measure => simp [intOf]; omega
    · obtain rfl : k = n := by omega
      go_wp2_with fail
      go_ret
      have hr := hrow.out
      rw [Nat.sub_self, List.replicate_zero, List.append_nil] at hr
      refine ⟨⟨some ⟨w.heap.size, 0, none⟩, _, _⟩, cs, rfl, ?_, ⟨hr, fun e he => (hown.out e he).down (Nat.le_succ _)⟩, hup.out, fun b hb => ?_, hb.out⟩
      · have h := hpl.out
        rwa [HN.out, List.take_of_length_le (Nat.le_refl _)] at h
      · simp [Sv.v, Value.ownBlock] at hb
        subst hb
        exact ⟨rfl, fun e he x hx => by have := ((hown.out e he).lt x hx).1; omega⟩
end Go.Proofs.Ytdodeillifoibaa


/- The items of a ring in a log: both ItemsOf. -/
namespace Go.Proofs.Ytdodeillifoibaa
open Go.RowKit Pl
set_option linter.unusedVariables false
set_option linter.unusedSimpArgs false

/-- the item of an event. -/
def Ev.it (e : Ev) : It := (e.q, e.f, e.l, e.t)
/-- of a kind, and of a ring. -/
def Ev.isB (e : Ev) (k c : Int) : Bool := e.k == k && e.rid == c
/-- the items of a ring in a log. -/
def itemsP (c : Int) (es : List Ev) : List It := (es.filter fun e => e.isB 1 c).map Ev.it
theorem itemsP_step {c : Int} {es : List Ev} {k : Nat} (hk : k < es.length) : itemsP c (es.take (k + 1)) = itemsP c (es.take k) ++ if es[k].isB 1 c = true then [es[k].it] else [] := by
  unfold itemsP
  rw [List.take_succ_eq_append_getElem hk, List.filter_append, List.map_append]
  congr 1
  by_cases h : es[k].isB 1 c = true <;> simp [h]
theorem itemsP_len (c : Int) (es : List Ev) : (itemsP c es).length ≤ es.length := by
  unfold itemsP; rw [List.length_map]; exact List.length_filter_le _ _
theorem range_sub {w : World} {g off : Nat} {cs ds : List Value} (h : w.rangeAt g off cs) (k : Nat) (hp : ∀ j v, ds[j]? = some v → cs[k + j]? = some v) : w.rangeAt g (off + k) ds := fun j v hv => by
  rw [Nat.add_assoc]; exact h _ _ (hp j v hv)
theorem Ev.rng {w : World} {g off : Nat} {e : Ev} (h : w.rangeAt g off e.row) : w.cell? ⟨g, off, none⟩ = some (.int .i64 e.k) ∧ w.cell? ⟨g, off + 1, none⟩ = some (.int .i64 e.rid) ∧ w.rangeAt g (off + 3) [.int .i64 e.q, .int .i64 e.f, .int .i64 e.l, .string e.t] := by
  refine ⟨h 0 _ rfl, h 1 _ rfl, range_sub h 3 fun j v hv => ?_⟩
  match j, hv with
  | 0, hv => exact hv
  | 1, hv => exact hv
  | 2, hv => exact hv
  | 3, hv => exact hv
  | j + 4, hv => simp at hv

set_option maxRecDepth 100000 in
set_option maxHeartbeats 2000000 in
theorem evIs_any (e : Ev) (k c : Int) (w : World) :
    Calls Try.prog 27 #[.agg #[.int .i64 e.k, .int .i64 e.rid, .slice e.sm.a e.sm.n e.sm.c, .int .i64 e.q, .int .i64 e.f, .int .i64 e.l, .string e.t, .slice e.sw.a e.sw.n e.sw.c], .int .i64 k, .int .i64 c] w fun x w' => x = .returned (.bool (e.isB k c)) ∧ Below w.heap.size w w' := by
  have LA : Bx (w.alloc (.cells #[.int .i64 e.k, .int .i64 e.rid, .slice e.sm.a e.sm.n e.sm.c, .int .i64 e.q, .int .i64 e.f, .int .i64 e.l, .string e.t, .slice e.sw.a e.sw.n e.sw.c] 59)) w.heap.size 59 [.int .i64 e.k, .int .i64 e.rid, .slice e.sm.a e.sm.n e.sm.c, .int .i64 e.q, .int .i64 e.f, .int .i64 e.l, .string e.t, .slice e.sw.a e.sw.n e.sw.c] := Bx.new w 59 _
  have BW : Hid (Below w.heap.size w (w.alloc (.cells #[.int .i64 e.k, .int .i64 e.rid, .slice e.sm.a e.sm.n e.sm.c, .int .i64 e.q, .int .i64 e.f, .int .i64 e.l, .string e.t, .slice e.sw.a e.sw.n e.sw.c] 59))) := (Below.refl _ _).alloc (Nat.le_refl _) _
  have c0 := LA.cell 0
  have c1 := LA.cell 1
  simp only [List.getElem?_cons_succ, List.getElem?_cons_zero] at c0 c1
  clear LA
  go_enter Try.func27, Try.ntmps27
  cases h : e.k == k
  · go_wp2_with fail
    go_ret
    exact ⟨by simp [Ev.isB, h], (Below.refl _ _).alloc (Nat.le_refl _) _⟩
  · go_wp2_with fail
    go_ret
    exact ⟨by simp [Ev.isB, h], (Below.refl _ _).alloc (Nat.le_refl _) _⟩

set_option maxRecDepth 100000 in
set_option maxHeartbeats 4000000 in
theorem itemsOf_any (s : Sv) (es : List Ev) (c : Int) (w : World) (hx : Hid (EvsR w s es)) (hl : es.length ≤ 1048576) (hs : Hid (∀ e ∈ es, e.S)) :
    Calls Try.prog 10 #[.slice s.a s.n s.c, .int .i64 c] w fun x w' => ∃ u : Sv, x = .returned (.slice u.a u.n u.c) ∧ SlI w' w.heap.size u.v (itemsP c es) ∧ Below w.heap.size w w' := by
  obtain ⟨a, n, cp⟩ := s
  dsimp only
  have HN : Hid (n = es.length) := hx.out.1
  have hn : n ≤ 1048576 := by have := HN.out; omega
  clear hl
  have V0 : Hid (SlI (w.alloc (.cells #[] 57)) w.heap.size (.slice (some ⟨w.heap.size, 0, none⟩) 0 0) []) := SlI.made w w.heap.size (Nat.le_refl _)
  have B0 : Hid (Below w.heap.size w (w.alloc (.cells #[] 57))) := (Below.refl _ _).alloc (Nat.le_refl _) _
  go_enter Try.func10, Try.ntmps10
  go_wp2_with fail
  generalize w.alloc (.cells #[] 57) = W0 at *
  go_loopw [5, 10] (fun v i wr => ∃ k : Nat, k ≤ n ∧ i = .int .i64 k ∧ Hid (SlI wr w.heap.size v (itemsP c (es.take k))) ∧ Hid (Below w.heap.size w wr)) (fun _ i _ => n - (intOf i).toNat)
  case atStart => exact ⟨0, Nat.zero_le _, rfl, V0, B0⟩
  case round =>
    clear V0 B0
    obtain ⟨k, hk, rfl, hS, hb⟩ := hrel
    by_cases hlt : k < n
    · have hlt2 : k < es.length := by have := HN.out; omega
      obtain ⟨g, off, ha, hg, _, hr⟩ := (hx.out.stays hb.out).2.1 k (by simpa using hlt2)
      obtain ⟨e, he⟩ : ∃ e, e = es[k] := ⟨_, rfl⟩
      have hr2 : wr.rangeAt g (off + k * 8) e.row := by rw [he]; simpa using hr
      have HR : Hid (wr.rangeAt g (off + k * 8) e.row) := hr2
      have HE : Hid (e = es[k]) := he
      have HG : Hid (g < wr.heap.size) := hg
      have SS : Hid e.S := by rw [he]; exact hs.out _ (List.getElem_mem hlt2)
      have ha : a = some ⟨g, off, none⟩ := ha
      subst ha
      have i0 : (0 : Int) ≤ (k : Int) := by omega
      have i1 : (k : Int) < (n : Int) := by omega
      clear hr hr2 he hg
      go_wp2_with (first | (refine wpList_ldN rfl 59 _ rfl g (off + k * 8) (by rfl) e.row HR.out _ Try.underlying59 rfl Try.sizeEv ?_))
      refine (evIs_any e 1 c _).mono ?_
      rintro x w1 ⟨rfl, b1⟩
      have S1 : Hid (SlI w1 w.heap.size u5 (itemsP c (es.take k))) := hS.out.below b1
      have R1 : Hid (w1.rangeAt g (off + k * 8) e.row) := range_later HR.out HG.out b1
      have B1 : Hid (Below w.heap.size w w1) := bl_nxt hb.out b1
      clear b1 HR HG hS hb
      cases hq : e.isB 1 c
      · go_wp2_with fail
        go_roundw
        case rel => exact ⟨k + 1, by omega, by go_num, (by rw [itemsP_step hlt2, ← HE.out, hq]; simpa using S1.out : SlI _ _ _ _), B1⟩
        case measure => simp [intOf]; omega
      · go_wp2_with (first | (refine wpList_ldN rfl 57 _ rfl g (off + k * 8 + 3) (by rfl) [.int .i64 e.q, .int .i64 e.f, .int .i64 e.l, .string e.t] (Ev.rng R1.out).2.2 _ Try.underlying57 rfl Try.sizeI ?_))
        refine (copyItem_any e.q e.f e.l e.t _ SS.out.2.2).mono ?_
        rintro x w2 ⟨rfl, b2⟩
        have S2 : SlI w2 w.heap.size u5 (itemsP c (es.take k)) := S1.out.below b2
        have B2 : Below w.heap.size w w2 := bl_nxt B1.out b2
        have z2 : w.heap.size ≤ w2.heap.size := B2.size
        have hlk : (itemsP c (es.take k)).length ≤ 1048576 := by have := itemsP_len c (es.take k); rw [List.length_take] at this; omega
        clear b2 S1 B1 R1
        go_wp2_with (at_builtin; refine wpList_pushIt rfl _ _ 24 rfl Try.underlying24 w.heap.size u5 (itemsP c (es.take k)) rfl S2 e.it rfl hlk z2 ?_; intro v2 w3 S3 g3 b3 _)
        have S4 : Hid (SlI w3 w.heap.size v2 (itemsP c (es.take (k + 1)))) := by rw [itemsP_step hlt2, ← HE.out, hq]; exact S3
        have B4 : Hid (Below w.heap.size w w3) := B2.trans b3
        go_roundw
        case rel => exact ⟨k + 1, by omega, by go_num, S4, B4⟩
        case measure => simp [intOf]; omega
    · obtain rfl : k = n := by omega
      go_wp2_with fail
      go_ret
      have h := hS.out
      rw [List.take_of_length_le (by have := HN.out; omega)] at h
      obtain ⟨u, rfl⟩ := SlI.sv h
      exact ⟨u, rfl, h, hb.out⟩
set_option maxRecDepth 100000 in
set_option maxHeartbeats 4000000 in
theorem spItemsOf_any (s : Sv) (es : List Ev) (c : Int) (w : World) (hx : Hid (EvsR w s es)) (hl : es.length ≤ 1048576) :
    Calls Try.prog 8 #[.slice s.a s.n s.c, .int .i64 c] w fun x w' => ∃ u : Sv, x = .returned (.slice u.a u.n u.c) ∧ SlI w' w.heap.size u.v (itemsP c es) ∧ Below w.heap.size w w' := by
  obtain ⟨a, n, cp⟩ := s
  dsimp only
  have HN : Hid (n = es.length) := hx.out.1
  have hn : n ≤ 1048576 := by have := HN.out; omega
  clear hl
  have V0 : Hid (SlI (w.alloc (.cells #[] 57)) w.heap.size (.slice (some ⟨w.heap.size, 0, none⟩) 0 0) []) := SlI.made w w.heap.size (Nat.le_refl _)
  have B0 : Hid (Below w.heap.size w (w.alloc (.cells #[] 57))) := (Below.refl _ _).alloc (Nat.le_refl _) _
  go_enter Try.func8, Try.ntmps8
  go_wp2_with fail
  generalize w.alloc (.cells #[] 57) = W0 at *
  go_loopw [5, 6] (fun v i wr => ∃ k : Nat, k ≤ n ∧ i = .int .i64 k ∧ Hid (SlI wr w.heap.size v (itemsP c (es.take k))) ∧ Hid (Below w.heap.size w wr)) (fun _ i _ => n - (intOf i).toNat)
  case atStart => exact ⟨0, Nat.zero_le _, rfl, V0, B0⟩
  case round =>
    clear V0 B0
    obtain ⟨k, hk, rfl, hS, hb⟩ := hrel
    by_cases hlt : k < n
    · have hlt2 : k < es.length := by have := HN.out; omega
      obtain ⟨g, off, ha, hg, _, hr⟩ := (hx.out.stays hb.out).2.1 k (by simpa using hlt2)
      obtain ⟨e, he⟩ : ∃ e, e = es[k] := ⟨_, rfl⟩
      have hr2 : wr.rangeAt g (off + k * 8) e.row := by rw [he]; simpa using hr
      have HR : Hid (wr.rangeAt g (off + k * 8) e.row) := hr2
      have HE : Hid (e = es[k]) := he
      have HG : Hid (g < wr.heap.size) := hg
      have ha : a = some ⟨g, off, none⟩ := ha
      subst ha
      have i0 : (0 : Int) ≤ (k : Int) := by omega
      have i1 : (k : Int) < (n : Int) := by omega
      clear hr hr2 he hg
      obtain ⟨c0, c1, _⟩ := Ev.rng HR.out
      have R1 : Hid (wr.rangeAt g (off + k * 8) e.row) := HR.out
      have S1 : SlI wr w.heap.size u5 (itemsP c (es.take k)) := hS.out
      have z2 : w.heap.size ≤ wr.heap.size := hb.out.size
      have hlk : (itemsP c (es.take k)).length ≤ 1048576 := by have := itemsP_len c (es.take k); rw [List.length_take] at this; omega
      cases hq1 : e.k == 1
      · go_wp2_with fail
        go_roundw
        case rel => exact ⟨k + 1, by omega, by go_num, (by rw [itemsP_step hlt2, ← HE.out]; simpa [Ev.isB, hq1] using S1 : SlI _ _ _ _), hb⟩
        case measure => simp [intOf]; omega
      cases hq2 : e.rid == c
      · go_wp2_with fail
        go_roundw
        case rel => exact ⟨k + 1, by omega, by go_num, (by rw [itemsP_step hlt2, ← HE.out]; simpa [Ev.isB, hq1, hq2] using S1 : SlI _ _ _ _), hb⟩
        case measure => simp [intOf]; omega
      clear hS HR
      go_wp2_with (first | (refine wpList_ldN rfl 57 _ rfl g (off + k * 8 + 3) (by rfl) [.int .i64 e.q, .int .i64 e.f, .int .i64 e.l, .string e.t] (Ev.rng R1.out).2.2 _ Try.underlying57 rfl Try.sizeI ?_) | (at_builtin; refine wpList_pushIt rfl _ _ 24 rfl Try.underlying24 w.heap.size u5 (itemsP c (es.take k)) rfl S1 e.it rfl hlk z2 ?_; intro v2 w3 S3 g3 b3 _))
      have S4 : Hid (SlI w3 w.heap.size v2 (itemsP c (es.take (k + 1)))) := (by rw [itemsP_step hlt2, ← HE.out]; simpa [Ev.isB, hq1, hq2] using S3 : SlI _ _ _ _)
      have B4 : Hid (Below w.heap.size w w3) := hb.out.trans b3
      go_roundw
      case rel => exact ⟨k + 1, by omega, by go_num, S4, B4⟩
      case measure => simp [intOf]; omega
    · obtain rfl : k = n := by omega
      go_wp2_with fail
      go_ret
      have h := hS.out
      rw [List.take_of_length_le (by have := HN.out; omega)] at h
      obtain ⟨u, rfl⟩ := SlI.sv h
      exact ⟨u, rfl, h, hb.out⟩
end Go.Proofs.Ytdodeillifoibaa


/- The places of a list of structs, whose fields are numbers, texts and lists: where each lies, that none is there twice. No function of the program is named here. -/
namespace Go.Proofs.Ytdodeillifoibaa
open Go.RowKit Pl
set_option linter.unusedVariables false
set_option linter.unusedSimpArgs false

/-- a field: the cell c of a row (of the kind d), or a list s whose elements have the kinds ds. -/
structure Fd where
  c : Nat
  d : Nat
  s : Option Sv
  ds : List Nat
def svB (s : Sv) : Nat := (s.a.map (·.block)).getD 0
def svO (s : Sv) : Nat := (s.a.map (·.off)).getD 0
def sps (ds : List Nat) (s : Sv) : List Spot := (List.range (s.n * ds.length)).map fun t => (svB s, svO s + t, ds.getD (t % ds.length) 0)
def Fd.sp (g o : Nat) (f : Fd) : List Spot := match f.s with | none => [(g, o + f.c, f.d)] | some s => sps f.ds s
def pc (g o : Nat) (fs : List Fd) : List Spot := fs.flatMap (Fd.sp g o)
/-- the block of a list that has something. -/
def Fd.ow (f : Fd) (x : Nat) : Prop := ∃ s, f.s = some s ∧ 0 < s.n ∧ svB s = x
/-- a list that lies there. -/
def LvS (w : World) (s : Sv) (k : Nat) : Prop := 0 < s.n → s.a = some ⟨svB s, svO s, none⟩ ∧ svB s < w.heap.size ∧ (∀ t, t < s.n * k → ∃ u, w.cell? ⟨svB s, svO s + t, none⟩ = some u) ∧ ∀ t, w.frozen? ⟨svB s, t, none⟩ = false
abbrev Ne2 (a b : Spot) : Prop := ¬ (a.1 = b.1 ∧ a.2.1 = b.2.1)
theorem sps_len (ds : List Nat) (s : Sv) : (sps ds s).length = s.n * ds.length := by simp [sps]
theorem sps_at {ds : List Nat} {s : Sv} {t : Nat} (h : t < s.n * ds.length) : (sps ds s)[t]? = some (svB s, svO s + t, ds.getD (t % ds.length) 0) := by simp [sps, h]
theorem sps_mem {ds : List Nat} {s : Sv} {x : Spot} (h : x ∈ sps ds s) : x.1 = svB s ∧ ∃ t, t < s.n * ds.length ∧ x.2.1 = svO s + t := by
  unfold sps at h
  obtain ⟨t, ht, rfl⟩ := List.mem_map.1 h
  exact ⟨rfl, t, List.mem_range.1 ht, rfl⟩
theorem sps_pos {ds : List Nat} {s : Sv} {x : Spot} (h : x ∈ sps ds s) : 0 < s.n := by
  obtain ⟨_, t, ht, _⟩ := sps_mem h
  rcases Nat.eq_zero_or_pos s.n with h0 | h0
  · rw [h0, Nat.zero_mul] at ht; omega
  · exact h0
theorem sps_nd (ds : List Nat) (s : Sv) : (sps ds s).Pairwise Ne2 := by
  unfold sps
  rw [List.pairwise_map]
  exact List.Pairwise.imp (fun h => fun e => by have := e.2; simp at this; omega) List.pairwise_lt_range
theorem Fd.sp_mem {g o : Nat} {f : Fd} {x : Spot} (h : x ∈ f.sp g o) : (f.s = none ∧ x.1 = g ∧ x.2.1 = o + f.c) ∨ (∃ s, f.s = some s ∧ x ∈ sps f.ds s) := by
  unfold Fd.sp at h
  cases hs : f.s with
  | none => rw [hs] at h; simp at h; subst h; exact .inl ⟨rfl, rfl, rfl⟩
  | some s => rw [hs] at h; exact .inr ⟨s, rfl, h⟩
theorem Fd.sp_nd (g o : Nat) (f : Fd) : (f.sp g o).Pairwise Ne2 := by
  unfold Fd.sp
  cases f.s with
  | none => exact List.pairwise_singleton _ _
  | some s => exact sps_nd _ _
theorem ow_of {f : Fd} {s : Sv} {x : Spot} (hs : f.s = some s) (h : x ∈ sps f.ds s) : f.ow x.1 := ⟨s, hs, sps_pos h, (sps_mem h).1.symm⟩
/-- one row's places: none twice. -/
theorem pc_nd {g o : Nat} {fs : List Fd} (hg : ∀ f ∈ fs, ¬ f.ow g) (hp : fs.Pairwise fun f f' => (f.s = none → f'.s = none → f.c ≠ f'.c) ∧ ∀ x, f.ow x → ¬ f'.ow x) : (pc g o fs).Pairwise Ne2 := by
  unfold pc
  rw [List.pairwise_flatMap]
  refine ⟨fun f _ => f.sp_nd g o, List.Pairwise.imp_of_mem (fun {a b} ha hb hab x hx y hy e => ?_) hp⟩
  rcases Fd.sp_mem hx with ⟨h1, h2, h3⟩ | ⟨s, h1, h2⟩ <;> rcases Fd.sp_mem hy with ⟨k1, k2, k3⟩ | ⟨s', k1, k2⟩
  · exact hab.1 h1 k1 (by have := e.2; omega)
  · exact hg b hb (by have := ow_of k1 k2; rw [← e.1, h2] at this; exact this)
  · exact hg a ha (by have := ow_of h1 h2; rw [e.1, k2] at this; exact this)
  · exact hab.2 x.1 (ow_of h1 h2) (by have := ow_of k1 k2; rw [← e.1] at this; exact this)
theorem pc_mem {g o : Nat} {fs : List Fd} {x : Spot} (h : x ∈ pc g o fs) : ∃ f ∈ fs, x ∈ f.sp g o := by
  unfold pc at h
  exact List.mem_flatMap.1 h
/-- the places of a list of structs. -/
def tls (g off size : Nat) (F : Nat → List Fd) (len : Nat) : List Spot := (List.range len).flatMap fun j => pc g (off + j * size) (F j)
def tlN (g off size : Nat) (F : Nat → List Fd) (j : Nat) : Nat := (tls g off size F j).length
section
variable {g off size len : Nat} {F : Nat → List Fd}
theorem tls_succ : tls g off size F (len + 1) = tls g off size F len ++ pc g (off + len * size) (F len) := by
  unfold tls
  rw [List.range_succ, List.flatMap_append]
  simp
theorem tls_at : ∀ {len j r : Nat}, j < len → r < (pc g (off + j * size) (F j)).length → (tls g off size F len)[tlN g off size F j + r]? = (pc g (off + j * size) (F j))[r]?
  | 0, j, r, hj, _ => absurd hj (Nat.not_lt_zero _)
  | len + 1, j, r, hj, hr => by
    rw [tls_succ]
    by_cases h : j < len
    · have h1 := tls_at h hr
      have h2 : tlN g off size F j + r < (tls g off size F len).length := by
        rcases Nat.lt_or_ge (tlN g off size F j + r) (tls g off size F len).length with h2 | h2
        · exact h2
        · rw [List.getElem?_eq_none h2, List.getElem?_eq_getElem hr] at h1; cases h1
      rw [List.getElem?_append_left h2, h1]
    · obtain rfl : j = len := by omega
      unfold tlN
      rw [List.getElem?_append_right (by omega), Nat.add_sub_cancel_left]
theorem tlN_succ (j : Nat) : tlN g off size F (j + 1) = tlN g off size F j + (pc g (off + j * size) (F j)).length := by
  unfold tlN
  rw [tls_succ, List.length_append]
theorem tls_mem {x : Spot} (h : x ∈ tls g off size F len) : ∃ j, j < len ∧ x ∈ pc g (off + j * size) (F j) := by
  unfold tls at h
  obtain ⟨j, hj, hx⟩ := List.mem_flatMap.1 h
  exact ⟨j, List.mem_range.1 hj, hx⟩
/-- what is asked of the fields of each row. -/
structure FdOk (w : World) (g size len : Nat) (F : Nat → List Fd) : Prop where
  row : ∀ j, j < len → ∀ f ∈ F j, f.s = none → f.c < size
  off : ∀ j, j < len → ∀ f ∈ F j, ¬ f.ow g
  one : ∀ j, j < len → (F j).Pairwise fun f f' => (f.s = none → f'.s = none → f.c ≠ f'.c) ∧ ∀ x, f.ow x → ¬ f'.ow x
  two : ∀ i j, i < j → j < len → ∀ f ∈ F i, ∀ f' ∈ F j, ∀ x, f.ow x → ¬ f'.ow x
  lv : ∀ j, j < len → ∀ f ∈ F j, ∀ s, f.s = some s → LvS w s f.ds.length
theorem tls_nd {w : World} (h : FdOk w g size len F) : (tls g off size F len).Pairwise Ne2 := by
  unfold tls
  rw [List.pairwise_flatMap]
  refine ⟨fun j hj => pc_nd (h.off j (List.mem_range.1 hj)) (h.one j (List.mem_range.1 hj)), List.Pairwise.imp_of_mem (fun {a b} ha hb hab x hx y hy e => ?_) List.pairwise_lt_range⟩
  have ha := List.mem_range.1 ha
  have hb := List.mem_range.1 hb
  obtain ⟨f, hf, hx⟩ := pc_mem hx
  obtain ⟨f', hf', hy⟩ := pc_mem hy
  rcases Fd.sp_mem hx with ⟨h1, h2, h3⟩ | ⟨s, h1, h2⟩ <;> rcases Fd.sp_mem hy with ⟨k1, k2, k3⟩ | ⟨s', k1, k2⟩
  · have e1 := h.row a ha f hf h1
    have e2 : (a + 1) * size ≤ b * size := Nat.mul_le_mul_right _ hab
    rw [Nat.succ_mul] at e2
    have := e.2
    omega
  · exact h.off b hb f' hf' (by have := ow_of k1 k2; rw [← e.1, h2] at this; exact this)
  · exact h.off a ha f hf (by have := ow_of h1 h2; rw [e.1, k2] at this; exact this)
  · exact h.two a b hab hb f hf f' hf' x.1 (ow_of h1 h2) (by have := ow_of k1 k2; rw [← e.1] at this; exact this)
end
/-- a list of rows, cell by cell. -/
theorem rowCells {w : World} {T size B : Nat} {s : Sv} {rows : List (List Value)} (h : SlN w T size B s.v rows) (h0 : 0 < rows.length) : s.a = some ⟨svB s, svO s, none⟩ ∧ svB s < w.heap.size ∧ (∀ j r u, j < rows.length → ((rows[j]?).getD [])[r]? = some u → w.cell? ⟨svB s, svO s + j * size + r, none⟩ = some u) ∧ ∀ o, w.frozen? ⟨svB s, o, none⟩ = false := by
  obtain ⟨g, off, cap, hv, hb, hlt, hc, hf⟩ := h.1.read h0
  simp only [Sv.v, Value.slice.injEq] at hv
  have e1 : svB s = g := by simp [svB, hv.1]
  have e2 : svO s = off := by simp [svO, hv.1]
  rw [e1, e2]
  refine ⟨hv.1, hlt, fun j r u hj hu => ?_, hf⟩
  rw [List.getElem?_eq_getElem hj] at hu
  simp only [Option.getD_some] at hu
  have hr : r < size := by rw [← h.lens _ (List.getElem_mem hj)]; exact (List.getElem?_eq_some_iff.1 hu).1
  have h2 := flat_row h.lens hj
  rw [← h2, List.getElem?_take, if_pos hr, List.getElem?_drop] at hu
  have := hc (j * size + r) u hu
  rw [Nat.add_assoc]
  exact this
theorem tls_ok {w : World} {T size B : Nat} {s : Sv} {rows : List (List Value)} {F : Nat → List Fd} (h : SlN w T size B s.v rows) (hF : FdOk w (svB s) size rows.length F) : TLok w (tls (svB s) (svO s) size F rows.length) := by
  have key : ∀ x ∈ tls (svB s) (svO s) size F rows.length, x.1 < w.heap.size ∧ (∃ u, w.cell? ⟨x.1, x.2.1, none⟩ = some u) ∧ w.frozen? ⟨x.1, x.2.1, none⟩ = false := fun x hx => by
    obtain ⟨j, hj, hx⟩ := tls_mem hx
    obtain ⟨f, hf, hx⟩ := pc_mem hx
    rcases Fd.sp_mem hx with ⟨h1, h2, h3⟩ | ⟨s', h1, h2⟩
    · obtain ⟨_, k2, k3, k4⟩ := rowCells h (by omega)
      have hl : ((rows[j]?).getD []).length = size := by rw [List.getElem?_eq_getElem hj]; exact h.lens _ (List.getElem_mem hj)
      have hc := hF.row j hj f hf h1
      rw [h2, h3]
      exact ⟨k2, ⟨_, k3 j f.c _ hj (List.getElem?_eq_getElem (by rw [hl]; exact hc))⟩, k4 _⟩
    · obtain ⟨e1, t, ht, e2⟩ := sps_mem h2
      obtain ⟨_, k2, k3, k4⟩ := hF.lv j hj f hf s' h1 (sps_pos h2)
      rw [e1, e2]
      exact ⟨k2, k3 t ht, k4 _⟩
  exact ⟨tls_nd hF, fun x hx => (key x hx).1, fun x hx => (key x hx).2.1, fun x hx => (key x hx).2.2⟩
/-- in which blocks they lie. -/
theorem tls_in {g off size len : Nat} {F : Nat → List Fd} {x : Spot} (h : x ∈ tls g off size F len) : x.1 = g ∨ ∃ j, j < len ∧ ∃ f ∈ F j, f.ow x.1 := by
  obtain ⟨j, hj, hx⟩ := tls_mem h
  obtain ⟨f, hf, hx⟩ := pc_mem hx
  rcases Fd.sp_mem hx with ⟨h1, h2, h3⟩ | ⟨s', h1, h2⟩
  · exact .inl h2
  · exact .inr ⟨j, hj, f, hf, ow_of h1 h2⟩
/-- a cell of a row that is no place. -/
theorem tls_not {w : World} {g off size len : Nat} {F : Nat → List Fd} (h : FdOk w g size len F) {j c : Nat} (hj : j < len) (hc : c < size) (hn : ∀ i, i < len → ∀ f ∈ F i, f.s = none → f.c ≠ c) : ∀ x ∈ tls g off size F len, ¬ (x.1 = g ∧ x.2.1 = off + j * size + c) := fun x hx e => by
  obtain ⟨i, hi, hx⟩ := tls_mem hx
  obtain ⟨f, hf, hx⟩ := pc_mem hx
  rcases Fd.sp_mem hx with ⟨h1, h2, h3⟩ | ⟨s', h1, h2⟩
  · have e1 := h.row i hi f hf h1
    have e2 := hn i hi f hf h1
    have e3 := e.2
    rcases Nat.lt_trichotomy i j with hij | hij | hij
    · have e4 : (i + 1) * size ≤ j * size := Nat.mul_le_mul_right _ hij
      rw [Nat.succ_mul] at e4
      omega
    · subst hij; omega
    · have e4 : (j + 1) * size ≤ i * size := Nat.mul_le_mul_right _ hij
      rw [Nat.succ_mul] at e4
      omega
  · exact h.off i hi f hf (by have := ow_of h1 h2; rw [e.1] at this; exact this)
theorem seg_of {TL : List Spot} {n : Nat} {ds : List Nat} {s : Sv} (ha : 0 < s.n → s.a = some ⟨svB s, svO s, none⟩) (h : ∀ t, t < s.n * ds.length → TL[n + t]? = some (svB s, svO s + t, ds.getD (t % ds.length) 0)) : Seg TL n s.a s.n ds := fun i hi => by
  refine ⟨svB s, svO s, ha (by omega), fun r d hr => ?_⟩
  have hrl : r < ds.length := (List.getElem?_eq_some_iff.1 hr).1
  have hlt : i * ds.length + r < s.n * ds.length := by
    have : (i + 1) * ds.length ≤ s.n * ds.length := Nat.mul_le_mul_right _ hi
    rw [Nat.succ_mul] at this
    omega
  have e : (i * ds.length + r) % ds.length = r := by rw [Nat.mul_comm, Nat.mul_add_mod]; exact Nat.mod_eq_of_lt hrl
  have h1 := h (i * ds.length + r) hlt
  rw [e] at h1
  rw [Nat.add_assoc, h1]
  have e2 : ds.getD r 0 = d := by simp [List.getD, hr]
  rw [e2, Nat.add_assoc]
/-- a field's places within its row's. -/
theorem pc_at {g o : Nat} (A : List Fd) (f : Fd) (B : List Fd) {r : Nat} (hr : r < (f.sp g o).length) : (pc g o (A ++ f :: B))[(pc g o A).length + r]? = (f.sp g o)[r]? := by
  unfold pc
  rw [List.flatMap_append, List.flatMap_cons, List.getElem?_append_right (by omega), Nat.add_sub_cancel_left, List.getElem?_append_left hr]
theorem pc_len_lt {g o : Nat} (A : List Fd) (f : Fd) (B : List Fd) {r : Nat} (hr : r < (f.sp g o).length) : (pc g o A).length + r < (pc g o (A ++ f :: B)).length := by
  unfold pc
  rw [List.flatMap_append, List.flatMap_cons, List.length_append, List.length_append]
  omega
theorem OwnI.lv {w : World} {B : Nat} {s : Sv} {xs : List Int} (h : OwnI w B s.v xs) : LvS w s 1 := fun h0 => by
  have hn := h.slen
  obtain ⟨g, cap, e, _, hl, hc, hf⟩ := h.some (by omega)
  simp only [Sv.v, Value.slice.injEq] at e
  have e1 : svB s = g := by simp [svB, e.1]
  have e2 : svO s = 0 := by simp [svO, e.1]
  rw [e1, e2]
  exact ⟨e.1, hl, fun t ht => ⟨_, by rw [Nat.zero_add]; exact hc t (by omega)⟩, hf⟩
theorem SlI.lv {w : World} {B : Nat} {s : Sv} {xs : List It} (h : SlI w B s.v xs) : LvS w s 4 := fun h0 => by
  have hn := SlI.len h
  obtain ⟨g, off, cap, e, _, hl, hc, hf⟩ := Sl.read h (by omega)
  simp only [Sv.v, Value.slice.injEq] at e
  have e1 : svB s = g := by simp [svB, e.1]
  have e2 : svO s = off := by simp [svO, e.1]
  rw [e1, e2]
  refine ⟨e.1, hl, fun t ht => ?_, hf⟩
  have hl2 := h.1
  exact ⟨_, hc t _ (List.getElem?_eq_getElem (by rw [hl2]; omega))⟩
theorem ow_own {s : Sv} (h : 0 < s.n → s.a = some ⟨svB s, svO s, none⟩) (h0 : 0 < s.n) : s.v.ownBlock = some (svB s) := by
  have e := h h0
  obtain ⟨b, hb⟩ : ∃ b, b = svB s := ⟨_, rfl⟩
  rw [← hb] at e ⊢
  simp [Sv.v, Value.ownBlock, e]
end Go.Proofs.Ytdodeillifoibaa


/- Lists of bundles that a law measures and copies. Written by gen_ls.py. -/
namespace Go.Proofs.Ytdodeillifoibaa
open Go.RowKit Pl
set_option linter.unusedVariables false
set_option linter.unusedSimpArgs false

/-- a bundle, and where its list lies. -/
structure Bu where
  f : Int
  n : Int
  o : Int
  ts : List It
  s : Sv
def Bu.ok (b : Bu) : Bool := bunB b.f b.n b.o b.ts
/-- what a bundle says. -/
def Bu.pl (b : Bu) : Int × Int × Int × List It := (b.f, b.n, b.o, b.ts)
def Bu.row (b : Bu) : List Value := [.int .i64 b.f, .int .i64 b.n, .int .i64 b.o, .slice b.s.a b.s.n b.s.c]
def Bu.R (w : World) (b : Bu) : Prop := RSt w b.s b.ts
theorem Bu.R.stays {w w' : World} {b : Bu} (h : b.R w) (hb : Below w.heap.size w w') : b.R w' := RSt.stays h hb
def Bu.S (b : Bu) : Prop := b.ts.length ≤ 1048576
def Bu.L (b : Bu) : Prop := b.ts.length ≤ 9223372036854775807 ∧ ∀ x ∈ b.ts, x.2.2.2.size ≤ 9223372036854775807
def Bu.sz (b : Bu) : Nat := b.ts.length
def Bu.O (w : World) (B : Nat) (b : Bu) : Prop := SlI w B b.s.v b.ts
theorem Bu.O.r {w : World} {B : Nat} {b : Bu} (h : b.O w B) : b.R w := SlI.rst h
theorem Bu.O.keep {w w' : World} {B : Nat} {e : Bu} (h : e.O w B) (hk : ∀ b, B ≤ b → b < w.heap.size → w'.heap[b]? = w.heap[b]?) : e.O w' B := Sl.keep h fun b hb hl => hk b (Sl.lt h b hb).1 hl
theorem Bu.O.below {w w' : World} {B : Nat} {e : Bu} (h : e.O w B) (b : Below w.heap.size w w') : e.O w' B := h.keep fun k _ hk => b.block k hk
theorem Bu.O.down {w : World} {B B' : Nat} {e : Bu} (h : e.O w B) (hB : B' ≤ B) : e.O w B' := Sl.down h hB
def Bu.own (e : Bu) (x : Nat) : Prop := e.s.v.ownBlock = some x
theorem Bu.O.lt {w : World} {B : Nat} {e : Bu} (h : e.O w B) (x : Nat) (hx : e.own x) : B ≤ x ∧ x < w.heap.size := Sl.lt h x hx
def Bu.Up (e : Bu) : Prop := True
/-- a list of them that is read. -/
def BusR (w : World) (s : Sv) (es : List Bu) : Prop := s.n = es.length ∧ RwA w s.a 4 (es.map Bu.row) ∧ ∀ e ∈ es, e.R w
theorem BusR.stays {w w' : World} {s : Sv} {es : List Bu} (h : BusR w s es) (b : Below w.heap.size w w') : BusR w' s es := ⟨h.1, h.2.1.stays b, fun e he => (h.2.2 e he).stays b⟩
/-- a list of the call's own. -/
def BusO (w : World) (B : Nat) (s : Sv) (es : List Bu) : Prop := SlN w 115 4 B s.v (es.map Bu.row) ∧ ∀ e ∈ es, e.O w B
theorem BusO.r {w : World} {B : Nat} {s : Sv} {es : List Bu} (h : BusO w B s es) : BusR w s es := ⟨by have := h.1.slen; simpa using this, h.1.rwa, fun e he => (h.2 e he).r⟩
theorem BusO.keep {w w' : World} {B : Nat} {s : Sv} {es : List Bu} (h : BusO w B s es) (hk : ∀ b, B ≤ b → b < w.heap.size → w'.heap[b]? = w.heap[b]?) : BusO w' B s es := ⟨h.1.keep fun b hb hl => hk b (h.1.lt b hb).1 hl, fun e he => (h.2 e he).keep hk⟩
theorem BusO.below {w w' : World} {B : Nat} {s : Sv} {es : List Bu} (h : BusO w B s es) (b : Below w.heap.size w w') : BusO w' B s es := h.keep fun k _ hk => b.block k hk
theorem BusO.down {w : World} {B B' : Nat} {s : Sv} {es : List Bu} (h : BusO w B s es) (hB : B' ≤ B) : BusO w B' s es := ⟨h.1.down hB, fun e he => (h.2 e he).down hB⟩
theorem BusO.nil (w : World) (B : Nat) : BusO w B zSv [] := ⟨SlN.nil _ _ _ _, fun e he => by cases he⟩
/-- each one's lists lie behind those of the ones ahead. -/
def BusUp (es : List Bu) : Prop := (∀ e ∈ es, e.Up) ∧ es.Pairwise fun a b => ∀ x y, a.own x → b.own y → x < y
def Bus.tot (es : List Bu) : Nat := (es.map fun e => e.sz).sum
theorem Bus.tot_take (es : List Bu) (k : Nat) (hk : k < es.length) : Bus.tot (es.take (k + 1)) = Bus.tot (es.take k) + es[k].sz := by
  unfold Bus.tot
  rw [List.take_succ_eq_append_getElem hk, List.map_append, List.sum_append]
  simp

end Go.Proofs.Ytdodeillifoibaa


/- Lists of bundles: marked, and looked at again. Written by gen_gs.py. -/
namespace Go.Proofs.Ytdodeillifoibaa
open Go.RowKit Pl
set_option linter.unusedVariables false
set_option linter.unusedSimpArgs false

/-- where the places of one lie. -/
structure BuSeg (w : World) (TL : List Spot) (n g o : Nat) (u : Bu) : Prop where
  gl : g < w.heap.size
  p0 : TL[n]? = some (g, o, 0)
  p1 : TL[n + 1]? = some (g, o + 1, 0)
  p2 : TL[n + 1 + 1]? = some (g, o + 2, 0)
  h3 : w.cell? ⟨g, o + 3, none⟩ = some (.slice u.s.a u.s.n u.s.c)
  q3 : ∀ s ∈ TL, ¬ (s.1 = g ∧ s.2.1 = o + 3)
  s3 : Seg TL (n + 1 + 1 + 1) u.s.a u.s.n [0, 0, 0, 2]
def BuSeg.len (u : Bu) : Nat := 1 + 1 + 1 + 4 * u.s.n
theorem BuSeg.marked {w0 ws w : World} {TL : List Spot} {n g o K m : Nat} {u : Bu} (h : BuSeg w0 TL n g o u) (k : MkI w0 ws TL K m w) : BuSeg w TL n g o u :=
  { h with gl := by have := h.gl; have := k.size; omega, h3 := k.cell h.gl h.q3 h.h3 }
theorem BuSeg.later {w w' : World} {TL : List Spot} {n g o : Nat} {u : Bu} (h : BuSeg w TL n g o u) (b : Below w.heap.size w w') : BuSeg w' TL n g o u :=
  { h with gl := by have := h.gl; have := b.size; omega, h3 := (cell_block (b.block _ h.gl)).trans h.h3 }
/-- .. and of a list of them. -/
structure BuSegL (w : World) (TL : List Spot) (ao : Option Addr) (len : Nat) (us : Nat → Bu) (N : Nat → Nat) : Prop where
  one : ∀ j, j < len → ∃ g off, ao = some ⟨g, off, none⟩ ∧ BuSeg w TL (N j) g (off + j * 4) (us j)
  nx : ∀ j, j < len → N (j + 1) = N j + BuSeg.len (us j)
theorem BuSegL.marked {w0 ws w : World} {TL : List Spot} {ao : Option Addr} {len K m : Nat} {us : Nat → Bu} {N : Nat → Nat} (h : BuSegL w0 TL ao len us N) (k : MkI w0 ws TL K m w) : BuSegL w TL ao len us N := ⟨fun j hj => by obtain ⟨g, off, e, x⟩ := h.one j hj; exact ⟨g, off, e, x.marked k⟩, h.nx⟩
theorem BuSegL.later {w w' : World} {TL : List Spot} {ao : Option Addr} {len : Nat} {us : Nat → Bu} {N : Nat → Nat} (h : BuSegL w TL ao len us N) (b : Below w.heap.size w w') : BuSegL w' TL ao len us N := ⟨fun j hj => by obtain ⟨g, off, e, x⟩ := h.one j hj; exact ⟨g, off, e, x.later b⟩, h.nx⟩
theorem BuSegL.le {w : World} {TL : List Spot} {ao : Option Addr} {len : Nat} {us : Nat → Bu} {N : Nat → Nat} (h : BuSegL w TL ao len us N) : ∀ (d j : Nat), j + d = len → N j ≤ N len
  | 0, j, e => by rw [show j = len by omega]; exact Nat.le_refl _
  | d + 1, j, e => by
    have h1 := h.nx j (by omega)
    have h2 := h.le d (j + 1) (by omega)
    omega
end Go.Proofs.Ytdodeillifoibaa


/- Lists of events: marked, and looked at again. Written by gen_gs.py. -/
namespace Go.Proofs.Ytdodeillifoibaa
open Go.RowKit Pl
set_option linter.unusedVariables false
set_option linter.unusedSimpArgs false

/-- where the places of one lie. -/
structure EvSeg (w : World) (TL : List Spot) (n g o : Nat) (u : Ev) : Prop where
  gl : g < w.heap.size
  p0 : TL[n]? = some (g, o, 0)
  p1 : TL[n + 1]? = some (g, o + 1, 0)
  h2 : w.cell? ⟨g, o + 2, none⟩ = some (.slice u.sm.a u.sm.n u.sm.c)
  q2 : ∀ s ∈ TL, ¬ (s.1 = g ∧ s.2.1 = o + 2)
  s2 : Seg TL (n + 1 + 1) u.sm.a u.sm.n [0]
  p3 : TL[n + 1 + 1 + u.sm.n]? = some (g, o + 3, 0)
  p4 : TL[n + 1 + 1 + u.sm.n + 1]? = some (g, o + 4, 0)
  p5 : TL[n + 1 + 1 + u.sm.n + 1 + 1]? = some (g, o + 5, 0)
  p6 : TL[n + 1 + 1 + u.sm.n + 1 + 1 + 1]? = some (g, o + 6, 2)
  h7 : w.cell? ⟨g, o + 7, none⟩ = some (.slice u.sw.a u.sw.n u.sw.c)
  q7 : ∀ s ∈ TL, ¬ (s.1 = g ∧ s.2.1 = o + 7)
  s7 : Seg TL (n + 1 + 1 + u.sm.n + 1 + 1 + 1 + 1) u.sw.a u.sw.n [0]
def EvSeg.len (u : Ev) : Nat := 1 + 1 + u.sm.n + 1 + 1 + 1 + 1 + u.sw.n
theorem EvSeg.marked {w0 ws w : World} {TL : List Spot} {n g o K m : Nat} {u : Ev} (h : EvSeg w0 TL n g o u) (k : MkI w0 ws TL K m w) : EvSeg w TL n g o u :=
  { h with gl := by have := h.gl; have := k.size; omega, h2 := k.cell h.gl h.q2 h.h2, h7 := k.cell h.gl h.q7 h.h7 }
theorem EvSeg.later {w w' : World} {TL : List Spot} {n g o : Nat} {u : Ev} (h : EvSeg w TL n g o u) (b : Below w.heap.size w w') : EvSeg w' TL n g o u :=
  { h with gl := by have := h.gl; have := b.size; omega, h2 := (cell_block (b.block _ h.gl)).trans h.h2, h7 := (cell_block (b.block _ h.gl)).trans h.h7 }
/-- .. and of a list of them. -/
structure EvSegL (w : World) (TL : List Spot) (ao : Option Addr) (len : Nat) (us : Nat → Ev) (N : Nat → Nat) : Prop where
  one : ∀ j, j < len → ∃ g off, ao = some ⟨g, off, none⟩ ∧ EvSeg w TL (N j) g (off + j * 8) (us j)
  nx : ∀ j, j < len → N (j + 1) = N j + EvSeg.len (us j)
theorem EvSegL.marked {w0 ws w : World} {TL : List Spot} {ao : Option Addr} {len K m : Nat} {us : Nat → Ev} {N : Nat → Nat} (h : EvSegL w0 TL ao len us N) (k : MkI w0 ws TL K m w) : EvSegL w TL ao len us N := ⟨fun j hj => by obtain ⟨g, off, e, x⟩ := h.one j hj; exact ⟨g, off, e, x.marked k⟩, h.nx⟩
theorem EvSegL.later {w w' : World} {TL : List Spot} {ao : Option Addr} {len : Nat} {us : Nat → Ev} {N : Nat → Nat} (h : EvSegL w TL ao len us N) (b : Below w.heap.size w w') : EvSegL w' TL ao len us N := ⟨fun j hj => by obtain ⟨g, off, e, x⟩ := h.one j hj; exact ⟨g, off, e, x.later b⟩, h.nx⟩
theorem EvSegL.le {w : World} {TL : List Spot} {ao : Option Addr} {len : Nat} {us : Nat → Ev} {N : Nat → Nat} (h : EvSegL w TL ao len us N) : ∀ (d j : Nat), j + d = len → N j ≤ N len
  | 0, j, e => by rw [show j = len by omega]; exact Nat.le_refl _
  | d + 1, j, e => by
    have h1 := h.nx j (by omega)
    have h2 := h.le d (j + 1) (by omega)
    omega
set_option maxRecDepth 100000 in
set_option maxHeartbeats 16000000 in
theorem markevents_sp (w0 : World) (TL : List Spot) (K : Nat) (ao : Option Addr) (len cap : Nat) (us : Nat → Ev) (N : Nat → Nat) (z : Int) (w : World) (hT : Hid (TLok w0 TL)) (hI : Hid (MkI w0 w TL K (N 0) w)) (hs : Hid (EvSegL w0 TL ao len us N)) (hz : Hid (z = ((K + N 0 : Nat) : Int))) (hl : K + N len ≤ 39999990) (hll : len ≤ 39999990) (hK : 0 < K) :
    Calls Try.prog 13 #[.slice ao len cap, .int .i64 z] w fun e w' => ∃ M : Nat, e = .returned (.int .i64 (M : Int)) ∧ M = K + N len ∧ MkI w0 w TL K (N len) w' := by
  obtain ⟨M0, hM0⟩ : ∃ M : Nat, M = K + N 0 := ⟨_, rfl⟩
  have e0 : z = (M0 : Int) := by have := hz.out; omega
  subst e0
  have HM0 : Hid (M0 = K + N 0) := hM0
  clear hM0 hz
  go_enter Try.func13, Try.ntmps13
  go_wp2_with fail
  go_loopw [1, 5] (fun kk i wr => ∃ (j : Nat), j ≤ len ∧ i = .int .i64 (j : Int) ∧ kk = .int .i64 ((K + N j : Nat) : Int) ∧ Hid (MkI w0 w TL K (N j) wr)) (fun _ i _ => len - (intOf i).toNat)
  case atStart => exact ⟨0, by omega, rfl, by have := HM0.out; congr 1; omega, hI⟩
  case round =>
    obtain ⟨j, hj, rfl, rfl, HI⟩ := hrel
    obtain ⟨M, hM⟩ : ∃ M : Nat, M = K + N j := ⟨_, rfl⟩
    rw [← hM]
    have HM : Hid (M = K + N j) := hM
    clear hM
    by_cases hlt : j < len
    · obtain ⟨g, off, rfl, sg⟩ := hs.out.one j hlt
      have HNX : Hid _ := hs.out.nx j hlt
      have hle := hs.out.le (len - (j + 1)) (j + 1) (by omega)
      obtain ⟨u, hu⟩ : ∃ u, us j = u := ⟨_, rfl⟩
      rw [hu] at sg HNX
      have hle2 : N j + (1 + 1 + u.sm.n + 1 + 1 + 1 + 1 + u.sw.n) ≤ N len := by have := HNX.out; unfold EvSeg.len at this; omega
      obtain ⟨n, hn⟩ : ∃ n, n = N j := ⟨_, rfl⟩
      rw [← hn] at sg HM HNX hle2 HI
      have HN : Hid (n = N j) := hn
      obtain ⟨o, ho⟩ : ∃ o, o = off + j * 8 := ⟨_, rfl⟩
      rw [← ho] at sg
      have HO : Hid (o = off + j * 8) := ho
      have SG : Hid (EvSeg w0 TL n g o u) := sg
      clear sg hu hn ho hle
      have hMl : M ≤ 39999990 := by have := HM.out; omega
      have i0 : (0 : Int) ≤ (j : Int) := by omega
      have i1 : (j : Int) < (len : Int) := by omega
      have sp : TL[n]? = some (g, off + j * 8, 0) := by have h := SG.out.p0; rw [HO.out] at h; exact h
      have SP : Hid _ := sp
      clear sp
      go_wp2_with (first | (refine wpList_haltS 3 _ _ rfl ?_))
      refine Stp.go ?_
      refine wpList_stK rfl 3 _ _ rfl rfl _ rfl Try.sizeK3 hT.out HI.out SP.out (vkI (by have := HM.out; omega)) ?_
      intro w1 hi
      have HI : Hid (MkI w0 w TL K (n + 1) w1) := hi
      clear hi SP
      have sp : TL[n + 1]? = some (g, off + j * 8 + 1, 0) := by have h := SG.out.p1; rw [HO.out] at h; exact h
      have SP : Hid _ := sp
      clear sp
      go_wp2_with (first | (refine wpList_haltS 3 _ _ rfl ?_))
      refine Stp.go ?_
      refine wpList_stK rfl 3 _ _ rfl rfl _ rfl Try.sizeK3 hT.out HI.out SP.out (vkI (by have := HM.out; omega)) ?_
      intro w2 hi
      have HI : Hid (MkI w0 w TL K (n + 1 + 1) w2) := hi
      clear hi SP
      have hc : w2.cell? ⟨g, off + j * 8 + 2, none⟩ = some (.slice u.sm.a u.sm.n u.sm.c) := by have h := HI.out.cell SG.out.gl SG.out.q2 SG.out.h2; rw [HO.out] at h; exact h
      go_wp2_with fail
      clear hc
      refine (markI_z w0 TL K (n + 1 + 1) u.sm.a u.sm.n u.sm.c ((M : Int) + 1 + 1) _ hT HI.out.anchor SG.out.s2 (by have := HM.out; omega) (by omega)).mono ?_
      rintro e w3 ⟨M3, rfl, hm, hi⟩
      have HM : Hid (M3 = K + (n + 1 + 1 + u.sm.n)) := hm
      have HI : Hid (MkI w0 w TL K (n + 1 + 1 + u.sm.n) w3) := HI.out.back hi
      have hMl : M3 ≤ 39999990 := by omega
      clear hm hi
      have sp : TL[n + 1 + 1 + u.sm.n]? = some (g, off + j * 8 + 3, 0) := by have h := SG.out.p3; rw [HO.out] at h; exact h
      have SP : Hid _ := sp
      clear sp
      go_wp2_with (first | (refine wpList_haltS 3 _ _ rfl ?_))
      refine Stp.go ?_
      refine wpList_stK rfl 3 _ _ rfl rfl _ rfl Try.sizeK3 hT.out HI.out SP.out (vkI (by have := HM.out; omega)) ?_
      intro w4 hi
      have HI : Hid (MkI w0 w TL K (n + 1 + 1 + u.sm.n + 1) w4) := hi
      clear hi SP
      have sp : TL[n + 1 + 1 + u.sm.n + 1]? = some (g, off + j * 8 + 4, 0) := by have h := SG.out.p4; rw [HO.out] at h; exact h
      have SP : Hid _ := sp
      clear sp
      go_wp2_with (first | (refine wpList_haltS 3 _ _ rfl ?_))
      refine Stp.go ?_
      refine wpList_stK rfl 3 _ _ rfl rfl _ rfl Try.sizeK3 hT.out HI.out SP.out (vkI (by have := HM.out; omega)) ?_
      intro w5 hi
      have HI : Hid (MkI w0 w TL K (n + 1 + 1 + u.sm.n + 1 + 1) w5) := hi
      clear hi SP
      have sp : TL[n + 1 + 1 + u.sm.n + 1 + 1]? = some (g, off + j * 8 + 5, 0) := by have h := SG.out.p5; rw [HO.out] at h; exact h
      have SP : Hid _ := sp
      clear sp
      go_wp2_with (first | (refine wpList_haltS 3 _ _ rfl ?_))
      refine Stp.go ?_
      refine wpList_stK rfl 3 _ _ rfl rfl _ rfl Try.sizeK3 hT.out HI.out SP.out (vkI (by have := HM.out; omega)) ?_
      intro w6 hi
      have HI : Hid (MkI w0 w TL K (n + 1 + 1 + u.sm.n + 1 + 1 + 1) w6) := hi
      clear hi SP
      go_wp2_with fail
      refine (mark_at ((M3 : Int) + 1 + 1 + 1) w6 (by omega) (by omega)).mono ?_
      rintro e w7 ⟨rfl, b⟩
      have HI : Hid (MkI w0 w TL K (n + 1 + 1 + u.sm.n + 1 + 1 + 1) w7) := HI.out.later hT.out b
      clear b
      have sp : TL[n + 1 + 1 + u.sm.n + 1 + 1 + 1]? = some (g, off + j * 8 + 6, 2) := by have h := SG.out.p6; rw [HO.out] at h; exact h
      have SP : Hid _ := sp
      clear sp
      go_wp2_with (first | (refine wpList_haltS 9 _ _ rfl ?_))
      refine Stp.go ?_
      refine wpList_stK rfl 9 _ _ rfl rfl _ rfl Try.sizeK9 hT.out HI.out SP.out (by show Value.string _ = _; rw [vk2]; congr 2; have := HM.out; omega) ?_
      intro x7 hi
      have HI : Hid (MkI w0 w TL K (n + 1 + 1 + u.sm.n + 1 + 1 + 1 + 1) x7) := hi
      clear hi SP
      have hc : x7.cell? ⟨g, off + j * 8 + 7, none⟩ = some (.slice u.sw.a u.sw.n u.sw.c) := by have h := HI.out.cell SG.out.gl SG.out.q7 SG.out.h7; rw [HO.out] at h; exact h
      go_wp2_with fail
      clear hc
      refine (markI_z w0 TL K (n + 1 + 1 + u.sm.n + 1 + 1 + 1 + 1) u.sw.a u.sw.n u.sw.c ((M3 : Int) + 1 + 1 + 1 + 1) _ hT HI.out.anchor SG.out.s7 (by have := HM.out; omega) (by omega)).mono ?_
      rintro e w8 ⟨M8, rfl, hm, hi⟩
      have HM : Hid (M8 = K + (n + 1 + 1 + u.sm.n + 1 + 1 + 1 + 1 + u.sw.n)) := hm
      have HI : Hid (MkI w0 w TL K (n + 1 + 1 + u.sm.n + 1 + 1 + 1 + 1 + u.sw.n) w8) := HI.out.back hi
      have hMl : M8 ≤ 39999990 := by omega
      clear hm hi
      go_wp2_with fail
      go_roundw
      case rel =>
        have e : K + N (j + 1) = K + (n + (1 + 1 + u.sm.n + 1 + 1 + 1 + 1 + u.sw.n)) := by have h1 := HNX.out; unfold EvSeg.len at h1; omega
        refine ⟨j + 1, by omega, by go_num, by have := HM.out; congr 1; omega, ?_⟩
        have h := HI.out
        rw [show N (j + 1) = n + 1 + 1 + u.sm.n + 1 + 1 + 1 + 1 + u.sw.n by omega]
        exact h
      case measure => simp [intOf]; omega
    · obtain rfl : j = len := by omega
      go_wp2_with fail
      go_ret
      exact ⟨M, rfl, HM.out, HI.out⟩
end Go.Proofs.Ytdodeillifoibaa


/- Lists of events, held against each other. Written by gen_gs.py. -/
namespace Go.Proofs.Ytdodeillifoibaa
open Go.RowKit Pl
set_option linter.unusedVariables false
set_option linter.unusedSimpArgs false

set_option maxRecDepth 100000 in
set_option maxHeartbeats 4000000 in
theorem eqevents_sp (ao bo : Option Addr) (len c1 c2 : Nat) (r1 r2 : Nat → List Value) (w : World) (h1 : Hid (∀ j, j < len → ∃ g off, ao = some ⟨g, off, none⟩ ∧ g < w.heap.size ∧ (r1 j).length = 8 ∧ w.rangeAt g (off + j * 8) (r1 j))) (h2 : Hid (∀ j, j < len → ∃ g off, bo = some ⟨g, off, none⟩ ∧ g < w.heap.size ∧ (r2 j).length = 8 ∧ w.rangeAt g (off + j * 8) (r2 j))) (hE : Hid (∀ j, j < len → ∀ W, Below w.heap.size w W → Calls Try.prog 30 #[.agg (r1 j).toArray, .agg (r2 j).toArray] W fun e w' => e = .returned (.bool true) ∧ Below W.heap.size W w')) (hl : len ≤ 39999990) :
    Calls Try.prog 12 #[.slice ao len c1, .slice bo len c2] w fun e w' => e = .returned (.bool true) ∧ Below w.heap.size w w' := by
  go_enter Try.func12, Try.ntmps12
  go_wp2_with fail
  go_loopw [5] (fun i wr => ∃ (j : Nat), j ≤ len ∧ i = .int .i64 (j : Int) ∧ Hid (Below w.heap.size w wr)) (fun i _ => len - (intOf i).toNat)
  case atStart => exact ⟨0, by omega, rfl, Below.refl _ _⟩
  case round =>
    obtain ⟨j, hj, rfl, HB⟩ := hrel
    by_cases hlt : j < len
    · obtain ⟨g1, o1, rfl, l1, n1, x1⟩ := h1.out j hlt
      obtain ⟨g2, o2, rfl, l2, n2, x2⟩ := h2.out j hlt
      have X1 : Hid (w.rangeAt g1 (o1 + j * 8) (r1 j)) := x1
      have X2 : Hid (w.rangeAt g2 (o2 + j * 8) (r2 j)) := x2
      have N1 : Hid ((Try.prog.info? 59).map (·.size) = some (r1 j).length) := (by rw [n1]; exact Try.sizeEv : _ = _)
      have N2 : Hid ((Try.prog.info? 59).map (·.size) = some (r2 j).length) := (by rw [n2]; exact Try.sizeEv : _ = _)
      clear x1 x2 n1 n2
      have EJ : Hid _ := hE.out j hlt
      have i0 : (0 : Int) ≤ (j : Int) := by omega
      have i1 : (j : Int) < (len : Int) := by omega
      go_wp2_with fail
      have c : Below w.heap.size w wr.drew := HB.out.drew
      refine wp_region_held_drew (S := fun w' => Below w.heap.size w w') (by kernel_rfl) c (fun hHeld => ?_)
      refine wpAnyH_take (i := 0) (v := ?v0b1) rfl (by kernel_rfl) (by kernel_rfl) (by kernel_rfl) (fun _ _ _ h => h) (Or.inl ⟨by rfl, ?hy0b1⟩) (by assumption) ?_
      case hy0b1 => (intro w hSw; (try dsimp only at hSw); simp only [List.getElem_toArray, List.getElem_cons_zero, List.getElem_cons_succ]; go_simp; try with_reducible rfl)
      try simp only [Act.put, List.getElem_toArray, List.getElem_cons_zero, List.getElem_cons_succ, List.setIfInBounds_toArray, List.set_cons_zero, List.set_cons_succ]
      refine wpAnyH_take (i := 1) (v := ?v1b2) rfl (by kernel_rfl) (by kernel_rfl) (by kernel_rfl) (fun _ _ _ h => h) (Or.inl ⟨by rfl, ?hy1b2⟩) (by assumption) ?_
      case hy1b2 => (intro w hSw; (try dsimp only at hSw); simp only [List.getElem_toArray, List.getElem_cons_zero, List.getElem_cons_succ]; go_simp; try with_reducible rfl)
      try simp only [Act.put, List.getElem_toArray, List.getElem_cons_zero, List.getElem_cons_succ, List.setIfInBounds_toArray, List.set_cons_zero, List.set_cons_succ]
      refine wpAnyH_take (i := 2) (v := ?v2b3) rfl (by kernel_rfl) (by kernel_rfl) (by kernel_rfl) (fun _ _ _ h => h) (Or.inl ⟨by rfl, ?hy2b3⟩) (by assumption) ?_
      case hy2b3 => (intro w hSw; (try dsimp only at hSw); simp only [List.getElem_toArray, List.getElem_cons_zero, List.getElem_cons_succ]; go_simp; try with_reducible rfl)
      try simp only [Act.put, List.getElem_toArray, List.getElem_cons_zero, List.getElem_cons_succ, List.setIfInBounds_toArray, List.set_cons_zero, List.set_cons_succ]
      refine wpAnyH_take (i := 3) (v := _) rfl (by kernel_rfl) (by kernel_rfl) (by kernel_rfl) (fun _ _ _ h => h) (ldN_yield (by rfl) 59 _ rfl g1 (o1 + j * 8) (by rfl) (r1 j) (fun w hS => range_later X1.out l1 hS) _ Try.underlying59 rfl N1.out) (by assumption) ?_
      try simp only [Act.put, List.setIfInBounds_toArray, List.set_cons_zero, List.set_cons_succ]
      refine wpAnyH_take (i := 4) (v := ?v4b5) rfl (by kernel_rfl) (by kernel_rfl) (by kernel_rfl) (fun _ _ _ h => h) (Or.inl ⟨by rfl, ?hy4b5⟩) (by assumption) ?_
      case hy4b5 => (intro w hSw; (try dsimp only at hSw); simp only [List.getElem_toArray, List.getElem_cons_zero, List.getElem_cons_succ]; go_simp; try with_reducible rfl)
      try simp only [Act.put, List.getElem_toArray, List.getElem_cons_zero, List.getElem_cons_succ, List.setIfInBounds_toArray, List.set_cons_zero, List.set_cons_succ]
      refine wpAnyH_take (i := 5) (v := ?v5b6) rfl (by kernel_rfl) (by kernel_rfl) (by kernel_rfl) (fun _ _ _ h => h) (Or.inl ⟨by rfl, ?hy5b6⟩) (by assumption) ?_
      case hy5b6 => (intro w hSw; (try dsimp only at hSw); simp only [List.getElem_toArray, List.getElem_cons_zero, List.getElem_cons_succ]; go_simp; try with_reducible rfl)
      try simp only [Act.put, List.getElem_toArray, List.getElem_cons_zero, List.getElem_cons_succ, List.setIfInBounds_toArray, List.set_cons_zero, List.set_cons_succ]
      refine wpAnyH_take (i := 6) (v := ?v6b7) rfl (by kernel_rfl) (by kernel_rfl) (by kernel_rfl) (fun _ _ _ h => h) (Or.inl ⟨by rfl, ?hy6b7⟩) (by assumption) ?_
      case hy6b7 => (intro w hSw; (try dsimp only at hSw); simp only [List.getElem_toArray, List.getElem_cons_zero, List.getElem_cons_succ]; go_simp; try with_reducible rfl)
      try simp only [Act.put, List.getElem_toArray, List.getElem_cons_zero, List.getElem_cons_succ, List.setIfInBounds_toArray, List.set_cons_zero, List.set_cons_succ]
      refine wpAnyH_take (i := 7) (v := _) rfl (by kernel_rfl) (by kernel_rfl) (by kernel_rfl) (fun _ _ _ h => h) (ldN_yield (by rfl) 59 _ rfl g2 (o2 + j * 8) (by rfl) (r2 j) (fun w hS => range_later X2.out l2 hS) _ Try.underlying59 rfl N2.out) (by assumption) ?_
      try simp only [Act.put, List.setIfInBounds_toArray, List.set_cons_zero, List.set_cons_succ]
      refine wpAnyH_ready (rs := [8]) (by kernel_rfl) (by simp) ?_
      refine AllReadyH.cons (i := 8) rfl (fun K hK => ?_) AllReadyH.nil
      rw [if_pos (by rfl)]
      simp only [List.getElem_toArray, List.getElem_cons_zero, List.getElem_cons_succ]
      go_simp
      refine (EJ.out _ c).mono ?_
      rintro e y1 ⟨rfl, d1⟩
      have c1 : Below w.heap.size w y1 := bl_next c d1
      refine hK.out _ _ (c1) (fun hHeld => ?_)
      clear hK K
      try simp only [Act.put, List.getElem_toArray, List.getElem_cons_zero, List.getElem_cons_succ, List.setIfInBounds_toArray, List.set_cons_zero, List.set_cons_succ]
      clear d1
      refine wpAnyH_take (i := 9) (v := ?v9b9) rfl (by kernel_rfl) (by kernel_rfl) (by kernel_rfl) (fun _ _ _ h => h) (Or.inl ⟨by rfl, ?hy9b9⟩) (by assumption) ?_
      case hy9b9 => (intro w hSw; (try dsimp only at hSw); simp only [List.getElem_toArray, List.getElem_cons_zero, List.getElem_cons_succ]; go_simp; try with_reducible rfl)
      try simp only [Act.put, List.getElem_toArray, List.getElem_cons_zero, List.getElem_cons_succ, List.setIfInBounds_toArray, List.set_cons_zero, List.set_cons_succ]
      refine wpAnyH_done (by kernel_rfl) ?_ _
      have HB1 : Hid (Below w.heap.size w y1) := c1
      clear c c1 hHeld HB EJ X1 X2
      go_wp2_with fail
      go_roundw
      case rel => exact ⟨j + 1, by omega, by go_num, HB1⟩
      case measure => simp [intOf]; omega
    · obtain rfl : j = len := by omega
      go_wp2_with fail
      go_ret
      exact ⟨rfl, HB.out⟩
end Go.Proofs.Ytdodeillifoibaa


/- Lists of bundles, held against each other. Written by gen_gs.py. -/
namespace Go.Proofs.Ytdodeillifoibaa
open Go.RowKit Pl
set_option linter.unusedVariables false
set_option linter.unusedSimpArgs false

end Go.Proofs.Ytdodeillifoibaa


/- Lists of events, lists of bundles: held against each other. -/
namespace Go.Proofs.Ytdodeillifoibaa
open Go.RowKit Pl
set_option linter.unusedVariables false
set_option linter.unusedSimpArgs false

theorem rowsAt {w : World} {T size B : Nat} {s : Sv} {rows : List (List Value)} (h : SlN w T size B s.v rows) (j : Nat) (hj : j < rows.length) : ∃ g off, s.a = some ⟨g, off, none⟩ ∧ g < w.heap.size ∧ ((rows[j]?).getD []).length = size ∧ w.rangeAt g (off + j * size) ((rows[j]?).getD []) := by
  obtain ⟨g, off, c, h1, h2, h3, h4⟩ := h.read hj
  simp only [Sv.v, Value.slice.injEq] at h1
  rw [List.getElem?_eq_getElem hj]
  exact ⟨g, off, h1.1, h3, h.lens _ (List.getElem_mem hj), h4⟩
theorem eqEvs_any (s1 s2 : Sv) (es fs : List Ev) (B1 B2 : Nat) (w : World) (h1 : Hid (EvsO w B1 s1 es)) (h2 : Hid (EvsO w B2 s2 fs)) (hpl : Hid (es.map Ev.pl = fs.map Ev.pl)) (hl : es.length ≤ 1048576) (hs : Hid (∀ e ∈ es, e.S)) :
    Calls Try.prog 12 #[.slice s1.a s1.n s1.c, .slice s2.a s2.n s2.c] w fun x w' => x = .returned (.bool true) ∧ Below w.heap.size w w' := by
  have n1 : s1.n = es.length := by have := h1.out.1.slen; simpa using this
  have hfl : fs.length = es.length := by have := congrArg List.length hpl.out; simp at this; omega
  have n2 : s2.n = es.length := by have := h2.out.1.slen; simp at this; omega
  rw [n1, n2]
  refine eqevents_sp s1.a s2.a es.length s1.c s2.c (fun j => ((es.map Ev.row)[j]?).getD []) (fun j => ((fs.map Ev.row)[j]?).getD []) w (fun j hj => rowsAt h1.out.1 j (by simpa using hj)) (fun j hj => rowsAt h2.out.1 j (by simpa [hfl] using hj)) ?_ (by omega)
  intro j hj W b
  have hj2 : j < fs.length := by omega
  have e1 : ((es.map Ev.row)[j]?).getD [] = es[j].row := by simp [hj]
  have e2 : ((fs.map Ev.row)[j]?).getD [] = fs[j].row := by simp [hj2]
  have hp : es[j].pl = fs[j].pl := by
    have h := congrArg (fun l => l[j]?) hpl.out
    simpa [hj, hj2] using h
  try dsimp only
  rw [e1, e2]
  have o1 := (h1.out.2 _ (List.getElem_mem hj)).below b
  have o2 := (h2.out.2 _ (List.getElem_mem hj2)).below b
  obtain ⟨e, he⟩ : ∃ e, e = es[j] := ⟨_, rfl⟩
  obtain ⟨f, hf⟩ : ∃ f, f = fs[j] := ⟨_, rfl⟩
  have hS := hs.out _ (List.getElem_mem hj)
  rw [← he] at o1 hS hp
  rw [← hf] at o2 hp
  rw [← he, ← hf]
  obtain ⟨k, rid, ms, q, ff, l, t, wi, sm, sw⟩ := f
  simp only [Ev.pl, Prod.mk.injEq] at hp
  obtain ⟨rfl, rfl, rfl, ⟨rfl, rfl, rfl, rfl⟩, rfl⟩ := hp
  exact eqEvent_any e e.sm e.sw sm sw W hS (o1.1.down (Nat.zero_le _)) (o1.2.down (Nat.zero_le _)) (o2.1.down (Nat.zero_le _)) (o2.2.down (Nat.zero_le _))
end Go.Proofs.Ytdodeillifoibaa


/- Daemons in plain words and in memory; a daemon measured, copied, held against another. Written by gen_dm.py. -/
namespace Go.Proofs.Ytdodeillifoibaa
open Go.RowKit Pl
set_option linter.unusedVariables false
set_option linter.unusedSimpArgs false

/-- a daemon, and where its lists lie. -/
structure Dm where
  id : Int
  dead : Bool
  m : Mt
  mv : Mv
  most : Int
  old : Int
  jid : Int
  jms : List Int
  js : Sv
  bu : List Bu
  bs : Sv
  lo : List Ev
  ls : Sv
/-- its lists are read. -/
structure DmR (w : World) (d : Dm) : Prop where
  mt : MtR w d.m d.mv
  jo : RI w d.js.v d.jms
  bu : BusR w d.bs d.bu
  lo : EvsR w d.ls d.lo
theorem DmR.stays {w w' : World} {d : Dm} (h : DmR w d) (b : Below w.heap.size w w') : DmR w' d := ⟨h.mt.stays b, h.jo.stays b, h.bu.stays b, h.lo.stays b⟩
/-- its lists are of a call's own. -/
structure DmO (w : World) (B : Nat) (d : Dm) : Prop where
  mt : MtO w B d.m d.mv
  jo : OwnI w B d.js.v d.jms
  bu : BusO w B d.bs d.bu
  lo : EvsO w B d.ls d.lo
theorem DmO.r {w : World} {B : Nat} {d : Dm} (h : DmO w B d) : DmR w d := ⟨h.mt.r, h.jo.ri, h.bu.r, h.lo.r⟩
theorem DmO.keep {w w' : World} {B : Nat} {d : Dm} (h : DmO w B d) (hk : ∀ b, B ≤ b → b < w.heap.size → w'.heap[b]? = w.heap[b]?) : DmO w' B d :=
  ⟨h.mt.keep fun b hb hl => hk b (h.mt.lt hb).1 hl, h.jo.keep fun b hb hl => hk b (h.jo.lt b hb).1 hl, h.bu.keep hk, h.lo.keep hk⟩
theorem DmO.below {w w' : World} {B : Nat} {d : Dm} (h : DmO w B d) (b : Below w.heap.size w w') : DmO w' B d := h.keep fun k _ hk => b.block k hk
theorem DmO.down {w : World} {B B' : Nat} {d : Dm} (h : DmO w B d) (hB : B' ≤ B) : DmO w B' d := ⟨h.mt.down hB, h.jo.down hB, h.bu.down hB, h.lo.down hB⟩
/-- no longer than can be. -/
structure DmL (d : Dm) : Prop where
  mt : MtL d.m
  jo : d.jms.length ≤ 9223372036854775807
  bu : d.bu.length ≤ 9223372036854775807 ∧ ∀ b ∈ d.bu, b.L
  lo : d.lo.length ≤ 9223372036854775807 ∧ ∀ e ∈ d.lo, e.L
/-- not too long. -/
structure DmS (d : Dm) : Prop where
  mt : MtS d.m
  jo : d.jms.length ≤ 1048576
  bu : d.bu.length + Bus.tot d.bu ≤ 1048576
  lo : d.lo.length + Evs.tot d.lo ≤ 1048576
theorem tot_le {α : Type} (f : α → Nat) : ∀ (l : List α) (x : α), x ∈ l → f x ≤ (l.map f).sum
  | a :: l, x, h => by
    rw [List.map_cons, List.sum_cons]
    rcases List.mem_cons.1 h with rfl | h
    · omega
    · have := tot_le f l x h; omega
/-- the same, in plain words. -/
structure Dm.Same (a b : Dm) : Prop where
  id : a.id = b.id
  dead : a.dead = b.dead
  m : a.m = b.m
  most : a.most = b.most
  old : a.old = b.old
  jid : a.jid = b.jid
  jms : a.jms = b.jms
  bu : a.bu.map Bu.pl = b.bu.map Bu.pl
  lo : a.lo.map Ev.pl = b.lo.map Ev.pl
theorem Dm.Same.symm {a b : Dm} (h : a.Same b) : b.Same a := ⟨h.id.symm, h.dead.symm, h.m.symm, h.most.symm, h.old.symm, h.jid.symm, h.jms.symm, h.bu.symm, h.lo.symm⟩
theorem Dm.Same.trans {a b c : Dm} (h : a.Same b) (k : b.Same c) : a.Same c := ⟨h.id.trans k.id, h.dead.trans k.dead, h.m.trans k.m, h.most.trans k.most, h.old.trans k.old, h.jid.trans k.jid, h.jms.trans k.jms, h.bu.trans k.bu, h.lo.trans k.lo⟩
theorem sz_of_pl {a b : List Bu} (h : a.map Bu.pl = b.map Bu.pl) : Bus.tot a = Bus.tot b := by
  have e : ∀ l : List Bu, l.map (fun e => e.sz) = (l.map Bu.pl).map (fun p => p.2.2.2.length) := fun l => by rw [List.map_map]; rfl
  unfold Bus.tot; rw [e, e, h]
theorem sz_of_ple {a b : List Ev} (h : a.map Ev.pl = b.map Ev.pl) : Evs.tot a = Evs.tot b := by
  have e : ∀ l : List Ev, l.map (fun e => e.sz) = (l.map Ev.pl).map (fun p => p.2.2.1.length + p.2.2.2.1.2.2.2.size + p.2.2.2.2.length) := fun l => by rw [List.map_map]; rfl
  unfold Evs.tot; rw [e, e, h]
theorem Dm.Same.small {a b : Dm} (h : a.Same b) (k : DmS b) : DmS a := by
  have l1 : a.bu.length = b.bu.length := by have := congrArg List.length h.bu; simpa using this
  have l2 : a.lo.length = b.lo.length := by have := congrArg List.length h.lo; simpa using this
  exact ⟨h.m ▸ k.mt, h.jms ▸ k.jo, by rw [l1, sz_of_pl h.bu]; exact k.bu, by rw [l2, sz_of_ple h.lo]; exact k.lo⟩
/-- the blocks of a list of bundles, of a list of events. -/
def BusOwn (s : Sv) (bs : List Bu) (y : Nat) : Prop := s.v.ownBlock = some y ∨ ∃ b ∈ bs, b.own y
def EvsOwn (s : Sv) (es : List Ev) (y : Nat) : Prop := s.v.ownBlock = some y ∨ ∃ e ∈ es, e.own y
/-- each of its lists lies apart. -/
structure BusA (s : Sv) (bs : List Bu) : Prop where
  row : ∀ y, s.v.ownBlock = some y → ∀ b ∈ bs, ¬ b.own y
  two : bs.Pairwise fun a b => ∀ x, a.own x → ¬ b.own x
structure EvsA (s : Sv) (es : List Ev) : Prop where
  row : ∀ y, s.v.ownBlock = some y → ∀ e ∈ es, ¬ e.own y
  one : ∀ e ∈ es, ∀ x, e.sm.v.ownBlock = some x → e.sw.v.ownBlock ≠ some x
  two : es.Pairwise fun a b => ∀ x, a.own x → ¬ b.own x
structure DmA (d : Dm) : Prop where
  mj : ∀ x, d.mv.own x → d.js.v.ownBlock ≠ some x
  mb : ∀ x, d.mv.own x → ¬ BusOwn d.bs d.bu x
  ml : ∀ x, d.mv.own x → ¬ EvsOwn d.ls d.lo x
  jb : ∀ x, d.js.v.ownBlock = some x → ¬ BusOwn d.bs d.bu x
  jl : ∀ x, d.js.v.ownBlock = some x → ¬ EvsOwn d.ls d.lo x
  bl : ∀ x, BusOwn d.bs d.bu x → ¬ EvsOwn d.ls d.lo x
  bu : BusA d.bs d.bu
  lo : EvsA d.ls d.lo
theorem BusO.olt {w : World} {B : Nat} {s : Sv} {bs : List Bu} (h : BusO w B s bs) {y : Nat} (hy : BusOwn s bs y) : B ≤ y ∧ y < w.heap.size := by
  rcases hy with hy | ⟨b, hb, hy⟩
  · exact h.1.lt y hy
  · exact (h.2 b hb).lt y hy
theorem EvsO.olt {w : World} {B : Nat} {s : Sv} {es : List Ev} (h : EvsO w B s es) {y : Nat} (hy : EvsOwn s es y) : B ≤ y ∧ y < w.heap.size := by
  rcases hy with hy | ⟨b, hb, hy⟩
  · exact h.1.lt y hy
  · exact (h.2 b hb).lt y hy
theorem BusUp.a {s : Sv} {bs : List Bu} (h : BusUp bs) (hr : ∀ b, s.v.ownBlock = some b → ∀ e ∈ bs, ∀ x, e.own x → b < x) : BusA s bs :=
  ⟨fun y hy b hb hx => by have := hr y hy b hb y hx; omega, h.2.imp fun h x hx hy => by have := h x x hx hy; omega⟩
theorem EvsUp.a {s : Sv} {es : List Ev} (h : EvsUp es) (hr : ∀ b, s.v.ownBlock = some b → ∀ e ∈ es, ∀ x, e.own x → b < x) : EvsA s es :=
  ⟨fun y hy b hb hx => by have := hr y hy b hb y hx; omega, fun e he x h1 h2 => by have := h.1 e he x x h1 h2; omega, h.2.imp fun h x hx hy => by have := h x x hx hy; omega⟩
end Go.Proofs.Ytdodeillifoibaa


/- Lists of bundles, lists of events: marked, and looked at again. Written by gen_gpl.py. -/
namespace Go.Proofs.Ytdodeillifoibaa
open Go.RowKit Pl
set_option linter.unusedVariables false
set_option linter.unusedSimpArgs false

def zBu : Bu := ⟨0, 0, 0, [], zSv⟩
def fdBu (u : Bu) : List Fd := [⟨0, 0, none, []⟩, ⟨1, 0, none, []⟩, ⟨2, 0, none, []⟩, ⟨3, 0, some u.s, [0, 0, 0, 2]⟩]
def atBu (es : List Bu) (j : Nat) : Bu := (es[j]?).getD zBu
theorem Bu.lvs {w : World} {B : Nat} {e : Bu} (h : e.O w B) : LvS w e.s 4 := SlI.lv h
theorem Bu.ow {w : World} {B : Nat} {e : Bu} (h : e.O w B) {f : Fd} (hf : f ∈ fdBu e) {x : Nat} (hx : f.ow x) : e.own x := by
  obtain ⟨s, h1, h2, h3⟩ := hx
  simp only [fdBu, List.mem_cons, List.not_mem_nil, or_false] at hf
  have lv := Bu.lvs h
  rcases hf with rfl | rfl | rfl | rfl
  · cases h1
  · cases h1
  · cases h1
  · simp only [Option.some.injEq] at h1
    subst h1
    rw [← h3]
    exact ow_own (fun h0 => (lv h0).1) h2
/-- a list that is marked from K up to M. -/
def HeldBu (w : World) (s : Sv) (es : List Bu) (K M : Nat) : Prop := ∃ (TL : List Spot) (us : Nat → Bu) (N : Nat → Nat), Held w TL K ∧ BuSegL w TL s.a s.n us N ∧ N 0 = 0 ∧ M = K + N s.n ∧ s.n ≤ 1048576 ∧ (∀ x ∈ TL, BusOwn s es x.1)
theorem HeldBu.keep {w w' : World} {s : Sv} {es : List Bu} {K M : Nat} (h : HeldBu w s es K M) (hz : w.heap.size ≤ w'.heap.size) (hk : ∀ b, BusOwn s es b → b < w.heap.size → w'.heap[b]? = w.heap[b]?) : HeldBu w' s es K M := by
  obtain ⟨TL, us, N, h1, h2, h3, h4, h6, h5⟩ := h
  refine ⟨TL, us, N, fun i x hx => ?_, ⟨fun j hj => ?_, h2.nx⟩, h3, h4, h6, h5⟩
  · obtain ⟨k1, k2⟩ := h1 i x hx
    exact ⟨by omega, (cell_block (hk x.1 (h5 x (List.mem_of_getElem? hx)) k1)).trans k2⟩
  · obtain ⟨g, off, e, x⟩ := h2.one j hj
    have hb := hk g (.inl (by simp [Sv.v, Value.ownBlock, e])) x.gl
    exact ⟨g, off, e, { x with gl := by have := x.gl; omega, h3 := (cell_block hb).trans x.h3 }⟩
theorem HeldBu.later {w w' : World} {s : Sv} {es : List Bu} {K M : Nat} (h : HeldBu w s es K M) (b : Below w.heap.size w w') : HeldBu w' s es K M := h.keep b.size fun k _ hk => b.block k hk
def zEv : Ev := ⟨0, 0, [], 0, 0, 0, ⟨#[]⟩, [], zSv, zSv⟩
def fdEv (u : Ev) : List Fd := [⟨0, 0, none, []⟩, ⟨1, 0, none, []⟩, ⟨2, 0, some u.sm, [0]⟩, ⟨3, 0, none, []⟩, ⟨4, 0, none, []⟩, ⟨5, 0, none, []⟩, ⟨6, 2, none, []⟩, ⟨7, 0, some u.sw, [0]⟩]
def atEv (es : List Ev) (j : Nat) : Ev := (es[j]?).getD zEv
theorem atEv_is {es : List Ev} {j : Nat} (h : j < es.length) : atEv es j = es[j] := by simp [atEv, h]
theorem Ev.lvs {w : World} {B : Nat} {e : Ev} (h : e.O w B) : LvS w e.sm 1 ∧ LvS w e.sw 1 := ⟨OwnI.lv h.1, OwnI.lv h.2⟩
theorem Ev.ow {w : World} {B : Nat} {e : Ev} (h : e.O w B) {f : Fd} (hf : f ∈ fdEv e) {x : Nat} (hx : f.ow x) : e.own x := by
  obtain ⟨s, h1, h2, h3⟩ := hx
  simp only [fdEv, List.mem_cons, List.not_mem_nil, or_false] at hf
  have lv := Ev.lvs h
  rcases hf with rfl | rfl | rfl | rfl | rfl | rfl | rfl | rfl
  · cases h1
  · cases h1
  · simp only [Option.some.injEq] at h1
    subst h1
    rw [← h3]
    exact .inl (ow_own (fun h0 => (lv.1 h0).1) h2)
  · cases h1
  · cases h1
  · cases h1
  · cases h1
  · simp only [Option.some.injEq] at h1
    subst h1
    rw [← h3]
    exact .inr (ow_own (fun h0 => (lv.2 h0).1) h2)
theorem fdEv_ok {w : World} {B : Nat} {s : Sv} {es : List Ev} (h : EvsO w B s es) (a : EvsA s es) : FdOk w (svB s) 8 es.length (fun j => fdEv (atEv es j)) := by
  refine ⟨fun j hj f hf hs => ?_, fun j hj f hf hx => ?_, fun j hj => ?_, fun i j hij hj f hf f' hf' x hx hy => ?_, fun j hj f hf s' hs => ?_⟩
  · simp only [fdEv, List.mem_cons, List.not_mem_nil, or_false] at hf
    rcases hf with rfl | rfl | rfl | rfl | rfl | rfl | rfl | rfl <;> first | (simp; done) | cases hs
  · have ho := h.2 _ (List.getElem_mem hj)
    try dsimp only at hf
    rw [atEv_is hj] at hf
    obtain ⟨ha, _⟩ := rowCells h.1 (by simpa using (by omega : 0 < es.length))
    exact a.row (svB s) (by simp [Sv.v, Value.ownBlock, ha]) _ (List.getElem_mem hj) (Ev.ow ho hf hx)
  · try dsimp only
    rw [atEv_is hj]
    have lv := Ev.lvs (h.2 _ (List.getElem_mem hj))
    obtain ⟨u, hu⟩ : ∃ u, u = es[j] := ⟨_, rfl⟩
    have hm : u ∈ es := by rw [hu]; exact List.getElem_mem hj
    rw [← hu] at lv ⊢
    simp only [fdEv, List.pairwise_cons, List.mem_cons, List.not_mem_nil, or_false, forall_eq_or_imp, forall_eq, List.Pairwise.nil, and_true, Fd.ow]
    simp
    intro k1 k3 k4
    exact a.one u hm (svB u.sm) (ow_own (fun h0 => (lv.1 h0).1) k1) (by rw [← k4]; exact ow_own (fun h0 => (lv.2 h0).1) k3)
  · have ho := h.2 _ (List.getElem_mem hj)
    have hi : i < es.length := by omega
    have hoi := h.2 _ (List.getElem_mem hi)
    try dsimp only at hf hf'
    rw [atEv_is hi] at hf
    rw [atEv_is hj] at hf'
    exact List.pairwise_iff_getElem.1 a.two i j hi hj hij x (Ev.ow hoi hf hx) (Ev.ow ho hf' hy)
  · have lv := Ev.lvs (h.2 _ (List.getElem_mem hj))
    try dsimp only at hf
    rw [atEv_is hj] at hf
    simp only [fdEv, List.mem_cons, List.not_mem_nil, or_false] at hf
    rcases hf with rfl | rfl | rfl | rfl | rfl | rfl | rfl | rfl
    · cases hs
    · cases hs
    · simp only [Option.some.injEq] at hs
      subst hs
      exact lv.1
    · cases hs
    · cases hs
    · cases hs
    · cases hs
    · simp only [Option.some.injEq] at hs
      subst hs
      exact lv.2
theorem pcEv_len (g o : Nat) (u : Ev) : (pc g o (fdEv u)).length = EvSeg.len u := by
  simp [pc, fdEv, Fd.sp, sps_len, EvSeg.len]
  omega
theorem segEv {w : World} {B : Nat} {s : Sv} {es : List Ev} (h : EvsO w B s es) (a : EvsA s es) : EvSegL w (tls (svB s) (svO s) 8 (fun j => fdEv (atEv es j)) es.length) s.a s.n (atEv es) (tlN (svB s) (svO s) 8 (fun j => fdEv (atEv es j))) := by
  have hF := fdEv_ok h a
  have hn : s.n = es.length := by have := h.1.slen; simpa using this
  rw [hn]
  refine ⟨fun j hj => ?_, fun j hj => ?_⟩
  · obtain ⟨ha, hlt, hc, hfz⟩ := rowCells h.1 (by simpa using (by omega : 0 < es.length))
    have ho := h.2 _ (List.getElem_mem hj)
    have lv := Ev.lvs ho
    refine ⟨svB s, svO s, ha, ?_⟩
    have hat : ∀ r, r < (pc (svB s) (svO s + j * 8) (fdEv (atEv es j))).length → (tls (svB s) (svO s) 8 (fun j => fdEv (atEv es j)) es.length)[tlN (svB s) (svO s) 8 (fun j => fdEv (atEv es j)) j + r]? = (pc (svB s) (svO s + j * 8) (fdEv (atEv es j)))[r]? := fun r hr => tls_at (F := fun j => fdEv (atEv es j)) hj hr
    have hrow : ∀ r u, (es[j].row)[r]? = some u → w.cell? ⟨svB s, svO s + j * 8 + r, none⟩ = some u := fun r u hu => hc j r u (by simpa using hj) (by simpa [hj] using hu)
    have hnot : ∀ c, c < 8 → (∀ i, i < es.length → ∀ f ∈ fdEv (atEv es i), f.s = none → f.c ≠ c) → ∀ x ∈ tls (svB s) (svO s) 8 (fun j => fdEv (atEv es j)) es.length, ¬ (x.1 = svB s ∧ x.2.1 = svO s + j * 8 + c) := fun c hc1 hc2 => tls_not hF hj hc1 hc2
    rw [atEv_is hj] at hat ⊢
    obtain ⟨u, hu⟩ : ∃ u, u = es[j] := ⟨_, rfl⟩
    rw [← hu] at hat hrow lv ⊢
    generalize tlN (svB s) (svO s) 8 (fun j => fdEv (atEv es j)) j = n at *
    generalize tls (svB s) (svO s) 8 (fun j => fdEv (atEv es j)) es.length = TL at *
    generalize svO s + j * 8 = o at *
    generalize svB s = g at *
    have fat : ∀ (A : List Fd) (f : Fd) (C : List Fd) (r : Nat), fdEv u = A ++ f :: C → r < (f.sp g o).length → TL[n + ((pc g o A).length + r)]? = (f.sp g o)[r]? := fun A f C r e hr => by
      rw [hat _ (by rw [e]; exact pc_len_lt A f C hr), e]
      exact pc_at A f C hr
    exact { gl := hlt, p0 := by have h := fat [] ⟨0, 0, none, []⟩ [⟨1, 0, none, []⟩, ⟨2, 0, some u.sm, [0]⟩, ⟨3, 0, none, []⟩, ⟨4, 0, none, []⟩, ⟨5, 0, none, []⟩, ⟨6, 2, none, []⟩, ⟨7, 0, some u.sw, [0]⟩] 0 rfl (by simp [Fd.sp]); simp [pc, Fd.sp, sps_len] at h; first | exact h | (rw [← h]; congr 1; omega), p1 := by have h := fat [⟨0, 0, none, []⟩] ⟨1, 0, none, []⟩ [⟨2, 0, some u.sm, [0]⟩, ⟨3, 0, none, []⟩, ⟨4, 0, none, []⟩, ⟨5, 0, none, []⟩, ⟨6, 2, none, []⟩, ⟨7, 0, some u.sw, [0]⟩] 0 rfl (by simp [Fd.sp]); simp [pc, Fd.sp, sps_len] at h; first | exact h | (rw [← h]; congr 1; omega), h2 := hrow 2 _ rfl, q2 := hnot 2 (by omega) (fun i hi f hf hs => by simp only [fdEv, List.mem_cons, List.not_mem_nil, or_false] at hf; rcases hf with rfl | rfl | rfl | rfl | rfl | rfl | rfl | rfl <;> first | (simp; done) | cases hs), s2 := seg_of (fun h0 => (lv.1 h0).1) (fun t ht => by have h := fat [⟨0, 0, none, []⟩, ⟨1, 0, none, []⟩] ⟨2, 0, some u.sm, [0]⟩ [⟨3, 0, none, []⟩, ⟨4, 0, none, []⟩, ⟨5, 0, none, []⟩, ⟨6, 2, none, []⟩, ⟨7, 0, some u.sw, [0]⟩] t rfl (by simpa [Fd.sp, sps_len] using ht); have h2 := sps_at (ds := [0]) (s := u.sm) ht; refine (congrArg (fun i => TL[i]?) (?_ : _ = n + ((pc g o [⟨0, 0, none, []⟩, ⟨1, 0, none, []⟩]).length + t))).trans (h.trans h2); simp [pc, Fd.sp, sps_len]; try omega), p3 := by have h := fat [⟨0, 0, none, []⟩, ⟨1, 0, none, []⟩, ⟨2, 0, some u.sm, [0]⟩] ⟨3, 0, none, []⟩ [⟨4, 0, none, []⟩, ⟨5, 0, none, []⟩, ⟨6, 2, none, []⟩, ⟨7, 0, some u.sw, [0]⟩] 0 rfl (by simp [Fd.sp]); simp [pc, Fd.sp, sps_len] at h; first | exact h | (rw [← h]; congr 1; omega), p4 := by have h := fat [⟨0, 0, none, []⟩, ⟨1, 0, none, []⟩, ⟨2, 0, some u.sm, [0]⟩, ⟨3, 0, none, []⟩] ⟨4, 0, none, []⟩ [⟨5, 0, none, []⟩, ⟨6, 2, none, []⟩, ⟨7, 0, some u.sw, [0]⟩] 0 rfl (by simp [Fd.sp]); simp [pc, Fd.sp, sps_len] at h; first | exact h | (rw [← h]; congr 1; omega), p5 := by have h := fat [⟨0, 0, none, []⟩, ⟨1, 0, none, []⟩, ⟨2, 0, some u.sm, [0]⟩, ⟨3, 0, none, []⟩, ⟨4, 0, none, []⟩] ⟨5, 0, none, []⟩ [⟨6, 2, none, []⟩, ⟨7, 0, some u.sw, [0]⟩] 0 rfl (by simp [Fd.sp]); simp [pc, Fd.sp, sps_len] at h; first | exact h | (rw [← h]; congr 1; omega), p6 := by have h := fat [⟨0, 0, none, []⟩, ⟨1, 0, none, []⟩, ⟨2, 0, some u.sm, [0]⟩, ⟨3, 0, none, []⟩, ⟨4, 0, none, []⟩, ⟨5, 0, none, []⟩] ⟨6, 2, none, []⟩ [⟨7, 0, some u.sw, [0]⟩] 0 rfl (by simp [Fd.sp]); simp [pc, Fd.sp, sps_len] at h; first | exact h | (rw [← h]; congr 1; omega), h7 := hrow 7 _ rfl, q7 := hnot 7 (by omega) (fun i hi f hf hs => by simp only [fdEv, List.mem_cons, List.not_mem_nil, or_false] at hf; rcases hf with rfl | rfl | rfl | rfl | rfl | rfl | rfl | rfl <;> first | (simp; done) | cases hs), s7 := seg_of (fun h0 => (lv.2 h0).1) (fun t ht => by have h := fat [⟨0, 0, none, []⟩, ⟨1, 0, none, []⟩, ⟨2, 0, some u.sm, [0]⟩, ⟨3, 0, none, []⟩, ⟨4, 0, none, []⟩, ⟨5, 0, none, []⟩, ⟨6, 2, none, []⟩] ⟨7, 0, some u.sw, [0]⟩ [] t rfl (by simpa [Fd.sp, sps_len] using ht); have h2 := sps_at (ds := [0]) (s := u.sw) ht; refine (congrArg (fun i => TL[i]?) (?_ : _ = n + ((pc g o [⟨0, 0, none, []⟩, ⟨1, 0, none, []⟩, ⟨2, 0, some u.sm, [0]⟩, ⟨3, 0, none, []⟩, ⟨4, 0, none, []⟩, ⟨5, 0, none, []⟩, ⟨6, 2, none, []⟩]).length + t))).trans (h.trans h2); simp [pc, Fd.sp, sps_len]; try omega) }
  · rw [tlN_succ, pcEv_len]
/-- a list that is marked from K up to M. -/
def HeldEv (w : World) (s : Sv) (es : List Ev) (K M : Nat) : Prop := ∃ (TL : List Spot) (us : Nat → Ev) (N : Nat → Nat), Held w TL K ∧ EvSegL w TL s.a s.n us N ∧ N 0 = 0 ∧ M = K + N s.n ∧ s.n ≤ 1048576 ∧ (∀ x ∈ TL, EvsOwn s es x.1)
theorem HeldEv.keep {w w' : World} {s : Sv} {es : List Ev} {K M : Nat} (h : HeldEv w s es K M) (hz : w.heap.size ≤ w'.heap.size) (hk : ∀ b, EvsOwn s es b → b < w.heap.size → w'.heap[b]? = w.heap[b]?) : HeldEv w' s es K M := by
  obtain ⟨TL, us, N, h1, h2, h3, h4, h6, h5⟩ := h
  refine ⟨TL, us, N, fun i x hx => ?_, ⟨fun j hj => ?_, h2.nx⟩, h3, h4, h6, h5⟩
  · obtain ⟨k1, k2⟩ := h1 i x hx
    exact ⟨by omega, (cell_block (hk x.1 (h5 x (List.mem_of_getElem? hx)) k1)).trans k2⟩
  · obtain ⟨g, off, e, x⟩ := h2.one j hj
    have hb := hk g (.inl (by simp [Sv.v, Value.ownBlock, e])) x.gl
    exact ⟨g, off, e, { x with gl := by have := x.gl; omega, h2 := (cell_block hb).trans x.h2, h7 := (cell_block hb).trans x.h7 }⟩
theorem HeldEv.later {w w' : World} {s : Sv} {es : List Ev} {K M : Nat} (h : HeldEv w s es K M) (b : Below w.heap.size w w') : HeldEv w' s es K M := h.keep b.size fun k _ hk => b.block k hk
theorem tlN_Ev {w : World} {B : Nat} {s : Sv} {es : List Ev} (h : EvsO w B s es) : ∀ k, k ≤ es.length → tlN (svB s) (svO s) 8 (fun j => fdEv (atEv es j)) k ≤ 6 * k + 1 * Evs.tot (es.take k)
  | 0, _ => by simp [tlN, tls]
  | k + 1, hk => by
    have ih := tlN_Ev h k (by omega)
    have ho := h.2 _ (List.getElem_mem (show k < es.length by omega))
    rw [tlN_succ, pcEv_len, Evs.tot_take es k (by omega), atEv_is (by omega)]
    have h1 := ho.1.slen
    have h2 := ho.2.slen
    unfold EvSeg.len Ev.sz
    omega
theorem markEvs_o (s : Sv) (es : List Ev) (B K : Nat) (w : World) (h : Hid (EvsO w B s es)) (a : Hid (EvsA s es)) (hK : 0 < K) (hn : es.length ≤ 1048576) (hl : K + (6 * es.length + 1 * Evs.tot es) ≤ 39999990) :
    Calls Try.prog 13 #[.slice s.a s.n s.c, .int .i64 K] w fun e w' => ∃ M : Nat, e = .returned (.int .i64 (M : Int)) ∧ K ≤ M ∧ M ≤ K + (6 * es.length + 1 * Evs.tot es) ∧ HeldEv w' s es K M ∧ Gr (EvsOwn s es) w w' := by
  have hN := h.out.1.slen
  rw [List.length_map] at hN
  have tok := tls_ok (F := fun j => fdEv (atEv es j)) h.out.1 (by simpa using fdEv_ok h.out a.out)
  rw [List.length_map] at tok
  have sg := segEv h.out a.out
  have hb := tlN_Ev h.out es.length (Nat.le_refl _)
  rw [List.take_of_length_le (Nat.le_refl _)] at hb
  have hle : K + tlN (svB s) (svO s) 8 (fun j => fdEv (atEv es j)) s.n ≤ 39999990 := by rw [hN]; omega
  have hin : ∀ x ∈ tls (svB s) (svO s) 8 (fun j => fdEv (atEv es j)) es.length, EvsOwn s es x.1 := fun x hx => by
    rcases tls_in hx with h1 | ⟨j, hj, f, hf, h1⟩
    · obtain ⟨j, hj, _⟩ := tls_mem hx
      obtain ⟨ha, _⟩ := rowCells h.out.1 (by simpa using (by omega : 0 < es.length))
      rw [h1]
      exact .inl (by simp [Sv.v, Value.ownBlock, ha])
    · rw [atEv_is hj] at hf
      exact .inr ⟨_, List.getElem_mem hj, Ev.ow (h.out.2 _ (List.getElem_mem hj)) hf h1⟩
  have hz0 : tlN (svB s) (svO s) 8 (fun j => fdEv (atEv es j)) 0 = 0 := by simp [tlN, tls]
  have mst : MkI w w (tls (svB s) (svO s) 8 (fun j => fdEv (atEv es j)) es.length) K (tlN (svB s) (svO s) 8 (fun j => fdEv (atEv es j)) 0) w := by rw [hz0]; exact MkI.start w _ K
  refine (markevents_sp w _ K s.a s.n s.c (atEv es) (tlN (svB s) (svO s) 8 (fun j => fdEv (atEv es j))) (K : Int) w tok mst sg (by rw [hz0]; rfl : (K : Int) = ((K + tlN (svB s) (svO s) 8 (fun j => fdEv (atEv es j)) 0 : Nat) : Int)) hle (by rw [hN]; omega) hK).mono ?_
  rintro e w' ⟨M, rfl, hM, mk⟩
  have hTL : tlN (svB s) (svO s) 8 (fun j => fdEv (atEv es j)) s.n = (tls (svB s) (svO s) 8 (fun j => fdEv (atEv es j)) es.length).length := by rw [hN]; rfl
  have b0 := mk.below 0 (fun _ _ => Nat.zero_le _) (Nat.zero_le _)
  refine ⟨M, rfl, by omega, by rw [hM, hN]; omega, ⟨_, _, _, (show Held w' _ K from (by rw [hTL] at mk; exact mk.held tok)), sg.marked mk, by simp [tlN, tls], hM, by rw [hN]; omega, hin⟩, ⟨b0.os, b0.tape, b0.output, mk.size, fun b hb hn => mk.blk b hb (fun x hx e => hn (e ▸ hin x hx))⟩⟩
end Go.Proofs.Ytdodeillifoibaa


/- The law on ItemsOf. -/
namespace Go.Proofs.Ytdodeillifoibaa
open Go.RowKit Pl
set_option linter.unusedVariables false
set_option linter.unusedSimpArgs false

theorem itemsP_pl {c : Int} {a b : List Ev} (h : a.map Ev.pl = b.map Ev.pl) : itemsP c a = itemsP c b := by
  have e : ∀ l : List Ev, itemsP c l = ((l.map Ev.pl).filter fun p => p.1 == 1 && p.2.1 == c).map fun p => p.2.2.2.1 := fun l => by
    unfold itemsP
    rw [List.filter_map, List.map_map]
    rfl
  rw [e, e, h]
theorem Evs.small {z N : Nat} {es : List Ev} (h : z + (es.length + Evs.tot es) ≤ N) (hN : N ≤ 1048576) : es.length + Evs.tot es ≤ 1048576 ∧ ∀ e ∈ es, e.S :=
  ⟨by omega, fun e he => by have h1 := tot_le (fun e : Ev => e.sz) _ e he; unfold Evs.tot at h; unfold Ev.S; unfold Ev.sz at h1 h; omega⟩
theorem Evs.same_len {a b : List Ev} (h : a.map Ev.pl = b.map Ev.pl) : a.length = b.length := by have := congrArg List.length h; simpa using this
theorem Evs.same_S {a b : List Ev} (h : a.map Ev.pl = b.map Ev.pl) (hs : ∀ e ∈ b, e.S) : ∀ e ∈ a, e.S := fun e he => by
  have h1 : e.pl ∈ b.map Ev.pl := by rw [← h]; exact List.mem_map_of_mem he
  obtain ⟨f, hf, hp⟩ := List.mem_map.1 h1
  have := hs f hf
  simp only [Ev.pl, Prod.mk.injEq] at hp
  obtain ⟨_, _, h2, ⟨_, _, _, h3⟩, h4⟩ := hp
  unfold Ev.S at *
  rw [← h2, ← h3, ← h4]
  exact this

set_option maxRecDepth 100000 in
set_option maxHeartbeats 16000000 in
theorem lawItemsOf (s : Sv) (es : List Ev) (c : Int) (w : World) (h0 : Hid (EvsR w s es)) (hl : es.length ≤ 9223372036854775807) (hL : Hid (∀ e ∈ es, e.L)) :
    Calls Try.prog 3 #[.slice s.a s.n s.c, .int .i64 c] w fun e w' => e = .returned (.bool true) ∧ Below w.heap.size w w' := by
  have HR : Hid (EvsR w s es) := h0
  have BW : Hid (Below w.heap.size w w) := Below.refl _ _
  go_enter Try.func3, Try.ntmps3
  go_wp2_with fail
  refine (szEvents_any s es 1048576 _ HR (by omega) hl hL).mono ?_
  rintro e w1 ⟨rfl | ⟨z1, rfl, hz1⟩, b⟩
  · go_wp2_with fail
    go_ret
    exact ⟨rfl, bl_next BW.out b⟩
  have hd1 : decide ((z1 : Int) < 0) = false := by simp
  obtain ⟨hN0, HS0⟩ := Evs.small hz1.out (by omega)
  have hN : es.length ≤ 1048576 := by omega
  have HN0 : Hid (es.length + Evs.tot es ≤ 1048576) := hN0
  have HS : Hid (∀ e ∈ es, e.S) := HS0
  clear HS0 hz1 hN0
  have BW : Hid (Below w.heap.size w w1) := bl_next BW.out b
  have HR : Hid (EvsR w1 s es) := HR.out.stays b
  clear b
  go_wp2_with fail
  clear hd1
  refine (toEvents_any s es _ HR hN HS).mono ?_
  rintro e w2 ⟨u2, c2, rfl, e2, o2, p2, q2, b⟩
  have O2 : Hid (EvsO w2 w1.heap.size u2 c2) := o2
  have E2 : Hid (c2.map Ev.pl = es.map Ev.pl) := e2
  have N2 : c2.length ≤ 1048576 := by rw [Evs.same_len e2]; exact hN
  clear o2 e2 p2 q2
  have BW : Hid (Below w.heap.size w w2) := bl_next BW.out b
  have HR : Hid (EvsR w2 s es) := HR.out.stays b
  clear b
  go_wp2_with fail
  obtain ⟨L, hLe⟩ : ∃ L, L = itemsP c es := ⟨_, rfl⟩
  have HL : Hid (L = itemsP c es) := hLe
  have hLn : L.length ≤ 1048576 := by rw [hLe]; exact Nat.le_trans (itemsP_len c es) hN
  clear hLe
  refine (spItemsOf_any u2 c2 c _ (show Hid (EvsR _ u2 c2) from O2.out.r) N2).mono ?_
  rintro e w3 ⟨uk, rfl, ok, b⟩
  rw [itemsP_pl E2.out, ← HL.out] at ok
  have KO : Hid (SlI w3 w2.heap.size uk.v L) := ok
  have KL : Hid (∀ x, uk.v.ownBlock = some x → x < w3.heap.size) := fun x hx => (Sl.lt ok x hx).2
  have BW : Hid (Below w.heap.size w w3) := bl_next BW.out b
  have HR : Hid (EvsR w3 s es) := HR.out.stays b
  have zw3 : w.heap.size ≤ w3.heap.size := BW.out.size
  clear ok b O2 E2 N2
  go_wp2_with fail
  refine (toEvents_any s es _ HR hN HS).mono ?_
  rintro e w4 ⟨ux, cx, rfl, ex, ox, px, qx, b⟩
  have XO : Hid (EvsO w4 w3.heap.size ux cx) := ox
  have EX : Hid (cx.map Ev.pl = es.map Ev.pl) := ex
  have NX : cx.length ≤ 1048576 := by rw [Evs.same_len ex]; exact hN
  have SX : Hid (∀ e ∈ cx, e.S) := Evs.same_S ex HS.out
  have AX : Hid (EvsA ux cx) := px.a fun b hb => (qx b hb).2
  have XL : Hid (∀ x, EvsOwn ux cx x → w3.heap.size ≤ x ∧ x < w4.heap.size) := fun x hx => ox.olt hx
  clear ox ex px qx
  have z4 : w3.heap.size ≤ w4.heap.size := b.size
  have BW : Hid (Below w.heap.size w w4) := bl_next BW.out b
  have HR : Hid (EvsR w4 s es) := HR.out.stays b
  have KO : Hid (SlI w4 w2.heap.size uk.v L) := KO.out.below b
  clear b
  go_wp2_with fail
  refine (itemsOf_any ux cx c _ (show Hid (EvsR _ ux cx) from XO.out.r) NX SX).mono ?_
  rintro e w5 ⟨ug, rfl, og, b⟩
  rw [itemsP_pl EX.out, ← HL.out] at og
  have GO : Hid (SlI w5 w4.heap.size ug.v L) := og
  have GL : Hid (∀ x, ug.v.ownBlock = some x → w4.heap.size ≤ x ∧ x < w5.heap.size) := fun x hx => Sl.lt og x hx
  have z5 : w4.heap.size ≤ w5.heap.size := b.size
  have BW : Hid (Below w.heap.size w w5) := bl_next BW.out b
  have HR : Hid (EvsR w5 s es) := HR.out.stays b
  have KO : Hid (SlI w5 w2.heap.size uk.v L) := KO.out.below b
  have XO : Hid (EvsO w5 w3.heap.size ux cx) := XO.out.below b
  clear og b
  go_wp2_with fail
  refine (eqItems_sl ug.v uk.v L _ _ _ GO.out KO.out hLn).mono ?_
  rintro e w6 ⟨rfl, b⟩
  have z6 : w5.heap.size ≤ w6.heap.size := b.size
  have BW : Hid (Below w.heap.size w w6) := bl_next BW.out b
  have HR : Hid (EvsR w6 s es) := HR.out.stays b
  have KO : Hid (SlI w6 w2.heap.size uk.v L) := KO.out.below b
  have GO : Hid (SlI w6 w4.heap.size ug.v L) := GO.out.below b
  have XO : Hid (EvsO w6 w3.heap.size ux cx) := XO.out.below b
  clear b
  go_wp2_with fail
  refine (toEvents_any s es _ HR hN HS).mono ?_
  rintro e w7 ⟨ut, ct, rfl, et, ot, pt, qt, b⟩
  have OT : Hid (EvsO w7 w6.heap.size ut ct) := ot
  have ET : Hid (cx.map Ev.pl = ct.map Ev.pl) := EX.out.trans et.symm
  clear ot et pt qt
  have z7 : w6.heap.size ≤ w7.heap.size := b.size
  have BW : Hid (Below w.heap.size w w7) := bl_next BW.out b
  have HR : Hid (EvsR w7 s es) := HR.out.stays b
  have KO : Hid (SlI w7 w2.heap.size uk.v L) := KO.out.below b
  have GO : Hid (SlI w7 w4.heap.size ug.v L) := GO.out.below b
  have XO : Hid (EvsO w7 w3.heap.size ux cx) := XO.out.below b
  clear b
  go_wp2_with fail
  refine (eqEvs_any ux ut cx ct _ _ _ XO OT ET NX SX).mono ?_
  rintro e w8 ⟨rfl, b⟩
  have z8 : w7.heap.size ≤ w8.heap.size := b.size
  have BW : Hid (Below w.heap.size w w8) := bl_next BW.out b
  have KO : Hid (SlI w8 w2.heap.size uk.v L) := KO.out.below b
  have GO : Hid (SlI w8 w4.heap.size ug.v L) := GO.out.below b
  have XO : Hid (EvsO w8 w3.heap.size ux cx) := XO.out.below b
  clear b OT ET HR
  go_wp2_with fail
  refine (markEvs_o ux cx _ 1 _ XO AX (by omega) NX (by rw [sz_of_ple EX.out, Evs.same_len EX.out]; have := HN0.out; omega)).mono ?_
  rintro e w9 ⟨Mx, rfl, m1, m2, _, G⟩
  have hMx : decide ((Mx : Int) < 0) = false := by simp
  have BW : Hid (Below w.heap.size w w9) := BW.out.trans (G.below (fun x hx => by have := (XL.out x hx).1; omega) BW.out.size)
  have KO : Hid (SlI w9 w2.heap.size uk.v L) := Sl.keep KO.out fun b hb hl => G.block b hl (fun h => by have := KL.out b hb; have := (XL.out b h).1; omega)
  have GO : Hid (SlI w9 w4.heap.size ug.v L) := Sl.keep GO.out fun b hb hl => G.block b hl (fun h => by have := (GL.out b hb).1; have := (XL.out b h).2; omega)
  clear G XO AX SX EX
  go_wp2_with fail
  clear hMx
  refine (eqItems_sl ug.v uk.v L _ _ _ GO.out KO.out hLn).mono ?_
  rintro e w10 ⟨rfl, b⟩
  have z10 : w9.heap.size ≤ w10.heap.size := b.size
  have BW : Hid (Below w.heap.size w w10) := bl_next BW.out b
  have KO : Hid (SlI w10 w2.heap.size uk.v L) := KO.out.below b
  have GO : Hid (SlI w10 w4.heap.size ug.v L) := GO.out.below b
  clear b
  go_wp2_with fail
  refine (markItems_any ug.v L _ 1 _ GO (by omega) (by omega)).mono ?_
  rintro e w11 ⟨rfl, hg, G0⟩
  have G : Gr (fun x => ug.v.ownBlock = some x) w10 w11 := Gr.ofGrown G0 (fun k hk => hk)
  have GO : Hid (SlI w11 w4.heap.size ug.v (mkI 1 L.length)) := hg
  have BW : Hid (Below w.heap.size w w11) := BW.out.trans (G.below (fun x hx => by have := (GL.out x hx).1; omega) BW.out.size)
  have KO : Hid (SlI w11 w2.heap.size uk.v L) := Sl.keep KO.out fun b hb hl => G.block b hl (fun h => by have := KL.out b hb; have := (GL.out b h).1; omega)
  have HR : Hid (EvsR w11 s es) := h0.out.stays BW.out
  have hM0 : decide (((1 + 4 * L.length : Nat) : Int) < 0) = false := by simp; omega
  have hMM : (((1 + 4 * L.length : Nat) : Int) != ((1 + 4 * L.length : Nat) : Int)) = false := by simp
  clear G G0 hg
  go_wp2_with fail
  refine (heldItems_any ug.v L.length _ 1 _ GO (by omega) (by omega)).mono ?_
  rintro e w12 ⟨rfl, b⟩
  have BW : Hid (Below w.heap.size w w12) := bl_next BW.out b
  have HR : Hid (EvsR w12 s es) := HR.out.stays b
  have KO : Hid (SlI w12 w2.heap.size uk.v L) := KO.out.below b
  have GO : Hid (SlI w12 w4.heap.size ug.v (mkI 1 L.length)) := GO.out.below b
  clear b
  go_wp2_with fail
  refine (toEvents_any s es _ HR hN HS).mono ?_
  rintro e w13 ⟨u2, c2, rfl, e2, o2, p2, q2, b⟩
  have O2 : Hid (EvsO w13 w12.heap.size u2 c2) := o2
  have E2 : Hid (c2.map Ev.pl = es.map Ev.pl) := e2
  have N2 : c2.length ≤ 1048576 := by rw [Evs.same_len e2]; exact hN
  have S2 : Hid (∀ e ∈ c2, e.S) := Evs.same_S e2 HS.out
  clear o2 e2 p2 q2
  have BW : Hid (Below w.heap.size w w13) := bl_next BW.out b
  have KO : Hid (SlI w13 w2.heap.size uk.v L) := KO.out.below b
  have GO : Hid (SlI w13 w4.heap.size ug.v (mkI 1 L.length)) := GO.out.below b
  clear b HR
  go_wp2_with fail
  refine (itemsOf_any u2 c2 c _ (show Hid (EvsR _ u2 c2) from O2.out.r) N2 S2).mono ?_
  rintro e w14 ⟨uh, rfl, oh, b⟩
  rw [itemsP_pl E2.out, ← HL.out] at oh
  have HO : Hid (SlI w14 w13.heap.size uh.v L) := oh
  have BW : Hid (Below w.heap.size w w14) := bl_next BW.out b
  have KO : Hid (SlI w14 w2.heap.size uk.v L) := KO.out.below b
  have GO : Hid (SlI w14 w4.heap.size ug.v (mkI 1 L.length)) := GO.out.below b
  clear oh b O2 E2 N2 S2
  go_wp2_with fail
  refine (eqItems_sl uh.v uk.v L _ _ _ HO.out KO.out hLn).mono ?_
  rintro e w15 ⟨rfl, b⟩
  have BW : Hid (Below w.heap.size w w15) := bl_next BW.out b
  have GO : Hid (SlI w15 w4.heap.size ug.v (mkI 1 L.length)) := GO.out.below b
  clear b HO KO
  go_wp2_with fail
  refine (heldItems_any ug.v L.length _ 1 _ GO (by omega) (by omega)).mono ?_
  rintro e w16 ⟨rfl, b⟩
  have BW : Hid (Below w.heap.size w w16) := bl_next BW.out b
  clear b
  go_wp2_with fail
  go_ret
  exact ⟨rfl, BW.out⟩
end Go.Proofs.Ytdodeillifoibaa


