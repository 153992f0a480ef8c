/- Joined texts: CHf CShr CSla CLem14 CLs CRgs CGp CGrm CEv CEvs CBus CGee CGeb CEqw CDm CGpr CCd CGbm CGem2 CGpl CDmk CCdm CLrs CRok CGrd CLnd14 CDns CWns CWni. -/
import Derived.Test.YtoahljkifikbaaaGreatQn16
import Derived.Test.YtoahljkifikbaaaGreatQn15
import Derived.Test.YtoahljkifikbaaaGreatQn14
import Derived.Test.YtoahljkifikbaaaGreatQn8
import Derived.Test.YtoahljkifikbaaaGreatQn11
import Derived.Laws.MakeOwn
import Derived.Test.YtoahljkifikbaaaGreatQn13
import Derived.Test.YtoahljkifikbaaaGreatQn5
/- Hear. -/
namespace Go.Proofs.YtoahljkifikbaaaGreat
open Go.RowKit Pl
set_option linter.unusedVariables false
set_option linter.unusedSimpArgs false

/-- the member behind it. -/
def Mt.hadH (m : Mt) : Mt := m.setH (m.he + m.hear.length)

end Go.Proofs.YtoahljkifikbaaaGreat


/- What a member hears: the specification's Hear, where the member is right. Written by gen_shr.py. -/
namespace Go.Proofs.YtoahljkifikbaaaGreat
open Go.RowKit Pl
set_option linter.unusedVariables false
set_option linter.unusedSimpArgs false

end Go.Proofs.YtoahljkifikbaaaGreat


/- What a token wants yet: the specification's Lacks. Written by gen_sla.py. -/
namespace Go.Proofs.YtoahljkifikbaaaGreat
open Go.RowKit Pl
set_option linter.unusedVariables false
set_option linter.unusedSimpArgs false

/-- whether a number is wanted yet. -/
def slB (ws lk : List Int) (its : List It) (n : Int) : Bool := (!hasP its n && inB ws n) || inB lk n
def slGo (ws lk : List Int) (its : List It) : Nat → Nat → List Int → List Int
  | 0, _, acc => acc
  | f + 1, n, acc => if acc.length < 20 then slGo ws lk its f (n + 1) (if slB ws lk its (n : Int) = true then acc ++ [(n : Int)] else acc) else acc
def slackP (ws : List Int) (its : List It) (q : Int) : List Int := slGo ws (missP its q) its 60 1 []
end Go.Proofs.YtoahljkifikbaaaGreat


/- Small lemmas of round 14: rows that are read in drawn regions, lists cut, lengths of slices. -/
namespace Go.Proofs.YtoahljkifikbaaaGreat
open Go.RowKit Pl
set_option linter.unusedVariables false
set_option linter.unusedSimpArgs false

theorem range_later {w w' : World} {g off : Nat} {cs : List Value} (h : w.rangeAt g off cs) (hg : g < w.heap.size) (b : Below w.heap.size w w') : w'.rangeAt g off cs := fun j v hv => (b.cell (p := ⟨g, off + j, none⟩) hg).trans (h j v hv)
theorem SlI.len {w : World} {B : Nat} {s : Sv} {ts : List It} (h : SlI w B s.v ts) : s.n = ts.length := by obtain ⟨a, c, h1⟩ := Sl.form h; simp only [Sv.v, Value.slice.injEq] at h1; exact h1.2.1
theorem Pl.OwnI.slen {w : World} {B : Nat} {s : Sv} {ts : List Int} (h : OwnI w B s.v ts) : s.n = ts.length := by obtain ⟨a, c, h1⟩ := h.form; simp only [Sv.v, Value.slice.injEq] at h1; exact h1.2.1
theorem Pl.OwnS.slen {w : World} {B : Nat} {s : Sv} {ts : List ByteArray} (h : OwnS w B s.v ts) : s.n = ts.length := by obtain ⟨a, c, h1⟩ := h.form; simp only [Sv.v, Value.slice.injEq] at h1; exact h1.2.1
theorem SlI.at {w : World} {B : Nat} {s : Sv} {ts : List It} (h : SlI w B s.v ts) {k : Nat} (hk : k < ts.length) : ∃ g off, s.a = some ⟨g, off, none⟩ ∧ B ≤ g ∧ g < w.heap.size ∧ w.rangeAt g (off + k * 4) [.int .i64 ts[k].1, .int .i64 ts[k].2.1, .int .i64 ts[k].2.2.1, .string ts[k].2.2.2] := by
  obtain ⟨ao, cap, h1, h2⟩ := h.rit
  have hh := h
  obtain ⟨g, off, e, hlt, c0, c1, c2, c3⟩ := h2 k hk
  simp only [Sv.v, Value.slice.injEq] at h1
  refine ⟨g, off, by rw [h1.1, e], ?_, hlt, ?_⟩
  · exact (h.lt g (by simp [Sv.v, Value.ownBlock, h1.1, e])).1
  · intro j v hv
    match j, hv with
    | 0, hv => simp at hv; subst hv; simpa using c0
    | 1, hv => simp at hv; subst hv; simpa using c1
    | 2, hv => simp at hv; subst hv; simpa using c2
    | 3, hv => simp at hv; subst hv; simpa using c3
end Go.Proofs.YtoahljkifikbaaaGreat


/- Lists of structs: rows that are read, rows that were made. No function of the program is named here. -/
namespace Go.Proofs.YtoahljkifikbaaaGreat
open Go.RowKit Pl
set_option linter.unusedVariables false
set_option linter.unusedSimpArgs false

/-- rows that are read. -/
def RwA (w : World) (a : Option Addr) (size : Nat) (rows : List (List Value)) : Prop :=
  ∀ i (h : i < rows.length), ∃ g off, a = some ⟨g, off, none⟩ ∧ g < w.heap.size ∧ rows[i].length = size ∧ w.rangeAt g (off + i * size) rows[i]
section
variable {w w' : World} {a : Option Addr} {size T B : Nat} {rows : List (List Value)}
theorem RwA.stays (h : RwA w a size rows) (b : Below w.heap.size w w') : RwA w' a size rows := fun i hi => by
  obtain ⟨g, off, h1, h2, h3, h4⟩ := h i hi
  exact ⟨g, off, h1, Nat.lt_of_lt_of_le h2 b.size, h3, range_later h4 h2 b⟩
theorem RwA.nil (w : World) (a : Option Addr) (size : Nat) : RwA w a size [] := fun i hi => absurd hi (Nat.not_lt_zero _)
theorem SlN.rwa {s : Sv} (h : SlN w T size B s.v rows) : RwA w s.a size rows := fun i hi => by
  obtain ⟨g, off, cap, h1, h2, h3, h4⟩ := h.read hi
  simp only [Sv.v, Value.slice.injEq] at h1
  exact ⟨g, off, h1.1, h3, h.lens _ (List.getElem_mem hi), h4⟩
theorem SlN.slen {s : Sv} (h : SlN w T size B s.v rows) : s.n = rows.length := by
  obtain ⟨s', e, hn⟩ := h.form
  simp only [Sv.v, Value.slice.injEq] at e
  omega
end
end Go.Proofs.YtoahljkifikbaaaGreat


/- Lists of rings that a law measures and copies. Written by gen_rg.py. -/
namespace Go.Proofs.YtoahljkifikbaaaGreat
open Go.RowKit Pl
set_option linter.unusedVariables false
set_option linter.unusedSimpArgs false

/-- a ring, and where its list lies. -/
structure Rn where
  id : Int
  ms : List Int
  s : Sv
def Rn.pl (r : Rn) : Int × List Int := (r.id, r.ms)
def Rn.row (r : Rn) : List Value := [.int .i64 r.id, .slice r.s.a r.s.n r.s.c]
def Rn.R (w : World) (r : Rn) : Prop := RI w r.s.v r.ms
theorem Rn.R.stays {w w' : World} {b : Rn} (h : b.R w) (hb : Below w.heap.size w w') : b.R w' := RI.stays h hb
def Rn.S (b : Rn) : Prop := b.ms.length ≤ 1048576
def Rn.L (b : Rn) : Prop := b.ms.length ≤ 9223372036854775807
def Rn.sz (b : Rn) : Nat := b.ms.length
def Rn.O (w : World) (B : Nat) (b : Rn) : Prop := OwnI w B b.s.v b.ms
theorem Rn.O.r {w : World} {B : Nat} {b : Rn} (h : b.O w B) : b.R w := OwnI.ri h
theorem Rn.O.keep {w w' : World} {B : Nat} {e : Rn} (h : e.O w B) (hk : ∀ b, B ≤ b → b < w.heap.size → w'.heap[b]? = w.heap[b]?) : e.O w' B := OwnI.keep h fun b hb hl => hk b (OwnI.lt h b hb).1 hl
theorem Rn.O.below {w w' : World} {B : Nat} {e : Rn} (h : e.O w B) (b : Below w.heap.size w w') : e.O w' B := h.keep fun k _ hk => b.block k hk
theorem Rn.O.down {w : World} {B B' : Nat} {e : Rn} (h : e.O w B) (hB : B' ≤ B) : e.O w B' := OwnI.down h hB
def Rn.own (e : Rn) (x : Nat) : Prop := e.s.v.ownBlock = some x
theorem Rn.O.lt {w : World} {B : Nat} {e : Rn} (h : e.O w B) (x : Nat) (hx : e.own x) : B ≤ x ∧ x < w.heap.size := OwnI.lt h x hx
def Rn.Up (e : Rn) : Prop := True
theorem Tryz.sizeRn : (Tryz.prog.info? 37).map (·.size) = some 2 := by kernel_rfl
/-- a list of them that is read. -/
def RnsR (w : World) (s : Sv) (es : List Rn) : Prop := s.n = es.length ∧ RwA w s.a 2 (es.map Rn.row) ∧ ∀ e ∈ es, e.R w
theorem RnsR.stays {w w' : World} {s : Sv} {es : List Rn} (h : RnsR w s es) (b : Below w.heap.size w w') : RnsR w' s es := ⟨h.1, h.2.1.stays b, fun e he => (h.2.2 e he).stays b⟩
/-- a list of the call's own. -/
def RnsO (w : World) (B : Nat) (s : Sv) (es : List Rn) : Prop := SlN w 37 2 B s.v (es.map Rn.row) ∧ ∀ e ∈ es, e.O w B
theorem RnsO.r {w : World} {B : Nat} {s : Sv} {es : List Rn} (h : RnsO w B s es) : RnsR w s es := ⟨by have := h.1.slen; simpa using this, h.1.rwa, fun e he => (h.2 e he).r⟩
theorem RnsO.keep {w w' : World} {B : Nat} {s : Sv} {es : List Rn} (h : RnsO w B s es) (hk : ∀ b, B ≤ b → b < w.heap.size → w'.heap[b]? = w.heap[b]?) : RnsO w' B s es := ⟨h.1.keep fun b hb hl => hk b (h.1.lt b hb).1 hl, fun e he => (h.2 e he).keep hk⟩
theorem RnsO.below {w w' : World} {B : Nat} {s : Sv} {es : List Rn} (h : RnsO w B s es) (b : Below w.heap.size w w') : RnsO w' B s es := h.keep fun k _ hk => b.block k hk
theorem RnsO.down {w : World} {B B' : Nat} {s : Sv} {es : List Rn} (h : RnsO w B s es) (hB : B' ≤ B) : RnsO w B' s es := ⟨h.1.down hB, fun e he => (h.2 e he).down hB⟩
theorem RnsO.nil (w : World) (B : Nat) : RnsO w B zSv [] := ⟨SlN.nil _ _ _ _, fun e he => by cases he⟩
/-- each one's lists lie behind those of the ones ahead. -/
def RnsUp (es : List Rn) : Prop := (∀ e ∈ es, e.Up) ∧ es.Pairwise fun a b => ∀ x y, a.own x → b.own y → x < y
def Rns.tot (es : List Rn) : Nat := (es.map fun e => e.sz).sum
theorem Tryz.infoRn : (Tryz.prog.info? 37).map (fun i => (i.zero, i.size, i.bytes)) = some (some (.agg #[.int .i64 0, .slice none 0 0]), 2, 32) := by kernel_rfl
end Go.Proofs.YtoahljkifikbaaaGreat


/- The places of a list of structs, whose fields are numbers, texts and lists: where each lies, that none is there twice. No function of the program is named here. -/
namespace Go.Proofs.YtoahljkifikbaaaGreat
open Go.RowKit Pl
set_option linter.unusedVariables false
set_option linter.unusedSimpArgs false

/-- a field: the cell c of a row (of the kind d), or a list s whose elements have the kinds ds. -/
structure Fd where
  c : Nat
  d : Nat
  s : Option Sv
  ds : List Nat
def svB (s : Sv) : Nat := (s.a.map (·.block)).getD 0
def svO (s : Sv) : Nat := (s.a.map (·.off)).getD 0
def sps (ds : List Nat) (s : Sv) : List Spot := (List.range (s.n * ds.length)).map fun t => (svB s, svO s + t, ds.getD (t % ds.length) 0)
def Fd.sp (g o : Nat) (f : Fd) : List Spot := match f.s with | none => [(g, o + f.c, f.d)] | some s => sps f.ds s
def pc (g o : Nat) (fs : List Fd) : List Spot := fs.flatMap (Fd.sp g o)
/-- the block of a list that has something. -/
def Fd.ow (f : Fd) (x : Nat) : Prop := ∃ s, f.s = some s ∧ 0 < s.n ∧ svB s = x
/-- a list that lies there. -/
def LvS (w : World) (s : Sv) (k : Nat) : Prop := 0 < s.n → s.a = some ⟨svB s, svO s, none⟩ ∧ svB s < w.heap.size ∧ (∀ t, t < s.n * k → ∃ u, w.cell? ⟨svB s, svO s + t, none⟩ = some u) ∧ ∀ t, w.frozen? ⟨svB s, t, none⟩ = false
abbrev Ne2 (a b : Spot) : Prop := ¬ (a.1 = b.1 ∧ a.2.1 = b.2.1)
/-- the places of a list of structs. -/
def tls (g off size : Nat) (F : Nat → List Fd) (len : Nat) : List Spot := (List.range len).flatMap fun j => pc g (off + j * size) (F j)
def tlN (g off size : Nat) (F : Nat → List Fd) (j : Nat) : Nat := (tls g off size F j).length
section
variable {g off size len : Nat} {F : Nat → List Fd}
/-- what is asked of the fields of each row. -/
structure FdOk (w : World) (g size len : Nat) (F : Nat → List Fd) : Prop where
  row : ∀ j, j < len → ∀ f ∈ F j, f.s = none → f.c < size
  off : ∀ j, j < len → ∀ f ∈ F j, ¬ f.ow g
  one : ∀ j, j < len → (F j).Pairwise fun f f' => (f.s = none → f'.s = none → f.c ≠ f'.c) ∧ ∀ x, f.ow x → ¬ f'.ow x
  two : ∀ i j, i < j → j < len → ∀ f ∈ F i, ∀ f' ∈ F j, ∀ x, f.ow x → ¬ f'.ow x
  lv : ∀ j, j < len → ∀ f ∈ F j, ∀ s, f.s = some s → LvS w s f.ds.length
end
/-- a list of rows, cell by cell. -/
theorem rowCells {w : World} {T size B : Nat} {s : Sv} {rows : List (List Value)} (h : SlN w T size B s.v rows) (h0 : 0 < rows.length) : s.a = some ⟨svB s, svO s, none⟩ ∧ svB s < w.heap.size ∧ (∀ j r u, j < rows.length → ((rows[j]?).getD [])[r]? = some u → w.cell? ⟨svB s, svO s + j * size + r, none⟩ = some u) ∧ ∀ o, w.frozen? ⟨svB s, o, none⟩ = false := by
  obtain ⟨g, off, cap, hv, hb, hlt, hc, hf⟩ := h.1.read h0
  simp only [Sv.v, Value.slice.injEq] at hv
  have e1 : svB s = g := by simp [svB, hv.1]
  have e2 : svO s = off := by simp [svO, hv.1]
  rw [e1, e2]
  refine ⟨hv.1, hlt, fun j r u hj hu => ?_, hf⟩
  rw [List.getElem?_eq_getElem hj] at hu
  simp only [Option.getD_some] at hu
  have hr : r < size := by rw [← h.lens _ (List.getElem_mem hj)]; exact (List.getElem?_eq_some_iff.1 hu).1
  have h2 := flat_row h.lens hj
  rw [← h2, List.getElem?_take, if_pos hr, List.getElem?_drop] at hu
  have := hc (j * size + r) u hu
  rw [Nat.add_assoc]
  exact this
theorem OwnI.lv {w : World} {B : Nat} {s : Sv} {xs : List Int} (h : OwnI w B s.v xs) : LvS w s 1 := fun h0 => by
  have hn := h.slen
  obtain ⟨g, cap, e, _, hl, hc, hf⟩ := h.some (by omega)
  simp only [Sv.v, Value.slice.injEq] at e
  have e1 : svB s = g := by simp [svB, e.1]
  have e2 : svO s = 0 := by simp [svO, e.1]
  rw [e1, e2]
  exact ⟨e.1, hl, fun t ht => ⟨_, by rw [Nat.zero_add]; exact hc t (by omega)⟩, hf⟩
theorem SlI.lv {w : World} {B : Nat} {s : Sv} {xs : List It} (h : SlI w B s.v xs) : LvS w s 4 := fun h0 => by
  have hn := SlI.len h
  obtain ⟨g, off, cap, e, _, hl, hc, hf⟩ := Sl.read h (by omega)
  simp only [Sv.v, Value.slice.injEq] at e
  have e1 : svB s = g := by simp [svB, e.1]
  have e2 : svO s = off := by simp [svO, e.1]
  rw [e1, e2]
  refine ⟨e.1, hl, fun t ht => ?_, hf⟩
  have hl2 := h.1
  exact ⟨_, hc t _ (List.getElem?_eq_getElem (by rw [hl2]; omega))⟩
theorem ow_own {s : Sv} (h : 0 < s.n → s.a = some ⟨svB s, svO s, none⟩) (h0 : 0 < s.n) : s.v.ownBlock = some (svB s) := by
  have e := h h0
  obtain ⟨b, hb⟩ : ∃ b, b = svB s := ⟨_, rfl⟩
  rw [← hb] at e ⊢
  simp [Sv.v, Value.ownBlock, e]
end Go.Proofs.YtoahljkifikbaaaGreat


/- Lists of rings: marked, and looked at again. Written by gen_gs.py. -/
namespace Go.Proofs.YtoahljkifikbaaaGreat
open Go.RowKit Pl
set_option linter.unusedVariables false
set_option linter.unusedSimpArgs false

/-- where the places of one lie. -/
structure RnSeg (w : World) (TL : List Spot) (n g o : Nat) (u : Rn) : Prop where
  gl : g < w.heap.size
  p0 : TL[n]? = some (g, o, 0)
  h1 : w.cell? ⟨g, o + 1, none⟩ = some (.slice u.s.a u.s.n u.s.c)
  q1 : ∀ s ∈ TL, ¬ (s.1 = g ∧ s.2.1 = o + 1)
  s1 : Seg TL (n + 1) u.s.a u.s.n [0]
def RnSeg.len (u : Rn) : Nat := 1 + u.s.n
theorem RnSeg.later {w w' : World} {TL : List Spot} {n g o : Nat} {u : Rn} (h : RnSeg w TL n g o u) (b : Below w.heap.size w w') : RnSeg w' TL n g o u :=
  { h with gl := by have := h.gl; have := b.size; omega, h1 := (cell_block (b.block _ h.gl)).trans h.h1 }
/-- .. and of a list of them. -/
structure RnSegL (w : World) (TL : List Spot) (ao : Option Addr) (len : Nat) (us : Nat → Rn) (N : Nat → Nat) : Prop where
  one : ∀ j, j < len → ∃ g off, ao = some ⟨g, off, none⟩ ∧ RnSeg w TL (N j) g (off + j * 2) (us j)
  nx : ∀ j, j < len → N (j + 1) = N j + RnSeg.len (us j)
theorem RnSegL.later {w w' : World} {TL : List Spot} {ao : Option Addr} {len : Nat} {us : Nat → Rn} {N : Nat → Nat} (h : RnSegL w TL ao len us N) (b : Below w.heap.size w w') : RnSegL w' TL ao len us N := ⟨fun j hj => by obtain ⟨g, off, e, x⟩ := h.one j hj; exact ⟨g, off, e, x.later b⟩, h.nx⟩
end Go.Proofs.YtoahljkifikbaaaGreat


/- Events in plain words and in memory; one event measured, copied, held against another. Written by gen_ev.py. -/
namespace Go.Proofs.YtoahljkifikbaaaGreat
open Go.RowKit Pl
set_option linter.unusedVariables false
set_option linter.unusedSimpArgs false

/-- an event, and where its lists lie. -/
structure Ev where
  k : Int
  rid : Int
  ms : List Int
  q : Int
  f : Int
  l : Int
  t : ByteArray
  wi : List Int
  sm : Sv
  sw : Sv
def Ev.row (e : Ev) : List Value := [.int .i64 e.k, .int .i64 e.rid, .slice e.sm.a e.sm.n e.sm.c, .int .i64 e.q, .int .i64 e.f, .int .i64 e.l, .string e.t, .slice e.sw.a e.sw.n e.sw.c]
/-- what an event says. -/
def Ev.pl (e : Ev) : Int × Int × List Int × It × List Int := (e.k, e.rid, e.ms, (e.q, e.f, e.l, e.t), e.wi)
/-- its lists are read. -/
def Ev.R (w : World) (e : Ev) : Prop := RI w e.sm.v e.ms ∧ RI w e.sw.v e.wi
theorem Ev.R.stays {w w' : World} {e : Ev} (h : e.R w) (b : Below w.heap.size w w') : e.R w' := ⟨h.1.stays b, h.2.stays b⟩
def Ev.S (e : Ev) : Prop := e.ms.length ≤ 1048576 ∧ e.wi.length ≤ 1048576 ∧ e.t.size ≤ 1048576
def Ev.L (e : Ev) : Prop := e.ms.length ≤ 9223372036854775807 ∧ e.wi.length ≤ 9223372036854775807 ∧ e.t.size ≤ 9223372036854775807
def Ev.sz (e : Ev) : Nat := e.ms.length + e.t.size + e.wi.length
/-- its lists are of a call's own. -/
def Ev.O (w : World) (B : Nat) (e : Ev) : Prop := OwnI w B e.sm.v e.ms ∧ OwnI w B e.sw.v e.wi
theorem Ev.O.r {w : World} {B : Nat} {e : Ev} (h : e.O w B) : e.R w := ⟨h.1.ri, h.2.ri⟩
end Go.Proofs.YtoahljkifikbaaaGreat


/- Lists of events that a law measures and copies. Written by gen_ls.py. -/
namespace Go.Proofs.YtoahljkifikbaaaGreat
open Go.RowKit Pl
set_option linter.unusedVariables false
set_option linter.unusedSimpArgs false

theorem Ev.O.keep {w w' : World} {B : Nat} {e : Ev} (h : e.O w B) (hk : ∀ b, B ≤ b → b < w.heap.size → w'.heap[b]? = w.heap[b]?) : e.O w' B := ⟨h.1.keep fun b hb hl => hk b (h.1.lt b hb).1 hl, h.2.keep fun b hb hl => hk b (h.2.lt b hb).1 hl⟩
theorem Ev.O.below {w w' : World} {B : Nat} {e : Ev} (h : e.O w B) (b : Below w.heap.size w w') : e.O w' B := h.keep fun k _ hk => b.block k hk
theorem Ev.O.down {w : World} {B B' : Nat} {e : Ev} (h : e.O w B) (hB : B' ≤ B) : e.O w B' := ⟨h.1.down hB, h.2.down hB⟩
def Ev.own (e : Ev) (x : Nat) : Prop := e.sm.v.ownBlock = some x ∨ e.sw.v.ownBlock = some x
theorem Ev.O.lt {w : World} {B : Nat} {e : Ev} (h : e.O w B) (x : Nat) (hx : e.own x) : B ≤ x ∧ x < w.heap.size := by
  rcases hx with hx | hx
  · exact h.1.lt x hx
  · exact h.2.lt x hx
def Ev.Up (e : Ev) : Prop := ∀ a c, e.sm.v.ownBlock = some a → e.sw.v.ownBlock = some c → a < c
/-- a list of them that is read. -/
def EvsR (w : World) (s : Sv) (es : List Ev) : Prop := s.n = es.length ∧ RwA w s.a 8 (es.map Ev.row) ∧ ∀ e ∈ es, e.R w
theorem EvsR.stays {w w' : World} {s : Sv} {es : List Ev} (h : EvsR w s es) (b : Below w.heap.size w w') : EvsR w' s es := ⟨h.1, h.2.1.stays b, fun e he => (h.2.2 e he).stays b⟩
/-- a list of the call's own. -/
def EvsO (w : World) (B : Nat) (s : Sv) (es : List Ev) : Prop := SlN w 41 8 B s.v (es.map Ev.row) ∧ ∀ e ∈ es, e.O w B
theorem EvsO.r {w : World} {B : Nat} {s : Sv} {es : List Ev} (h : EvsO w B s es) : EvsR w s es := ⟨by have := h.1.slen; simpa using this, h.1.rwa, fun e he => (h.2 e he).r⟩
theorem EvsO.keep {w w' : World} {B : Nat} {s : Sv} {es : List Ev} (h : EvsO w B s es) (hk : ∀ b, B ≤ b → b < w.heap.size → w'.heap[b]? = w.heap[b]?) : EvsO w' B s es := ⟨h.1.keep fun b hb hl => hk b (h.1.lt b hb).1 hl, fun e he => (h.2 e he).keep hk⟩
theorem EvsO.below {w w' : World} {B : Nat} {s : Sv} {es : List Ev} (h : EvsO w B s es) (b : Below w.heap.size w w') : EvsO w' B s es := h.keep fun k _ hk => b.block k hk
theorem EvsO.down {w : World} {B B' : Nat} {s : Sv} {es : List Ev} (h : EvsO w B s es) (hB : B' ≤ B) : EvsO w B' s es := ⟨h.1.down hB, fun e he => (h.2 e he).down hB⟩
theorem EvsO.nil (w : World) (B : Nat) : EvsO w B zSv [] := ⟨SlN.nil _ _ _ _, fun e he => by cases he⟩
/-- each one's lists lie behind those of the ones ahead. -/
def EvsUp (es : List Ev) : Prop := (∀ e ∈ es, e.Up) ∧ es.Pairwise fun a b => ∀ x y, a.own x → b.own y → x < y
def Evs.tot (es : List Ev) : Nat := (es.map fun e => e.sz).sum
theorem Tryz.infoEv : (Tryz.prog.info? 41).map (fun i => (i.zero, i.size, i.bytes)) = some (some (.agg #[.int .i64 0, .int .i64 0, .slice none 0 0, .int .i64 0, .int .i64 0, .int .i64 0, .string ⟨#[]⟩, .slice none 0 0]), 8, 104) := by kernel_rfl
end Go.Proofs.YtoahljkifikbaaaGreat


/- Lists of bundles that a law measures and copies. Written by gen_ls.py. -/
namespace Go.Proofs.YtoahljkifikbaaaGreat
open Go.RowKit Pl
set_option linter.unusedVariables false
set_option linter.unusedSimpArgs false

/-- a bundle, and where its list lies. -/
structure Bu where
  f : Int
  n : Int
  o : Int
  ts : List It
  s : Sv
def Bu.ok (b : Bu) : Bool := bunB b.f b.n b.o b.ts
/-- what a bundle says. -/
def Bu.pl (b : Bu) : Int × Int × Int × List It := (b.f, b.n, b.o, b.ts)
def Bu.row (b : Bu) : List Value := [.int .i64 b.f, .int .i64 b.n, .int .i64 b.o, .slice b.s.a b.s.n b.s.c]
def Bu.R (w : World) (b : Bu) : Prop := RSt w b.s b.ts
theorem Bu.R.stays {w w' : World} {b : Bu} (h : b.R w) (hb : Below w.heap.size w w') : b.R w' := RSt.stays h hb
def Bu.S (b : Bu) : Prop := b.ts.length ≤ 1048576
def Bu.L (b : Bu) : Prop := b.ts.length ≤ 9223372036854775807 ∧ ∀ x ∈ b.ts, x.2.2.2.size ≤ 9223372036854775807
def Bu.sz (b : Bu) : Nat := b.ts.length
def Bu.O (w : World) (B : Nat) (b : Bu) : Prop := SlI w B b.s.v b.ts
theorem Bu.O.r {w : World} {B : Nat} {b : Bu} (h : b.O w B) : b.R w := SlI.rst h
theorem Bu.O.keep {w w' : World} {B : Nat} {e : Bu} (h : e.O w B) (hk : ∀ b, B ≤ b → b < w.heap.size → w'.heap[b]? = w.heap[b]?) : e.O w' B := Sl.keep h fun b hb hl => hk b (Sl.lt h b hb).1 hl
theorem Bu.O.below {w w' : World} {B : Nat} {e : Bu} (h : e.O w B) (b : Below w.heap.size w w') : e.O w' B := h.keep fun k _ hk => b.block k hk
theorem Bu.O.down {w : World} {B B' : Nat} {e : Bu} (h : e.O w B) (hB : B' ≤ B) : e.O w B' := Sl.down h hB
def Bu.own (e : Bu) (x : Nat) : Prop := e.s.v.ownBlock = some x
theorem Bu.O.lt {w : World} {B : Nat} {e : Bu} (h : e.O w B) (x : Nat) (hx : e.own x) : B ≤ x ∧ x < w.heap.size := Sl.lt h x hx
def Bu.Up (e : Bu) : Prop := True
/-- a list of them that is read. -/
def BusR (w : World) (s : Sv) (es : List Bu) : Prop := s.n = es.length ∧ RwA w s.a 4 (es.map Bu.row) ∧ ∀ e ∈ es, e.R w
theorem BusR.stays {w w' : World} {s : Sv} {es : List Bu} (h : BusR w s es) (b : Below w.heap.size w w') : BusR w' s es := ⟨h.1, h.2.1.stays b, fun e he => (h.2.2 e he).stays b⟩
/-- a list of the call's own. -/
def BusO (w : World) (B : Nat) (s : Sv) (es : List Bu) : Prop := SlN w 121 4 B s.v (es.map Bu.row) ∧ ∀ e ∈ es, e.O w B
theorem BusO.r {w : World} {B : Nat} {s : Sv} {es : List Bu} (h : BusO w B s es) : BusR w s es := ⟨by have := h.1.slen; simpa using this, h.1.rwa, fun e he => (h.2 e he).r⟩
theorem BusO.keep {w w' : World} {B : Nat} {s : Sv} {es : List Bu} (h : BusO w B s es) (hk : ∀ b, B ≤ b → b < w.heap.size → w'.heap[b]? = w.heap[b]?) : BusO w' B s es := ⟨h.1.keep fun b hb hl => hk b (h.1.lt b hb).1 hl, fun e he => (h.2 e he).keep hk⟩
theorem BusO.below {w w' : World} {B : Nat} {s : Sv} {es : List Bu} (h : BusO w B s es) (b : Below w.heap.size w w') : BusO w' B s es := h.keep fun k _ hk => b.block k hk
theorem BusO.down {w : World} {B B' : Nat} {s : Sv} {es : List Bu} (h : BusO w B s es) (hB : B' ≤ B) : BusO w B' s es := ⟨h.1.down hB, fun e he => (h.2 e he).down hB⟩
theorem BusO.nil (w : World) (B : Nat) : BusO w B zSv [] := ⟨SlN.nil _ _ _ _, fun e he => by cases he⟩
/-- each one's lists lie behind those of the ones ahead. -/
def BusUp (es : List Bu) : Prop := (∀ e ∈ es, e.Up) ∧ es.Pairwise fun a b => ∀ x y, a.own x → b.own y → x < y
def Bus.tot (es : List Bu) : Nat := (es.map fun e => e.sz).sum
end Go.Proofs.YtoahljkifikbaaaGreat


/- Lists of events, held against each other. Written by gen_gs.py. -/
namespace Go.Proofs.YtoahljkifikbaaaGreat
open Go.RowKit Pl
set_option linter.unusedVariables false
set_option linter.unusedSimpArgs false

end Go.Proofs.YtoahljkifikbaaaGreat


/- Lists of bundles, held against each other. Written by gen_gs.py. -/
namespace Go.Proofs.YtoahljkifikbaaaGreat
open Go.RowKit Pl
set_option linter.unusedVariables false
set_option linter.unusedSimpArgs false

end Go.Proofs.YtoahljkifikbaaaGreat


/- Lists of events, lists of bundles: held against each other. -/
namespace Go.Proofs.YtoahljkifikbaaaGreat
open Go.RowKit Pl
set_option linter.unusedVariables false
set_option linter.unusedSimpArgs false

end Go.Proofs.YtoahljkifikbaaaGreat


/- Daemons in plain words and in memory; a daemon measured, copied, held against another. Written by gen_dm.py. -/
namespace Go.Proofs.YtoahljkifikbaaaGreat
open Go.RowKit Pl
set_option linter.unusedVariables false
set_option linter.unusedSimpArgs false

/-- a daemon, and where its lists lie. -/
structure Dm where
  id : Int
  dead : Bool
  m : Mt
  mv : Mv
  most : Int
  old : Int
  jid : Int
  jms : List Int
  js : Sv
  bu : List Bu
  bs : Sv
  lo : List Ev
  ls : Sv
/-- its lists are read. -/
structure DmR (w : World) (d : Dm) : Prop where
  mt : MtR w d.m d.mv
  jo : RI w d.js.v d.jms
  bu : BusR w d.bs d.bu
  lo : EvsR w d.ls d.lo
theorem DmR.stays {w w' : World} {d : Dm} (h : DmR w d) (b : Below w.heap.size w w') : DmR w' d := ⟨h.mt.stays b, h.jo.stays b, h.bu.stays b, h.lo.stays b⟩
/-- its lists are of a call's own. -/
structure DmO (w : World) (B : Nat) (d : Dm) : Prop where
  mt : MtO w B d.m d.mv
  jo : OwnI w B d.js.v d.jms
  bu : BusO w B d.bs d.bu
  lo : EvsO w B d.ls d.lo
theorem DmO.r {w : World} {B : Nat} {d : Dm} (h : DmO w B d) : DmR w d := ⟨h.mt.r, h.jo.ri, h.bu.r, h.lo.r⟩
theorem DmO.keep {w w' : World} {B : Nat} {d : Dm} (h : DmO w B d) (hk : ∀ b, B ≤ b → b < w.heap.size → w'.heap[b]? = w.heap[b]?) : DmO w' B d :=
  ⟨h.mt.keep fun b hb hl => hk b (h.mt.lt hb).1 hl, h.jo.keep fun b hb hl => hk b (h.jo.lt b hb).1 hl, h.bu.keep hk, h.lo.keep hk⟩
theorem DmO.below {w w' : World} {B : Nat} {d : Dm} (h : DmO w B d) (b : Below w.heap.size w w') : DmO w' B d := h.keep fun k _ hk => b.block k hk
theorem DmO.down {w : World} {B B' : Nat} {d : Dm} (h : DmO w B d) (hB : B' ≤ B) : DmO w B' d := ⟨h.mt.down hB, h.jo.down hB, h.bu.down hB, h.lo.down hB⟩
/-- no longer than can be. -/
structure DmL (d : Dm) : Prop where
  mt : MtL d.m
  jo : d.jms.length ≤ 9223372036854775807
  bu : d.bu.length ≤ 9223372036854775807 ∧ ∀ b ∈ d.bu, b.L
  lo : d.lo.length ≤ 9223372036854775807 ∧ ∀ e ∈ d.lo, e.L
/-- not too long. -/
structure DmS (d : Dm) : Prop where
  mt : MtS d.m
  jo : d.jms.length ≤ 1048576
  bu : d.bu.length + Bus.tot d.bu ≤ 1048576
  lo : d.lo.length + Evs.tot d.lo ≤ 1048576
theorem tot_le {α : Type} (f : α → Nat) : ∀ (l : List α) (x : α), x ∈ l → f x ≤ (l.map f).sum
  | a :: l, x, h => by
    rw [List.map_cons, List.sum_cons]
    rcases List.mem_cons.1 h with rfl | h
    · omega
    · have := tot_le f l x h; omega
theorem DmS.los {d : Dm} (h : DmS d) : d.lo.length ≤ 1048576 ∧ ∀ e ∈ d.lo, e.S := ⟨by have := h.lo; omega, fun e he => by have h1 := tot_le (fun e : Ev => e.sz) _ e he; have h2 := h.lo; unfold Evs.tot at h2; unfold Ev.S; unfold Ev.sz at h1 h2; omega⟩
/-- the same, in plain words. -/
structure Dm.Same (a b : Dm) : Prop where
  id : a.id = b.id
  dead : a.dead = b.dead
  m : a.m = b.m
  most : a.most = b.most
  old : a.old = b.old
  jid : a.jid = b.jid
  jms : a.jms = b.jms
  bu : a.bu.map Bu.pl = b.bu.map Bu.pl
  lo : a.lo.map Ev.pl = b.lo.map Ev.pl
theorem Dm.Same.symm {a b : Dm} (h : a.Same b) : b.Same a := ⟨h.id.symm, h.dead.symm, h.m.symm, h.most.symm, h.old.symm, h.jid.symm, h.jms.symm, h.bu.symm, h.lo.symm⟩
theorem Dm.Same.trans {a b c : Dm} (h : a.Same b) (k : b.Same c) : a.Same c := ⟨h.id.trans k.id, h.dead.trans k.dead, h.m.trans k.m, h.most.trans k.most, h.old.trans k.old, h.jid.trans k.jid, h.jms.trans k.jms, h.bu.trans k.bu, h.lo.trans k.lo⟩
/-- the blocks of a list of bundles, of a list of events. -/
def BusOwn (s : Sv) (bs : List Bu) (y : Nat) : Prop := s.v.ownBlock = some y ∨ ∃ b ∈ bs, b.own y
def EvsOwn (s : Sv) (es : List Ev) (y : Nat) : Prop := s.v.ownBlock = some y ∨ ∃ e ∈ es, e.own y
/-- each of its lists lies apart. -/
structure BusA (s : Sv) (bs : List Bu) : Prop where
  row : ∀ y, s.v.ownBlock = some y → ∀ b ∈ bs, ¬ b.own y
  two : bs.Pairwise fun a b => ∀ x, a.own x → ¬ b.own x
structure EvsA (s : Sv) (es : List Ev) : Prop where
  row : ∀ y, s.v.ownBlock = some y → ∀ e ∈ es, ¬ e.own y
  one : ∀ e ∈ es, ∀ x, e.sm.v.ownBlock = some x → e.sw.v.ownBlock ≠ some x
  two : es.Pairwise fun a b => ∀ x, a.own x → ¬ b.own x
structure DmA (d : Dm) : Prop where
  mj : ∀ x, d.mv.own x → d.js.v.ownBlock ≠ some x
  mb : ∀ x, d.mv.own x → ¬ BusOwn d.bs d.bu x
  ml : ∀ x, d.mv.own x → ¬ EvsOwn d.ls d.lo x
  jb : ∀ x, d.js.v.ownBlock = some x → ¬ BusOwn d.bs d.bu x
  jl : ∀ x, d.js.v.ownBlock = some x → ¬ EvsOwn d.ls d.lo x
  bl : ∀ x, BusOwn d.bs d.bu x → ¬ EvsOwn d.ls d.lo x
  bu : BusA d.bs d.bu
  lo : EvsA d.ls d.lo
theorem BusO.olt {w : World} {B : Nat} {s : Sv} {bs : List Bu} (h : BusO w B s bs) {y : Nat} (hy : BusOwn s bs y) : B ≤ y ∧ y < w.heap.size := by
  rcases hy with hy | ⟨b, hb, hy⟩
  · exact h.1.lt y hy
  · exact (h.2 b hb).lt y hy
theorem EvsO.olt {w : World} {B : Nat} {s : Sv} {es : List Ev} (h : EvsO w B s es) {y : Nat} (hy : EvsOwn s es y) : B ≤ y ∧ y < w.heap.size := by
  rcases hy with hy | ⟨b, hb, hy⟩
  · exact h.1.lt y hy
  · exact (h.2 b hb).lt y hy
theorem BusUp.a {s : Sv} {bs : List Bu} (h : BusUp bs) (hr : ∀ b, s.v.ownBlock = some b → ∀ e ∈ bs, ∀ x, e.own x → b < x) : BusA s bs :=
  ⟨fun y hy b hb hx => by have := hr y hy b hb y hx; omega, h.2.imp fun h x hx hy => by have := h x x hx hy; omega⟩
theorem EvsUp.a {s : Sv} {es : List Ev} (h : EvsUp es) (hr : ∀ b, s.v.ownBlock = some b → ∀ e ∈ es, ∀ x, e.own x → b < x) : EvsA s es :=
  ⟨fun y hy b hb hx => by have := hr y hy b hb y hx; omega, fun e he x h1 h2 => by have := h.1 e he x x h1 h2; omega, h.2.imp fun h x hx hy => by have := h x x hx hy; omega⟩
end Go.Proofs.YtoahljkifikbaaaGreat


/- Lists of rings: marked, and looked at again. Written by gen_dn.py. -/
namespace Go.Proofs.YtoahljkifikbaaaGreat
open Go.RowKit Pl
set_option linter.unusedVariables false
set_option linter.unusedSimpArgs false

def RnsOwn (s : Sv) (bs : List Rn) (y : Nat) : Prop := s.v.ownBlock = some y ∨ ∃ b ∈ bs, b.own y
structure RnsA (s : Sv) (bs : List Rn) : Prop where
  row : ∀ y, s.v.ownBlock = some y → ∀ b ∈ bs, ¬ b.own y
  two : bs.Pairwise fun a b => ∀ x, a.own x → ¬ b.own x
theorem RnsO.olt {w : World} {B : Nat} {s : Sv} {bs : List Rn} (h : RnsO w B s bs) {y : Nat} (hy : RnsOwn s bs y) : B ≤ y ∧ y < w.heap.size := by
  rcases hy with hy | ⟨b, hb, hy⟩
  · exact h.1.lt y hy
  · exact (h.2 b hb).lt y hy
theorem RnsUp.a {s : Sv} {bs : List Rn} (h : RnsUp bs) (hr : ∀ b, s.v.ownBlock = some b → ∀ e ∈ bs, ∀ x, e.own x → b < x) : RnsA s bs :=
  ⟨fun y hy b hb hx => by have := hr y hy b hb y hx; omega, h.2.imp fun h x hx hy => by have := h x x hx hy; omega⟩
theorem RnsO.keepo {w w' : World} {B : Nat} {s : Sv} {bs : List Rn} (h : RnsO w B s bs) (hk : ∀ b, RnsOwn s bs b → b < w.heap.size → w'.heap[b]? = w.heap[b]?) : RnsO w' B s bs := ⟨h.1.keep fun b hb hl => hk b (.inl hb) hl, fun e he => OwnI.keep (h.2 e he) fun b hb hl => hk b (.inr ⟨e, he, hb⟩) hl⟩
def zRn : Rn := ⟨0, [], zSv⟩
def fdRn (u : Rn) : List Fd := [⟨0, 0, none, []⟩, ⟨1, 0, some u.s, [0]⟩]
def atRn (es : List Rn) (j : Nat) : Rn := (es[j]?).getD zRn
theorem Rn.lvs {w : World} {B : Nat} {e : Rn} (h : e.O w B) : LvS w e.s 1 := OwnI.lv h
theorem Rn.ow {w : World} {B : Nat} {e : Rn} (h : e.O w B) {f : Fd} (hf : f ∈ fdRn e) {x : Nat} (hx : f.ow x) : e.own x := by
  obtain ⟨s, h1, h2, h3⟩ := hx
  simp only [fdRn, List.mem_cons, List.not_mem_nil, or_false] at hf
  have lv := Rn.lvs h
  rcases hf with rfl | rfl
  · cases h1
  · simp only [Option.some.injEq] at h1
    subst h1
    rw [← h3]
    exact ow_own (fun h0 => (lv h0).1) h2
/-- a list that is marked from K up to M. -/
def HeldRn (w : World) (s : Sv) (es : List Rn) (K M : Nat) : Prop := ∃ (TL : List Spot) (us : Nat → Rn) (N : Nat → Nat), Held w TL K ∧ RnSegL w TL s.a s.n us N ∧ N 0 = 0 ∧ M = K + N s.n ∧ s.n ≤ 1048576 ∧ (∀ x ∈ TL, RnsOwn s es x.1)
theorem HeldRn.keep {w w' : World} {s : Sv} {es : List Rn} {K M : Nat} (h : HeldRn w s es K M) (hz : w.heap.size ≤ w'.heap.size) (hk : ∀ b, RnsOwn s es b → b < w.heap.size → w'.heap[b]? = w.heap[b]?) : HeldRn w' s es K M := by
  obtain ⟨TL, us, N, h1, h2, h3, h4, h6, h5⟩ := h
  refine ⟨TL, us, N, fun i x hx => ?_, ⟨fun j hj => ?_, h2.nx⟩, h3, h4, h6, h5⟩
  · obtain ⟨k1, k2⟩ := h1 i x hx
    exact ⟨by omega, (cell_block (hk x.1 (h5 x (List.mem_of_getElem? hx)) k1)).trans k2⟩
  · obtain ⟨g, off, e, x⟩ := h2.one j hj
    have hb := hk g (.inl (by simp [Sv.v, Value.ownBlock, e])) x.gl
    exact ⟨g, off, e, { x with gl := by have := x.gl; omega, h1 := (cell_block hb).trans x.h1 }⟩
theorem HeldRn.later {w w' : World} {s : Sv} {es : List Rn} {K M : Nat} (h : HeldRn w s es K M) (b : Below w.heap.size w w') : HeldRn w' s es K M := h.keep b.size fun k _ hk => b.block k hk
end Go.Proofs.YtoahljkifikbaaaGreat


/- Events that are copied. Written by gen_cd.py. -/
namespace Go.Proofs.YtoahljkifikbaaaGreat
open Go.RowKit Pl
set_option linter.unusedVariables false
set_option linter.unusedSimpArgs false

/-- append([]int{}, xs...), right behind the making of the empty list: as a call that gives a list of its own. -/
theorem wpList_dupI {P : Program} {w : World} {ops : Array Oper} {rest : List Oper} {o : Oper} {a : Act} {Q : Exit → Act → World → Prop}
    (hgd : o.guard = none) (s x : Operand) (t : TypeId) (ho : o.op = .call { callee := .builtin .append, args := #[s, x], argTypes := #[t, t] })
    (ht : P.underlying t = some (.slice 3)) (hinfo : (P.info? 3).map (fun i => (i.zero, i.size, i.bytes)) = some (some (.int .i64 0), 1, 8))
    (hs : a.eval s = .slice (some ⟨w.heap.size, 0, none⟩) 0 0) (u : Sv) (ys : List Int) (hx : a.eval x = .slice u.a u.n u.c) (hu : RI w u.v ys) (hn : ys.length ≤ 1048576)
    (h : ∀ (v : Sv) w', OwnI w' w.heap.size v.v ys → Below w.heap.size w w' → wpList P ops Q rest (a.put o.dst (.slice v.a v.n v.c)) w') :
    wpList P ops Q (o :: rest) a (w.alloc (.cells #[] 3)) := by
  have b : Below w.heap.size w (w.alloc (.cells #[] 3)) := (Below.refl _ _).alloc (Nat.le_refl _) _
  have o1 : OwnI (w.alloc (.cells #[] 3)) w.heap.size (.slice (some ⟨w.heap.size, 0, none⟩) 0 0) [] := OwnI.made w w.heap.size (Nat.le_refl _)
  refine wpList_catR hgd s x t ho ht hinfo w.heap.size _ [] hs o1 (.slice u.a u.n u.c) ys hx (hu.stays b) (by simp; omega) b.size (fun h => by cases h) ?_
  intro v' w' h1 h2
  rw [List.nil_append] at h1
  obtain ⟨v, rfl⟩ := h1.sv
  exact h v w' h1 (b.grown h2 b.size (fun k hk => (o1.lt k hk).1))
set_option maxRecDepth 100000 in
set_option maxHeartbeats 8000000 in
theorem copyEvent_any (e : Ev) (w : World) (h : Hid (e.R w)) (hs : Hid e.S) :
    Calls Tryz.prog 94 #[.agg #[.int .i64 e.k, .int .i64 e.rid, .slice e.sm.a e.sm.n e.sm.c, .int .i64 e.q, .int .i64 e.f, .int .i64 e.l, .string e.t, .slice e.sw.a e.sw.n e.sw.c]] w fun x w' => ∃ u1 u2 : Sv, x = .returned (.agg #[.int .i64 e.k, .int .i64 e.rid, .slice u1.a u1.n u1.c, .int .i64 e.q, .int .i64 e.f, .int .i64 e.l, .string e.t, .slice u2.a u2.n u2.c]) ∧ OwnI w' w.heap.size u1.v e.ms ∧ OwnI w' w.heap.size u2.v e.wi ∧ (∀ a c, u1.v.ownBlock = some a → u2.v.ownBlock = some c → a < c) ∧ Below w.heap.size w w' := by
  have hn1 : (w.alloc (.cells #[.int .i64 e.k, .int .i64 e.rid, .slice e.sm.a e.sm.n e.sm.c, .int .i64 e.q, .int .i64 e.f, .int .i64 e.l, .string e.t, .slice e.sw.a e.sw.n e.sw.c] 41)).heap.size = w.heap.size + 1 := by simp
  have LA : Hid (Bx ((w.alloc (.cells #[.int .i64 e.k, .int .i64 e.rid, .slice e.sm.a e.sm.n e.sm.c, .int .i64 e.q, .int .i64 e.f, .int .i64 e.l, .string e.t, .slice e.sw.a e.sw.n e.sw.c] 41)).alloc (.cells #[.int .i64 0, .int .i64 0, .slice none 0 0, .int .i64 0, .int .i64 0, .int .i64 0, .string ⟨#[]⟩, .slice none 0 0] 41)) w.heap.size 41 [.int .i64 e.k, .int .i64 e.rid, .slice e.sm.a e.sm.n e.sm.c, .int .i64 e.q, .int .i64 e.f, .int .i64 e.l, .string e.t, .slice e.sw.a e.sw.n e.sw.c]) := by
    have h := Bx.new w 41 [.int .i64 e.k, .int .i64 e.rid, .slice e.sm.a e.sm.n e.sm.c, .int .i64 e.q, .int .i64 e.f, .int .i64 e.l, .string e.t, .slice e.sw.a e.sw.n e.sw.c]
    exact (h).later ((Below.refl _ _).alloc (Nat.le_refl _) _)
  have EB : Hid (Bx ((w.alloc (.cells #[.int .i64 e.k, .int .i64 e.rid, .slice e.sm.a e.sm.n e.sm.c, .int .i64 e.q, .int .i64 e.f, .int .i64 e.l, .string e.t, .slice e.sw.a e.sw.n e.sw.c] 41)).alloc (.cells #[.int .i64 0, .int .i64 0, .slice none 0 0, .int .i64 0, .int .i64 0, .int .i64 0, .string ⟨#[]⟩, .slice none 0 0] 41)) (w.heap.size + 1) 41 [.int .i64 0, .int .i64 0, .slice none 0 0, .int .i64 0, .int .i64 0, .int .i64 0, .string ⟨#[]⟩, .slice none 0 0]) := by
    have h := Bx.new (w.alloc (.cells #[.int .i64 e.k, .int .i64 e.rid, .slice e.sm.a e.sm.n e.sm.c, .int .i64 e.q, .int .i64 e.f, .int .i64 e.l, .string e.t, .slice e.sw.a e.sw.n e.sw.c] 41)) 41 [.int .i64 0, .int .i64 0, .slice none 0 0, .int .i64 0, .int .i64 0, .int .i64 0, .string ⟨#[]⟩, .slice none 0 0]
    rw [hn1] at h
    exact h
  have BW : Hid (Below w.heap.size w ((w.alloc (.cells #[.int .i64 e.k, .int .i64 e.rid, .slice e.sm.a e.sm.n e.sm.c, .int .i64 e.q, .int .i64 e.f, .int .i64 e.l, .string e.t, .slice e.sw.a e.sw.n e.sw.c] 41)).alloc (.cells #[.int .i64 0, .int .i64 0, .slice none 0 0, .int .i64 0, .int .i64 0, .int .i64 0, .string ⟨#[]⟩, .slice none 0 0] 41))) := (((Below.refl _ _).alloc (by simp) _).alloc (by simp; try omega) _)
  clear hn1
  have HR1 : Hid (RI ((w.alloc (.cells #[.int .i64 e.k, .int .i64 e.rid, .slice e.sm.a e.sm.n e.sm.c, .int .i64 e.q, .int .i64 e.f, .int .i64 e.l, .string e.t, .slice e.sw.a e.sw.n e.sw.c] 41)).alloc (.cells #[.int .i64 0, .int .i64 0, .slice none 0 0, .int .i64 0, .int .i64 0, .int .i64 0, .string ⟨#[]⟩, .slice none 0 0] 41)) e.sm.v e.ms) := h.out.1.stays BW.out
  go_enter Tryz.func94, Tryz.ntmps94
  go_wp2_with (first | (refine wpList_ldG rfl 37 _ rfl w.heap.size 1 rfl 41 _ LA.out [.int .i64 e.rid, .slice e.sm.a e.sm.n e.sm.c] rfl _ Tryz.underlying37 rfl Tryz.sizeR ?_))
  generalize ((w.alloc (.cells #[.int .i64 e.k, .int .i64 e.rid, .slice e.sm.a e.sm.n e.sm.c, .int .i64 e.q, .int .i64 e.f, .int .i64 e.l, .string e.t, .slice e.sw.a e.sw.n e.sw.c] 41)).alloc (.cells #[.int .i64 0, .int .i64 0, .slice none 0 0, .int .i64 0, .int .i64 0, .int .i64 0, .string ⟨#[]⟩, .slice none 0 0] 41)) = W at *
  have zW : w.heap.size + 1 < W.heap.size := EB.out.lt
  refine (copyRing_s e.rid e.sm e.ms _ HR1 hs.out.1).mono ?_
  rintro e w1 ⟨u1, rfl, o1, b⟩
  have O1 : Hid (OwnI w1 W.heap.size u1.v e.ms) := o1
  have L1 : Hid (∀ a, u1.v.ownBlock = some a → a < w1.heap.size) := fun a ha => (o1.lt a ha).2
  clear o1 HR1
  have z_w1 : W.heap.size ≤ w1.heap.size := b.size
  have LA : Hid (Bx w1 w.heap.size 41 [.int .i64 e.k, .int .i64 e.rid, .slice e.sm.a e.sm.n e.sm.c, .int .i64 e.q, .int .i64 e.f, .int .i64 e.l, .string e.t, .slice e.sw.a e.sw.n e.sw.c]) := LA.out.later b
  have EB : Hid (Bx w1 (w.heap.size + 1) 41 [.int .i64 0, .int .i64 0, .slice none 0 0, .int .i64 0, .int .i64 0, .int .i64 0, .string ⟨#[]⟩, .slice none 0 0]) := EB.out.later b
  have BW : Hid (Below w.heap.size w w1) := bl_next BW.out b
  clear b
  go_wp2_with (first | (with_reducible refine wpList_haltS 37 _ _ rfl ?_))
  refine Stp.go ?_
  refine wpList_stB rfl 37 _ _ rfl w.heap.size 1 rfl 41 _ LA.out [.int .i64 e.rid, .slice u1.a u1.n u1.c] rfl (by simp) Tryz.sizeR rfl [.int .i64 e.k, .int .i64 e.rid, .slice u1.a u1.n u1.c, .int .i64 e.q, .int .i64 e.f, .int .i64 e.l, .string e.t, .slice e.sw.a e.sw.n e.sw.c] rfl ?_
  intro w2 OB TB
  have z_w2 : w1.heap.size ≤ w2.heap.size := Nat.le_of_eq TB.size.symm
  have EB : Hid (Bx w2 (w.heap.size + 1) 41 [.int .i64 0, .int .i64 0, .slice none 0 0, .int .i64 0, .int .i64 0, .int .i64 0, .string ⟨#[]⟩, .slice none 0 0]) := EB.out.turn TB (by omega)
  have BW : Hid (Below w.heap.size w w2) := BW.out.trans (TB.below (by omega))
  have O1 : Hid (OwnI w2 W.heap.size u1.v e.ms) := O1.out.keep fun b hb _ => TB.block b (by have := (O1.out.lt b hb).1; omega)
  have LA : Hid (Bx w2 w.heap.size 41 [.int .i64 e.k, .int .i64 e.rid, .slice u1.a u1.n u1.c, .int .i64 e.q, .int .i64 e.f, .int .i64 e.l, .string e.t, .slice e.sw.a e.sw.n e.sw.c]) := OB
  clear OB TB
  go_wp2_with (first | (refine wpList_ldG rfl 39 _ rfl w.heap.size 3 rfl 41 _ LA.out [.int .i64 e.q, .int .i64 e.f, .int .i64 e.l, .string e.t] rfl _ Tryz.underlying39 rfl Tryz.sizeI ?_))
  refine (copyItem_any e.q e.f e.l e.t _ hs.out.2.2).mono ?_
  rintro e w3 ⟨rfl, b⟩
  have z_w3 : w2.heap.size ≤ w3.heap.size := b.size
  have LA : Hid (Bx w3 w.heap.size 41 [.int .i64 e.k, .int .i64 e.rid, .slice u1.a u1.n u1.c, .int .i64 e.q, .int .i64 e.f, .int .i64 e.l, .string e.t, .slice e.sw.a e.sw.n e.sw.c]) := LA.out.later b
  have EB : Hid (Bx w3 (w.heap.size + 1) 41 [.int .i64 0, .int .i64 0, .slice none 0 0, .int .i64 0, .int .i64 0, .int .i64 0, .string ⟨#[]⟩, .slice none 0 0]) := EB.out.later b
  have BW : Hid (Below w.heap.size w w3) := bl_next BW.out b
  have O1 : Hid (OwnI w3 W.heap.size u1.v e.ms) := O1.out.keep fun _ _ hk => (b).block _ hk
  clear b
  go_wp2_with (first | (with_reducible refine wpList_haltS 39 _ _ rfl ?_))
  refine Stp.go ?_
  refine wpList_stB rfl 39 _ _ rfl w.heap.size 3 rfl 41 _ LA.out [.int .i64 e.q, .int .i64 e.f, .int .i64 e.l, .string e.t] rfl (by simp) Tryz.sizeI rfl [.int .i64 e.k, .int .i64 e.rid, .slice u1.a u1.n u1.c, .int .i64 e.q, .int .i64 e.f, .int .i64 e.l, .string e.t, .slice e.sw.a e.sw.n e.sw.c] rfl ?_
  intro w4 OB TB
  have z_w4 : w3.heap.size ≤ w4.heap.size := Nat.le_of_eq TB.size.symm
  have EB : Hid (Bx w4 (w.heap.size + 1) 41 [.int .i64 0, .int .i64 0, .slice none 0 0, .int .i64 0, .int .i64 0, .int .i64 0, .string ⟨#[]⟩, .slice none 0 0]) := EB.out.turn TB (by omega)
  have BW : Hid (Below w.heap.size w w4) := BW.out.trans (TB.below (by omega))
  have O1 : Hid (OwnI w4 W.heap.size u1.v e.ms) := O1.out.keep fun b hb _ => TB.block b (by have := (O1.out.lt b hb).1; omega)
  have LA : Hid (Bx w4 w.heap.size 41 [.int .i64 e.k, .int .i64 e.rid, .slice u1.a u1.n u1.c, .int .i64 e.q, .int .i64 e.f, .int .i64 e.l, .string e.t, .slice e.sw.a e.sw.n e.sw.c]) := OB
  clear OB TB
  have HR2 : Hid (RI w4 e.sw.v e.wi) := h.out.2.stays BW.out
  have cd := (LA.out.later ((Below.refl _ _).alloc (Nat.le_refl _) (.cells #[] 3))).cell 7
  simp only [List.getElem?_cons_succ, List.getElem?_cons_zero] at cd
  go_wp2_with (first | (with_reducible refine wpList_haltA _ _ _ rfl ?_))
  refine Stp.go ?_
  clear cd
  refine wpList_dupI rfl _ _ 33 rfl Tryz.underlying33 Tryz.info3' rfl e.sw e.wi rfl HR2.out hs.out.2.1 ?_
  intro u2 w5 od b
  have z_w5 : w4.heap.size ≤ w5.heap.size := b.size
  have LA : Hid (Bx w5 w.heap.size 41 [.int .i64 e.k, .int .i64 e.rid, .slice u1.a u1.n u1.c, .int .i64 e.q, .int .i64 e.f, .int .i64 e.l, .string e.t, .slice e.sw.a e.sw.n e.sw.c]) := LA.out.later b
  have EB : Hid (Bx w5 (w.heap.size + 1) 41 [.int .i64 0, .int .i64 0, .slice none 0 0, .int .i64 0, .int .i64 0, .int .i64 0, .string ⟨#[]⟩, .slice none 0 0]) := EB.out.later b
  have BW : Hid (Below w.heap.size w w5) := bl_next BW.out b
  have O1 : Hid (OwnI w5 W.heap.size u1.v e.ms) := O1.out.keep fun _ _ hk => (b).block _ hk
  have O2 : Hid (OwnI w5 W.heap.size u2.v e.wi) := od.down (by omega)
  have UP : Hid (∀ a c, u1.v.ownBlock = some a → u2.v.ownBlock = some c → a < c) := fun a c ha hc => by have h1 := L1.out a ha; have h2 := (od.lt c hc).1; omega
  clear od b HR2
  go_wp2_with (first | (with_reducible refine wpList_haltS 33 _ _ rfl ?_))
  refine Stp.go ?_
  refine wpList_st1 rfl 33 _ _ rfl w.heap.size 7 rfl 41 _ LA.out (.slice u2.a u2.n u2.c) rfl (by simp) rfl Tryz.sizeNs [.int .i64 e.k, .int .i64 e.rid, .slice u1.a u1.n u1.c, .int .i64 e.q, .int .i64 e.f, .int .i64 e.l, .string e.t, .slice u2.a u2.n u2.c] rfl ?_
  intro w6 OB TB
  have z_w6 : w5.heap.size ≤ w6.heap.size := Nat.le_of_eq TB.size.symm
  have EB : Hid (Bx w6 (w.heap.size + 1) 41 [.int .i64 0, .int .i64 0, .slice none 0 0, .int .i64 0, .int .i64 0, .int .i64 0, .string ⟨#[]⟩, .slice none 0 0]) := EB.out.turn TB (by omega)
  have BW : Hid (Below w.heap.size w w6) := BW.out.trans (TB.below (by omega))
  have O1 : Hid (OwnI w6 W.heap.size u1.v e.ms) := O1.out.keep fun b hb _ => TB.block b (by have := (O1.out.lt b hb).1; omega)
  have O2 : Hid (OwnI w6 W.heap.size u2.v e.wi) := O2.out.keep fun b hb _ => TB.block b (by have := (O2.out.lt b hb).1; omega)
  have LA : Hid (Bx w6 w.heap.size 41 [.int .i64 e.k, .int .i64 e.rid, .slice u1.a u1.n u1.c, .int .i64 e.q, .int .i64 e.f, .int .i64 e.l, .string e.t, .slice u2.a u2.n u2.c]) := OB
  clear OB TB
  go_wp2_with (first | (refine wpList_ldG rfl 41 _ rfl w.heap.size 0 rfl 41 _ LA.out [.int .i64 e.k, .int .i64 e.rid, .slice u1.a u1.n u1.c, .int .i64 e.q, .int .i64 e.f, .int .i64 e.l, .string e.t, .slice u2.a u2.n u2.c] rfl _ Tryz.underlying41 rfl Tryz.sizeEv ?_) | (with_reducible refine wpList_haltS 41 _ _ rfl ?_))
  refine Stp.go ?_
  refine wpList_stB rfl 41 _ _ rfl (w.heap.size + 1) 0 rfl 41 _ EB.out [.int .i64 e.k, .int .i64 e.rid, .slice u1.a u1.n u1.c, .int .i64 e.q, .int .i64 e.f, .int .i64 e.l, .string e.t, .slice u2.a u2.n u2.c] rfl (by simp) Tryz.sizeEv rfl [.int .i64 e.k, .int .i64 e.rid, .slice u1.a u1.n u1.c, .int .i64 e.q, .int .i64 e.f, .int .i64 e.l, .string e.t, .slice u2.a u2.n u2.c] rfl ?_
  intro w7 OB TB
  have z_w7 : w6.heap.size ≤ w7.heap.size := Nat.le_of_eq TB.size.symm
  have LA : Hid (Bx w7 w.heap.size 41 [.int .i64 e.k, .int .i64 e.rid, .slice u1.a u1.n u1.c, .int .i64 e.q, .int .i64 e.f, .int .i64 e.l, .string e.t, .slice u2.a u2.n u2.c]) := LA.out.turn TB (by omega)
  have BW : Hid (Below w.heap.size w w7) := BW.out.trans (TB.below (by omega))
  have O1 : Hid (OwnI w7 W.heap.size u1.v e.ms) := O1.out.keep fun b hb _ => TB.block b (by have := (O1.out.lt b hb).1; omega)
  have O2 : Hid (OwnI w7 W.heap.size u2.v e.wi) := O2.out.keep fun b hb _ => TB.block b (by have := (O2.out.lt b hb).1; omega)
  have EB : Hid (Bx w7 (w.heap.size + 1) 41 [.int .i64 e.k, .int .i64 e.rid, .slice u1.a u1.n u1.c, .int .i64 e.q, .int .i64 e.f, .int .i64 e.l, .string e.t, .slice u2.a u2.n u2.c]) := OB
  clear OB TB
  go_wp2_with fail
  refine bodyPost_ret (results_b Tryz.results94 (w.heap.size + 1) 41 [.int .i64 e.k, .int .i64 e.rid, .slice u1.a u1.n u1.c, .int .i64 e.q, .int .i64 e.f, .int .i64 e.l, .string e.t, .slice u2.a u2.n u2.c] _ rfl EB.out Tryz.underlying41 rfl Tryz.sizeEv) rfl ?_
  exact ⟨u1, u2, rfl, O1.out.down (by omega), O2.out.down (by omega), UP.out, BW.out⟩
/-- the lists of a row apart: by their types. -/
theorem EvsO.rowa {w : World} {B : Nat} {s : Sv} {es : List Ev} (h : EvsO w B s es) : ∀ y, s.v.ownBlock = some y → ∀ e ∈ es, ¬ e.own y := fun y hy e he hx => by
  obtain ⟨c1, h1⟩ := h.1.blk hy
  rcases hx with hx | hx
  · obtain ⟨c2, h2⟩ := own_is_i (h.2 e he).1 hx
    rw [h1] at h2; simp at h2
  · obtain ⟨c2, h2⟩ := own_is_i (h.2 e he).2 hx
    rw [h1] at h2; simp at h2
theorem EvsUp.snoc {es : List Ev} {e : Ev} {N : Nat} (h : EvsUp es) (hu : e.Up) (hlt : ∀ c ∈ es, ∀ x, c.own x → x < N) (hge : ∀ x, e.own x → N ≤ x) : EvsUp (es ++ [e]) :=
  ⟨fun x hx => by
    rcases List.mem_append.1 hx with hx | hx
    · exact h.1 x hx
    · rw [List.mem_singleton.1 hx]; exact hu, List.pairwise_append.2 ⟨h.2, List.pairwise_singleton _ _, fun a ha b hb x y hx hy => by
      rw [List.mem_singleton.1 hb] at hy
      have := hlt a ha x hx
      have := hge y hy
      omega⟩⟩
end Go.Proofs.YtoahljkifikbaaaGreat


/- Lists of bundles: marked, and looked at again. Written by gen_gs.py. -/
namespace Go.Proofs.YtoahljkifikbaaaGreat
open Go.RowKit Pl
set_option linter.unusedVariables false
set_option linter.unusedSimpArgs false

/-- where the places of one lie. -/
structure BuSeg (w : World) (TL : List Spot) (n g o : Nat) (u : Bu) : Prop where
  gl : g < w.heap.size
  p0 : TL[n]? = some (g, o, 0)
  p1 : TL[n + 1]? = some (g, o + 1, 0)
  p2 : TL[n + 1 + 1]? = some (g, o + 2, 0)
  h3 : w.cell? ⟨g, o + 3, none⟩ = some (.slice u.s.a u.s.n u.s.c)
  q3 : ∀ s ∈ TL, ¬ (s.1 = g ∧ s.2.1 = o + 3)
  s3 : Seg TL (n + 1 + 1 + 1) u.s.a u.s.n [0, 0, 0, 2]
def BuSeg.len (u : Bu) : Nat := 1 + 1 + 1 + 4 * u.s.n
theorem BuSeg.later {w w' : World} {TL : List Spot} {n g o : Nat} {u : Bu} (h : BuSeg w TL n g o u) (b : Below w.heap.size w w') : BuSeg w' TL n g o u :=
  { h with gl := by have := h.gl; have := b.size; omega, h3 := (cell_block (b.block _ h.gl)).trans h.h3 }
/-- .. and of a list of them. -/
structure BuSegL (w : World) (TL : List Spot) (ao : Option Addr) (len : Nat) (us : Nat → Bu) (N : Nat → Nat) : Prop where
  one : ∀ j, j < len → ∃ g off, ao = some ⟨g, off, none⟩ ∧ BuSeg w TL (N j) g (off + j * 4) (us j)
  nx : ∀ j, j < len → N (j + 1) = N j + BuSeg.len (us j)
theorem BuSegL.later {w w' : World} {TL : List Spot} {ao : Option Addr} {len : Nat} {us : Nat → Bu} {N : Nat → Nat} (h : BuSegL w TL ao len us N) (b : Below w.heap.size w w') : BuSegL w' TL ao len us N := ⟨fun j hj => by obtain ⟨g, off, e, x⟩ := h.one j hj; exact ⟨g, off, e, x.later b⟩, h.nx⟩
end Go.Proofs.YtoahljkifikbaaaGreat


/- Lists of events: marked, and looked at again. Written by gen_gs.py. -/
namespace Go.Proofs.YtoahljkifikbaaaGreat
open Go.RowKit Pl
set_option linter.unusedVariables false
set_option linter.unusedSimpArgs false

/-- where the places of one lie. -/
structure EvSeg (w : World) (TL : List Spot) (n g o : Nat) (u : Ev) : Prop where
  gl : g < w.heap.size
  p0 : TL[n]? = some (g, o, 0)
  p1 : TL[n + 1]? = some (g, o + 1, 0)
  h2 : w.cell? ⟨g, o + 2, none⟩ = some (.slice u.sm.a u.sm.n u.sm.c)
  q2 : ∀ s ∈ TL, ¬ (s.1 = g ∧ s.2.1 = o + 2)
  s2 : Seg TL (n + 1 + 1) u.sm.a u.sm.n [0]
  p3 : TL[n + 1 + 1 + u.sm.n]? = some (g, o + 3, 0)
  p4 : TL[n + 1 + 1 + u.sm.n + 1]? = some (g, o + 4, 0)
  p5 : TL[n + 1 + 1 + u.sm.n + 1 + 1]? = some (g, o + 5, 0)
  p6 : TL[n + 1 + 1 + u.sm.n + 1 + 1 + 1]? = some (g, o + 6, 2)
  h7 : w.cell? ⟨g, o + 7, none⟩ = some (.slice u.sw.a u.sw.n u.sw.c)
  q7 : ∀ s ∈ TL, ¬ (s.1 = g ∧ s.2.1 = o + 7)
  s7 : Seg TL (n + 1 + 1 + u.sm.n + 1 + 1 + 1 + 1) u.sw.a u.sw.n [0]
def EvSeg.len (u : Ev) : Nat := 1 + 1 + u.sm.n + 1 + 1 + 1 + 1 + u.sw.n
theorem EvSeg.later {w w' : World} {TL : List Spot} {n g o : Nat} {u : Ev} (h : EvSeg w TL n g o u) (b : Below w.heap.size w w') : EvSeg w' TL n g o u :=
  { h with gl := by have := h.gl; have := b.size; omega, h2 := (cell_block (b.block _ h.gl)).trans h.h2, h7 := (cell_block (b.block _ h.gl)).trans h.h7 }
/-- .. and of a list of them. -/
structure EvSegL (w : World) (TL : List Spot) (ao : Option Addr) (len : Nat) (us : Nat → Ev) (N : Nat → Nat) : Prop where
  one : ∀ j, j < len → ∃ g off, ao = some ⟨g, off, none⟩ ∧ EvSeg w TL (N j) g (off + j * 8) (us j)
  nx : ∀ j, j < len → N (j + 1) = N j + EvSeg.len (us j)
theorem EvSegL.later {w w' : World} {TL : List Spot} {ao : Option Addr} {len : Nat} {us : Nat → Ev} {N : Nat → Nat} (h : EvSegL w TL ao len us N) (b : Below w.heap.size w w') : EvSegL w' TL ao len us N := ⟨fun j hj => by obtain ⟨g, off, e, x⟩ := h.one j hj; exact ⟨g, off, e, x.later b⟩, h.nx⟩
end Go.Proofs.YtoahljkifikbaaaGreat


/- Lists of bundles, lists of events: marked, and looked at again. Written by gen_gpl.py. -/
namespace Go.Proofs.YtoahljkifikbaaaGreat
open Go.RowKit Pl
set_option linter.unusedVariables false
set_option linter.unusedSimpArgs false

def zBu : Bu := ⟨0, 0, 0, [], zSv⟩
def fdBu (u : Bu) : List Fd := [⟨0, 0, none, []⟩, ⟨1, 0, none, []⟩, ⟨2, 0, none, []⟩, ⟨3, 0, some u.s, [0, 0, 0, 2]⟩]
def atBu (es : List Bu) (j : Nat) : Bu := (es[j]?).getD zBu
theorem Bu.lvs {w : World} {B : Nat} {e : Bu} (h : e.O w B) : LvS w e.s 4 := SlI.lv h
theorem Bu.ow {w : World} {B : Nat} {e : Bu} (h : e.O w B) {f : Fd} (hf : f ∈ fdBu e) {x : Nat} (hx : f.ow x) : e.own x := by
  obtain ⟨s, h1, h2, h3⟩ := hx
  simp only [fdBu, List.mem_cons, List.not_mem_nil, or_false] at hf
  have lv := Bu.lvs h
  rcases hf with rfl | rfl | rfl | rfl
  · cases h1
  · cases h1
  · cases h1
  · simp only [Option.some.injEq] at h1
    subst h1
    rw [← h3]
    exact ow_own (fun h0 => (lv h0).1) h2
/-- a list that is marked from K up to M. -/
def HeldBu (w : World) (s : Sv) (es : List Bu) (K M : Nat) : Prop := ∃ (TL : List Spot) (us : Nat → Bu) (N : Nat → Nat), Held w TL K ∧ BuSegL w TL s.a s.n us N ∧ N 0 = 0 ∧ M = K + N s.n ∧ s.n ≤ 1048576 ∧ (∀ x ∈ TL, BusOwn s es x.1)
theorem HeldBu.keep {w w' : World} {s : Sv} {es : List Bu} {K M : Nat} (h : HeldBu w s es K M) (hz : w.heap.size ≤ w'.heap.size) (hk : ∀ b, BusOwn s es b → b < w.heap.size → w'.heap[b]? = w.heap[b]?) : HeldBu w' s es K M := by
  obtain ⟨TL, us, N, h1, h2, h3, h4, h6, h5⟩ := h
  refine ⟨TL, us, N, fun i x hx => ?_, ⟨fun j hj => ?_, h2.nx⟩, h3, h4, h6, h5⟩
  · obtain ⟨k1, k2⟩ := h1 i x hx
    exact ⟨by omega, (cell_block (hk x.1 (h5 x (List.mem_of_getElem? hx)) k1)).trans k2⟩
  · obtain ⟨g, off, e, x⟩ := h2.one j hj
    have hb := hk g (.inl (by simp [Sv.v, Value.ownBlock, e])) x.gl
    exact ⟨g, off, e, { x with gl := by have := x.gl; omega, h3 := (cell_block hb).trans x.h3 }⟩
theorem HeldBu.later {w w' : World} {s : Sv} {es : List Bu} {K M : Nat} (h : HeldBu w s es K M) (b : Below w.heap.size w w') : HeldBu w' s es K M := h.keep b.size fun k _ hk => b.block k hk
def zEv : Ev := ⟨0, 0, [], 0, 0, 0, ⟨#[]⟩, [], zSv, zSv⟩
def fdEv (u : Ev) : List Fd := [⟨0, 0, none, []⟩, ⟨1, 0, none, []⟩, ⟨2, 0, some u.sm, [0]⟩, ⟨3, 0, none, []⟩, ⟨4, 0, none, []⟩, ⟨5, 0, none, []⟩, ⟨6, 2, none, []⟩, ⟨7, 0, some u.sw, [0]⟩]
def atEv (es : List Ev) (j : Nat) : Ev := (es[j]?).getD zEv
theorem Ev.lvs {w : World} {B : Nat} {e : Ev} (h : e.O w B) : LvS w e.sm 1 ∧ LvS w e.sw 1 := ⟨OwnI.lv h.1, OwnI.lv h.2⟩
theorem Ev.ow {w : World} {B : Nat} {e : Ev} (h : e.O w B) {f : Fd} (hf : f ∈ fdEv e) {x : Nat} (hx : f.ow x) : e.own x := by
  obtain ⟨s, h1, h2, h3⟩ := hx
  simp only [fdEv, List.mem_cons, List.not_mem_nil, or_false] at hf
  have lv := Ev.lvs h
  rcases hf with rfl | rfl | rfl | rfl | rfl | rfl | rfl | rfl
  · cases h1
  · cases h1
  · simp only [Option.some.injEq] at h1
    subst h1
    rw [← h3]
    exact .inl (ow_own (fun h0 => (lv.1 h0).1) h2)
  · cases h1
  · cases h1
  · cases h1
  · cases h1
  · simp only [Option.some.injEq] at h1
    subst h1
    rw [← h3]
    exact .inr (ow_own (fun h0 => (lv.2 h0).1) h2)
/-- a list that is marked from K up to M. -/
def HeldEv (w : World) (s : Sv) (es : List Ev) (K M : Nat) : Prop := ∃ (TL : List Spot) (us : Nat → Ev) (N : Nat → Nat), Held w TL K ∧ EvSegL w TL s.a s.n us N ∧ N 0 = 0 ∧ M = K + N s.n ∧ s.n ≤ 1048576 ∧ (∀ x ∈ TL, EvsOwn s es x.1)
theorem HeldEv.keep {w w' : World} {s : Sv} {es : List Ev} {K M : Nat} (h : HeldEv w s es K M) (hz : w.heap.size ≤ w'.heap.size) (hk : ∀ b, EvsOwn s es b → b < w.heap.size → w'.heap[b]? = w.heap[b]?) : HeldEv w' s es K M := by
  obtain ⟨TL, us, N, h1, h2, h3, h4, h6, h5⟩ := h
  refine ⟨TL, us, N, fun i x hx => ?_, ⟨fun j hj => ?_, h2.nx⟩, h3, h4, h6, h5⟩
  · obtain ⟨k1, k2⟩ := h1 i x hx
    exact ⟨by omega, (cell_block (hk x.1 (h5 x (List.mem_of_getElem? hx)) k1)).trans k2⟩
  · obtain ⟨g, off, e, x⟩ := h2.one j hj
    have hb := hk g (.inl (by simp [Sv.v, Value.ownBlock, e])) x.gl
    exact ⟨g, off, e, { x with gl := by have := x.gl; omega, h2 := (cell_block hb).trans x.h2, h7 := (cell_block hb).trans x.h7 }⟩
theorem HeldEv.later {w w' : World} {s : Sv} {es : List Ev} {K M : Nat} (h : HeldEv w s es K M) (b : Below w.heap.size w w') : HeldEv w' s es K M := h.keep b.size fun k _ hk => b.block k hk
end Go.Proofs.YtoahljkifikbaaaGreat


/- A daemon: marked, and looked at again. Written by gen_dmk.py. -/
namespace Go.Proofs.YtoahljkifikbaaaGreat
open Go.RowKit Pl
set_option linter.unusedVariables false
set_option linter.unusedSimpArgs false

/-- the blocks of a daemon's lists. -/
def Dm.own (d : Dm) (x : Nat) : Prop := d.mv.own x ∨ d.js.v.ownBlock = some x ∨ BusOwn d.bs d.bu x ∨ EvsOwn d.ls d.lo x
theorem DmO.olt {w : World} {B : Nat} {d : Dm} (h : DmO w B d) {x : Nat} (hx : d.own x) : B ≤ x ∧ x < w.heap.size := by
  rcases hx with hx | hx | hx | hx
  · exact h.mt.lt hx
  · exact h.jo.lt x hx
  · exact h.bu.olt hx
  · exact h.lo.olt hx
theorem BusO.keepo {w w' : World} {B : Nat} {s : Sv} {es : List Bu} (h : BusO w B s es) (hk : ∀ b, BusOwn s es b → b < w.heap.size → w'.heap[b]? = w.heap[b]?) : BusO w' B s es := ⟨h.1.keep fun b hb hl => hk b (.inl hb) hl, fun e he => Sl.keep (h.2 e he) fun b hb hl => hk b (.inr ⟨e, he, hb⟩) hl⟩
theorem EvsO.keepo {w w' : World} {B : Nat} {s : Sv} {es : List Ev} (h : EvsO w B s es) (hk : ∀ b, EvsOwn s es b → b < w.heap.size → w'.heap[b]? = w.heap[b]?) : EvsO w' B s es := ⟨h.1.keep fun b hb hl => hk b (.inl hb) hl, fun e he => ⟨(h.2 e he).1.keep fun b hb hl => hk b (.inr ⟨e, he, .inl hb⟩) hl, (h.2 e he).2.keep fun b hb hl => hk b (.inr ⟨e, he, .inr hb⟩) hl⟩⟩
theorem DmO.keepo {w w' : World} {B : Nat} {d : Dm} (h : DmO w B d) (hk : ∀ b, d.own b → b < w.heap.size → w'.heap[b]? = w.heap[b]?) : DmO w' B d :=
  ⟨h.mt.keep fun b hb hl => hk b (.inl hb) hl, h.jo.keep fun b hb hl => hk b (.inr (.inl hb)) hl, h.bu.keepo fun b hb hl => hk b (.inr (.inr (.inl hb))) hl, h.lo.keepo fun b hb hl => hk b (.inr (.inr (.inr hb))) hl⟩
/-- a daemon that is marked from K up to M. -/
def HeldD (w : World) (B : Nat) (d : Dm) (K M : Nat) : Prop := ∃ K4 : Nat, MtO w B (markM K d.m) d.mv ∧ OwnI w B d.js.v (marks (endM K d.m) d.jms.length) ∧ HeldBu w d.bs d.bu (endM K d.m + d.jms.length) K4 ∧ HeldEv w d.ls d.lo K4 M ∧ 0 < K ∧ endM K d.m + d.jms.length ≤ K4 ∧ K4 ≤ M ∧ M ≤ 39999990
theorem HeldD.keep {w w' : World} {B : Nat} {d : Dm} {K M : Nat} (h : HeldD w B d K M) (hz : w.heap.size ≤ w'.heap.size) (hk : ∀ b, d.own b → b < w.heap.size → w'.heap[b]? = w.heap[b]?) : HeldD w' B d K M := by
  obtain ⟨K4, h1, h2, h3, h4, h5⟩ := h
  exact ⟨K4, h1.keep fun b hb hl => hk b (.inl hb) hl, h2.keep fun b hb hl => hk b (.inr (.inl hb)) hl, h3.keep hz fun b hb hl => hk b (.inr (.inr (.inl hb))) hl, h4.keep hz fun b hb hl => hk b (.inr (.inr (.inr hb))) hl, h5⟩
theorem HeldD.later {w w' : World} {B : Nat} {d : Dm} {K M : Nat} (h : HeldD w B d K M) (b : Below w.heap.size w w') : HeldD w' B d K M := h.keep b.size fun k _ hk => b.block k hk
end Go.Proofs.YtoahljkifikbaaaGreat


/- A daemon that is copied; both Crash. Written by gen_cdm.py. -/
namespace Go.Proofs.YtoahljkifikbaaaGreat
open Go.RowKit Pl
set_option linter.unusedVariables false
set_option linter.unusedSimpArgs false

section
variable {P : Program} {w : World} {o : Oper} {a : Act} {K : Act → World → Prop} {Q : Exit → Act → World → Prop}
theorem wp_catM {T size : Nat} (s x : Operand) (t : TypeId) (ho : o.op = .call { callee := .builtin .append, args := #[s, x], argTypes := #[t, t] })
    (z : Value) (bytes : Nat) (ht : P.underlying t = some (.slice T)) (hinfo : (P.info? T).map (fun i => (i.zero, i.size, i.bytes)) = some (some z, size, bytes)) (hzs : z.cells.size = size) (hby : bytes ≤ 400)
    (B : Nat) (v : Value) (rs : List (List Value)) (hs : a.eval s = v) (hown : SlN w T size B v rs) (B' : Nat) (u : Value) (qs : List (List Value)) (hx : a.eval x = u) (hu : SlN w T size B' u qs)
    (hn : rs.length + qs.length ≤ 1048577) (hB : B ≤ w.heap.size)
    (h : ∀ v' w', SlN w' T size B v' (rs ++ qs) → w.grownBy w' v.ownBlock → Below B w w' → K (a.put o.dst v') w') :
    o.wp P a w K Q := by
  refine wp_appendS s x t ho z bytes ht hinfo hzs hs hown.1 _ qs.length qs.flatten hx (hu.src ht) (by unfold maxLen; omega) (Nat.le_trans (Nat.mul_le_mul hn hby) (by decide)) hB ?_
  intro v' w' h3 h2 h4
  refine h v' w' ⟨by rw [List.length_append, List.flatten_append]; exact h3, fun r hr => ?_⟩ h2 ((Below.refl B w).grown h2 hB (fun k hk => (Sl.lt hown.1 k hk).1))
  rcases List.mem_append.1 hr with hr | hr
  · exact hown.2 r hr
  · exact hu.2 r hr
end
theorem MtO.keepb2 {w w' : World} {B g T : Nat} {m : Mt} {u : Mv} {cs : List Value} (h : MtO w B m u) (hB : Bx w g T cs) (hk : KeepBut g w w') (h3 : T ≠ 3) (h9 : T ≠ 9) (hi : T ≠ 39) : MtO w' B m u :=
  ⟨h.ms.keepb hB hk h3, SlI.keepb h.its hB hk hi, h.lv.keepb hB hk h3, h.tx.keepb hB hk h9, h.ws.keepb hB hk h3, h.a1, h.a2, h.a3⟩
theorem Ev.O.rowkeep {w w' : World} {B : Nat} {r : Option Nat} (hr : ∀ k, r = some k → ∃ cs, w.heap[k]? = some (.cells cs 41 (0, 0))) (g : w.grownBy w' r) {e : Ev} (h : e.O w B) : e.O w' B :=
  ⟨h.1.kept g (fun k hk e => by obtain ⟨_, e1⟩ := own_is_i h.1 hk; obtain ⟨_, e2⟩ := hr k e.symm; rw [e1] at e2; simp at e2), h.2.kept g (fun k hk e => by obtain ⟨_, e1⟩ := own_is_i h.2 hk; obtain ⟨_, e2⟩ := hr k e.symm; rw [e1] at e2; simp at e2)⟩
/-- but for the box g and what lies from N on all is as it was. -/
structure KeepR (g N : Nat) (w w' : World) : Prop where
  os : w'.os = w.os
  tape : w'.tape = w.tape
  output : w'.output = w.output
  size : w.heap.size ≤ w'.heap.size
  blk : ∀ k, k < N → k ≠ g → w'.heap[k]? = w.heap[k]?
  news : True
section
variable {g N : Nat} {w w' w'' : World}
theorem KeepR.refl (g N : Nat) (w : World) : KeepR g N w w := ⟨rfl, rfl, rfl, Nat.le_refl _, fun _ _ _ => rfl, trivial⟩
theorem KeepR.trans (h : KeepR g N w w') (k : KeepR g N w' w'') : KeepR g N w w'' := ⟨k.os.trans h.os, k.tape.trans h.tape, k.output.trans h.output, Nat.le_trans h.size k.size, fun i hi hn => (k.blk i hi hn).trans (h.blk i hi hn), trivial⟩
theorem KeepR.belowN (h : KeepR g N w w') (b : Below N w' w'') : KeepR g N w w'' := ⟨b.os.trans h.os, b.tape.trans h.tape, b.output.trans h.output, Nat.le_trans h.size b.size, fun i hi hn => (b.block i hi).trans (h.blk i hi hn), trivial⟩
theorem KeepR.below {B : Nat} (h : KeepR g N w w') (h1 : B ≤ g) (h2 : B ≤ N) : Below B w w' := ⟨h.os, h.tape, h.output, h.size, fun k hk => h.blk k (by omega) (by omega)⟩
theorem KeepR.turn (h : KeepR g N w w') (t : TurnAt g w' w'') : KeepR g N w w'' := ⟨t.os.trans h.os, t.tape.trans h.tape, t.output.trans h.output, Nat.le_trans h.size (Nat.le_of_eq t.size.symm), fun i hi hn => (t.block i hn).trans (h.blk i hi hn), trivial⟩
theorem Bx.kr {k T : Nat} {cs : List Value} (h : Bx w k T cs) (r : KeepR g N w w') (h1 : k < N) (h2 : k ≠ g) : Bx w' k T cs := (r.blk k h1 h2).trans h
end
set_option maxRecDepth 100000 in
set_option maxHeartbeats 32000000 in
theorem copyDaemon_none (x : Dm) (w : World) (hm : Hid (MtP w x.m x.mv)) (hj : Hid (RI w x.js.v x.jms)) (hl : Hid (EvsR w x.ls x.lo)) (hb : Hid (x.bs.n = 0 ∧ x.bu = [])) (hs : Hid (DmS x)) :
    Calls Tryz.prog 85 #[.agg #[.int .i64 x.id, .bool x.dead, .int .i64 x.m.id, .int .i64 x.m.rid, .slice x.mv.ms.a x.mv.ms.n x.mv.ms.c, .slice x.mv.its.a x.mv.its.n x.mv.its.c, .slice x.mv.lv.a x.mv.lv.n x.mv.lv.c, .slice x.mv.tx.a x.mv.tx.n x.mv.tx.c, .int .i64 x.m.rd, .int .i64 x.m.se, .int .i64 x.m.li, .int .i64 x.m.he, .int .i64 x.m.la.c, .int .i64 x.m.la.r, .int .i64 x.m.la.q, .int .i64 x.m.la.a, .int .i64 x.m.la.b, .slice x.mv.ws.a x.mv.ws.n x.mv.ws.c, .int .i64 x.most, .int .i64 x.old, .int .i64 x.jid, .slice x.js.a x.js.n x.js.c, .slice x.bs.a x.bs.n x.bs.c, .slice x.ls.a x.ls.n x.ls.c]] w fun e w' => ∃ y : Dm, e = .returned (.agg #[.int .i64 y.id, .bool y.dead, .int .i64 y.m.id, .int .i64 y.m.rid, .slice y.mv.ms.a y.mv.ms.n y.mv.ms.c, .slice y.mv.its.a y.mv.its.n y.mv.its.c, .slice y.mv.lv.a y.mv.lv.n y.mv.lv.c, .slice y.mv.tx.a y.mv.tx.n y.mv.tx.c, .int .i64 y.m.rd, .int .i64 y.m.se, .int .i64 y.m.li, .int .i64 y.m.he, .int .i64 y.m.la.c, .int .i64 y.m.la.r, .int .i64 y.m.la.q, .int .i64 y.m.la.a, .int .i64 y.m.la.b, .slice y.mv.ws.a y.mv.ws.n y.mv.ws.c, .int .i64 y.most, .int .i64 y.old, .int .i64 y.jid, .slice y.js.a y.js.n y.js.c, .slice y.bs.a y.bs.n y.bs.c, .slice y.ls.a y.ls.n y.ls.c]) ∧ y.Same x ∧ DmO w' w.heap.size y ∧ DmA y ∧ Below w.heap.size w w' := by
  have hn1 : (w.alloc (.cells #[.int .i64 x.id, .bool x.dead, .int .i64 x.m.id, .int .i64 x.m.rid, .slice x.mv.ms.a x.mv.ms.n x.mv.ms.c, .slice x.mv.its.a x.mv.its.n x.mv.its.c, .slice x.mv.lv.a x.mv.lv.n x.mv.lv.c, .slice x.mv.tx.a x.mv.tx.n x.mv.tx.c, .int .i64 x.m.rd, .int .i64 x.m.se, .int .i64 x.m.li, .int .i64 x.m.he, .int .i64 x.m.la.c, .int .i64 x.m.la.r, .int .i64 x.m.la.q, .int .i64 x.m.la.a, .int .i64 x.m.la.b, .slice x.mv.ws.a x.mv.ws.n x.mv.ws.c, .int .i64 x.most, .int .i64 x.old, .int .i64 x.jid, .slice x.js.a x.js.n x.js.c, .slice x.bs.a x.bs.n x.bs.c, .slice x.ls.a x.ls.n x.ls.c] 54)).heap.size = w.heap.size + 1 := by simp
  have LA : Hid (Bx ((w.alloc (.cells #[.int .i64 x.id, .bool x.dead, .int .i64 x.m.id, .int .i64 x.m.rid, .slice x.mv.ms.a x.mv.ms.n x.mv.ms.c, .slice x.mv.its.a x.mv.its.n x.mv.its.c, .slice x.mv.lv.a x.mv.lv.n x.mv.lv.c, .slice x.mv.tx.a x.mv.tx.n x.mv.tx.c, .int .i64 x.m.rd, .int .i64 x.m.se, .int .i64 x.m.li, .int .i64 x.m.he, .int .i64 x.m.la.c, .int .i64 x.m.la.r, .int .i64 x.m.la.q, .int .i64 x.m.la.a, .int .i64 x.m.la.b, .slice x.mv.ws.a x.mv.ws.n x.mv.ws.c, .int .i64 x.most, .int .i64 x.old, .int .i64 x.jid, .slice x.js.a x.js.n x.js.c, .slice x.bs.a x.bs.n x.bs.c, .slice x.ls.a x.ls.n x.ls.c] 54)).alloc (.cells #[.int .i64 0, .bool false, .int .i64 0, .int .i64 0, .slice none 0 0, .slice none 0 0, .slice none 0 0, .slice none 0 0, .int .i64 0, .int .i64 0, .int .i64 0, .int .i64 0, .int .i64 0, .int .i64 0, .int .i64 0, .int .i64 0, .int .i64 0, .slice none 0 0, .int .i64 0, .int .i64 0, .int .i64 0, .slice none 0 0, .slice none 0 0, .slice none 0 0] 54)) w.heap.size 54 [.int .i64 x.id, .bool x.dead, .int .i64 x.m.id, .int .i64 x.m.rid, .slice x.mv.ms.a x.mv.ms.n x.mv.ms.c, .slice x.mv.its.a x.mv.its.n x.mv.its.c, .slice x.mv.lv.a x.mv.lv.n x.mv.lv.c, .slice x.mv.tx.a x.mv.tx.n x.mv.tx.c, .int .i64 x.m.rd, .int .i64 x.m.se, .int .i64 x.m.li, .int .i64 x.m.he, .int .i64 x.m.la.c, .int .i64 x.m.la.r, .int .i64 x.m.la.q, .int .i64 x.m.la.a, .int .i64 x.m.la.b, .slice x.mv.ws.a x.mv.ws.n x.mv.ws.c, .int .i64 x.most, .int .i64 x.old, .int .i64 x.jid, .slice x.js.a x.js.n x.js.c, .slice x.bs.a x.bs.n x.bs.c, .slice x.ls.a x.ls.n x.ls.c]) := by
    have h := Bx.new w 54 [.int .i64 x.id, .bool x.dead, .int .i64 x.m.id, .int .i64 x.m.rid, .slice x.mv.ms.a x.mv.ms.n x.mv.ms.c, .slice x.mv.its.a x.mv.its.n x.mv.its.c, .slice x.mv.lv.a x.mv.lv.n x.mv.lv.c, .slice x.mv.tx.a x.mv.tx.n x.mv.tx.c, .int .i64 x.m.rd, .int .i64 x.m.se, .int .i64 x.m.li, .int .i64 x.m.he, .int .i64 x.m.la.c, .int .i64 x.m.la.r, .int .i64 x.m.la.q, .int .i64 x.m.la.a, .int .i64 x.m.la.b, .slice x.mv.ws.a x.mv.ws.n x.mv.ws.c, .int .i64 x.most, .int .i64 x.old, .int .i64 x.jid, .slice x.js.a x.js.n x.js.c, .slice x.bs.a x.bs.n x.bs.c, .slice x.ls.a x.ls.n x.ls.c]
    exact (h).later ((Below.refl _ _).alloc (Nat.le_refl _) _)
  have EB : Hid (Bx ((w.alloc (.cells #[.int .i64 x.id, .bool x.dead, .int .i64 x.m.id, .int .i64 x.m.rid, .slice x.mv.ms.a x.mv.ms.n x.mv.ms.c, .slice x.mv.its.a x.mv.its.n x.mv.its.c, .slice x.mv.lv.a x.mv.lv.n x.mv.lv.c, .slice x.mv.tx.a x.mv.tx.n x.mv.tx.c, .int .i64 x.m.rd, .int .i64 x.m.se, .int .i64 x.m.li, .int .i64 x.m.he, .int .i64 x.m.la.c, .int .i64 x.m.la.r, .int .i64 x.m.la.q, .int .i64 x.m.la.a, .int .i64 x.m.la.b, .slice x.mv.ws.a x.mv.ws.n x.mv.ws.c, .int .i64 x.most, .int .i64 x.old, .int .i64 x.jid, .slice x.js.a x.js.n x.js.c, .slice x.bs.a x.bs.n x.bs.c, .slice x.ls.a x.ls.n x.ls.c] 54)).alloc (.cells #[.int .i64 0, .bool false, .int .i64 0, .int .i64 0, .slice none 0 0, .slice none 0 0, .slice none 0 0, .slice none 0 0, .int .i64 0, .int .i64 0, .int .i64 0, .int .i64 0, .int .i64 0, .int .i64 0, .int .i64 0, .int .i64 0, .int .i64 0, .slice none 0 0, .int .i64 0, .int .i64 0, .int .i64 0, .slice none 0 0, .slice none 0 0, .slice none 0 0] 54)) (w.heap.size + 1) 54 [.int .i64 0, .bool false, .int .i64 0, .int .i64 0, .slice none 0 0, .slice none 0 0, .slice none 0 0, .slice none 0 0, .int .i64 0, .int .i64 0, .int .i64 0, .int .i64 0, .int .i64 0, .int .i64 0, .int .i64 0, .int .i64 0, .int .i64 0, .slice none 0 0, .int .i64 0, .int .i64 0, .int .i64 0, .slice none 0 0, .slice none 0 0, .slice none 0 0]) := by
    have h := Bx.new (w.alloc (.cells #[.int .i64 x.id, .bool x.dead, .int .i64 x.m.id, .int .i64 x.m.rid, .slice x.mv.ms.a x.mv.ms.n x.mv.ms.c, .slice x.mv.its.a x.mv.its.n x.mv.its.c, .slice x.mv.lv.a x.mv.lv.n x.mv.lv.c, .slice x.mv.tx.a x.mv.tx.n x.mv.tx.c, .int .i64 x.m.rd, .int .i64 x.m.se, .int .i64 x.m.li, .int .i64 x.m.he, .int .i64 x.m.la.c, .int .i64 x.m.la.r, .int .i64 x.m.la.q, .int .i64 x.m.la.a, .int .i64 x.m.la.b, .slice x.mv.ws.a x.mv.ws.n x.mv.ws.c, .int .i64 x.most, .int .i64 x.old, .int .i64 x.jid, .slice x.js.a x.js.n x.js.c, .slice x.bs.a x.bs.n x.bs.c, .slice x.ls.a x.ls.n x.ls.c] 54)) 54 [.int .i64 0, .bool false, .int .i64 0, .int .i64 0, .slice none 0 0, .slice none 0 0, .slice none 0 0, .slice none 0 0, .int .i64 0, .int .i64 0, .int .i64 0, .int .i64 0, .int .i64 0, .int .i64 0, .int .i64 0, .int .i64 0, .int .i64 0, .slice none 0 0, .int .i64 0, .int .i64 0, .int .i64 0, .slice none 0 0, .slice none 0 0, .slice none 0 0]
    rw [hn1] at h
    exact h
  have BW : Hid (Below w.heap.size w ((w.alloc (.cells #[.int .i64 x.id, .bool x.dead, .int .i64 x.m.id, .int .i64 x.m.rid, .slice x.mv.ms.a x.mv.ms.n x.mv.ms.c, .slice x.mv.its.a x.mv.its.n x.mv.its.c, .slice x.mv.lv.a x.mv.lv.n x.mv.lv.c, .slice x.mv.tx.a x.mv.tx.n x.mv.tx.c, .int .i64 x.m.rd, .int .i64 x.m.se, .int .i64 x.m.li, .int .i64 x.m.he, .int .i64 x.m.la.c, .int .i64 x.m.la.r, .int .i64 x.m.la.q, .int .i64 x.m.la.a, .int .i64 x.m.la.b, .slice x.mv.ws.a x.mv.ws.n x.mv.ws.c, .int .i64 x.most, .int .i64 x.old, .int .i64 x.jid, .slice x.js.a x.js.n x.js.c, .slice x.bs.a x.bs.n x.bs.c, .slice x.ls.a x.ls.n x.ls.c] 54)).alloc (.cells #[.int .i64 0, .bool false, .int .i64 0, .int .i64 0, .slice none 0 0, .slice none 0 0, .slice none 0 0, .slice none 0 0, .int .i64 0, .int .i64 0, .int .i64 0, .int .i64 0, .int .i64 0, .int .i64 0, .int .i64 0, .int .i64 0, .int .i64 0, .slice none 0 0, .int .i64 0, .int .i64 0, .int .i64 0, .slice none 0 0, .slice none 0 0, .slice none 0 0] 54))) := (((Below.refl _ _).alloc (by simp) _).alloc (by simp; try omega) _)
  clear hn1
  have hb0 : ¬ 0 < x.bs.n := by have := hb.out.1; omega
  have HLN : Hid (x.ls.n = x.lo.length) := hl.out.1
  have hln : x.ls.n ≤ 1048576 := by have := HLN.out; have := hs.out.los.1; omega
  have hsz : ((w.alloc (.cells #[.int .i64 x.id, .bool x.dead, .int .i64 x.m.id, .int .i64 x.m.rid, .slice x.mv.ms.a x.mv.ms.n x.mv.ms.c, .slice x.mv.its.a x.mv.its.n x.mv.its.c, .slice x.mv.lv.a x.mv.lv.n x.mv.lv.c, .slice x.mv.tx.a x.mv.tx.n x.mv.tx.c, .int .i64 x.m.rd, .int .i64 x.m.se, .int .i64 x.m.li, .int .i64 x.m.he, .int .i64 x.m.la.c, .int .i64 x.m.la.r, .int .i64 x.m.la.q, .int .i64 x.m.la.a, .int .i64 x.m.la.b, .slice x.mv.ws.a x.mv.ws.n x.mv.ws.c, .int .i64 x.most, .int .i64 x.old, .int .i64 x.jid, .slice x.js.a x.js.n x.js.c, .slice x.bs.a x.bs.n x.bs.c, .slice x.ls.a x.ls.n x.ls.c] 54)).alloc (.cells #[.int .i64 0, .bool false, .int .i64 0, .int .i64 0, .slice none 0 0, .slice none 0 0, .slice none 0 0, .slice none 0 0, .int .i64 0, .int .i64 0, .int .i64 0, .int .i64 0, .int .i64 0, .int .i64 0, .int .i64 0, .int .i64 0, .int .i64 0, .slice none 0 0, .int .i64 0, .int .i64 0, .int .i64 0, .slice none 0 0, .slice none 0 0, .slice none 0 0] 54)).heap.size = w.heap.size + 2 := by simp
  obtain ⟨W, hW⟩ : ∃ W, W = ((w.alloc (.cells #[.int .i64 x.id, .bool x.dead, .int .i64 x.m.id, .int .i64 x.m.rid, .slice x.mv.ms.a x.mv.ms.n x.mv.ms.c, .slice x.mv.its.a x.mv.its.n x.mv.its.c, .slice x.mv.lv.a x.mv.lv.n x.mv.lv.c, .slice x.mv.tx.a x.mv.tx.n x.mv.tx.c, .int .i64 x.m.rd, .int .i64 x.m.se, .int .i64 x.m.li, .int .i64 x.m.he, .int .i64 x.m.la.c, .int .i64 x.m.la.r, .int .i64 x.m.la.q, .int .i64 x.m.la.a, .int .i64 x.m.la.b, .slice x.mv.ws.a x.mv.ws.n x.mv.ws.c, .int .i64 x.most, .int .i64 x.old, .int .i64 x.jid, .slice x.js.a x.js.n x.js.c, .slice x.bs.a x.bs.n x.bs.c, .slice x.ls.a x.ls.n x.ls.c] 54)).alloc (.cells #[.int .i64 0, .bool false, .int .i64 0, .int .i64 0, .slice none 0 0, .slice none 0 0, .slice none 0 0, .slice none 0 0, .int .i64 0, .int .i64 0, .int .i64 0, .int .i64 0, .int .i64 0, .int .i64 0, .int .i64 0, .int .i64 0, .int .i64 0, .slice none 0 0, .int .i64 0, .int .i64 0, .int .i64 0, .slice none 0 0, .slice none 0 0, .slice none 0 0] 54)) := ⟨_, rfl⟩
  rw [← hW] at LA EB BW hsz
  have HW : Hid (W = ((w.alloc (.cells #[.int .i64 x.id, .bool x.dead, .int .i64 x.m.id, .int .i64 x.m.rid, .slice x.mv.ms.a x.mv.ms.n x.mv.ms.c, .slice x.mv.its.a x.mv.its.n x.mv.its.c, .slice x.mv.lv.a x.mv.lv.n x.mv.lv.c, .slice x.mv.tx.a x.mv.tx.n x.mv.tx.c, .int .i64 x.m.rd, .int .i64 x.m.se, .int .i64 x.m.li, .int .i64 x.m.he, .int .i64 x.m.la.c, .int .i64 x.m.la.r, .int .i64 x.m.la.q, .int .i64 x.m.la.a, .int .i64 x.m.la.b, .slice x.mv.ws.a x.mv.ws.n x.mv.ws.c, .int .i64 x.most, .int .i64 x.old, .int .i64 x.jid, .slice x.js.a x.js.n x.js.c, .slice x.bs.a x.bs.n x.bs.c, .slice x.ls.a x.ls.n x.ls.c] 54)).alloc (.cells #[.int .i64 0, .bool false, .int .i64 0, .int .i64 0, .slice none 0 0, .slice none 0 0, .slice none 0 0, .slice none 0 0, .int .i64 0, .int .i64 0, .int .i64 0, .int .i64 0, .int .i64 0, .int .i64 0, .int .i64 0, .int .i64 0, .int .i64 0, .slice none 0 0, .int .i64 0, .int .i64 0, .int .i64 0, .slice none 0 0, .slice none 0 0, .slice none 0 0] 54))) := hW
  clear hW
  go_enter Tryz.func85, Tryz.ntmps85
  have hz : Hid (Bx (((w.alloc (.cells #[.int .i64 x.id, .bool x.dead, .int .i64 x.m.id, .int .i64 x.m.rid, .slice x.mv.ms.a x.mv.ms.n x.mv.ms.c, .slice x.mv.its.a x.mv.its.n x.mv.its.c, .slice x.mv.lv.a x.mv.lv.n x.mv.lv.c, .slice x.mv.tx.a x.mv.tx.n x.mv.tx.c, .int .i64 x.m.rd, .int .i64 x.m.se, .int .i64 x.m.li, .int .i64 x.m.he, .int .i64 x.m.la.c, .int .i64 x.m.la.r, .int .i64 x.m.la.q, .int .i64 x.m.la.a, .int .i64 x.m.la.b, .slice x.mv.ws.a x.mv.ws.n x.mv.ws.c, .int .i64 x.most, .int .i64 x.old, .int .i64 x.jid, .slice x.js.a x.js.n x.js.c, .slice x.bs.a x.bs.n x.bs.c, .slice x.ls.a x.ls.n x.ls.c] 54)).alloc (.cells #[.int .i64 0, .bool false, .int .i64 0, .int .i64 0, .slice none 0 0, .slice none 0 0, .slice none 0 0, .slice none 0 0, .int .i64 0, .int .i64 0, .int .i64 0, .int .i64 0, .int .i64 0, .int .i64 0, .int .i64 0, .int .i64 0, .int .i64 0, .slice none 0 0, .int .i64 0, .int .i64 0, .int .i64 0, .slice none 0 0, .slice none 0 0, .slice none 0 0] 54)).alloc (.cells #[.int .i64 0, .bool false, .int .i64 0, .int .i64 0, .slice none 0 0, .slice none 0 0, .slice none 0 0, .slice none 0 0, .int .i64 0, .int .i64 0, .int .i64 0, .int .i64 0, .int .i64 0, .int .i64 0, .int .i64 0, .int .i64 0, .int .i64 0, .slice none 0 0, .int .i64 0, .int .i64 0, .int .i64 0, .slice none 0 0, .slice none 0 0, .slice none 0 0] 54)) (w.heap.size + 2) 54 [.int .i64 0, .bool false, .int .i64 0, .int .i64 0, .slice none 0 0, .slice none 0 0, .slice none 0 0, .slice none 0 0, .int .i64 0, .int .i64 0, .int .i64 0, .int .i64 0, .int .i64 0, .int .i64 0, .int .i64 0, .int .i64 0, .int .i64 0, .slice none 0 0, .int .i64 0, .int .i64 0, .int .i64 0, .slice none 0 0, .slice none 0 0, .slice none 0 0]) := by have h := Bx.new W 54 [.int .i64 0, .bool false, .int .i64 0, .int .i64 0, .slice none 0 0, .slice none 0 0, .slice none 0 0, .slice none 0 0, .int .i64 0, .int .i64 0, .int .i64 0, .int .i64 0, .int .i64 0, .int .i64 0, .int .i64 0, .int .i64 0, .int .i64 0, .slice none 0 0, .int .i64 0, .int .i64 0, .int .i64 0, .slice none 0 0, .slice none 0 0, .slice none 0 0]; rw [hsz, HW.out] at h; exact h
  have LA2 : Hid (Bx ((w.alloc (.cells #[.int .i64 x.id, .bool x.dead, .int .i64 x.m.id, .int .i64 x.m.rid, .slice x.mv.ms.a x.mv.ms.n x.mv.ms.c, .slice x.mv.its.a x.mv.its.n x.mv.its.c, .slice x.mv.lv.a x.mv.lv.n x.mv.lv.c, .slice x.mv.tx.a x.mv.tx.n x.mv.tx.c, .int .i64 x.m.rd, .int .i64 x.m.se, .int .i64 x.m.li, .int .i64 x.m.he, .int .i64 x.m.la.c, .int .i64 x.m.la.r, .int .i64 x.m.la.q, .int .i64 x.m.la.a, .int .i64 x.m.la.b, .slice x.mv.ws.a x.mv.ws.n x.mv.ws.c, .int .i64 x.most, .int .i64 x.old, .int .i64 x.jid, .slice x.js.a x.js.n x.js.c, .slice x.bs.a x.bs.n x.bs.c, .slice x.ls.a x.ls.n x.ls.c] 54)).alloc (.cells #[.int .i64 0, .bool false, .int .i64 0, .int .i64 0, .slice none 0 0, .slice none 0 0, .slice none 0 0, .slice none 0 0, .int .i64 0, .int .i64 0, .int .i64 0, .int .i64 0, .int .i64 0, .int .i64 0, .int .i64 0, .int .i64 0, .int .i64 0, .slice none 0 0, .int .i64 0, .int .i64 0, .int .i64 0, .slice none 0 0, .slice none 0 0, .slice none 0 0] 54)) w.heap.size 54 [.int .i64 x.id, .bool x.dead, .int .i64 x.m.id, .int .i64 x.m.rid, .slice x.mv.ms.a x.mv.ms.n x.mv.ms.c, .slice x.mv.its.a x.mv.its.n x.mv.its.c, .slice x.mv.lv.a x.mv.lv.n x.mv.lv.c, .slice x.mv.tx.a x.mv.tx.n x.mv.tx.c, .int .i64 x.m.rd, .int .i64 x.m.se, .int .i64 x.m.li, .int .i64 x.m.he, .int .i64 x.m.la.c, .int .i64 x.m.la.r, .int .i64 x.m.la.q, .int .i64 x.m.la.a, .int .i64 x.m.la.b, .slice x.mv.ws.a x.mv.ws.n x.mv.ws.c, .int .i64 x.most, .int .i64 x.old, .int .i64 x.jid, .slice x.js.a x.js.n x.js.c, .slice x.bs.a x.bs.n x.bs.c, .slice x.ls.a x.ls.n x.ls.c]) := by have h := LA.out; rw [HW.out] at h; exact h
  have LA3 : Hid (Bx (((w.alloc (.cells #[.int .i64 x.id, .bool x.dead, .int .i64 x.m.id, .int .i64 x.m.rid, .slice x.mv.ms.a x.mv.ms.n x.mv.ms.c, .slice x.mv.its.a x.mv.its.n x.mv.its.c, .slice x.mv.lv.a x.mv.lv.n x.mv.lv.c, .slice x.mv.tx.a x.mv.tx.n x.mv.tx.c, .int .i64 x.m.rd, .int .i64 x.m.se, .int .i64 x.m.li, .int .i64 x.m.he, .int .i64 x.m.la.c, .int .i64 x.m.la.r, .int .i64 x.m.la.q, .int .i64 x.m.la.a, .int .i64 x.m.la.b, .slice x.mv.ws.a x.mv.ws.n x.mv.ws.c, .int .i64 x.most, .int .i64 x.old, .int .i64 x.jid, .slice x.js.a x.js.n x.js.c, .slice x.bs.a x.bs.n x.bs.c, .slice x.ls.a x.ls.n x.ls.c] 54)).alloc (.cells #[.int .i64 0, .bool false, .int .i64 0, .int .i64 0, .slice none 0 0, .slice none 0 0, .slice none 0 0, .slice none 0 0, .int .i64 0, .int .i64 0, .int .i64 0, .int .i64 0, .int .i64 0, .int .i64 0, .int .i64 0, .int .i64 0, .int .i64 0, .slice none 0 0, .int .i64 0, .int .i64 0, .int .i64 0, .slice none 0 0, .slice none 0 0, .slice none 0 0] 54)).alloc (.cells #[.int .i64 0, .bool false, .int .i64 0, .int .i64 0, .slice none 0 0, .slice none 0 0, .slice none 0 0, .slice none 0 0, .int .i64 0, .int .i64 0, .int .i64 0, .int .i64 0, .int .i64 0, .int .i64 0, .int .i64 0, .int .i64 0, .int .i64 0, .slice none 0 0, .int .i64 0, .int .i64 0, .int .i64 0, .slice none 0 0, .slice none 0 0, .slice none 0 0] 54)) w.heap.size 54 [.int .i64 x.id, .bool x.dead, .int .i64 x.m.id, .int .i64 x.m.rid, .slice x.mv.ms.a x.mv.ms.n x.mv.ms.c, .slice x.mv.its.a x.mv.its.n x.mv.its.c, .slice x.mv.lv.a x.mv.lv.n x.mv.lv.c, .slice x.mv.tx.a x.mv.tx.n x.mv.tx.c, .int .i64 x.m.rd, .int .i64 x.m.se, .int .i64 x.m.li, .int .i64 x.m.he, .int .i64 x.m.la.c, .int .i64 x.m.la.r, .int .i64 x.m.la.q, .int .i64 x.m.la.a, .int .i64 x.m.la.b, .slice x.mv.ws.a x.mv.ws.n x.mv.ws.c, .int .i64 x.most, .int .i64 x.old, .int .i64 x.jid, .slice x.js.a x.js.n x.js.c, .slice x.bs.a x.bs.n x.bs.c, .slice x.ls.a x.ls.n x.ls.c]) := LA2.out.later ((Below.refl _ _).alloc (Nat.le_refl _) _)
  go_wp2_with (first | (refine wpList_ldG rfl 54 _ rfl w.heap.size 0 rfl 54 _ LA2.out [.int .i64 x.id, .bool x.dead, .int .i64 x.m.id, .int .i64 x.m.rid, .slice x.mv.ms.a x.mv.ms.n x.mv.ms.c, .slice x.mv.its.a x.mv.its.n x.mv.its.c, .slice x.mv.lv.a x.mv.lv.n x.mv.lv.c, .slice x.mv.tx.a x.mv.tx.n x.mv.tx.c, .int .i64 x.m.rd, .int .i64 x.m.se, .int .i64 x.m.li, .int .i64 x.m.he, .int .i64 x.m.la.c, .int .i64 x.m.la.r, .int .i64 x.m.la.q, .int .i64 x.m.la.a, .int .i64 x.m.la.b, .slice x.mv.ws.a x.mv.ws.n x.mv.ws.c, .int .i64 x.most, .int .i64 x.old, .int .i64 x.jid, .slice x.js.a x.js.n x.js.c, .slice x.bs.a x.bs.n x.bs.c, .slice x.ls.a x.ls.n x.ls.c] rfl _ Tryz.underlying54 rfl Tryz.sizeDa ?_) | (with_reducible refine wpList_haltS 54 _ _ rfl ?_))
  refine Stp.go ?_
  refine wpList_stB rfl 54 _ _ rfl (w.heap.size + 2) 0 rfl 54 _ hz.out [.int .i64 x.id, .bool x.dead, .int .i64 x.m.id, .int .i64 x.m.rid, .slice x.mv.ms.a x.mv.ms.n x.mv.ms.c, .slice x.mv.its.a x.mv.its.n x.mv.its.c, .slice x.mv.lv.a x.mv.lv.n x.mv.lv.c, .slice x.mv.tx.a x.mv.tx.n x.mv.tx.c, .int .i64 x.m.rd, .int .i64 x.m.se, .int .i64 x.m.li, .int .i64 x.m.he, .int .i64 x.m.la.c, .int .i64 x.m.la.r, .int .i64 x.m.la.q, .int .i64 x.m.la.a, .int .i64 x.m.la.b, .slice x.mv.ws.a x.mv.ws.n x.mv.ws.c, .int .i64 x.most, .int .i64 x.old, .int .i64 x.jid, .slice x.js.a x.js.n x.js.c, .slice x.bs.a x.bs.n x.bs.c, .slice x.ls.a x.ls.n x.ls.c] rfl (by simp) Tryz.sizeDa rfl [.int .i64 x.id, .bool x.dead, .int .i64 x.m.id, .int .i64 x.m.rid, .slice x.mv.ms.a x.mv.ms.n x.mv.ms.c, .slice x.mv.its.a x.mv.its.n x.mv.its.c, .slice x.mv.lv.a x.mv.lv.n x.mv.lv.c, .slice x.mv.tx.a x.mv.tx.n x.mv.tx.c, .int .i64 x.m.rd, .int .i64 x.m.se, .int .i64 x.m.li, .int .i64 x.m.he, .int .i64 x.m.la.c, .int .i64 x.m.la.r, .int .i64 x.m.la.q, .int .i64 x.m.la.a, .int .i64 x.m.la.b, .slice x.mv.ws.a x.mv.ws.n x.mv.ws.c, .int .i64 x.most, .int .i64 x.old, .int .i64 x.jid, .slice x.js.a x.js.n x.js.c, .slice x.bs.a x.bs.n x.bs.c, .slice x.ls.a x.ls.n x.ls.c] rfl ?_
  intro w1 OB TB
  have OX : Hid (Bx w1 (w.heap.size + 2) 54 [.int .i64 x.id, .bool x.dead, .int .i64 x.m.id, .int .i64 x.m.rid, .slice x.mv.ms.a x.mv.ms.n x.mv.ms.c, .slice x.mv.its.a x.mv.its.n x.mv.its.c, .slice x.mv.lv.a x.mv.lv.n x.mv.lv.c, .slice x.mv.tx.a x.mv.tx.n x.mv.tx.c, .int .i64 x.m.rd, .int .i64 x.m.se, .int .i64 x.m.li, .int .i64 x.m.he, .int .i64 x.m.la.c, .int .i64 x.m.la.r, .int .i64 x.m.la.q, .int .i64 x.m.la.a, .int .i64 x.m.la.b, .slice x.mv.ws.a x.mv.ws.n x.mv.ws.c, .int .i64 x.most, .int .i64 x.old, .int .i64 x.jid, .slice x.js.a x.js.n x.js.c, .slice x.bs.a x.bs.n x.bs.c, .slice x.ls.a x.ls.n x.ls.c]) := OB
  clear OB
  have b : Below W.heap.size W w1 := by rw [HW.out]; exact ((Below.refl _ _).alloc (Nat.le_refl _) _).trans (TB.below (by simp))
  have LA : Hid (Bx w1 w.heap.size 54 [.int .i64 x.id, .bool x.dead, .int .i64 x.m.id, .int .i64 x.m.rid, .slice x.mv.ms.a x.mv.ms.n x.mv.ms.c, .slice x.mv.its.a x.mv.its.n x.mv.its.c, .slice x.mv.lv.a x.mv.lv.n x.mv.lv.c, .slice x.mv.tx.a x.mv.tx.n x.mv.tx.c, .int .i64 x.m.rd, .int .i64 x.m.se, .int .i64 x.m.li, .int .i64 x.m.he, .int .i64 x.m.la.c, .int .i64 x.m.la.r, .int .i64 x.m.la.q, .int .i64 x.m.la.a, .int .i64 x.m.la.b, .slice x.mv.ws.a x.mv.ws.n x.mv.ws.c, .int .i64 x.most, .int .i64 x.old, .int .i64 x.jid, .slice x.js.a x.js.n x.js.c, .slice x.bs.a x.bs.n x.bs.c, .slice x.ls.a x.ls.n x.ls.c]) := LA.out.later b
  have EB : Hid (Bx w1 (w.heap.size + 1) 54 [.int .i64 0, .bool false, .int .i64 0, .int .i64 0, .slice none 0 0, .slice none 0 0, .slice none 0 0, .slice none 0 0, .int .i64 0, .int .i64 0, .int .i64 0, .int .i64 0, .int .i64 0, .int .i64 0, .int .i64 0, .int .i64 0, .int .i64 0, .slice none 0 0, .int .i64 0, .int .i64 0, .int .i64 0, .slice none 0 0, .slice none 0 0, .slice none 0 0]) := EB.out.later b
  have BW : Hid (Below w.heap.size w w1) := bl_next BW.out b
  clear TB b hz LA2 LA3 HW hsz
  have z1 : w.heap.size + 2 < w1.heap.size := OX.out.lt
  have PM : Hid (MtP w1 x.m x.mv) := hm.out.later BW.out
  go_wp2_with (first | (refine wpList_ldG rfl 51 _ rfl w.heap.size 2 rfl 54 _ LA.out [.int .i64 x.m.id, .int .i64 x.m.rid, .slice x.mv.ms.a x.mv.ms.n x.mv.ms.c, .slice x.mv.its.a x.mv.its.n x.mv.its.c, .slice x.mv.lv.a x.mv.lv.n x.mv.lv.c, .slice x.mv.tx.a x.mv.tx.n x.mv.tx.c, .int .i64 x.m.rd, .int .i64 x.m.se, .int .i64 x.m.li, .int .i64 x.m.he, .int .i64 x.m.la.c, .int .i64 x.m.la.r, .int .i64 x.m.la.q, .int .i64 x.m.la.a, .int .i64 x.m.la.b, .slice x.mv.ws.a x.mv.ws.n x.mv.ws.c] rfl _ Tryz.underlying51 rfl Tryz.sizeM ?_))
  refine (memberOf_any x.m x.mv _ PM hs.out.mt).mono ?_
  rintro e w2 ⟨gm, u, rfl, mb, ou, zg, b⟩
  have MB : Hid (MbB w2 gm x.m u zSv) := mb
  have MO : Hid (MtO w2 w1.heap.size x.m u) := ou
  have zg2 : gm < w2.heap.size := MB.out.lt
  clear mb ou PM
  have z_w2 : w1.heap.size ≤ w2.heap.size := b.size
  have LA : Hid (Bx w2 w.heap.size 54 [.int .i64 x.id, .bool x.dead, .int .i64 x.m.id, .int .i64 x.m.rid, .slice x.mv.ms.a x.mv.ms.n x.mv.ms.c, .slice x.mv.its.a x.mv.its.n x.mv.its.c, .slice x.mv.lv.a x.mv.lv.n x.mv.lv.c, .slice x.mv.tx.a x.mv.tx.n x.mv.tx.c, .int .i64 x.m.rd, .int .i64 x.m.se, .int .i64 x.m.li, .int .i64 x.m.he, .int .i64 x.m.la.c, .int .i64 x.m.la.r, .int .i64 x.m.la.q, .int .i64 x.m.la.a, .int .i64 x.m.la.b, .slice x.mv.ws.a x.mv.ws.n x.mv.ws.c, .int .i64 x.most, .int .i64 x.old, .int .i64 x.jid, .slice x.js.a x.js.n x.js.c, .slice x.bs.a x.bs.n x.bs.c, .slice x.ls.a x.ls.n x.ls.c]) := LA.out.later b
  have EB : Hid (Bx w2 (w.heap.size + 1) 54 [.int .i64 0, .bool false, .int .i64 0, .int .i64 0, .slice none 0 0, .slice none 0 0, .slice none 0 0, .slice none 0 0, .int .i64 0, .int .i64 0, .int .i64 0, .int .i64 0, .int .i64 0, .int .i64 0, .int .i64 0, .int .i64 0, .int .i64 0, .slice none 0 0, .int .i64 0, .int .i64 0, .int .i64 0, .slice none 0 0, .slice none 0 0, .slice none 0 0]) := EB.out.later b
  have BW : Hid (Below w.heap.size w w2) := bl_next BW.out b
  have OX : Hid (Bx w2 (w.heap.size + 2) 54 [.int .i64 x.id, .bool x.dead, .int .i64 x.m.id, .int .i64 x.m.rid, .slice x.mv.ms.a x.mv.ms.n x.mv.ms.c, .slice x.mv.its.a x.mv.its.n x.mv.its.c, .slice x.mv.lv.a x.mv.lv.n x.mv.lv.c, .slice x.mv.tx.a x.mv.tx.n x.mv.tx.c, .int .i64 x.m.rd, .int .i64 x.m.se, .int .i64 x.m.li, .int .i64 x.m.he, .int .i64 x.m.la.c, .int .i64 x.m.la.r, .int .i64 x.m.la.q, .int .i64 x.m.la.a, .int .i64 x.m.la.b, .slice x.mv.ws.a x.mv.ws.n x.mv.ws.c, .int .i64 x.most, .int .i64 x.old, .int .i64 x.jid, .slice x.js.a x.js.n x.js.c, .slice x.bs.a x.bs.n x.bs.c, .slice x.ls.a x.ls.n x.ls.c]) := OX.out.later b
  clear b
  go_wp2_with fail
  refine (mate_any x.m u zSv gm _ MB).mono ?_
  rintro e w3 ⟨rfl, _, kb⟩
  have z_w3 : w2.heap.size ≤ w3.heap.size := kb.size
  have LA : Hid (Bx w3 w.heap.size 54 [.int .i64 x.id, .bool x.dead, .int .i64 x.m.id, .int .i64 x.m.rid, .slice x.mv.ms.a x.mv.ms.n x.mv.ms.c, .slice x.mv.its.a x.mv.its.n x.mv.its.c, .slice x.mv.lv.a x.mv.lv.n x.mv.lv.c, .slice x.mv.tx.a x.mv.tx.n x.mv.tx.c, .int .i64 x.m.rd, .int .i64 x.m.se, .int .i64 x.m.li, .int .i64 x.m.he, .int .i64 x.m.la.c, .int .i64 x.m.la.r, .int .i64 x.m.la.q, .int .i64 x.m.la.a, .int .i64 x.m.la.b, .slice x.mv.ws.a x.mv.ws.n x.mv.ws.c, .int .i64 x.most, .int .i64 x.old, .int .i64 x.jid, .slice x.js.a x.js.n x.js.c, .slice x.bs.a x.bs.n x.bs.c, .slice x.ls.a x.ls.n x.ls.c]) := LA.out.keepb kb (by omega)
  have EB : Hid (Bx w3 (w.heap.size + 1) 54 [.int .i64 0, .bool false, .int .i64 0, .int .i64 0, .slice none 0 0, .slice none 0 0, .slice none 0 0, .slice none 0 0, .int .i64 0, .int .i64 0, .int .i64 0, .int .i64 0, .int .i64 0, .int .i64 0, .int .i64 0, .int .i64 0, .int .i64 0, .slice none 0 0, .int .i64 0, .int .i64 0, .int .i64 0, .slice none 0 0, .slice none 0 0, .slice none 0 0]) := EB.out.keepb kb (by omega)
  have OX : Hid (Bx w3 (w.heap.size + 2) 54 [.int .i64 x.id, .bool x.dead, .int .i64 x.m.id, .int .i64 x.m.rid, .slice x.mv.ms.a x.mv.ms.n x.mv.ms.c, .slice x.mv.its.a x.mv.its.n x.mv.its.c, .slice x.mv.lv.a x.mv.lv.n x.mv.lv.c, .slice x.mv.tx.a x.mv.tx.n x.mv.tx.c, .int .i64 x.m.rd, .int .i64 x.m.se, .int .i64 x.m.li, .int .i64 x.m.he, .int .i64 x.m.la.c, .int .i64 x.m.la.r, .int .i64 x.m.la.q, .int .i64 x.m.la.a, .int .i64 x.m.la.b, .slice x.mv.ws.a x.mv.ws.n x.mv.ws.c, .int .i64 x.most, .int .i64 x.old, .int .i64 x.jid, .slice x.js.a x.js.n x.js.c, .slice x.bs.a x.bs.n x.bs.c, .slice x.ls.a x.ls.n x.ls.c]) := OX.out.keepb kb (by omega)
  have BW : Hid (Below w.heap.size w w3) := BW.out.trans (kb.below (by omega) (by omega))
  have MO : Hid (MtO w3 w1.heap.size x.m u) := MO.out.keepb2 MB.out kb (by decide) (by decide) (by decide)
  have ML : Hid (∀ y, u.own y → y < w3.heap.size) := fun y hy => (MO.out.lt hy).2
  have z3 : w.heap.size + 2 < w3.heap.size := OX.out.lt
  clear kb MB
  go_wp2_with (first | (with_reducible refine wpList_haltS 51 _ _ rfl ?_))
  refine Stp.go ?_
  refine wpList_stB rfl 51 _ _ rfl (w.heap.size + 2) 2 rfl 54 _ OX.out [.int .i64 x.m.id, .int .i64 x.m.rid, .slice u.ms.a u.ms.n u.ms.c, .slice u.its.a u.its.n u.its.c, .slice u.lv.a u.lv.n u.lv.c, .slice u.tx.a u.tx.n u.tx.c, .int .i64 x.m.rd, .int .i64 x.m.se, .int .i64 x.m.li, .int .i64 x.m.he, .int .i64 x.m.la.c, .int .i64 x.m.la.r, .int .i64 x.m.la.q, .int .i64 x.m.la.a, .int .i64 x.m.la.b, .slice u.ws.a u.ws.n u.ws.c] rfl (by simp) Tryz.sizeM rfl [.int .i64 x.id, .bool x.dead, .int .i64 x.m.id, .int .i64 x.m.rid, .slice u.ms.a u.ms.n u.ms.c, .slice u.its.a u.its.n u.its.c, .slice u.lv.a u.lv.n u.lv.c, .slice u.tx.a u.tx.n u.tx.c, .int .i64 x.m.rd, .int .i64 x.m.se, .int .i64 x.m.li, .int .i64 x.m.he, .int .i64 x.m.la.c, .int .i64 x.m.la.r, .int .i64 x.m.la.q, .int .i64 x.m.la.a, .int .i64 x.m.la.b, .slice u.ws.a u.ws.n u.ws.c, .int .i64 x.most, .int .i64 x.old, .int .i64 x.jid, .slice x.js.a x.js.n x.js.c, .slice x.bs.a x.bs.n x.bs.c, .slice x.ls.a x.ls.n x.ls.c] rfl ?_
  intro w4 OB TB
  have z_w4 : w3.heap.size ≤ w4.heap.size := Nat.le_of_eq TB.size.symm
  have LA : Hid (Bx w4 w.heap.size 54 [.int .i64 x.id, .bool x.dead, .int .i64 x.m.id, .int .i64 x.m.rid, .slice x.mv.ms.a x.mv.ms.n x.mv.ms.c, .slice x.mv.its.a x.mv.its.n x.mv.its.c, .slice x.mv.lv.a x.mv.lv.n x.mv.lv.c, .slice x.mv.tx.a x.mv.tx.n x.mv.tx.c, .int .i64 x.m.rd, .int .i64 x.m.se, .int .i64 x.m.li, .int .i64 x.m.he, .int .i64 x.m.la.c, .int .i64 x.m.la.r, .int .i64 x.m.la.q, .int .i64 x.m.la.a, .int .i64 x.m.la.b, .slice x.mv.ws.a x.mv.ws.n x.mv.ws.c, .int .i64 x.most, .int .i64 x.old, .int .i64 x.jid, .slice x.js.a x.js.n x.js.c, .slice x.bs.a x.bs.n x.bs.c, .slice x.ls.a x.ls.n x.ls.c]) := LA.out.turn TB (by omega)
  have EB : Hid (Bx w4 (w.heap.size + 1) 54 [.int .i64 0, .bool false, .int .i64 0, .int .i64 0, .slice none 0 0, .slice none 0 0, .slice none 0 0, .slice none 0 0, .int .i64 0, .int .i64 0, .int .i64 0, .int .i64 0, .int .i64 0, .int .i64 0, .int .i64 0, .int .i64 0, .int .i64 0, .slice none 0 0, .int .i64 0, .int .i64 0, .int .i64 0, .slice none 0 0, .slice none 0 0, .slice none 0 0]) := EB.out.turn TB (by omega)
  have BW : Hid (Below w.heap.size w w4) := BW.out.trans (TB.below (by omega))
  have MO : Hid (MtO w4 w1.heap.size x.m u) := MO.out.keep fun b hb _ => TB.block b (by have := (MO.out.lt hb).1; omega)
  have OX : Hid (Bx w4 (w.heap.size + 2) 54 [.int .i64 x.id, .bool x.dead, .int .i64 x.m.id, .int .i64 x.m.rid, .slice u.ms.a u.ms.n u.ms.c, .slice u.its.a u.its.n u.its.c, .slice u.lv.a u.lv.n u.lv.c, .slice u.tx.a u.tx.n u.tx.c, .int .i64 x.m.rd, .int .i64 x.m.se, .int .i64 x.m.li, .int .i64 x.m.he, .int .i64 x.m.la.c, .int .i64 x.m.la.r, .int .i64 x.m.la.q, .int .i64 x.m.la.a, .int .i64 x.m.la.b, .slice u.ws.a u.ws.n u.ws.c, .int .i64 x.most, .int .i64 x.old, .int .i64 x.jid, .slice x.js.a x.js.n x.js.c, .slice x.bs.a x.bs.n x.bs.c, .slice x.ls.a x.ls.n x.ls.c]) := OB
  clear OB TB
  have RJ : Hid (RI w4 x.js.v x.jms) := hj.out.stays BW.out
  go_wp2_with (first | (refine wpList_ldG rfl 37 _ rfl w.heap.size 20 rfl 54 _ LA.out [.int .i64 x.jid, .slice x.js.a x.js.n x.js.c] rfl _ Tryz.underlying37 rfl Tryz.sizeR ?_))
  refine (copyRing_s x.jid x.js x.jms _ RJ hs.out.jo).mono ?_
  rintro e w5 ⟨s1, rfl, o1, b⟩
  have JO : Hid (OwnI w5 w1.heap.size s1.v x.jms) := o1.down (by omega)
  have JL : Hid (∀ y, s1.v.ownBlock = some y → w4.heap.size ≤ y ∧ y < w5.heap.size) := fun y hy => o1.lt y hy
  clear o1 RJ
  have z_w5 : w4.heap.size ≤ w5.heap.size := b.size
  have LA : Hid (Bx w5 w.heap.size 54 [.int .i64 x.id, .bool x.dead, .int .i64 x.m.id, .int .i64 x.m.rid, .slice x.mv.ms.a x.mv.ms.n x.mv.ms.c, .slice x.mv.its.a x.mv.its.n x.mv.its.c, .slice x.mv.lv.a x.mv.lv.n x.mv.lv.c, .slice x.mv.tx.a x.mv.tx.n x.mv.tx.c, .int .i64 x.m.rd, .int .i64 x.m.se, .int .i64 x.m.li, .int .i64 x.m.he, .int .i64 x.m.la.c, .int .i64 x.m.la.r, .int .i64 x.m.la.q, .int .i64 x.m.la.a, .int .i64 x.m.la.b, .slice x.mv.ws.a x.mv.ws.n x.mv.ws.c, .int .i64 x.most, .int .i64 x.old, .int .i64 x.jid, .slice x.js.a x.js.n x.js.c, .slice x.bs.a x.bs.n x.bs.c, .slice x.ls.a x.ls.n x.ls.c]) := LA.out.later b
  have EB : Hid (Bx w5 (w.heap.size + 1) 54 [.int .i64 0, .bool false, .int .i64 0, .int .i64 0, .slice none 0 0, .slice none 0 0, .slice none 0 0, .slice none 0 0, .int .i64 0, .int .i64 0, .int .i64 0, .int .i64 0, .int .i64 0, .int .i64 0, .int .i64 0, .int .i64 0, .int .i64 0, .slice none 0 0, .int .i64 0, .int .i64 0, .int .i64 0, .slice none 0 0, .slice none 0 0, .slice none 0 0]) := EB.out.later b
  have BW : Hid (Below w.heap.size w w5) := bl_next BW.out b
  have OX : Hid (Bx w5 (w.heap.size + 2) 54 [.int .i64 x.id, .bool x.dead, .int .i64 x.m.id, .int .i64 x.m.rid, .slice u.ms.a u.ms.n u.ms.c, .slice u.its.a u.its.n u.its.c, .slice u.lv.a u.lv.n u.lv.c, .slice u.tx.a u.tx.n u.tx.c, .int .i64 x.m.rd, .int .i64 x.m.se, .int .i64 x.m.li, .int .i64 x.m.he, .int .i64 x.m.la.c, .int .i64 x.m.la.r, .int .i64 x.m.la.q, .int .i64 x.m.la.a, .int .i64 x.m.la.b, .slice u.ws.a u.ws.n u.ws.c, .int .i64 x.most, .int .i64 x.old, .int .i64 x.jid, .slice x.js.a x.js.n x.js.c, .slice x.bs.a x.bs.n x.bs.c, .slice x.ls.a x.ls.n x.ls.c]) := OX.out.later b
  have MO : Hid (MtO w5 w1.heap.size x.m u) := MO.out.later b
  clear b
  go_wp2_with (first | (with_reducible refine wpList_haltS 37 _ _ rfl ?_))
  refine Stp.go ?_
  refine wpList_stB rfl 37 _ _ rfl (w.heap.size + 2) 20 rfl 54 _ OX.out [.int .i64 x.jid, .slice s1.a s1.n s1.c] rfl (by simp) Tryz.sizeR rfl [.int .i64 x.id, .bool x.dead, .int .i64 x.m.id, .int .i64 x.m.rid, .slice u.ms.a u.ms.n u.ms.c, .slice u.its.a u.its.n u.its.c, .slice u.lv.a u.lv.n u.lv.c, .slice u.tx.a u.tx.n u.tx.c, .int .i64 x.m.rd, .int .i64 x.m.se, .int .i64 x.m.li, .int .i64 x.m.he, .int .i64 x.m.la.c, .int .i64 x.m.la.r, .int .i64 x.m.la.q, .int .i64 x.m.la.a, .int .i64 x.m.la.b, .slice u.ws.a u.ws.n u.ws.c, .int .i64 x.most, .int .i64 x.old, .int .i64 x.jid, .slice s1.a s1.n s1.c, .slice x.bs.a x.bs.n x.bs.c, .slice x.ls.a x.ls.n x.ls.c] rfl ?_
  intro w6 OB TB
  have z_w6 : w5.heap.size ≤ w6.heap.size := Nat.le_of_eq TB.size.symm
  have LA : Hid (Bx w6 w.heap.size 54 [.int .i64 x.id, .bool x.dead, .int .i64 x.m.id, .int .i64 x.m.rid, .slice x.mv.ms.a x.mv.ms.n x.mv.ms.c, .slice x.mv.its.a x.mv.its.n x.mv.its.c, .slice x.mv.lv.a x.mv.lv.n x.mv.lv.c, .slice x.mv.tx.a x.mv.tx.n x.mv.tx.c, .int .i64 x.m.rd, .int .i64 x.m.se, .int .i64 x.m.li, .int .i64 x.m.he, .int .i64 x.m.la.c, .int .i64 x.m.la.r, .int .i64 x.m.la.q, .int .i64 x.m.la.a, .int .i64 x.m.la.b, .slice x.mv.ws.a x.mv.ws.n x.mv.ws.c, .int .i64 x.most, .int .i64 x.old, .int .i64 x.jid, .slice x.js.a x.js.n x.js.c, .slice x.bs.a x.bs.n x.bs.c, .slice x.ls.a x.ls.n x.ls.c]) := LA.out.turn TB (by omega)
  have EB : Hid (Bx w6 (w.heap.size + 1) 54 [.int .i64 0, .bool false, .int .i64 0, .int .i64 0, .slice none 0 0, .slice none 0 0, .slice none 0 0, .slice none 0 0, .int .i64 0, .int .i64 0, .int .i64 0, .int .i64 0, .int .i64 0, .int .i64 0, .int .i64 0, .int .i64 0, .int .i64 0, .slice none 0 0, .int .i64 0, .int .i64 0, .int .i64 0, .slice none 0 0, .slice none 0 0, .slice none 0 0]) := EB.out.turn TB (by omega)
  have BW : Hid (Below w.heap.size w w6) := BW.out.trans (TB.below (by omega))
  have MO : Hid (MtO w6 w1.heap.size x.m u) := MO.out.keep fun b hb _ => TB.block b (by have := (MO.out.lt hb).1; omega)
  have JO : Hid (OwnI w6 w1.heap.size s1.v x.jms) := JO.out.keep fun b hb _ => TB.block b (by have := (JO.out.lt b hb).1; omega)
  have OX : Hid (Bx w6 (w.heap.size + 2) 54 [.int .i64 x.id, .bool x.dead, .int .i64 x.m.id, .int .i64 x.m.rid, .slice u.ms.a u.ms.n u.ms.c, .slice u.its.a u.its.n u.its.c, .slice u.lv.a u.lv.n u.lv.c, .slice u.tx.a u.tx.n u.tx.c, .int .i64 x.m.rd, .int .i64 x.m.se, .int .i64 x.m.li, .int .i64 x.m.he, .int .i64 x.m.la.c, .int .i64 x.m.la.r, .int .i64 x.m.la.q, .int .i64 x.m.la.a, .int .i64 x.m.la.b, .slice u.ws.a u.ws.n u.ws.c, .int .i64 x.most, .int .i64 x.old, .int .i64 x.jid, .slice s1.a s1.n s1.c, .slice x.bs.a x.bs.n x.bs.c, .slice x.ls.a x.ls.n x.ls.c]) := OB
  clear OB TB
  have bz : Below w6.heap.size w6 (w6.alloc (.cells #[] 121)) := (Below.refl _ _).alloc (Nat.le_refl _) _
  have sbO : Hid (BusO (w6.alloc (.cells #[] 121)) w6.heap.size ⟨some ⟨w6.heap.size, 0, none⟩, 0, 0⟩ []) := ⟨SlN.made w6 121 4 _ (Nat.le_refl _), fun e he => by cases he⟩
  have zz_sb : w6.heap.size ≤ (w6.alloc (.cells #[] 121)).heap.size := bz.size
  have LA : Hid (Bx (w6.alloc (.cells #[] 121)) w.heap.size 54 [.int .i64 x.id, .bool x.dead, .int .i64 x.m.id, .int .i64 x.m.rid, .slice x.mv.ms.a x.mv.ms.n x.mv.ms.c, .slice x.mv.its.a x.mv.its.n x.mv.its.c, .slice x.mv.lv.a x.mv.lv.n x.mv.lv.c, .slice x.mv.tx.a x.mv.tx.n x.mv.tx.c, .int .i64 x.m.rd, .int .i64 x.m.se, .int .i64 x.m.li, .int .i64 x.m.he, .int .i64 x.m.la.c, .int .i64 x.m.la.r, .int .i64 x.m.la.q, .int .i64 x.m.la.a, .int .i64 x.m.la.b, .slice x.mv.ws.a x.mv.ws.n x.mv.ws.c, .int .i64 x.most, .int .i64 x.old, .int .i64 x.jid, .slice x.js.a x.js.n x.js.c, .slice x.bs.a x.bs.n x.bs.c, .slice x.ls.a x.ls.n x.ls.c]) := LA.out.later bz
  have EB : Hid (Bx (w6.alloc (.cells #[] 121)) (w.heap.size + 1) 54 [.int .i64 0, .bool false, .int .i64 0, .int .i64 0, .slice none 0 0, .slice none 0 0, .slice none 0 0, .slice none 0 0, .int .i64 0, .int .i64 0, .int .i64 0, .int .i64 0, .int .i64 0, .int .i64 0, .int .i64 0, .int .i64 0, .int .i64 0, .slice none 0 0, .int .i64 0, .int .i64 0, .int .i64 0, .slice none 0 0, .slice none 0 0, .slice none 0 0]) := EB.out.later bz
  have BW : Hid (Below w.heap.size w (w6.alloc (.cells #[] 121))) := bl_next BW.out bz
  have OX : Hid (Bx (w6.alloc (.cells #[] 121)) (w.heap.size + 2) 54 [.int .i64 x.id, .bool x.dead, .int .i64 x.m.id, .int .i64 x.m.rid, .slice u.ms.a u.ms.n u.ms.c, .slice u.its.a u.its.n u.its.c, .slice u.lv.a u.lv.n u.lv.c, .slice u.tx.a u.tx.n u.tx.c, .int .i64 x.m.rd, .int .i64 x.m.se, .int .i64 x.m.li, .int .i64 x.m.he, .int .i64 x.m.la.c, .int .i64 x.m.la.r, .int .i64 x.m.la.q, .int .i64 x.m.la.a, .int .i64 x.m.la.b, .slice u.ws.a u.ws.n u.ws.c, .int .i64 x.most, .int .i64 x.old, .int .i64 x.jid, .slice s1.a s1.n s1.c, .slice x.bs.a x.bs.n x.bs.c, .slice x.ls.a x.ls.n x.ls.c]) := OX.out.later bz
  have MO : Hid (MtO (w6.alloc (.cells #[] 121)) w1.heap.size x.m u) := MO.out.later bz
  have JO : Hid (OwnI (w6.alloc (.cells #[] 121)) w1.heap.size s1.v x.jms) := JO.out.keep fun _ _ hk => (bz).block _ hk
  clear bz
  go_wp2_with (first | (with_reducible refine wpList_haltS 52 _ _ rfl ?_))
  refine Stp.go ?_
  generalize hwz : (w6.alloc (.cells #[] 121)) = w7 at *
  clear hwz
  obtain ⟨sb, hs_sb⟩ : ∃ s : Sv, s = ⟨some ⟨w6.heap.size, 0, none⟩, 0, 0⟩ := ⟨_, rfl⟩
  have hq : Value.slice (some ⟨w6.heap.size, 0, none⟩) 0 0 = .slice sb.a sb.n sb.c := by rw [hs_sb]
  rw [← hs_sb] at sbO
  rw [hq]
  clear hq hs_sb
  have BL : Hid (∀ y, BusOwn sb [] y → w6.heap.size ≤ y ∧ y < w7.heap.size) := fun y hy => sbO.out.olt hy
  have BO : Hid (BusO w7 w1.heap.size sb []) := sbO.out.down (by omega)
  clear sbO
  refine wpList_st1 rfl 52 _ _ rfl (w.heap.size + 2) 22 rfl 54 _ OX.out (.slice sb.a sb.n sb.c) rfl (by simp) rfl Tryz.sizeBus [.int .i64 x.id, .bool x.dead, .int .i64 x.m.id, .int .i64 x.m.rid, .slice u.ms.a u.ms.n u.ms.c, .slice u.its.a u.its.n u.its.c, .slice u.lv.a u.lv.n u.lv.c, .slice u.tx.a u.tx.n u.tx.c, .int .i64 x.m.rd, .int .i64 x.m.se, .int .i64 x.m.li, .int .i64 x.m.he, .int .i64 x.m.la.c, .int .i64 x.m.la.r, .int .i64 x.m.la.q, .int .i64 x.m.la.a, .int .i64 x.m.la.b, .slice u.ws.a u.ws.n u.ws.c, .int .i64 x.most, .int .i64 x.old, .int .i64 x.jid, .slice s1.a s1.n s1.c, .slice sb.a sb.n sb.c, .slice x.ls.a x.ls.n x.ls.c] rfl ?_
  intro w8 OB TB
  have z_w8 : w7.heap.size ≤ w8.heap.size := Nat.le_of_eq TB.size.symm
  have LA : Hid (Bx w8 w.heap.size 54 [.int .i64 x.id, .bool x.dead, .int .i64 x.m.id, .int .i64 x.m.rid, .slice x.mv.ms.a x.mv.ms.n x.mv.ms.c, .slice x.mv.its.a x.mv.its.n x.mv.its.c, .slice x.mv.lv.a x.mv.lv.n x.mv.lv.c, .slice x.mv.tx.a x.mv.tx.n x.mv.tx.c, .int .i64 x.m.rd, .int .i64 x.m.se, .int .i64 x.m.li, .int .i64 x.m.he, .int .i64 x.m.la.c, .int .i64 x.m.la.r, .int .i64 x.m.la.q, .int .i64 x.m.la.a, .int .i64 x.m.la.b, .slice x.mv.ws.a x.mv.ws.n x.mv.ws.c, .int .i64 x.most, .int .i64 x.old, .int .i64 x.jid, .slice x.js.a x.js.n x.js.c, .slice x.bs.a x.bs.n x.bs.c, .slice x.ls.a x.ls.n x.ls.c]) := LA.out.turn TB (by omega)
  have EB : Hid (Bx w8 (w.heap.size + 1) 54 [.int .i64 0, .bool false, .int .i64 0, .int .i64 0, .slice none 0 0, .slice none 0 0, .slice none 0 0, .slice none 0 0, .int .i64 0, .int .i64 0, .int .i64 0, .int .i64 0, .int .i64 0, .int .i64 0, .int .i64 0, .int .i64 0, .int .i64 0, .slice none 0 0, .int .i64 0, .int .i64 0, .int .i64 0, .slice none 0 0, .slice none 0 0, .slice none 0 0]) := EB.out.turn TB (by omega)
  have BW : Hid (Below w.heap.size w w8) := BW.out.trans (TB.below (by omega))
  have MO : Hid (MtO w8 w1.heap.size x.m u) := MO.out.keep fun b hb _ => TB.block b (by have := (MO.out.lt hb).1; omega)
  have JO : Hid (OwnI w8 w1.heap.size s1.v x.jms) := JO.out.keep fun b hb _ => TB.block b (by have := (JO.out.lt b hb).1; omega)
  have BO : Hid (BusO w8 w1.heap.size sb []) := BO.out.keep fun b hb _ => TB.block b (by omega)
  have OX : Hid (Bx w8 (w.heap.size + 2) 54 [.int .i64 x.id, .bool x.dead, .int .i64 x.m.id, .int .i64 x.m.rid, .slice u.ms.a u.ms.n u.ms.c, .slice u.its.a u.its.n u.its.c, .slice u.lv.a u.lv.n u.lv.c, .slice u.tx.a u.tx.n u.tx.c, .int .i64 x.m.rd, .int .i64 x.m.se, .int .i64 x.m.li, .int .i64 x.m.he, .int .i64 x.m.la.c, .int .i64 x.m.la.r, .int .i64 x.m.la.q, .int .i64 x.m.la.a, .int .i64 x.m.la.b, .slice u.ws.a u.ws.n u.ws.c, .int .i64 x.most, .int .i64 x.old, .int .i64 x.jid, .slice s1.a s1.n s1.c, .slice sb.a sb.n sb.c, .slice x.ls.a x.ls.n x.ls.c]) := OB
  clear OB TB
  have c22 := LA.out.cell 22
  simp only [List.getElem?_cons_succ, List.getElem?_cons_zero] at c22
  go_wp2_with fail
  clear c22
  go_loopw [23] (fun i wr => i = .int .i64 0 ∧ wr = w8) (fun _ _ => 0)
  case atStart => exact ⟨rfl, rfl⟩
  case round =>
    obtain ⟨rfl, hw8⟩ := hrel
    subst hw8
    generalize wr = w9 at *
    have bz : Below w9.heap.size w9 (w9.alloc (.cells #[] 41)) := (Below.refl _ _).alloc (Nat.le_refl _) _
    have seO : Hid (EvsO (w9.alloc (.cells #[] 41)) w9.heap.size ⟨some ⟨w9.heap.size, 0, none⟩, 0, 0⟩ []) := ⟨SlN.made w9 41 8 _ (Nat.le_refl _), fun e he => by cases he⟩
    have zz_se : w9.heap.size ≤ (w9.alloc (.cells #[] 41)).heap.size := bz.size
    have LA : Hid (Bx (w9.alloc (.cells #[] 41)) w.heap.size 54 [.int .i64 x.id, .bool x.dead, .int .i64 x.m.id, .int .i64 x.m.rid, .slice x.mv.ms.a x.mv.ms.n x.mv.ms.c, .slice x.mv.its.a x.mv.its.n x.mv.its.c, .slice x.mv.lv.a x.mv.lv.n x.mv.lv.c, .slice x.mv.tx.a x.mv.tx.n x.mv.tx.c, .int .i64 x.m.rd, .int .i64 x.m.se, .int .i64 x.m.li, .int .i64 x.m.he, .int .i64 x.m.la.c, .int .i64 x.m.la.r, .int .i64 x.m.la.q, .int .i64 x.m.la.a, .int .i64 x.m.la.b, .slice x.mv.ws.a x.mv.ws.n x.mv.ws.c, .int .i64 x.most, .int .i64 x.old, .int .i64 x.jid, .slice x.js.a x.js.n x.js.c, .slice x.bs.a x.bs.n x.bs.c, .slice x.ls.a x.ls.n x.ls.c]) := LA.out.later bz
    have EB : Hid (Bx (w9.alloc (.cells #[] 41)) (w.heap.size + 1) 54 [.int .i64 0, .bool false, .int .i64 0, .int .i64 0, .slice none 0 0, .slice none 0 0, .slice none 0 0, .slice none 0 0, .int .i64 0, .int .i64 0, .int .i64 0, .int .i64 0, .int .i64 0, .int .i64 0, .int .i64 0, .int .i64 0, .int .i64 0, .slice none 0 0, .int .i64 0, .int .i64 0, .int .i64 0, .slice none 0 0, .slice none 0 0, .slice none 0 0]) := EB.out.later bz
    have BW : Hid (Below w.heap.size w (w9.alloc (.cells #[] 41))) := bl_next BW.out bz
    have OX : Hid (Bx (w9.alloc (.cells #[] 41)) (w.heap.size + 2) 54 [.int .i64 x.id, .bool x.dead, .int .i64 x.m.id, .int .i64 x.m.rid, .slice u.ms.a u.ms.n u.ms.c, .slice u.its.a u.its.n u.its.c, .slice u.lv.a u.lv.n u.lv.c, .slice u.tx.a u.tx.n u.tx.c, .int .i64 x.m.rd, .int .i64 x.m.se, .int .i64 x.m.li, .int .i64 x.m.he, .int .i64 x.m.la.c, .int .i64 x.m.la.r, .int .i64 x.m.la.q, .int .i64 x.m.la.a, .int .i64 x.m.la.b, .slice u.ws.a u.ws.n u.ws.c, .int .i64 x.most, .int .i64 x.old, .int .i64 x.jid, .slice s1.a s1.n s1.c, .slice sb.a sb.n sb.c, .slice x.ls.a x.ls.n x.ls.c]) := OX.out.later bz
    have MO : Hid (MtO (w9.alloc (.cells #[] 41)) w1.heap.size x.m u) := MO.out.later bz
    have JO : Hid (OwnI (w9.alloc (.cells #[] 41)) w1.heap.size s1.v x.jms) := JO.out.keep fun _ _ hk => (bz).block _ hk
    have BO : Hid (BusO (w9.alloc (.cells #[] 41)) w1.heap.size sb []) := BO.out.below bz
    clear bz
    go_wp2_with (first | (with_reducible refine wpList_haltS 30 _ _ rfl ?_))
    refine Stp.go ?_
    generalize hwz : (w9.alloc (.cells #[] 41)) = w10 at *
    clear hwz
    obtain ⟨se, hs_se⟩ : ∃ s : Sv, s = ⟨some ⟨w9.heap.size, 0, none⟩, 0, 0⟩ := ⟨_, rfl⟩
    have hq : Value.slice (some ⟨w9.heap.size, 0, none⟩) 0 0 = .slice se.a se.n se.c := by rw [hs_se]
    rw [← hs_se] at seO
    rw [hq]
    clear hq hs_se
    have BW9 : Hid (Below w.heap.size w w10) := BW.out
    have LO : Hid (EvsO w10 w9.heap.size se []) := seO.out
    clear seO
    have z9 : w7.heap.size ≤ w9.heap.size ∧ w1.heap.size ≤ w9.heap.size ∧ w5.heap.size ≤ w9.heap.size ∧ w3.heap.size ≤ w9.heap.size := by omega
    refine wpList_st1 rfl 30 _ _ rfl (w.heap.size + 2) 23 rfl 54 _ OX.out (.slice se.a se.n se.c) rfl (by simp) rfl Tryz.sizeEvs [.int .i64 x.id, .bool x.dead, .int .i64 x.m.id, .int .i64 x.m.rid, .slice u.ms.a u.ms.n u.ms.c, .slice u.its.a u.its.n u.its.c, .slice u.lv.a u.lv.n u.lv.c, .slice u.tx.a u.tx.n u.tx.c, .int .i64 x.m.rd, .int .i64 x.m.se, .int .i64 x.m.li, .int .i64 x.m.he, .int .i64 x.m.la.c, .int .i64 x.m.la.r, .int .i64 x.m.la.q, .int .i64 x.m.la.a, .int .i64 x.m.la.b, .slice u.ws.a u.ws.n u.ws.c, .int .i64 x.most, .int .i64 x.old, .int .i64 x.jid, .slice s1.a s1.n s1.c, .slice sb.a sb.n sb.c, .slice se.a se.n se.c] rfl ?_
    intro w11 OB TB
    have z_w11 : w10.heap.size ≤ w11.heap.size := Nat.le_of_eq TB.size.symm
    have LA : Hid (Bx w11 w.heap.size 54 [.int .i64 x.id, .bool x.dead, .int .i64 x.m.id, .int .i64 x.m.rid, .slice x.mv.ms.a x.mv.ms.n x.mv.ms.c, .slice x.mv.its.a x.mv.its.n x.mv.its.c, .slice x.mv.lv.a x.mv.lv.n x.mv.lv.c, .slice x.mv.tx.a x.mv.tx.n x.mv.tx.c, .int .i64 x.m.rd, .int .i64 x.m.se, .int .i64 x.m.li, .int .i64 x.m.he, .int .i64 x.m.la.c, .int .i64 x.m.la.r, .int .i64 x.m.la.q, .int .i64 x.m.la.a, .int .i64 x.m.la.b, .slice x.mv.ws.a x.mv.ws.n x.mv.ws.c, .int .i64 x.most, .int .i64 x.old, .int .i64 x.jid, .slice x.js.a x.js.n x.js.c, .slice x.bs.a x.bs.n x.bs.c, .slice x.ls.a x.ls.n x.ls.c]) := LA.out.turn TB (by omega)
    have EB : Hid (Bx w11 (w.heap.size + 1) 54 [.int .i64 0, .bool false, .int .i64 0, .int .i64 0, .slice none 0 0, .slice none 0 0, .slice none 0 0, .slice none 0 0, .int .i64 0, .int .i64 0, .int .i64 0, .int .i64 0, .int .i64 0, .int .i64 0, .int .i64 0, .int .i64 0, .int .i64 0, .slice none 0 0, .int .i64 0, .int .i64 0, .int .i64 0, .slice none 0 0, .slice none 0 0, .slice none 0 0]) := EB.out.turn TB (by omega)
    have BW : Hid (Below w.heap.size w w11) := BW.out.trans (TB.below (by omega))
    have MO : Hid (MtO w11 w1.heap.size x.m u) := MO.out.keep fun b hb _ => TB.block b (by have := (MO.out.lt hb).1; omega)
    have JO : Hid (OwnI w11 w1.heap.size s1.v x.jms) := JO.out.keep fun b hb _ => TB.block b (by have := (JO.out.lt b hb).1; omega)
    have BO : Hid (BusO w11 w1.heap.size sb []) := BO.out.keep fun b hb _ => TB.block b (by omega)
    have LO : Hid (EvsO w11 w9.heap.size se []) := LO.out.keep fun b hb _ => TB.block b (by omega)
    have OX : Hid (Bx w11 (w.heap.size + 2) 54 [.int .i64 x.id, .bool x.dead, .int .i64 x.m.id, .int .i64 x.m.rid, .slice u.ms.a u.ms.n u.ms.c, .slice u.its.a u.its.n u.its.c, .slice u.lv.a u.lv.n u.lv.c, .slice u.tx.a u.tx.n u.tx.c, .int .i64 x.m.rd, .int .i64 x.m.se, .int .i64 x.m.li, .int .i64 x.m.he, .int .i64 x.m.la.c, .int .i64 x.m.la.r, .int .i64 x.m.la.q, .int .i64 x.m.la.a, .int .i64 x.m.la.b, .slice u.ws.a u.ws.n u.ws.c, .int .i64 x.most, .int .i64 x.old, .int .i64 x.jid, .slice s1.a s1.n s1.c, .slice sb.a sb.n sb.c, .slice se.a se.n se.c]) := OB
    clear OB TB
    have c23 := LA.out.cell 23
    simp only [List.getElem?_cons_succ, List.getElem?_cons_zero] at c23
    have BWB : Hid (Below w.heap.size w w11) := BW.out
    go_wp2_with fail
    clear c23
    go_loopw [40] (fun i wr => ∃ (j : Nat) (s : Sv) (es : List Ev), j ≤ x.ls.n ∧ i = .int .i64 j ∧ Hid (es.length = j) ∧ Hid (es.map Ev.pl = (x.lo.take j).map Ev.pl) ∧ Hid (Bx wr (w.heap.size + 2) 54 [.int .i64 x.id, .bool x.dead, .int .i64 x.m.id, .int .i64 x.m.rid, .slice u.ms.a u.ms.n u.ms.c, .slice u.its.a u.its.n u.its.c, .slice u.lv.a u.lv.n u.lv.c, .slice u.tx.a u.tx.n u.tx.c, .int .i64 x.m.rd, .int .i64 x.m.se, .int .i64 x.m.li, .int .i64 x.m.he, .int .i64 x.m.la.c, .int .i64 x.m.la.r, .int .i64 x.m.la.q, .int .i64 x.m.la.a, .int .i64 x.m.la.b, .slice u.ws.a u.ws.n u.ws.c, .int .i64 x.most, .int .i64 x.old, .int .i64 x.jid, .slice s1.a s1.n s1.c, .slice sb.a sb.n sb.c, .slice s.a s.n s.c]) ∧ Hid (EvsO wr w9.heap.size s es) ∧ Hid (EvsUp es) ∧ Hid (KeepR (w.heap.size + 2) w9.heap.size w11 wr)) (fun i _ => x.ls.n - (intOf i).toNat)
    case atStart => exact ⟨0, se, [], Nat.zero_le _, rfl, rfl, rfl, OX, LO, ⟨fun e he => (by cases he), List.Pairwise.nil⟩, KeepR.refl _ _ _⟩
    case round =>
      obtain ⟨j, s, es, hj, rfl, hcl, hpl, OR, LR, hup, KR⟩ := hrel
      have zz : w9.heap.size ≤ w11.heap.size := by omega
      have zr : w11.heap.size ≤ wr.heap.size := KR.out.size
      have LAr : Hid (Bx wr w.heap.size 54 [.int .i64 x.id, .bool x.dead, .int .i64 x.m.id, .int .i64 x.m.rid, .slice x.mv.ms.a x.mv.ms.n x.mv.ms.c, .slice x.mv.its.a x.mv.its.n x.mv.its.c, .slice x.mv.lv.a x.mv.lv.n x.mv.lv.c, .slice x.mv.tx.a x.mv.tx.n x.mv.tx.c, .int .i64 x.m.rd, .int .i64 x.m.se, .int .i64 x.m.li, .int .i64 x.m.he, .int .i64 x.m.la.c, .int .i64 x.m.la.r, .int .i64 x.m.la.q, .int .i64 x.m.la.a, .int .i64 x.m.la.b, .slice x.mv.ws.a x.mv.ws.n x.mv.ws.c, .int .i64 x.most, .int .i64 x.old, .int .i64 x.jid, .slice x.js.a x.js.n x.js.c, .slice x.bs.a x.bs.n x.bs.c, .slice x.ls.a x.ls.n x.ls.c]) := LA.out.kr KR.out (by omega) (by omega)
      have HLr : Hid (EvsR wr x.ls x.lo) := hl.out.stays (BWB.out.trans (KR.out.below (by omega) (by omega)))
      by_cases hlt : j < x.ls.n
      · skip
        have hlt2 : j < x.lo.length := by have := HLN.out; omega
        obtain ⟨g, off, ha, hg, _, hr⟩ := HLr.out.2.1 j (by simpa using hlt2)
        obtain ⟨e, he⟩ : ∃ e, e = x.lo[j] := ⟨_, rfl⟩
        have hr2 : wr.rangeAt g (off + j * 8) e.row := by rw [he]; simpa using hr
        have HR : Hid (wr.rangeAt g (off + j * 8) [.int .i64 e.k, .int .i64 e.rid, .slice e.sm.a e.sm.n e.sm.c, .int .i64 e.q, .int .i64 e.f, .int .i64 e.l, .string e.t, .slice e.sw.a e.sw.n e.sw.c]) := hr2
        have HE : Hid (e = x.lo[j]) := he
        have RR : Hid (e.R wr) := by rw [he]; exact HLr.out.2.2 _ (List.getElem_mem hlt2)
        have SS : Hid e.S := by rw [he]; exact hs.out.los.2 _ (List.getElem_mem hlt2)
        have HA : Hid (x.ls.a = some ⟨g, off, none⟩) := ha
        have hsl : Value.slice x.ls.a x.ls.n x.ls.c = .slice (some ⟨g, off, none⟩) x.ls.n x.ls.c := by rw [ha]
        have i0 : (0 : Int) ≤ (j : Int) := by omega
        have i1 : (j : Int) < (x.ls.n : Int) := by omega
        have LT : Hid (∀ c ∈ es, ∀ y, c.own y → y < wr.heap.size) := fun c hc y hy => ((LR.out.2 c hc).lt y hy).2
        have RL : Hid (∀ b, s.v.ownBlock = some b → b < wr.heap.size) := fun b hb => (LR.out.1.lt b hb).2
        have HLEN : Hid ((es.map Ev.row).length + 1 ≤ 1048577) := (by have := hcl.out; simp; omega : _ ≤ _)
        have zwr : w.heap.size + 2 < wr.heap.size := by omega
        simp only [ha]
        clear hr hr2 he hg ha
        have hz : Hid (Bx (wr.alloc (.cells #[.int .i64 0, .int .i64 0, .slice none 0 0, .int .i64 0, .int .i64 0, .int .i64 0, .string ⟨#[]⟩, .slice none 0 0] 41)) wr.heap.size 41 [.int .i64 0, .int .i64 0, .slice none 0 0, .int .i64 0, .int .i64 0, .int .i64 0, .string ⟨#[]⟩, .slice none 0 0]) := Bx.new wr 41 _
        go_wp2_with (first | (refine wpList_ldN rfl 41 _ rfl g (off + j * 8) (by rfl) [.int .i64 e.k, .int .i64 e.rid, .slice e.sm.a e.sm.n e.sm.c, .int .i64 e.q, .int .i64 e.f, .int .i64 e.l, .string e.t, .slice e.sw.a e.sw.n e.sw.c] HR.out _ Tryz.underlying41 rfl Tryz.sizeEv ?_) | (refine wpList_stB rfl 41 _ _ rfl wr.heap.size 0 rfl 41 _ hz.out [.int .i64 e.k, .int .i64 e.rid, .slice e.sm.a e.sm.n e.sm.c, .int .i64 e.q, .int .i64 e.f, .int .i64 e.l, .string e.t, .slice e.sw.a e.sw.n e.sw.c] rfl (by simp) Tryz.sizeEv rfl [.int .i64 e.k, .int .i64 e.rid, .slice e.sm.a e.sm.n e.sm.c, .int .i64 e.q, .int .i64 e.f, .int .i64 e.l, .string e.t, .slice e.sw.a e.sw.n e.sw.c] rfl ?_; intro v1 OB TB; have b : Below wr.heap.size wr v1 := ((Below.refl _ _).alloc (Nat.le_refl _) _).trans (TB.below (Nat.le_refl _)); have VB : Hid (Bx v1 wr.heap.size 41 [.int .i64 e.k, .int .i64 e.rid, .slice e.sm.a e.sm.n e.sm.c, .int .i64 e.q, .int .i64 e.f, .int .i64 e.l, .string e.t, .slice e.sw.a e.sw.n e.sw.c]) := OB; have z_v1 : wr.heap.size ≤ v1.heap.size := b.size; have OR : Hid (Bx v1 (w.heap.size + 2) 54 [.int .i64 x.id, .bool x.dead, .int .i64 x.m.id, .int .i64 x.m.rid, .slice u.ms.a u.ms.n u.ms.c, .slice u.its.a u.its.n u.its.c, .slice u.lv.a u.lv.n u.lv.c, .slice u.tx.a u.tx.n u.tx.c, .int .i64 x.m.rd, .int .i64 x.m.se, .int .i64 x.m.li, .int .i64 x.m.he, .int .i64 x.m.la.c, .int .i64 x.m.la.r, .int .i64 x.m.la.q, .int .i64 x.m.la.a, .int .i64 x.m.la.b, .slice u.ws.a u.ws.n u.ws.c, .int .i64 x.most, .int .i64 x.old, .int .i64 x.jid, .slice s1.a s1.n s1.c, .slice sb.a sb.n sb.c, .slice s.a s.n s.c]) := OR.out.later b; have LR : Hid (EvsO v1 w9.heap.size s es) := LR.out.below b; have RR : Hid (e.R v1) := RR.out.stays b; have KR : Hid (KeepR (w.heap.size + 2) w9.heap.size w11 v1) := KR.out.belowN ((b).mono (by omega)); clear OB TB b; refine Stp.here ?_))
        refine Stp.go ?_
        clear hz
        have zl_VB : wr.heap.size < v1.heap.size := VB.out.lt
        generalize hg_VB : wr.heap.size = gVB at *
        clear HR hsl
        go_wp2_with fail
        have c : Below v1.heap.size v1 v1.drew := (Below.refl _ _).drew
        have BD : Hid (Bx v1.drew (w.heap.size + 2) 54 [.int .i64 x.id, .bool x.dead, .int .i64 x.m.id, .int .i64 x.m.rid, .slice u.ms.a u.ms.n u.ms.c, .slice u.its.a u.its.n u.its.c, .slice u.lv.a u.lv.n u.lv.c, .slice u.tx.a u.tx.n u.tx.c, .int .i64 x.m.rd, .int .i64 x.m.se, .int .i64 x.m.li, .int .i64 x.m.he, .int .i64 x.m.la.c, .int .i64 x.m.la.r, .int .i64 x.m.la.q, .int .i64 x.m.la.a, .int .i64 x.m.la.b, .slice u.ws.a u.ws.n u.ws.c, .int .i64 x.most, .int .i64 x.old, .int .i64 x.jid, .slice s1.a s1.n s1.c, .slice sb.a sb.n sb.c, .slice s.a s.n s.c]) := OR.out.later c
        have VD : Hid (Bx v1.drew gVB 41 [.int .i64 e.k, .int .i64 e.rid, .slice e.sm.a e.sm.n e.sm.c, .int .i64 e.q, .int .i64 e.f, .int .i64 e.l, .string e.t, .slice e.sw.a e.sw.n e.sw.c]) := VB.out.later c
        have zVB : gVB < v1.heap.size ∧ w9.heap.size ≤ gVB ∧ w.heap.size + 2 < gVB := by omega
        refine wp_region_heldLast (S := fun w' => Bx w' (w.heap.size + 2) 54 [.int .i64 x.id, .bool x.dead, .int .i64 x.m.id, .int .i64 x.m.rid, .slice u.ms.a u.ms.n u.ms.c, .slice u.its.a u.its.n u.its.c, .slice u.lv.a u.lv.n u.lv.c, .slice u.tx.a u.tx.n u.tx.c, .int .i64 x.m.rd, .int .i64 x.m.se, .int .i64 x.m.li, .int .i64 x.m.he, .int .i64 x.m.la.c, .int .i64 x.m.la.r, .int .i64 x.m.la.q, .int .i64 x.m.la.a, .int .i64 x.m.la.b, .slice u.ws.a u.ws.n u.ws.c, .int .i64 x.most, .int .i64 x.old, .int .i64 x.jid, .slice s1.a s1.n s1.c, .slice sb.a sb.n sb.c, .slice s.a s.n s.c] ∧ Bx w' gVB 41 [.int .i64 e.k, .int .i64 e.rid, .slice e.sm.a e.sm.n e.sm.c, .int .i64 e.q, .int .i64 e.f, .int .i64 e.l, .string e.t, .slice e.sw.a e.sw.n e.sw.c]) _ (by simp) (by kernel_rfl) (by rfl) (by rfl) (by kernel_rfl) (by kernel_rfl) ⟨BD.out, VD.out⟩ (fun hHeld => ?_)
        simp only [List.dropLast_cons_cons, List.dropLast_singleton, List.getLast_cons_cons, List.getLast_singleton, List.cons_append, List.nil_append, List.length_cons, List.length_nil]
        refine wpAnyH_take (i := 0) (v := ?v0b1) rfl (by kernel_rfl) (by kernel_rfl) (by kernel_rfl) (fun _ _ _ h => h) (Or.inl ⟨by rfl, ?hy0b1⟩) (by assumption) ?_
        case hy0b1 => (intro w hSw; (try dsimp only at hSw); simp only [List.getElem_toArray, List.getElem_cons_zero, List.getElem_cons_succ]; go_simp; try with_reducible rfl)
        try simp only [Act.put, List.getElem_toArray, List.getElem_cons_zero, List.getElem_cons_succ, List.setIfInBounds_toArray, List.set_cons_zero, List.set_cons_succ]
        refine wpAnyH_take (i := 1) (v := _) rfl (by kernel_rfl) (by kernel_rfl) (by kernel_rfl) (fun _ _ _ h => h) (ld1_yield (by rfl) 30 _ rfl (w.heap.size + 2) 23 rfl 54 _ (fun w hS => hS.1) (.slice s.a s.n s.c) rfl _ Tryz.underlying30 rfl) (by assumption) ?_
        try simp only [Act.put, List.getElem_toArray, List.getElem_cons_zero, List.getElem_cons_succ, List.setIfInBounds_toArray, List.set_cons_zero, List.set_cons_succ]
        refine wpAnyH_take (i := 2) (v := _) rfl (by kernel_rfl) (by kernel_rfl) (by kernel_rfl) (fun _ _ _ h => h) (ld_yield (by rfl) 41 _ rfl gVB 0 rfl 41 _ (fun w hS => hS.2) [.int .i64 e.k, .int .i64 e.rid, .slice e.sm.a e.sm.n e.sm.c, .int .i64 e.q, .int .i64 e.f, .int .i64 e.l, .string e.t, .slice e.sw.a e.sw.n e.sw.c] rfl _ Tryz.underlying41 rfl Tryz.sizeEv) (by assumption) ?_
        try simp only [Act.put, List.getElem_toArray, List.getElem_cons_zero, List.getElem_cons_succ, List.setIfInBounds_toArray, List.set_cons_zero, List.set_cons_succ]
        refine wpAnyH_ready (rs := [3]) (by kernel_rfl) (by simp) ?_
        refine AllReadyH.cons (i := 3) rfl (fun K hK => ?_) AllReadyH.nil
        rw [if_pos (by rfl)]
        simp only [List.getElem_toArray, List.getElem_cons_zero, List.getElem_cons_succ]
        go_simp
        refine (copyEvent_any e _ (show Hid (e.R v1.drew) from RR.out.stays c) SS).mono ?_
        rintro x_ y1 ⟨u1, u2, rfl, o1, o2, up, b⟩
        have zb : v1.heap.size ≤ v1.drew.heap.size := c.size
        have c : Below v1.heap.size v1 y1 := bl_next c b
        have BD : Hid (Bx y1 (w.heap.size + 2) 54 [.int .i64 x.id, .bool x.dead, .int .i64 x.m.id, .int .i64 x.m.rid, .slice u.ms.a u.ms.n u.ms.c, .slice u.its.a u.its.n u.its.c, .slice u.lv.a u.lv.n u.lv.c, .slice u.tx.a u.tx.n u.tx.c, .int .i64 x.m.rd, .int .i64 x.m.se, .int .i64 x.m.li, .int .i64 x.m.he, .int .i64 x.m.la.c, .int .i64 x.m.la.r, .int .i64 x.m.la.q, .int .i64 x.m.la.a, .int .i64 x.m.la.b, .slice u.ws.a u.ws.n u.ws.c, .int .i64 x.most, .int .i64 x.old, .int .i64 x.jid, .slice s1.a s1.n s1.c, .slice sb.a sb.n sb.c, .slice s.a s.n s.c]) := BD.out.later b
        have LY : Hid (EvsO y1 w9.heap.size s es) := LR.out.below c
        have VD : Hid (Bx y1 gVB 41 [.int .i64 e.k, .int .i64 e.rid, .slice e.sm.a e.sm.n e.sm.c, .int .i64 e.q, .int .i64 e.f, .int .i64 e.l, .string e.t, .slice e.sw.a e.sw.n e.sw.c]) := VD.out.later b
        obtain ⟨c1, hc1⟩ : ∃ c : Ev, c = { e with sm := u1, sw := u2 } := ⟨_, rfl⟩
        have C1 : Hid (c1.O y1 v1.heap.size) := by rw [hc1]; exact ⟨o1.down zb, o2.down zb⟩
        have CU : Hid c1.Up := by rw [hc1]; exact up
        have CP : Hid (c1.pl = e.pl) := by rw [hc1]; exact rfl
        have CR : Hid (([.int .i64 e.k, .int .i64 e.rid, .slice u1.a u1.n u1.c, .int .i64 e.q, .int .i64 e.f, .int .i64 e.l, .string e.t, .slice u2.a u2.n u2.c] : List Value) = c1.row) := by rw [hc1]; rfl
        refine hK.out _ _ (⟨BD.out, VD.out⟩) (fun hHeld => ?_)
        clear hK K
        try simp only [Act.put, List.getElem_toArray, List.getElem_cons_zero, List.getElem_cons_succ, List.setIfInBounds_toArray, List.set_cons_zero, List.set_cons_succ]
        clear b o1 o2 up hc1
        refine wpAnyH_ready (rs := [4]) (by kernel_rfl) (by simp) ?_
        refine AllReadyH.cons (i := 4) rfl (fun K hK => ?_) AllReadyH.nil
        rw [if_pos (by rfl)]
        simp only [List.getElem_toArray, List.getElem_cons_zero, List.getElem_cons_succ]
        go_simp
        have b : Below y1.heap.size y1 (y1.alloc (.cells #[.int .i64 e.k, .int .i64 e.rid, .slice u1.a u1.n u1.c, .int .i64 e.q, .int .i64 e.f, .int .i64 e.l, .string e.t, .slice u2.a u2.n u2.c] 41)) := (Below.refl _ _).alloc (Nat.le_refl _) _
        have SX : Hid (SlN (y1.alloc (.cells #[.int .i64 e.k, .int .i64 e.rid, .slice u1.a u1.n u1.c, .int .i64 e.q, .int .i64 e.f, .int .i64 e.l, .string e.t, .slice u2.a u2.n u2.c] 41)) 41 8 0 (.slice (some ⟨y1.heap.size, 0, none⟩) 1 1) [[.int .i64 e.k, .int .i64 e.rid, .slice u1.a u1.n u1.c, .int .i64 e.q, .int .i64 e.f, .int .i64 e.l, .string e.t, .slice u2.a u2.n u2.c]]) := SlN.one y1 41 8 0 _ rfl rfl (Nat.zero_le _)
        have c : Below v1.heap.size v1 (y1.alloc (.cells #[.int .i64 e.k, .int .i64 e.rid, .slice u1.a u1.n u1.c, .int .i64 e.q, .int .i64 e.f, .int .i64 e.l, .string e.t, .slice u2.a u2.n u2.c] 41)) := bl_next c b
        have BD : Hid (Bx (y1.alloc (.cells #[.int .i64 e.k, .int .i64 e.rid, .slice u1.a u1.n u1.c, .int .i64 e.q, .int .i64 e.f, .int .i64 e.l, .string e.t, .slice u2.a u2.n u2.c] 41)) (w.heap.size + 2) 54 [.int .i64 x.id, .bool x.dead, .int .i64 x.m.id, .int .i64 x.m.rid, .slice u.ms.a u.ms.n u.ms.c, .slice u.its.a u.its.n u.its.c, .slice u.lv.a u.lv.n u.lv.c, .slice u.tx.a u.tx.n u.tx.c, .int .i64 x.m.rd, .int .i64 x.m.se, .int .i64 x.m.li, .int .i64 x.m.he, .int .i64 x.m.la.c, .int .i64 x.m.la.r, .int .i64 x.m.la.q, .int .i64 x.m.la.a, .int .i64 x.m.la.b, .slice u.ws.a u.ws.n u.ws.c, .int .i64 x.most, .int .i64 x.old, .int .i64 x.jid, .slice s1.a s1.n s1.c, .slice sb.a sb.n sb.c, .slice s.a s.n s.c]) := BD.out.later b
        have LY : Hid (EvsO (y1.alloc (.cells #[.int .i64 e.k, .int .i64 e.rid, .slice u1.a u1.n u1.c, .int .i64 e.q, .int .i64 e.f, .int .i64 e.l, .string e.t, .slice u2.a u2.n u2.c] 41)) w9.heap.size s es) := LY.out.below b
        have C1 : Hid (c1.O (y1.alloc (.cells #[.int .i64 e.k, .int .i64 e.rid, .slice u1.a u1.n u1.c, .int .i64 e.q, .int .i64 e.f, .int .i64 e.l, .string e.t, .slice u2.a u2.n u2.c] 41)) v1.heap.size) := C1.out.below b
        have VD : Hid (Bx (y1.alloc (.cells #[.int .i64 e.k, .int .i64 e.rid, .slice u1.a u1.n u1.c, .int .i64 e.q, .int .i64 e.f, .int .i64 e.l, .string e.t, .slice u2.a u2.n u2.c] 41)) gVB 41 [.int .i64 e.k, .int .i64 e.rid, .slice e.sm.a e.sm.n e.sm.c, .int .i64 e.q, .int .i64 e.f, .int .i64 e.l, .string e.t, .slice e.sw.a e.sw.n e.sw.c]) := VD.out.later b
        refine hK.out _ _ (⟨BD.out, VD.out⟩) (fun hHeld => ?_)
        clear hK K
        try simp only [Act.put, List.getElem_toArray, List.getElem_cons_zero, List.getElem_cons_succ, List.setIfInBounds_toArray, List.set_cons_zero, List.set_cons_succ]
        clear b
        refine wpAnyH_ready (rs := [5]) (by kernel_rfl) (by simp) ?_
        refine AllReadyH.cons (i := 5) rfl (fun K hK => ?_) AllReadyH.nil
        rw [if_pos (by rfl)]
        simp only [List.getElem_toArray, List.getElem_cons_zero, List.getElem_cons_succ]
        refine wp_catM _ _ 30 rfl _ 104 Tryz.underlying30 Tryz.infoEv rfl (by decide) w9.heap.size (.slice s.a s.n s.c) (es.map Ev.row) (by rfl) LY.out.1 0 _ [[.int .i64 e.k, .int .i64 e.rid, .slice u1.a u1.n u1.c, .int .i64 e.q, .int .i64 e.f, .int .i64 e.l, .string e.t, .slice u2.a u2.n u2.c]] (by rfl) SX.out HLEN.out (by have := c.size; omega) ?_
        intro v2 y2 s2 g2 b2
        obtain ⟨nz, hnz, hnq⟩ := s2.form
        subst hnz
        clear hnq
        rw [CR.out] at s2
        have LN : Hid (EvsO y2 w9.heap.size nz (es ++ [c1])) := ⟨by rw [List.map_append]; exact s2, fun q hq => by
          rcases List.mem_append.1 hq with hq | hq
          · exact Ev.O.rowkeep (fun k hk => LY.out.1.blk hk) g2 (LY.out.2 q hq)
          · rw [List.mem_singleton.1 hq]; exact Ev.O.rowkeep (fun k hk => LY.out.1.blk hk) g2 (C1.out.down (by omega))⟩
        have BD : Hid (Bx y2 (w.heap.size + 2) 54 [.int .i64 x.id, .bool x.dead, .int .i64 x.m.id, .int .i64 x.m.rid, .slice u.ms.a u.ms.n u.ms.c, .slice u.its.a u.its.n u.its.c, .slice u.lv.a u.lv.n u.lv.c, .slice u.tx.a u.tx.n u.tx.c, .int .i64 x.m.rd, .int .i64 x.m.se, .int .i64 x.m.li, .int .i64 x.m.he, .int .i64 x.m.la.c, .int .i64 x.m.la.r, .int .i64 x.m.la.q, .int .i64 x.m.la.a, .int .i64 x.m.la.b, .slice u.ws.a u.ws.n u.ws.c, .int .i64 x.most, .int .i64 x.old, .int .i64 x.jid, .slice s1.a s1.n s1.c, .slice sb.a sb.n sb.c, .slice s.a s.n s.c]) := BD.out.grown g2 (fun e => by obtain ⟨_, h1⟩ := LY.out.1.blk e.symm; have h2 := BD.out; unfold Bx at h2; rw [h1] at h2; simp at h2)
        have VD : Hid (Bx y2 gVB 41 [.int .i64 e.k, .int .i64 e.rid, .slice e.sm.a e.sm.n e.sm.c, .int .i64 e.q, .int .i64 e.f, .int .i64 e.l, .string e.t, .slice e.sw.a e.sw.n e.sw.c]) := VD.out.grown g2 (fun e => by have := RL.out _ e.symm; omega)
        have kr : Below w9.heap.size v1 y2 := (c.mono (by omega)).trans b2
        refine hK.out _ _ (⟨BD.out, VD.out⟩) (fun hHeld => ?_)
        clear hK K
        try simp only [Act.put, List.getElem_toArray, List.getElem_cons_zero, List.getElem_cons_succ, List.setIfInBounds_toArray, List.set_cons_zero, List.set_cons_succ]
        clear s2 g2 SX
        refine wpAnyH_take (i := 6) (v := ?v6b4) rfl (by kernel_rfl) (by kernel_rfl) (by kernel_rfl) (fun _ _ _ h => h) (Or.inl ⟨by rfl, ?hy6b4⟩) (by assumption) ?_
        case hy6b4 => (intro w hSw; (try dsimp only at hSw); simp only [List.getElem_toArray, List.getElem_cons_zero, List.getElem_cons_succ]; go_simp; try with_reducible rfl)
        try simp only [Act.put, List.getElem_toArray, List.getElem_cons_zero, List.getElem_cons_succ, List.setIfInBounds_toArray, List.set_cons_zero, List.set_cons_succ]
        refine wpAnyH_take (i := 7) (v := ?v7b5) rfl (by kernel_rfl) (by kernel_rfl) (by kernel_rfl) (fun _ _ _ h => h) (Or.inl ⟨by rfl, ?hy7b5⟩) (by assumption) ?_
        case hy7b5 => (intro w hSw; (try dsimp only at hSw); simp only [List.getElem_toArray, List.getElem_cons_zero, List.getElem_cons_succ]; go_simp; try with_reducible rfl)
        try simp only [Act.put, List.getElem_toArray, List.getElem_cons_zero, List.getElem_cons_succ, List.setIfInBounds_toArray, List.set_cons_zero, List.set_cons_succ]
        refine wpAnyH_done (by kernel_rfl) ?_ _
        refine lastQ_of rfl rfl ?_
        refine wp_st1 30 _ _ rfl (w.heap.size + 2) 23 rfl 54 _ BD.out (.slice nz.a nz.n nz.c) rfl (by simp) rfl Tryz.sizeEvs [.int .i64 x.id, .bool x.dead, .int .i64 x.m.id, .int .i64 x.m.rid, .slice u.ms.a u.ms.n u.ms.c, .slice u.its.a u.its.n u.its.c, .slice u.lv.a u.lv.n u.lv.c, .slice u.tx.a u.tx.n u.tx.c, .int .i64 x.m.rd, .int .i64 x.m.se, .int .i64 x.m.li, .int .i64 x.m.he, .int .i64 x.m.la.c, .int .i64 x.m.la.r, .int .i64 x.m.la.q, .int .i64 x.m.la.a, .int .i64 x.m.la.b, .slice u.ws.a u.ws.n u.ws.c, .int .i64 x.most, .int .i64 x.old, .int .i64 x.jid, .slice s1.a s1.n s1.c, .slice sb.a sb.n sb.c, .slice nz.a nz.n nz.c] rfl ?_
        intro v3 ob tb
        have OR : Hid (Bx v3 (w.heap.size + 2) 54 [.int .i64 x.id, .bool x.dead, .int .i64 x.m.id, .int .i64 x.m.rid, .slice u.ms.a u.ms.n u.ms.c, .slice u.its.a u.its.n u.its.c, .slice u.lv.a u.lv.n u.lv.c, .slice u.tx.a u.tx.n u.tx.c, .int .i64 x.m.rd, .int .i64 x.m.se, .int .i64 x.m.li, .int .i64 x.m.he, .int .i64 x.m.la.c, .int .i64 x.m.la.r, .int .i64 x.m.la.q, .int .i64 x.m.la.a, .int .i64 x.m.la.b, .slice u.ws.a u.ws.n u.ws.c, .int .i64 x.most, .int .i64 x.old, .int .i64 x.jid, .slice s1.a s1.n s1.c, .slice sb.a sb.n sb.c, .slice nz.a nz.n nz.c]) := ob
        have KR : Hid (KeepR (w.heap.size + 2) w9.heap.size w11 v3) := (KR.out.belowN kr).turn tb
        have LN : Hid (EvsO v3 w9.heap.size nz (es ++ [c1])) := LN.out.keep fun b hb _ => tb.block b (by omega)
        have UN : Hid (EvsUp (es ++ [c1])) := hup.out.snoc CU.out LT.out (fun y hy => by have := (C1.out.lt y hy).1; omega)
        have PN : Hid ((es ++ [c1]).map Ev.pl = (x.lo.take (j + 1)).map Ev.pl) := (by rw [List.map_append, hpl.out, List.take_succ_eq_append_getElem hlt2, List.map_append, ← HE.out]; simp [CP.out] : _ = _)
        clear ob tb kr c BD VD hHeld C1 CU CR LY b2
        go_wp2_with fail
        go_roundw
        case rel => exact ⟨j + 1, nz, es ++ [c1], by omega, by go_num, (by have := hcl.out; simp; omega : _ = _), PN, OR, LN, UN, KR⟩
        case measure => simp [intOf]; omega
      · skip
        obtain hjn : j = x.ls.n := by omega
        have EP : Hid (es.map Ev.pl = x.lo.map Ev.pl) := (by have e := hpl.out; rw [hjn, HLN.out, List.take_length] at e; exact e : _ = _)
        have MO : Hid (MtO wr w1.heap.size x.m u) := MO.out.keep fun b hb hl => KR.out.blk b (by have := ML.out b hb; omega) (by have := (MO.out.lt hb).1; omega)
        have JO : Hid (OwnI wr w1.heap.size s1.v x.jms) := JO.out.keep fun b hb hl => KR.out.blk b (by have := (JL.out b hb).2; omega) (by have := (JL.out b hb).1; omega)
        have BO : Hid (BusO wr w1.heap.size sb []) := BO.out.keepo fun b hb hl => KR.out.blk b (by have := (BL.out b hb).2; omega) (by have := (BL.out b hb).1; omega)
        have EB : Hid (Bx wr (w.heap.size + 1) 54 [.int .i64 0, .bool false, .int .i64 0, .int .i64 0, .slice none 0 0, .slice none 0 0, .slice none 0 0, .slice none 0 0, .int .i64 0, .int .i64 0, .int .i64 0, .int .i64 0, .int .i64 0, .int .i64 0, .int .i64 0, .int .i64 0, .int .i64 0, .slice none 0 0, .int .i64 0, .int .i64 0, .int .i64 0, .slice none 0 0, .slice none 0 0, .slice none 0 0]) := EB.out.kr KR.out (by omega) (by omega)
        have BW : Hid (Below w.heap.size w wr) := BWB.out.trans (KR.out.below (by omega) (by omega))
        have hd9 : ¬ j < x.ls.n := hlt
        clear hjn KR LAr HLr LA
        go_wp2_with (first | (refine wpList_ldG rfl 54 _ rfl (w.heap.size + 2) 0 rfl 54 _ OR.out [.int .i64 x.id, .bool x.dead, .int .i64 x.m.id, .int .i64 x.m.rid, .slice u.ms.a u.ms.n u.ms.c, .slice u.its.a u.its.n u.its.c, .slice u.lv.a u.lv.n u.lv.c, .slice u.tx.a u.tx.n u.tx.c, .int .i64 x.m.rd, .int .i64 x.m.se, .int .i64 x.m.li, .int .i64 x.m.he, .int .i64 x.m.la.c, .int .i64 x.m.la.r, .int .i64 x.m.la.q, .int .i64 x.m.la.a, .int .i64 x.m.la.b, .slice u.ws.a u.ws.n u.ws.c, .int .i64 x.most, .int .i64 x.old, .int .i64 x.jid, .slice s1.a s1.n s1.c, .slice sb.a sb.n sb.c, .slice s.a s.n s.c] rfl _ Tryz.underlying54 rfl Tryz.sizeDa ?_) | (with_reducible refine wpList_haltS 54 _ _ rfl ?_))
        refine Stp.go ?_
        refine wpList_stB rfl 54 _ _ rfl (w.heap.size + 1) 0 rfl 54 _ EB.out [.int .i64 x.id, .bool x.dead, .int .i64 x.m.id, .int .i64 x.m.rid, .slice u.ms.a u.ms.n u.ms.c, .slice u.its.a u.its.n u.its.c, .slice u.lv.a u.lv.n u.lv.c, .slice u.tx.a u.tx.n u.tx.c, .int .i64 x.m.rd, .int .i64 x.m.se, .int .i64 x.m.li, .int .i64 x.m.he, .int .i64 x.m.la.c, .int .i64 x.m.la.r, .int .i64 x.m.la.q, .int .i64 x.m.la.a, .int .i64 x.m.la.b, .slice u.ws.a u.ws.n u.ws.c, .int .i64 x.most, .int .i64 x.old, .int .i64 x.jid, .slice s1.a s1.n s1.c, .slice sb.a sb.n sb.c, .slice s.a s.n s.c] rfl (by simp) Tryz.sizeDa rfl [.int .i64 x.id, .bool x.dead, .int .i64 x.m.id, .int .i64 x.m.rid, .slice u.ms.a u.ms.n u.ms.c, .slice u.its.a u.its.n u.its.c, .slice u.lv.a u.lv.n u.lv.c, .slice u.tx.a u.tx.n u.tx.c, .int .i64 x.m.rd, .int .i64 x.m.se, .int .i64 x.m.li, .int .i64 x.m.he, .int .i64 x.m.la.c, .int .i64 x.m.la.r, .int .i64 x.m.la.q, .int .i64 x.m.la.a, .int .i64 x.m.la.b, .slice u.ws.a u.ws.n u.ws.c, .int .i64 x.most, .int .i64 x.old, .int .i64 x.jid, .slice s1.a s1.n s1.c, .slice sb.a sb.n sb.c, .slice s.a s.n s.c] rfl ?_
        intro w12 OB TB
        have z_w12 : wr.heap.size ≤ w12.heap.size := Nat.le_of_eq TB.size.symm
        have OR : Hid (Bx w12 (w.heap.size + 2) 54 [.int .i64 x.id, .bool x.dead, .int .i64 x.m.id, .int .i64 x.m.rid, .slice u.ms.a u.ms.n u.ms.c, .slice u.its.a u.its.n u.its.c, .slice u.lv.a u.lv.n u.lv.c, .slice u.tx.a u.tx.n u.tx.c, .int .i64 x.m.rd, .int .i64 x.m.se, .int .i64 x.m.li, .int .i64 x.m.he, .int .i64 x.m.la.c, .int .i64 x.m.la.r, .int .i64 x.m.la.q, .int .i64 x.m.la.a, .int .i64 x.m.la.b, .slice u.ws.a u.ws.n u.ws.c, .int .i64 x.most, .int .i64 x.old, .int .i64 x.jid, .slice s1.a s1.n s1.c, .slice sb.a sb.n sb.c, .slice s.a s.n s.c]) := OR.out.turn TB (by omega)
        have BW : Hid (Below w.heap.size w w12) := BW.out.trans (TB.below (by omega))
        have MO : Hid (MtO w12 w1.heap.size x.m u) := MO.out.keep fun b hb _ => TB.block b (by have := (MO.out.lt hb).1; omega)
        have JO : Hid (OwnI w12 w1.heap.size s1.v x.jms) := JO.out.keep fun b hb _ => TB.block b (by have := (JO.out.lt b hb).1; omega)
        have BO : Hid (BusO w12 w1.heap.size sb []) := BO.out.keep fun b hb _ => TB.block b (by omega)
        have LR : Hid (EvsO w12 w9.heap.size s es) := LR.out.keep fun b hb _ => TB.block b (by omega)
        have EB : Hid (Bx w12 (w.heap.size + 1) 54 [.int .i64 x.id, .bool x.dead, .int .i64 x.m.id, .int .i64 x.m.rid, .slice u.ms.a u.ms.n u.ms.c, .slice u.its.a u.its.n u.its.c, .slice u.lv.a u.lv.n u.lv.c, .slice u.tx.a u.tx.n u.tx.c, .int .i64 x.m.rd, .int .i64 x.m.se, .int .i64 x.m.li, .int .i64 x.m.he, .int .i64 x.m.la.c, .int .i64 x.m.la.r, .int .i64 x.m.la.q, .int .i64 x.m.la.a, .int .i64 x.m.la.b, .slice u.ws.a u.ws.n u.ws.c, .int .i64 x.most, .int .i64 x.old, .int .i64 x.jid, .slice s1.a s1.n s1.c, .slice sb.a sb.n sb.c, .slice s.a s.n s.c]) := OB
        clear OB TB
        go_wp2_with fail
        refine bodyPost_ret (results_b Tryz.results85 (w.heap.size + 1) 54 [.int .i64 x.id, .bool x.dead, .int .i64 x.m.id, .int .i64 x.m.rid, .slice u.ms.a u.ms.n u.ms.c, .slice u.its.a u.its.n u.its.c, .slice u.lv.a u.lv.n u.lv.c, .slice u.tx.a u.tx.n u.tx.c, .int .i64 x.m.rd, .int .i64 x.m.se, .int .i64 x.m.li, .int .i64 x.m.he, .int .i64 x.m.la.c, .int .i64 x.m.la.r, .int .i64 x.m.la.q, .int .i64 x.m.la.a, .int .i64 x.m.la.b, .slice u.ws.a u.ws.n u.ws.c, .int .i64 x.most, .int .i64 x.old, .int .i64 x.jid, .slice s1.a s1.n s1.c, .slice sb.a sb.n sb.c, .slice s.a s.n s.c] _ rfl EB.out Tryz.underlying54 rfl Tryz.sizeDa) rfl ?_
        have LL : ∀ y, EvsOwn s es y → w9.heap.size ≤ y := fun y hy => (LR.out.olt hy).1
        refine ⟨{ x with mv := u, js := s1, bu := [], bs := sb, lo := es, ls := s }, rfl, ⟨rfl, rfl, rfl, rfl, rfl, rfl, rfl, by rw [hb.out.2], EP.out⟩, ⟨MO.out.down (by omega), JO.out.down (by omega), BO.out.down (by omega), LR.out.down (by omega)⟩, ?_, BW.out⟩
        exact ⟨fun y h1 h2 => by have := ML.out y h1; have := (JL.out y h2).1; omega, fun y h1 h2 => by have := ML.out y h1; have := (BL.out y h2).1; omega, fun y h1 h2 => by have := ML.out y h1; have := LL y h2; omega, fun y h1 h2 => by have := (JL.out y h1).2; have := (BL.out y h2).1; omega, fun y h1 h2 => by have := (JL.out y h1).2; have := LL y h2; omega, fun y h1 h2 => by have := (BL.out y h1).2; have := LL y h2; omega, ⟨fun y _ b hb => (by cases hb), List.Pairwise.nil⟩, ⟨LR.out.rowa, fun e he y h1 h2 => by have := hup.out.1 e he y y h1 h2; omega, hup.out.2.imp fun h y hx hy => by have := h y y hx hy; omega⟩⟩
end Go.Proofs.YtoahljkifikbaaaGreat


/- The specification's rings copied. Written by gen_wn15.py. -/
namespace Go.Proofs.YtoahljkifikbaaaGreat
open Go.RowKit Pl
set_option linter.unusedVariables false
set_option linter.unusedSimpArgs false

set_option maxRecDepth 100000 in
set_option maxHeartbeats 4000000 in
theorem lcopyRing_any (i : Int) (s : Sv) (ms : List Int) (w : World) (h : Hid (RI w s.v ms)) (hl : ms.length ≤ 1048576) :
    Calls Tryz.prog 101 #[.agg #[.int .i64 i, .slice s.a s.n s.c]] w fun e w' => ∃ u : Sv, e = .returned (.agg #[.int .i64 i, .slice u.a u.n u.c]) ∧ OwnI w' w.heap.size u.v ms ∧ Below w.heap.size w w' := by
  have hn1 : (w.alloc (.cells #[.int .i64 i, .slice s.a s.n s.c] 37)).heap.size = w.heap.size + 1 := by simp
  have LA : Hid (Bx ((w.alloc (.cells #[.int .i64 i, .slice s.a s.n s.c] 37)).alloc (.cells #[.int .i64 0, .slice none 0 0] 37)) w.heap.size 37 [.int .i64 i, .slice s.a s.n s.c]) := by
    have h := Bx.new w 37 [.int .i64 i, .slice s.a s.n s.c]
    exact (h).later ((Below.refl _ _).alloc (Nat.le_refl _) _)
  have EB : Hid (Bx ((w.alloc (.cells #[.int .i64 i, .slice s.a s.n s.c] 37)).alloc (.cells #[.int .i64 0, .slice none 0 0] 37)) (w.heap.size + 1) 37 [.int .i64 0, .slice none 0 0]) := by
    have h := Bx.new (w.alloc (.cells #[.int .i64 i, .slice s.a s.n s.c] 37)) 37 [.int .i64 0, .slice none 0 0]
    rw [hn1] at h
    exact h
  have BW : Hid (Below w.heap.size w ((w.alloc (.cells #[.int .i64 i, .slice s.a s.n s.c] 37)).alloc (.cells #[.int .i64 0, .slice none 0 0] 37))) := (((Below.refl _ _).alloc (by simp) _).alloc (by simp; try omega) _)
  clear hn1
  have HR : Hid (RI ((w.alloc (.cells #[.int .i64 i, .slice s.a s.n s.c] 37)).alloc (.cells #[.int .i64 0, .slice none 0 0] 37)) s.v ms) := h.out.stays BW.out
  go_enter Tryz.func101, Tryz.ntmps101
  go_wp2_with fail
  generalize ((w.alloc (.cells #[.int .i64 i, .slice s.a s.n s.c] 37)).alloc (.cells #[.int .i64 0, .slice none 0 0] 37)) = W at *
  have c : Below W.heap.size W W.drew := (Below.refl _ _).drew
  have BD : Hid (Bx W.drew w.heap.size 37 [.int .i64 i, .slice s.a s.n s.c]) := LA.out.later c
  have VD : Hid (Bx W.drew (w.heap.size + 1) 37 [.int .i64 0, .slice none 0 0]) := EB.out.later c
  have zE : w.heap.size + 1 < W.heap.size := EB.out.lt
  refine wp_region_heldLast (S := fun w' => Bx w' w.heap.size 37 [.int .i64 i, .slice s.a s.n s.c] ∧ Bx w' (w.heap.size + 1) 37 [.int .i64 0, .slice none 0 0]) _ (by simp) (by kernel_rfl) (by rfl) (by rfl) (by kernel_rfl) (by kernel_rfl) ⟨BD.out, VD.out⟩ (fun hHeld => ?_)
  simp only [List.dropLast_cons_cons, List.dropLast_singleton, List.getLast_cons_cons, List.getLast_singleton, List.cons_append, List.nil_append, List.length_cons, List.length_nil]
  refine wpAnyH_take (i := 0) (v := ?v0b1) rfl (by kernel_rfl) (by kernel_rfl) (by kernel_rfl) (fun _ _ _ h => h) (Or.inl ⟨by rfl, ?hy0b1⟩) (by assumption) ?_
  case hy0b1 => (intro w hSw; (try dsimp only at hSw); simp only [List.getElem_toArray, List.getElem_cons_zero, List.getElem_cons_succ]; go_simp; try with_reducible rfl)
  try simp only [Act.put, List.getElem_toArray, List.getElem_cons_zero, List.getElem_cons_succ, List.setIfInBounds_toArray, List.set_cons_zero, List.set_cons_succ]
  refine wpAnyH_take (i := 1) (v := _) rfl (by kernel_rfl) (by kernel_rfl) (by kernel_rfl) (fun _ _ _ h => h) (ld1_yield (by rfl) 3 _ rfl w.heap.size 0 rfl 37 _ (fun w hS => hS.1) (.int .i64 i) rfl _ Tryz.underlying3 rfl) (by assumption) ?_
  try simp only [Act.put, List.getElem_toArray, List.getElem_cons_zero, List.getElem_cons_succ, List.setIfInBounds_toArray, List.set_cons_zero, List.set_cons_succ]
  refine wpAnyH_take (i := 3) (v := ?v3b3) rfl (by kernel_rfl) (by kernel_rfl) (by kernel_rfl) (fun _ _ _ h => h) (Or.inl ⟨by rfl, ?hy3b3⟩) (by assumption) ?_
  case hy3b3 => (intro w hSw; (try dsimp only at hSw); simp only [List.getElem_toArray, List.getElem_cons_zero, List.getElem_cons_succ]; go_simp; try with_reducible rfl)
  try simp only [Act.put, List.getElem_toArray, List.getElem_cons_zero, List.getElem_cons_succ, List.setIfInBounds_toArray, List.set_cons_zero, List.set_cons_succ]
  refine wpAnyH_take (i := 4) (v := _) rfl (by kernel_rfl) (by kernel_rfl) (by kernel_rfl) (fun _ _ _ h => h) (ld1_yield (by rfl) 33 _ rfl w.heap.size 1 rfl 37 _ (fun w hS => hS.1) (.slice s.a s.n s.c) rfl _ Tryz.underlying33 rfl) (by assumption) ?_
  try simp only [Act.put, List.getElem_toArray, List.getElem_cons_zero, List.getElem_cons_succ, List.setIfInBounds_toArray, List.set_cons_zero, List.set_cons_succ]
  refine wpAnyH_ready (rs := [2]) (by kernel_rfl) (by simp) ?_
  refine AllReadyH.cons (i := 2) rfl (fun K hK => ?_) AllReadyH.nil
  rw [if_pos (by rfl)]
  simp only [List.getElem_toArray, List.getElem_cons_zero, List.getElem_cons_succ]
  go_simp
  have b : Below W.drew.heap.size W.drew (W.drew.alloc (.cells #[] 3)) := (Below.refl _ _).alloc (Nat.le_refl _) _
  have I0 : Hid (OwnI (W.drew.alloc (.cells #[] 3)) W.drew.heap.size (.slice (some ⟨W.drew.heap.size, 0, none⟩) 0 0) []) := OwnI.made W.drew W.drew.heap.size (Nat.le_refl _)
  have c : Below W.heap.size W (W.drew.alloc (.cells #[] 3)) := bl_next c b
  have BD : Hid (Bx (W.drew.alloc (.cells #[] 3)) w.heap.size 37 [.int .i64 i, .slice s.a s.n s.c]) := BD.out.later b
  have VD : Hid (Bx (W.drew.alloc (.cells #[] 3)) (w.heap.size + 1) 37 [.int .i64 0, .slice none 0 0]) := VD.out.later b
  refine hK.out _ _ (⟨BD.out, VD.out⟩) (fun hHeld => ?_)
  clear hK K
  try simp only [Act.put, List.getElem_toArray, List.getElem_cons_zero, List.getElem_cons_succ, List.setIfInBounds_toArray, List.set_cons_zero, List.set_cons_succ]
  clear b
  refine wpAnyH_ready (rs := [5]) (by kernel_rfl) (by simp) ?_
  refine AllReadyH.cons (i := 5) rfl (fun K hK => ?_) AllReadyH.nil
  rw [if_pos (by rfl)]
  simp only [List.getElem_toArray, List.getElem_cons_zero, List.getElem_cons_succ]
  refine wp_catR _ _ 33 rfl Tryz.underlying33 Tryz.info3' W.drew.heap.size (.slice (some ⟨W.drew.heap.size, 0, none⟩) 0 0) [] (by rfl) I0.out (.slice s.a s.n s.c) ms (by rfl) (HR.out.stays c) (by simp; omega) (by simp) (fun h => by cases h) ?_
  intro v2 y2 o2 g2
  obtain ⟨u, hu2⟩ := o2.sv
  subst hu2
  rw [List.nil_append] at o2
  have zz : W.heap.size ≤ W.drew.heap.size := Nat.le_refl _
  have c : Below W.heap.size W y2 := c.grown g2 c.size (fun j hj => by have := (I0.out.lt j hj).1; omega)
  have BD : Hid (Bx y2 w.heap.size 37 [.int .i64 i, .slice s.a s.n s.c]) := BD.out.grown g2 (fun e => by have := (I0.out.lt _ e.symm).1; omega)
  have VD : Hid (Bx y2 (w.heap.size + 1) 37 [.int .i64 0, .slice none 0 0]) := VD.out.grown g2 (fun e => by have := (I0.out.lt _ e.symm).1; omega)
  have O2 : Hid (OwnI y2 W.drew.heap.size (.slice u.a u.n u.c) ms) := o2
  refine hK.out _ _ (⟨BD.out, VD.out⟩) (fun hHeld => ?_)
  clear hK K
  try simp only [Act.put, List.getElem_toArray, List.getElem_cons_zero, List.getElem_cons_succ, List.setIfInBounds_toArray, List.set_cons_zero, List.set_cons_succ]
  clear o2 g2 I0
  refine wpAnyH_take (i := 6) (v := ?v6b5) rfl (by kernel_rfl) (by kernel_rfl) (by kernel_rfl) (fun _ _ _ h => h) (Or.inl ⟨by rfl, ?hy6b5⟩) (by assumption) ?_
  case hy6b5 => (intro w hSw; (try dsimp only at hSw); simp only [List.getElem_toArray, List.getElem_cons_zero, List.getElem_cons_succ]; go_simp; try with_reducible rfl)
  try simp only [Act.put, List.getElem_toArray, List.getElem_cons_zero, List.getElem_cons_succ, List.setIfInBounds_toArray, List.set_cons_zero, List.set_cons_succ]
  refine wpAnyH_take (i := 7) (v := ?v7b6) rfl (by kernel_rfl) (by kernel_rfl) (by kernel_rfl) (fun _ _ _ h => h) (Or.inl ⟨by rfl, ?hy7b6⟩) (by assumption) ?_
  case hy7b6 => (intro w hSw; (try dsimp only at hSw); simp only [List.getElem_toArray, List.getElem_cons_zero, List.getElem_cons_succ]; go_simp; try with_reducible rfl)
  try simp only [Act.put, List.getElem_toArray, List.getElem_cons_zero, List.getElem_cons_succ, List.setIfInBounds_toArray, List.set_cons_zero, List.set_cons_succ]
  refine wpAnyH_done (by kernel_rfl) ?_ _
  refine lastQ_of rfl rfl ?_
  refine wp_stB 37 _ _ rfl (w.heap.size + 1) 0 rfl 37 _ VD.out [.int .i64 i, .slice u.a u.n u.c] rfl (by simp) Tryz.sizeRn rfl [.int .i64 i, .slice u.a u.n u.c] rfl ?_
  intro v3 ob tb
  have EB : Hid (Bx v3 (w.heap.size + 1) 37 [.int .i64 i, .slice u.a u.n u.c]) := ob
  have O3 : OwnI v3 w.heap.size u.v ms := (O2.out.keep fun b hb _ => tb.block b (by have := (O2.out.lt b hb).1; have : W.heap.size ≤ W.drew.heap.size := Nat.le_refl _; omega)).down (by have : W.heap.size ≤ W.drew.heap.size := Nat.le_refl _; omega)
  have BW : Below w.heap.size w v3 := (bl_next BW.out c).trans (tb.below (by omega))
  go_wp2_with fail
  refine bodyPost_ret (results_b Tryz.results101 (w.heap.size + 1) 37 [.int .i64 i, .slice u.a u.n u.c] _ rfl EB.out Tryz.underlying37 rfl Tryz.sizeRn) rfl ?_
  exact ⟨u, rfl, O3, BW⟩
theorem RnsUp.snoc {es : List Rn} {e : Rn} {N : Nat} (h : RnsUp es) (hlt : ∀ c ∈ es, ∀ x, c.own x → x < N) (hge : ∀ x, e.own x → N ≤ x) : RnsUp (es ++ [e]) :=
  ⟨fun x hx => trivial, List.pairwise_append.2 ⟨h.2, List.pairwise_singleton _ _, fun a ha b hb x y hx hy => by
      rw [List.mem_singleton.1 hb] at hy
      have := hlt a ha x hx
      have := hge y hy
      omega⟩⟩
theorem RnsO.rowa {w : World} {B : Nat} {s : Sv} {es : List Rn} (h : RnsO w B s es) : ∀ y, s.v.ownBlock = some y → ∀ e ∈ es, ¬ e.own y := fun y hy e he hx => by
  obtain ⟨c1, h1⟩ := h.1.blk hy
  obtain ⟨c2, h2⟩ := own_is_i (h.2 e he) hx
  rw [h1] at h2; simp at h2
theorem Rn.O.rowkeep {w w' : World} {B T : Nat} {r : Option Nat} (hT : T ≠ 3) (hr : ∀ k, r = some k → ∃ cs, w.heap[k]? = some (.cells cs T (0, 0))) (g : w.grownBy w' r) {e : Rn} (h : e.O w B) : e.O w' B :=
  OwnI.kept h g (fun k hk e => by obtain ⟨_, e1⟩ := own_is_i h hk; obtain ⟨_, e2⟩ := hr k e.symm; rw [e1] at e2; simp at e2; exact hT e2.2.symm)
theorem RnsUp.a2 {w : World} {B : Nat} {s : Sv} {es : List Rn} (h : RnsO w B s es) (u : RnsUp es) : RnsA s es := ⟨h.rowa, u.2.imp fun h x hx hy => by have := h x x hx hy; omega⟩
set_option maxRecDepth 100000 in
set_option maxHeartbeats 8000000 in
theorem lRings_any (s : Sv) (es : List Rn) (w : World) (hx : Hid (RnsR w s es)) (hl : es.length ≤ 1048576) (hs : Hid (∀ e ∈ es, e.S)) :
    Calls Tryz.prog 50 #[.slice s.a s.n s.c] w fun x w' => ∃ (u : Sv) (cs : List Rn), x = .returned (.slice u.a u.n u.c) ∧ cs.map Rn.pl = es.map Rn.pl ∧ RnsO w' w.heap.size u cs ∧ Below w.heap.size w w' := by
  obtain ⟨a, n, c⟩ := s
  dsimp only
  have HN : Hid (n = es.length) := hx.out.1
  have hn : n ≤ 1048576 := by have := HN.out; omega
  clear hl
  have V0 : Hid (SlN (w.alloc (.cells #[] 37)) 37 2 w.heap.size (.slice (some ⟨w.heap.size, 0, none⟩) 0 0) []) := SlN.made w 37 2 w.heap.size (Nat.le_refl _)
  have B0 : Hid (Below w.heap.size w (w.alloc (.cells #[] 37))) := (Below.refl _ _).alloc (Nat.le_refl _) _
  go_enter Tryz.func50, Tryz.ntmps50
  go_wp2_with fail
  generalize w.alloc (.cells #[] 37) = W0 at *
  go_loopw [3, 4] (fun v i wr => ∃ (k : Nat) (u : Sv) (cs : List Rn), k ≤ n ∧ i = .int .i64 k ∧ v = .slice u.a u.n u.c ∧ Hid (cs.length = k) ∧ Hid (cs.map Rn.pl = (es.take k).map Rn.pl) ∧ Hid (RnsO wr w.heap.size u cs) ∧ Hid (Below w.heap.size w wr)) (fun _ i _ => n - (intOf i).toNat)
  case atStart => exact ⟨0, ⟨some ⟨w.heap.size, 0, none⟩, 0, 0⟩, [], Nat.zero_le _, rfl, rfl, rfl, rfl, ⟨V0.out, fun e he => by cases he⟩, B0⟩
  case round =>
    clear V0 B0
    obtain ⟨k, u, cs, hk, rfl, rfl, hcl, hpl, hown, hb⟩ := hrel
    by_cases hlt : k < n
    · have hlt2 : k < es.length := by have := HN.out; omega
      obtain ⟨g, off, ha, hg, _, hr⟩ := (hx.out.stays hb.out).2.1 k (by simpa using hlt2)
      obtain ⟨e, he⟩ : ∃ e, e = es[k] := ⟨_, rfl⟩
      have hr2 : wr.rangeAt g (off + k * 2) e.row := by rw [he]; simpa using hr
      have HR : Hid (wr.rangeAt g (off + k * 2) [.int .i64 e.id, .slice e.s.a e.s.n e.s.c]) := hr2
      have HE : Hid (e = es[k]) := he
      have RR : Hid (RI wr e.s.v e.ms) := by rw [he]; exact (hx.out.stays hb.out).2.2 _ (List.getElem_mem hlt2)
      have SS : Hid (e.ms.length ≤ 1048576) := by rw [he]; exact hs.out _ (List.getElem_mem hlt2)
      have ha : a = some ⟨g, off, none⟩ := ha
      subst ha
      have i0 : (0 : Int) ≤ (k : Int) := by omega
      have i1 : (k : Int) < (n : Int) := by omega
      have CO : Hid (RnsO wr w.heap.size u cs) := hown
      have BW : Hid (Below w.heap.size w wr) := hb
      have zr : w.heap.size ≤ wr.heap.size := hb.out.size
      clear hr hr2 he hg hown hb
      go_wp2_with (first | (refine wpList_ldN rfl 37 _ rfl g (off + k * 2) (by rfl) [.int .i64 e.id, .slice e.s.a e.s.n e.s.c] HR.out _ Tryz.underlying37 rfl Tryz.sizeRn ?_))
      refine (lcopyRing_any e.id e.s e.ms _ RR SS.out).mono ?_
      rintro e v1 ⟨u1, rfl, o1, b⟩
      obtain ⟨c1, hc1⟩ : ∃ c : Rn, c = { e with s := u1 } := ⟨_, rfl⟩
      have C1 : Hid (c1.O v1 wr.heap.size) := by rw [hc1]; exact o1
      have CP : Hid (c1.pl = e.pl) := by rw [hc1]; exact rfl
      have CR : Hid (([.int .i64 e.id, .slice u1.a u1.n u1.c] : List Value) = c1.row) := by rw [hc1]; rfl
      clear o1 hc1 RR
      have z_v1 : wr.heap.size ≤ v1.heap.size := b.size
      have CO : Hid (RnsO v1 w.heap.size u cs) := CO.out.below b
      have BW : Hid (Below w.heap.size w v1) := bl_next BW.out b
      clear b
      have HLEN : Hid ((cs.map Rn.row).length ≤ 1048576) := (by have := hcl.out; simp; omega : _ ≤ _)
      clear HR
      go_wp2_with (first | (with_reducible refine wpList_haltA _ _ _ rfl ?_))
      refine Stp.go ?_
      refine wpList_pushN rfl _ _ 24 rfl (.agg #[.int .i64 0, .slice none 0 0]) 32 Tryz.underlying24 Tryz.infoRn rfl (by omega) w.heap.size _ _ rfl CO.out.1 [.int .i64 e.id, .slice u1.a u1.n u1.c] rfl rfl rfl HLEN.out BW.out.size ?_
      intro v6 w6 O6 g6 b6 _
      obtain ⟨s6, hs6, hq6⟩ := O6.form
      subst hs6
      clear hq6
      rw [CR.out] at O6
      have N6 : Hid (RnsO w6 w.heap.size s6 (cs ++ [c1])) := ⟨by rw [List.map_append]; exact O6, fun x hx => by
        rcases List.mem_append.1 hx with hx | hx
        · exact Rn.O.rowkeep (by decide) (fun k hk => CO.out.1.blk hk) g6 (CO.out.2 x hx)
        · rw [List.mem_singleton.1 hx]; exact Rn.O.rowkeep (by decide) (fun k hk => CO.out.1.blk hk) g6 (C1.out.down zr)⟩
      have B6 : Hid (Below w.heap.size w w6) := BW.out.trans b6
      clear O6 g6 b6 CO BW C1 CR
      go_wp2_with fail
      go_roundw
      case rel =>
        refine ⟨k + 1, s6, cs ++ [c1], by omega, by go_num, rfl, (by have := hcl.out; simp; omega : _ = _), ?_, N6, B6⟩
        show _ = _
        rw [List.map_append, hpl.out, List.take_succ_eq_append_getElem hlt2, List.map_append, ← HE.out]
        simp [CP.out]
      case measure => simp [intOf]; omega
    · obtain rfl : k = n := by omega
      go_wp2_with fail
      go_ret
      refine ⟨u, cs, rfl, ?_, hown.out, hb.out⟩
      have h := hpl.out
      rwa [HN.out, List.take_of_length_le (Nat.le_refl _)] at h
end Go.Proofs.YtoahljkifikbaaaGreat


/- Both RingsOk. Written by gen_rok.py. -/
namespace Go.Proofs.YtoahljkifikbaaaGreat
open Go.RowKit Pl
set_option linter.unusedVariables false
set_option linter.unusedSimpArgs false

/-- is the ring at this place right, and has it the number of the place? -/
def rgAt (ps : List (Int × List Int)) (k : Nat) : Bool := match ps[k]? with | some p => ringB p.1 p.2 && decide (p.1 = (k : Int) + 1) | none => true
def ringsB (ps : List (Int × List Int)) : Bool := (List.range ps.length).all (rgAt ps) && decide (1 ≤ (ps.length : Int) ∧ (ps.length : Int) ≤ 9)
theorem ringsB_no {ps : List (Int × List Int)} {k : Nat} (hk : k < ps.length) (h : rgAt ps k = false) : ringsB ps = false := by
  unfold ringsB
  have : (List.range ps.length).all (rgAt ps) = false := by
    rw [Bool.eq_false_iff]
    intro ha
    rw [List.all_eq_true] at ha
    rw [ha k (List.mem_range.2 hk)] at h
    cases h
  rw [this]; rfl
theorem ringsB_all {ps : List (Int × List Int)} (h : ∀ j, j < ps.length → rgAt ps j = true) : ringsB ps = decide (1 ≤ (ps.length : Int) ∧ (ps.length : Int) ≤ 9) := by
  unfold ringsB
  have : (List.range ps.length).all (rgAt ps) = true := by
    rw [List.all_eq_true]
    intro j hj
    exact h j (List.mem_range.1 hj)
  rw [this]; rfl
theorem rgAt_at {es : List Rn} {k : Nat} (hk : k < es.length) {e : Rn} (he : e = es[k]) : rgAt (es.map Rn.pl) k = (ringB e.id e.ms && decide (e.id = (k : Int) + 1)) := by
  unfold rgAt
  rw [List.getElem?_map, List.getElem?_eq_getElem hk, ← he]
  rfl
theorem range_cell {w : World} {g o : Nat} {cs : List Value} (h : w.rangeAt g o cs) (j : Nat) (v : Value) (hj : cs[j]? = some v) : w.cell? ⟨g, o + j, none⟩ = some v := h j v hj

set_option maxRecDepth 100000 in
set_option maxHeartbeats 1000000 in
theorem ringsOk_any (s : Sv) (es : List Rn) (w : World) (hx : Hid (RnsR w s es)) (hl : es.length ≤ 1048576) (hs : Hid (∀ e ∈ es, e.S)) :
    Calls Tryz.prog 16 #[.slice s.a s.n s.c] w fun x w' => x = .returned (.bool (ringsB (es.map Rn.pl))) ∧ Below w.heap.size w w' := by
  obtain ⟨a, n, c⟩ := s
  dsimp only
  have HN : Hid (n = es.length) := hx.out.1
  have hn : n ≤ 1048576 := by have := HN.out; omega
  clear hl
  go_enter Tryz.func16, Tryz.ntmps16
  go_wp2_with fail
  go_loopw [7] (fun i wr => ∃ (k : Nat), k ≤ n ∧ i = .int .i64 k ∧ Hid (∀ j, j < k → rgAt (es.map Rn.pl) j = true) ∧ Hid (Below w.heap.size w wr)) (fun i _ => n - (intOf i).toNat)
  case atStart => exact ⟨0, Nat.zero_le _, rfl, (fun j hj => absurd hj (by omega) : ∀ j, j < 0 → _), Below.refl _ _⟩
  case round =>
    obtain ⟨k, hk, rfl, hall, hb⟩ := hrel
    by_cases hlt : k < n
    · have hlt2 : k < es.length := by have := HN.out; omega
      obtain ⟨g, off, ha, hg, _, hr⟩ := (hx.out.stays hb.out).2.1 k (by simpa using hlt2)
      obtain ⟨e, he⟩ : ∃ e, e = es[k] := ⟨_, rfl⟩
      have hr2 : wr.rangeAt g (off + k * 2) e.row := by rw [he]; simpa using hr
      have HR : Hid (wr.rangeAt g (off + k * 2) [.int .i64 e.id, .slice e.s.a e.s.n e.s.c]) := hr2
      have RR : Hid (RI wr e.s.v e.ms) := by rw [he]; exact (hx.out.stays hb.out).2.2 _ (List.getElem_mem hlt2)
      have SS : Hid (e.ms.length ≤ 1048576) := by rw [he]; exact hs.out _ (List.getElem_mem hlt2)
      have HV : Hid (rgAt (es.map Rn.pl) k = (ringB e.id e.ms && decide (e.id = (k : Int) + 1))) := rgAt_at hlt2 he
      have ha : a = some ⟨g, off, none⟩ := ha
      subst ha
      have i0 : (0 : Int) ≤ (k : Int) := by omega
      have i1 : (k : Int) < (n : Int) := by omega
      have GL : Hid (g < wr.heap.size) := (by have := hg; omega : g < _)
      clear hr hr2 he hg
      have hz : Hid (Bx (wr.alloc (.cells #[.int .i64 0, .slice none 0 0] 37)) wr.heap.size 37 [.int .i64 0, .slice none 0 0]) := Bx.new wr 37 _
      have BW : Hid (Below w.heap.size w wr) := hb
      go_wp2_with (first | (refine wpList_ldN rfl 37 _ rfl g (off + k * 2) (by rfl) [.int .i64 e.id, .slice e.s.a e.s.n e.s.c] HR.out _ Tryz.underlying37 rfl Tryz.sizeRn ?_) | (refine wpList_stB rfl 37 _ _ rfl wr.heap.size 0 rfl 37 _ hz.out [.int .i64 e.id, .slice e.s.a e.s.n e.s.c] rfl (by simp) Tryz.sizeRn rfl [.int .i64 e.id, .slice e.s.a e.s.n e.s.c] rfl ?_; intro v1 OB TB; have b : Below wr.heap.size wr v1 := ((Below.refl _ _).alloc (Nat.le_refl _) _).trans (TB.below (Nat.le_refl _)); have VB : Hid (Bx v1 wr.heap.size 37 [.int .i64 e.id, .slice e.s.a e.s.n e.s.c]) := OB; have BW : Hid (Below w.heap.size w v1) := bl_next BW.out b; have RR : Hid (RI v1 e.s.v e.ms) := RR.out.stays b; clear OB TB b; refine Stp.here ?_))
      refine Stp.go ?_
      clear hz HR hb
      generalize hg_VB : wr.heap.size = gVB at *
      cases h2 : decide (e.id = (k : Int) + 1) with
      | false =>
        have hne : ¬ e.id = (k : Int) + 1 := by simpa using h2
        have c0 := VB.out.cell 0
        simp only [List.getElem?_cons_zero] at c0
        go_wp2_with fail
        go_ret
        exact ⟨by rw [ringsB_no (by simpa using hlt2) (HV.out.trans (by rw [h2, Bool.and_false]))]; rfl, BW.out⟩
      | true =>
        have heq : e.id = (k : Int) + 1 := by simpa using h2
        have c0 : v1.cell? ⟨gVB, 0, none⟩ = some (.int .i64 ((k : Int) + 1)) := by have h := VB.out.cell 0; rw [heq] at h; exact h
        have c1 : v1.cell? ⟨gVB, 1, none⟩ = some (.slice e.s.a e.s.n e.s.c) := VB.out.cell 1
        have RK : Hid (∀ w', Hid (RI w' e.s.v e.ms) → Calls Tryz.prog 52 #[.agg #[.int .i64 ((k : Int) + 1), .slice e.s.a e.s.n e.s.c]] w' fun x w'' => x = .returned (.bool (ringB e.id e.ms)) ∧ Below w'.heap.size w' w'') := fun w' h => by rw [← heq]; exact ringOk_r e.id e.ms h SS.out
        go_wp2_with fail
        refine (RK.out _ RR).mono ?_
        rintro x w2 ⟨rfl, b2⟩
        have BW : Hid (Below w.heap.size w w2) := bl_next BW.out b2
        clear b2 c0 c1 VB RR RK heq
        cases h1 : ringB e.id e.ms with
        | false =>
          go_wp2_with fail
          go_ret
          exact ⟨by rw [ringsB_no (by simpa using hlt2) (HV.out.trans (by rw [h1]; rfl))]; rfl, BW.out⟩
        | true =>
          go_wp2_with fail
          go_roundw
          case rel =>
            refine ⟨k + 1, by omega, by go_num, (fun j hj => ?_ : ∀ j, j < k + 1 → _), BW⟩
            rcases Nat.lt_succ_iff_lt_or_eq.1 hj with h | h
            · exact hall.out j h
            · rw [h, HV.out, h1, h2]; rfl
          case measure => simp [intOf]; omega
    · obtain rfl : k = n := by omega
      have hq : (es.map Rn.pl).length = k := by have := HN.out; simp; omega
      have HQ : Hid (ringsB (es.map Rn.pl) = decide (1 ≤ (k : Int) ∧ (k : Int) ≤ 9)) := (by rw [ringsB_all (fun j hj => hall.out j (by omega)), hq] : _ = _)
      clear hq
      go_wp2_with fail
      refine (within_any (k : Int) 1 9 _).mono ?_
      rintro x w1 ⟨rfl, rfl⟩
      go_wp2_with fail
      go_ret
      exact ⟨by rw [HQ.out, Bool.decide_and]; rfl, hb.out⟩
set_option maxRecDepth 100000 in
set_option maxHeartbeats 1000000 in
theorem spRingsOk_any (s : Sv) (es : List Rn) (w : World) (hx : Hid (RnsR w s es)) (hl : es.length ≤ 1048576) (hs : Hid (∀ e ∈ es, e.S)) :
    Calls Tryz.prog 49 #[.slice s.a s.n s.c] w fun x w' => x = .returned (.bool (ringsB (es.map Rn.pl))) ∧ Below w.heap.size w w' := by
  obtain ⟨a, n, c⟩ := s
  dsimp only
  have HN : Hid (n = es.length) := hx.out.1
  have hn : n ≤ 1048576 := by have := HN.out; omega
  clear hl
  go_enter Tryz.func49, Tryz.ntmps49
  go_wp2_with fail
  go_loopw [3] (fun i wr => ∃ (k : Nat), k ≤ n ∧ i = .int .i64 k ∧ Hid (∀ j, j < k → rgAt (es.map Rn.pl) j = true) ∧ Hid (Below w.heap.size w wr)) (fun i _ => n - (intOf i).toNat)
  case atStart => exact ⟨0, Nat.zero_le _, rfl, (fun j hj => absurd hj (by omega) : ∀ j, j < 0 → _), Below.refl _ _⟩
  case round =>
    obtain ⟨k, hk, rfl, hall, hb⟩ := hrel
    by_cases hlt : k < n
    · have hlt2 : k < es.length := by have := HN.out; omega
      obtain ⟨g, off, ha, hg, _, hr⟩ := (hx.out.stays hb.out).2.1 k (by simpa using hlt2)
      obtain ⟨e, he⟩ : ∃ e, e = es[k] := ⟨_, rfl⟩
      have hr2 : wr.rangeAt g (off + k * 2) e.row := by rw [he]; simpa using hr
      have HR : Hid (wr.rangeAt g (off + k * 2) [.int .i64 e.id, .slice e.s.a e.s.n e.s.c]) := hr2
      have RR : Hid (RI wr e.s.v e.ms) := by rw [he]; exact (hx.out.stays hb.out).2.2 _ (List.getElem_mem hlt2)
      have SS : Hid (e.ms.length ≤ 1048576) := by rw [he]; exact hs.out _ (List.getElem_mem hlt2)
      have HV : Hid (rgAt (es.map Rn.pl) k = (ringB e.id e.ms && decide (e.id = (k : Int) + 1))) := rgAt_at hlt2 he
      have ha : a = some ⟨g, off, none⟩ := ha
      subst ha
      have i0 : (0 : Int) ≤ (k : Int) := by omega
      have i1 : (k : Int) < (n : Int) := by omega
      have GL : Hid (g < wr.heap.size) := (by have := hg; omega : g < _)
      clear hr hr2 he hg
      go_wp2_with (first | (refine wpList_ldN rfl 37 _ rfl g (off + k * 2) (by rfl) [.int .i64 e.id, .slice e.s.a e.s.n e.s.c] HR.out _ Tryz.underlying37 rfl Tryz.sizeRn ?_))
      refine (spRingOk_r e.id e.ms RR SS.out).mono ?_
      rintro x w2 ⟨rfl, b2⟩
      have BW : Hid (Below w.heap.size w w2) := bl_nxt hb.out b2
      have c0 : w2.cell? ⟨g, off + k * 2, none⟩ = some (.int .i64 e.id) := (b2.cell (p := ⟨g, off + k * 2, none⟩) GL.out).trans (range_cell HR.out 0 _ rfl)
      clear b2 RR HR
      cases h1 : ringB e.id e.ms with
      | false =>
        go_wp2_with fail
        go_ret
        exact ⟨by rw [ringsB_no (by simpa using hlt2) (HV.out.trans (by rw [h1]; rfl))]; rfl, BW.out⟩
      | true =>
        cases h2 : decide (e.id = (k : Int) + 1) with
        | false =>
          have hne : ¬ e.id = (k : Int) + 1 := by simpa using h2
          go_wp2_with fail
          go_ret
          exact ⟨by rw [ringsB_no (by simpa using hlt2) (HV.out.trans (by rw [h2, Bool.and_false]))]; rfl, BW.out⟩
        | true =>
          have heq : e.id = (k : Int) + 1 := by simpa using h2
          rw [heq] at c0
          go_wp2_with fail
          go_roundw
          case rel =>
            refine ⟨k + 1, by omega, by go_num, (fun j hj => ?_ : ∀ j, j < k + 1 → _), BW⟩
            rcases Nat.lt_succ_iff_lt_or_eq.1 hj with h | h
            · exact hall.out j h
            · rw [h, HV.out, h1, h2]; rfl
          case measure => simp [intOf]; omega
    · obtain rfl : k = n := by omega
      have hq : (es.map Rn.pl).length = k := by have := HN.out; simp; omega
      have HQ : Hid (ringsB (es.map Rn.pl) = decide (1 ≤ (k : Int) ∧ (k : Int) ≤ 9)) := (by rw [ringsB_all (fun j hj => hall.out j (by omega)), hq] : _ = _)
      clear hq
      go_wp2_with fail
      refine (in_any (k : Int) 1 9 _).mono ?_
      rintro x w1 ⟨rfl, rfl⟩
      go_wp2_with fail
      go_ret
      exact ⟨by rw [HQ.out, Bool.decide_and]; rfl, hb.out⟩
end Go.Proofs.YtoahljkifikbaaaGreat


/- Lists of daemons, held against each other. Written by gen_gs.py. -/
namespace Go.Proofs.YtoahljkifikbaaaGreat
open Go.RowKit Pl
set_option linter.unusedVariables false
set_option linter.unusedSimpArgs false

end Go.Proofs.YtoahljkifikbaaaGreat


/- The law on DaemonNew. Written by gen_lawd.py. -/
namespace Go.Proofs.YtoahljkifikbaaaGreat
open Go.RowKit Pl
set_option linter.unusedVariables false
set_option linter.unusedSimpArgs false

/-- a daemon that has nothing but an Id. -/
def zDm (id : Int) : Dm := ⟨id, false, zMt, zMv, 0, 0, 0, [], zSv, [], zSv, [], zSv⟩
theorem zDm_s (id : Int) : DmS (zDm id) := ⟨mts_zero, by simp [zDm], by simp [zDm, Bus.tot], by simp [zDm, Evs.tot]⟩
set_option maxRecDepth 100000 in
set_option maxHeartbeats 2000000 in
theorem daemonNew_yes (id : Int) (w : World) (h : decide (1 ≤ id ∧ id ≤ 5) = true) :
    Calls Tryz.prog 48 #[.int .i64 id] w fun e w' => e = .returned (.tuple #[.agg #[.int .i64 id, .bool false, .int .i64 0, .int .i64 0, .slice none 0 0, .slice none 0 0, .slice none 0 0, .slice none 0 0, .int .i64 0, .int .i64 0, .int .i64 0, .int .i64 0, .int .i64 0, .int .i64 0, .int .i64 0, .int .i64 0, .int .i64 0, .slice none 0 0, .int .i64 0, .int .i64 0, .int .i64 0, .slice none 0 0, .slice none 0 0, .slice none 0 0], .bool true]) ∧ Below w.heap.size w w' := by
  have HZ : Hid (Bx (w.alloc (.cells #[.int .i64 0, .bool false, .int .i64 0, .int .i64 0, .slice none 0 0, .slice none 0 0, .slice none 0 0, .slice none 0 0, .int .i64 0, .int .i64 0, .int .i64 0, .int .i64 0, .int .i64 0, .int .i64 0, .int .i64 0, .int .i64 0, .int .i64 0, .slice none 0 0, .int .i64 0, .int .i64 0, .int .i64 0, .slice none 0 0, .slice none 0 0, .slice none 0 0] 54)) w.heap.size 54 [.int .i64 0, .bool false, .int .i64 0, .int .i64 0, .slice none 0 0, .slice none 0 0, .slice none 0 0, .slice none 0 0, .int .i64 0, .int .i64 0, .int .i64 0, .int .i64 0, .int .i64 0, .int .i64 0, .int .i64 0, .int .i64 0, .int .i64 0, .slice none 0 0, .int .i64 0, .int .i64 0, .int .i64 0, .slice none 0 0, .slice none 0 0, .slice none 0 0]) := Bx.new w 54 _
  have BW : Hid (Below w.heap.size w (w.alloc (.cells #[.int .i64 0, .bool false, .int .i64 0, .int .i64 0, .slice none 0 0, .slice none 0 0, .slice none 0 0, .slice none 0 0, .int .i64 0, .int .i64 0, .int .i64 0, .int .i64 0, .int .i64 0, .int .i64 0, .int .i64 0, .int .i64 0, .int .i64 0, .slice none 0 0, .int .i64 0, .int .i64 0, .int .i64 0, .slice none 0 0, .slice none 0 0, .slice none 0 0] 54))) := (Below.refl _ _).alloc (Nat.le_refl _) _
  go_enter Tryz.func48, Tryz.ntmps48
  go_wp2_with fail
  generalize w.alloc (.cells #[.int .i64 0, .bool false, .int .i64 0, .int .i64 0, .slice none 0 0, .slice none 0 0, .slice none 0 0, .slice none 0 0, .int .i64 0, .int .i64 0, .int .i64 0, .int .i64 0, .int .i64 0, .int .i64 0, .int .i64 0, .int .i64 0, .int .i64 0, .slice none 0 0, .int .i64 0, .int .i64 0, .int .i64 0, .slice none 0 0, .slice none 0 0, .slice none 0 0] 54) = W at *
  refine (within_b id 1 5 _).mono ?_
  rintro e w1 ⟨rfl, b⟩
  have HZ : Hid (Bx w1 w.heap.size 54 [.int .i64 0, .bool false, .int .i64 0, .int .i64 0, .slice none 0 0, .slice none 0 0, .slice none 0 0, .slice none 0 0, .int .i64 0, .int .i64 0, .int .i64 0, .int .i64 0, .int .i64 0, .int .i64 0, .int .i64 0, .int .i64 0, .int .i64 0, .slice none 0 0, .int .i64 0, .int .i64 0, .int .i64 0, .slice none 0 0, .slice none 0 0, .slice none 0 0]) := HZ.out.later b
  have BW : Hid (Below w.heap.size w w1) := bl_next BW.out b
  clear b
  rw [h]
  go_wp2_with (first | (with_reducible refine wpList_haltS 54 _ _ rfl ?_))
  refine Stp.go ?_
  refine wpList_stB rfl 54 _ _ rfl w.heap.size 0 rfl 54 _ HZ.out [.int .i64 id, .bool false, .int .i64 0, .int .i64 0, .slice none 0 0, .slice none 0 0, .slice none 0 0, .slice none 0 0, .int .i64 0, .int .i64 0, .int .i64 0, .int .i64 0, .int .i64 0, .int .i64 0, .int .i64 0, .int .i64 0, .int .i64 0, .slice none 0 0, .int .i64 0, .int .i64 0, .int .i64 0, .slice none 0 0, .slice none 0 0, .slice none 0 0] rfl (by simp) Tryz.sizeDa rfl [.int .i64 id, .bool false, .int .i64 0, .int .i64 0, .slice none 0 0, .slice none 0 0, .slice none 0 0, .slice none 0 0, .int .i64 0, .int .i64 0, .int .i64 0, .int .i64 0, .int .i64 0, .int .i64 0, .int .i64 0, .int .i64 0, .int .i64 0, .slice none 0 0, .int .i64 0, .int .i64 0, .int .i64 0, .slice none 0 0, .slice none 0 0, .slice none 0 0] rfl ?_
  intro w2 OB TB
  have BW : Hid (Below w.heap.size w w2) := BW.out.trans (TB.below (Nat.le_refl _))
  clear TB HZ
  go_wp2_with fail
  refine bodyPost_ret (results_bt Tryz.results48 w.heap.size 54 [.int .i64 id, .bool false, .int .i64 0, .int .i64 0, .slice none 0 0, .slice none 0 0, .slice none 0 0, .slice none 0 0, .int .i64 0, .int .i64 0, .int .i64 0, .int .i64 0, .int .i64 0, .int .i64 0, .int .i64 0, .int .i64 0, .int .i64 0, .slice none 0 0, .int .i64 0, .int .i64 0, .int .i64 0, .slice none 0 0, .slice none 0 0, .slice none 0 0] _ rfl OB Tryz.underlying54 rfl Tryz.sizeDa) rfl ?_
  exact ⟨rfl, BW.out⟩
set_option maxRecDepth 100000 in
set_option maxHeartbeats 2000000 in
theorem spDaemonNew_yes (id : Int) (w : World) (h : decide (1 ≤ id ∧ id ≤ 5) = true) :
    Calls Tryz.prog 51 #[.int .i64 id] w fun e w' => e = .returned (.tuple #[.agg #[.int .i64 id, .bool false, .int .i64 0, .int .i64 0, .slice none 0 0, .slice none 0 0, .slice none 0 0, .slice none 0 0, .int .i64 0, .int .i64 0, .int .i64 0, .int .i64 0, .int .i64 0, .int .i64 0, .int .i64 0, .int .i64 0, .int .i64 0, .slice none 0 0, .int .i64 0, .int .i64 0, .int .i64 0, .slice none 0 0, .slice none 0 0, .slice none 0 0], .bool true]) ∧ Below w.heap.size w w' := by
  have HZ : Hid (Bx (w.alloc (.cells #[.int .i64 0, .bool false, .int .i64 0, .int .i64 0, .slice none 0 0, .slice none 0 0, .slice none 0 0, .slice none 0 0, .int .i64 0, .int .i64 0, .int .i64 0, .int .i64 0, .int .i64 0, .int .i64 0, .int .i64 0, .int .i64 0, .int .i64 0, .slice none 0 0, .int .i64 0, .int .i64 0, .int .i64 0, .slice none 0 0, .slice none 0 0, .slice none 0 0] 54)) w.heap.size 54 [.int .i64 0, .bool false, .int .i64 0, .int .i64 0, .slice none 0 0, .slice none 0 0, .slice none 0 0, .slice none 0 0, .int .i64 0, .int .i64 0, .int .i64 0, .int .i64 0, .int .i64 0, .int .i64 0, .int .i64 0, .int .i64 0, .int .i64 0, .slice none 0 0, .int .i64 0, .int .i64 0, .int .i64 0, .slice none 0 0, .slice none 0 0, .slice none 0 0]) := Bx.new w 54 _
  have BW : Hid (Below w.heap.size w (w.alloc (.cells #[.int .i64 0, .bool false, .int .i64 0, .int .i64 0, .slice none 0 0, .slice none 0 0, .slice none 0 0, .slice none 0 0, .int .i64 0, .int .i64 0, .int .i64 0, .int .i64 0, .int .i64 0, .int .i64 0, .int .i64 0, .int .i64 0, .int .i64 0, .slice none 0 0, .int .i64 0, .int .i64 0, .int .i64 0, .slice none 0 0, .slice none 0 0, .slice none 0 0] 54))) := (Below.refl _ _).alloc (Nat.le_refl _) _
  go_enter Tryz.func51, Tryz.ntmps51
  go_wp2_with fail
  generalize w.alloc (.cells #[.int .i64 0, .bool false, .int .i64 0, .int .i64 0, .slice none 0 0, .slice none 0 0, .slice none 0 0, .slice none 0 0, .int .i64 0, .int .i64 0, .int .i64 0, .int .i64 0, .int .i64 0, .int .i64 0, .int .i64 0, .int .i64 0, .int .i64 0, .slice none 0 0, .int .i64 0, .int .i64 0, .int .i64 0, .slice none 0 0, .slice none 0 0, .slice none 0 0] 54) = W at *
  refine (in_b id 1 5 _).mono ?_
  rintro e w1 ⟨rfl, b⟩
  have HZ : Hid (Bx w1 w.heap.size 54 [.int .i64 0, .bool false, .int .i64 0, .int .i64 0, .slice none 0 0, .slice none 0 0, .slice none 0 0, .slice none 0 0, .int .i64 0, .int .i64 0, .int .i64 0, .int .i64 0, .int .i64 0, .int .i64 0, .int .i64 0, .int .i64 0, .int .i64 0, .slice none 0 0, .int .i64 0, .int .i64 0, .int .i64 0, .slice none 0 0, .slice none 0 0, .slice none 0 0]) := HZ.out.later b
  have BW : Hid (Below w.heap.size w w1) := bl_next BW.out b
  clear b
  rw [h]
  go_wp2_with (first | (with_reducible refine wpList_haltS 54 _ _ rfl ?_))
  refine Stp.go ?_
  refine wpList_stB rfl 54 _ _ rfl w.heap.size 0 rfl 54 _ HZ.out [.int .i64 id, .bool false, .int .i64 0, .int .i64 0, .slice none 0 0, .slice none 0 0, .slice none 0 0, .slice none 0 0, .int .i64 0, .int .i64 0, .int .i64 0, .int .i64 0, .int .i64 0, .int .i64 0, .int .i64 0, .int .i64 0, .int .i64 0, .slice none 0 0, .int .i64 0, .int .i64 0, .int .i64 0, .slice none 0 0, .slice none 0 0, .slice none 0 0] rfl (by simp) Tryz.sizeDa rfl [.int .i64 id, .bool false, .int .i64 0, .int .i64 0, .slice none 0 0, .slice none 0 0, .slice none 0 0, .slice none 0 0, .int .i64 0, .int .i64 0, .int .i64 0, .int .i64 0, .int .i64 0, .int .i64 0, .int .i64 0, .int .i64 0, .int .i64 0, .slice none 0 0, .int .i64 0, .int .i64 0, .int .i64 0, .slice none 0 0, .slice none 0 0, .slice none 0 0] rfl ?_
  intro w2 OB TB
  have BW : Hid (Below w.heap.size w w2) := BW.out.trans (TB.below (Nat.le_refl _))
  clear TB HZ
  go_wp2_with fail
  refine bodyPost_ret (results_bt Tryz.results51 w.heap.size 54 [.int .i64 id, .bool false, .int .i64 0, .int .i64 0, .slice none 0 0, .slice none 0 0, .slice none 0 0, .slice none 0 0, .int .i64 0, .int .i64 0, .int .i64 0, .int .i64 0, .int .i64 0, .int .i64 0, .int .i64 0, .int .i64 0, .int .i64 0, .slice none 0 0, .int .i64 0, .int .i64 0, .int .i64 0, .slice none 0 0, .slice none 0 0, .slice none 0 0] _ rfl OB Tryz.underlying54 rfl Tryz.sizeDa) rfl ?_
  exact ⟨rfl, BW.out⟩
end Go.Proofs.YtoahljkifikbaaaGreat


/- Lists of daemons that have nothing but an Id. Written by gen_dn.py. -/
namespace Go.Proofs.YtoahljkifikbaaaGreat
open Go.RowKit Pl
set_option linter.unusedVariables false
set_option linter.unusedSimpArgs false

/-- a daemon that has nothing but an Id. -/
structure Bd where
  id : Int
def Bd.row (b : Bd) : List Value := [.int .i64 b.id, .bool false, .int .i64 0, .int .i64 0, .slice none 0 0, .slice none 0 0, .slice none 0 0, .slice none 0 0, .int .i64 0, .int .i64 0, .int .i64 0, .int .i64 0, .int .i64 0, .int .i64 0, .int .i64 0, .int .i64 0, .int .i64 0, .slice none 0 0, .int .i64 0, .int .i64 0, .int .i64 0, .slice none 0 0, .slice none 0 0, .slice none 0 0]
def BdsO (w : World) (B : Nat) (s : Sv) (es : List Bd) : Prop := SlN w 54 24 B s.v (es.map Bd.row)
theorem BdsO.keep {w w' : World} {B : Nat} {s : Sv} {es : List Bd} (h : BdsO w B s es) (hk : ∀ b, s.v.ownBlock = some b → b < w.heap.size → w'.heap[b]? = w.heap[b]?) : BdsO w' B s es := SlN.keep h hk
theorem BdsO.below {w w' : World} {B : Nat} {s : Sv} {es : List Bd} (h : BdsO w B s es) (b : Below w.heap.size w w') : BdsO w' B s es := SlN.below h b
theorem BdsO.down {w : World} {B B' : Nat} {s : Sv} {es : List Bd} (h : BdsO w B s es) (hB : B' ≤ B) : BdsO w B' s es := SlN.down h hB
theorem BdsO.nil (w : World) (B : Nat) : BdsO w B zSv [] := SlN.nil _ _ _ _
end Go.Proofs.YtoahljkifikbaaaGreat


/- A new world: the specification's WorldNew. Written by gen_wn15.py. -/
namespace Go.Proofs.YtoahljkifikbaaaGreat
open Go.RowKit Pl
set_option linter.unusedVariables false
set_option linter.unusedSimpArgs false

/-- a world of new rings: its rings, and daemons that have nothing but an Id. -/
structure Wn where
  rs : Sv
  rl : List Rn
  ds : Sv
  dl : List Bd
structure WnO (w : World) (B : Nat) (x : Wn) : Prop where
  r : RnsO w B x.rs x.rl
  d : BdsO w B x.ds x.dl
def five : List Bd := [⟨1⟩, ⟨2⟩, ⟨3⟩, ⟨4⟩, ⟨5⟩]
theorem WnO.keep {w w' : World} {B : Nat} {x : Wn} (h : WnO w B x) (hk : ∀ b, B ≤ b → b < w.heap.size → w'.heap[b]? = w.heap[b]?) : WnO w' B x := ⟨h.r.keep hk, h.d.keep fun b hb hl => hk b (SlN.lt h.d b hb).1 hl⟩
theorem WnO.below {w w' : World} {B : Nat} {x : Wn} (h : WnO w B x) (b : Below w.heap.size w w') : WnO w' B x := h.keep fun k _ hk => b.block k hk
theorem WnO.down {w : World} {B B' : Nat} {x : Wn} (h : WnO w B x) (hB : B' ≤ B) : WnO w B' x := ⟨h.r.down hB, h.d.down hB⟩
def fst (k : Nat) : List Bd := five.take k
theorem fst_len (k : Nat) (h : k ≤ 5) : (fst k).length = k := by unfold fst; rw [List.length_take]; show min k 5 = k; omega
theorem fst_5 : fst 5 = five := rfl
theorem fst_snoc (k : Nat) (h : k < 5) : (fst k).map Bd.row ++ [(⟨(k : Int) + 1⟩ : Bd).row] = (fst (k + 1)).map Bd.row := by
  match k, h with
  | 0, _ => rfl
  | 1, _ => rfl
  | 2, _ => rfl
  | 3, _ => rfl
  | 4, _ => rfl
theorem Tryz.sizeWo : (Tryz.prog.info? 32).map (·.size) = some 4 := by kernel_rfl
theorem Tryz.sizeRs : (Tryz.prog.info? 24).map (·.size) = some 1 := by kernel_rfl
theorem Tryz.sizeDs : (Tryz.prog.info? 28).map (·.size) = some 1 := by kernel_rfl
theorem Tryz.infoDa : (Tryz.prog.info? 54).map (fun i => (i.zero, i.size, i.bytes)) = some (some (.agg #[.int .i64 0, .bool false, .int .i64 0, .int .i64 0, .slice none 0 0, .slice none 0 0, .slice none 0 0, .slice none 0 0, .int .i64 0, .int .i64 0, .int .i64 0, .int .i64 0, .int .i64 0, .int .i64 0, .int .i64 0, .int .i64 0, .int .i64 0, .slice none 0 0, .int .i64 0, .int .i64 0, .int .i64 0, .slice none 0 0, .slice none 0 0, .slice none 0 0]), 24, 320) := by kernel_rfl
set_option maxRecDepth 100000 in
set_option maxHeartbeats 2000000 in
theorem spWorldNew_no (s : Sv) (es : List Rn) (w : World) (hx : Hid (RnsR w s es)) (hl : es.length ≤ 1048576) (hs : Hid (∀ e ∈ es, e.S)) (hr : Hid (ringsB (es.map Rn.pl) = false)) :
    Calls Tryz.prog 15 #[.slice s.a s.n s.c] w fun x w' => x = .returned (.tuple #[.agg #[.slice none 0 0, .slice none 0 0, .slice none 0 0, .slice none 0 0], .bool false]) ∧ Below w.heap.size w w' := by
  have EB : Hid (Bx (w.alloc (.cells #[.slice none 0 0, .slice none 0 0, .slice none 0 0, .slice none 0 0] 32)) w.heap.size 32 [.slice none 0 0, .slice none 0 0, .slice none 0 0, .slice none 0 0]) := Bx.new w 32 _
  have BW : Hid (Below w.heap.size w (w.alloc (.cells #[.slice none 0 0, .slice none 0 0, .slice none 0 0, .slice none 0 0] 32))) := (Below.refl _ _).alloc (Nat.le_refl _) _
  have HX : Hid (RnsR (w.alloc (.cells #[.slice none 0 0, .slice none 0 0, .slice none 0 0, .slice none 0 0] 32)) s es) := hx.out.stays BW.out
  clear hx
  go_enter Tryz.func15, Tryz.ntmps15
  go_wp2_with fail
  generalize w.alloc (.cells #[.slice none 0 0, .slice none 0 0, .slice none 0 0, .slice none 0 0] 32) = W at *
  refine (spRingsOk_any s es _ HX hl hs).mono ?_
  rintro x w1 ⟨rfl, b⟩
  rw [hr.out]
  have EB : Hid (Bx w1 w.heap.size 32 [.slice none 0 0, .slice none 0 0, .slice none 0 0, .slice none 0 0]) := EB.out.later b
  have BW : Hid (Below w.heap.size w w1) := bl_next BW.out b
  clear b HX hr
  go_wp2_with (first | (with_reducible refine wpList_haltS 32 _ _ rfl ?_))
  refine Stp.go ?_
  refine wpList_stB rfl 32 _ _ rfl w.heap.size 0 rfl 32 _ EB.out [.slice none 0 0, .slice none 0 0, .slice none 0 0, .slice none 0 0] rfl (by simp) Tryz.sizeWo rfl [.slice none 0 0, .slice none 0 0, .slice none 0 0, .slice none 0 0] rfl ?_
  intro w2 OB TB
  have EB : Hid (Bx w2 w.heap.size 32 [.slice none 0 0, .slice none 0 0, .slice none 0 0, .slice none 0 0]) := OB
  have BW : Hid (Below w.heap.size w w2) := BW.out.trans (TB.below (Nat.le_refl _))
  clear TB OB
  go_wp2_with fail
  refine bodyPost_ret (results_bt Tryz.results15 w.heap.size 32 [.slice none 0 0, .slice none 0 0, .slice none 0 0, .slice none 0 0] _ rfl EB.out Tryz.underlying32 rfl Tryz.sizeWo) rfl ?_
  exact ⟨rfl, BW.out⟩
set_option maxRecDepth 100000 in
set_option maxHeartbeats 8000000 in
theorem spWorldNew_yes (s : Sv) (es : List Rn) (w : World) (hx : Hid (RnsR w s es)) (hl : es.length ≤ 1048576) (hs : Hid (∀ e ∈ es, e.S)) (hr : Hid (ringsB (es.map Rn.pl) = true)) :
    Calls Tryz.prog 15 #[.slice s.a s.n s.c] w fun e w' => ∃ x : Wn, e = .returned (.tuple #[.agg #[.slice x.rs.a x.rs.n x.rs.c, .slice x.ds.a x.ds.n x.ds.c, .slice none 0 0, .slice none 0 0], .bool true]) ∧ x.rl.map Rn.pl = es.map Rn.pl ∧ x.dl = five ∧ WnO w' w.heap.size x ∧ Below w.heap.size w w' := by
  have EB : Hid (Bx (w.alloc (.cells #[.slice none 0 0, .slice none 0 0, .slice none 0 0, .slice none 0 0] 32)) w.heap.size 32 [.slice none 0 0, .slice none 0 0, .slice none 0 0, .slice none 0 0]) := Bx.new w 32 _
  have BW : Hid (Below w.heap.size w (w.alloc (.cells #[.slice none 0 0, .slice none 0 0, .slice none 0 0, .slice none 0 0] 32))) := (Below.refl _ _).alloc (Nat.le_refl _) _
  have HX : Hid (RnsR (w.alloc (.cells #[.slice none 0 0, .slice none 0 0, .slice none 0 0, .slice none 0 0] 32)) s es) := hx.out.stays BW.out
  clear hx
  go_enter Tryz.func15, Tryz.ntmps15
  go_wp2_with fail
  generalize w.alloc (.cells #[.slice none 0 0, .slice none 0 0, .slice none 0 0, .slice none 0 0] 32) = W at *
  have zW : w.heap.size < W.heap.size := EB.out.lt
  refine (spRingsOk_any s es _ HX hl hs).mono ?_
  rintro e w1 ⟨rfl, b⟩
  have z_w1 : W.heap.size ≤ w1.heap.size := b.size
  have EB : Hid (Bx w1 w.heap.size 32 [.slice none 0 0, .slice none 0 0, .slice none 0 0, .slice none 0 0]) := EB.out.later b
  have BW : Hid (Below w.heap.size w w1) := bl_next BW.out b
  have HX : Hid (RnsR w1 s es) := HX.out.stays b
  clear b
  rw [hr.out]
  go_wp2_with fail
  refine (lRings_any s es _ HX hl hs).mono ?_
  rintro e w2 ⟨u, cs, rfl, pl, ro, b⟩
  have RO : Hid (RnsO w2 w1.heap.size u cs) := ro
  have PL : Hid (cs.map Rn.pl = es.map Rn.pl) := pl
  clear ro pl
  have z_w2 : w1.heap.size ≤ w2.heap.size := b.size
  have EB : Hid (Bx w2 w.heap.size 32 [.slice none 0 0, .slice none 0 0, .slice none 0 0, .slice none 0 0]) := EB.out.later b
  have BW : Hid (Below w.heap.size w w2) := bl_next BW.out b
  have HX : Hid (RnsR w2 s es) := HX.out.stays b
  clear b
  clear HX
  have RL : Hid (∀ b, RnsOwn u cs b → b < w2.heap.size) := fun b hb => (RO.out.olt hb).2
  have hz : Hid (Bx (w2.alloc (.cells #[.slice none 0 0, .slice none 0 0, .slice none 0 0, .slice none 0 0] 32)) w2.heap.size 32 [.slice none 0 0, .slice none 0 0, .slice none 0 0, .slice none 0 0]) := Bx.new w2 32 _
  go_wp2_with (first | (refine wpList_stB rfl 32 _ _ rfl w2.heap.size 0 rfl 32 _ hz.out [.slice u.a u.n u.c, .slice none 0 0, .slice none 0 0, .slice none 0 0] rfl (by simp) Tryz.sizeWo rfl [.slice u.a u.n u.c, .slice none 0 0, .slice none 0 0, .slice none 0 0] rfl ?_; intro w3 OB TB; have b : Below w2.heap.size w2 w3 := ((Below.refl _ _).alloc (Nat.le_refl _) _).trans (TB.below (Nat.le_refl _)); have WB : Hid (Bx w3 w2.heap.size 32 [.slice u.a u.n u.c, .slice none 0 0, .slice none 0 0, .slice none 0 0]) := OB; have z_w3 : w2.heap.size ≤ w3.heap.size := b.size; have EB : Hid (Bx w3 w.heap.size 32 [.slice none 0 0, .slice none 0 0, .slice none 0 0, .slice none 0 0]) := EB.out.later b; have BW : Hid (Below w.heap.size w w3) := bl_next BW.out b; have RO : Hid (RnsO w3 w1.heap.size u cs) := RO.out.below b; clear OB TB b; refine Stp.here ?_))
  refine Stp.go ?_
  clear hz
  have zl_WB : w2.heap.size < w3.heap.size := WB.out.lt
  generalize hg_WB : w2.heap.size = gWB at *
  have zWB : w1.heap.size ≤ gWB ∧ gWB < w3.heap.size := by have := WB.out.lt; omega
  have RG : Hid (∀ b, RnsOwn u cs b → b ≠ gWB) := fun b hb => by have := RL.out b hb; omega
  go_wp2_with fail
  go_loopw [5] (fun i wr => ∃ (j : Nat) (t : Sv), j ≤ 5 ∧ i = .int .i64 ((j : Int) + 1) ∧ Hid (Bx wr gWB 32 [.slice u.a u.n u.c, .slice t.a t.n t.c, .slice none 0 0, .slice none 0 0]) ∧ Hid (BdsO wr w3.heap.size t (fst j)) ∧ Hid (KeepR gWB w3.heap.size w3 wr)) (fun i _ => 6 - (intOf i).toNat)
  case atStart => exact ⟨0, zSv, by omega, rfl, WB, BdsO.nil _ _, KeepR.refl _ _ _⟩
  case round =>
    obtain ⟨j, t, hj, rfl, OR, LR, KR⟩ := hrel
    have zr : w3.heap.size ≤ wr.heap.size := KR.out.size
    by_cases hlt : j < 5
    · skip
      have i1 : (j : Int) + 1 ≤ 5 := by omega
      have RLt : Hid (∀ b, t.v.ownBlock = some b → b < wr.heap.size ∧ w3.heap.size ≤ b) := fun b hb => ⟨(SlN.lt LR.out b hb).2, (SlN.lt LR.out b hb).1⟩
      have HLEN : Hid (((fst j).map Bd.row).length ≤ 1048576) := (by rw [List.length_map, fst_len j (by omega)]; omega : _ ≤ _)
      go_wp2_with fail
      refine (spDaemonNew_yes ((j : Int) + 1) _ (by simp; omega)).mono ?_
      rintro e v1 ⟨rfl, b⟩
      have z_v1 : wr.heap.size ≤ v1.heap.size := b.size
      have OR : Hid (Bx v1 gWB 32 [.slice u.a u.n u.c, .slice t.a t.n t.c, .slice none 0 0, .slice none 0 0]) := OR.out.later b
      have LR : Hid (BdsO v1 w3.heap.size t (fst j)) := LR.out.below b
      have KR : Hid (KeepR gWB w3.heap.size w3 v1) := KR.out.belowN ((b).mono (by omega))
      clear b
      have hz : Hid (Bx (v1.alloc (.cells #[.int .i64 0, .bool false, .int .i64 0, .int .i64 0, .slice none 0 0, .slice none 0 0, .slice none 0 0, .slice none 0 0, .int .i64 0, .int .i64 0, .int .i64 0, .int .i64 0, .int .i64 0, .int .i64 0, .int .i64 0, .int .i64 0, .int .i64 0, .slice none 0 0, .int .i64 0, .int .i64 0, .int .i64 0, .slice none 0 0, .slice none 0 0, .slice none 0 0] 54)) v1.heap.size 54 [.int .i64 0, .bool false, .int .i64 0, .int .i64 0, .slice none 0 0, .slice none 0 0, .slice none 0 0, .slice none 0 0, .int .i64 0, .int .i64 0, .int .i64 0, .int .i64 0, .int .i64 0, .int .i64 0, .int .i64 0, .int .i64 0, .int .i64 0, .slice none 0 0, .int .i64 0, .int .i64 0, .int .i64 0, .slice none 0 0, .slice none 0 0, .slice none 0 0]) := Bx.new v1 54 _
      go_wp2_with (first | (refine wpList_stB rfl 54 _ _ rfl v1.heap.size 0 rfl 54 _ hz.out [.int .i64 ((j : Int) + 1), .bool false, .int .i64 0, .int .i64 0, .slice none 0 0, .slice none 0 0, .slice none 0 0, .slice none 0 0, .int .i64 0, .int .i64 0, .int .i64 0, .int .i64 0, .int .i64 0, .int .i64 0, .int .i64 0, .int .i64 0, .int .i64 0, .slice none 0 0, .int .i64 0, .int .i64 0, .int .i64 0, .slice none 0 0, .slice none 0 0, .slice none 0 0] rfl (by simp) Tryz.sizeDa rfl [.int .i64 ((j : Int) + 1), .bool false, .int .i64 0, .int .i64 0, .slice none 0 0, .slice none 0 0, .slice none 0 0, .slice none 0 0, .int .i64 0, .int .i64 0, .int .i64 0, .int .i64 0, .int .i64 0, .int .i64 0, .int .i64 0, .int .i64 0, .int .i64 0, .slice none 0 0, .int .i64 0, .int .i64 0, .int .i64 0, .slice none 0 0, .slice none 0 0, .slice none 0 0] rfl ?_; intro v2 OB TB; have b : Below v1.heap.size v1 v2 := ((Below.refl _ _).alloc (Nat.le_refl _) _).trans (TB.below (Nat.le_refl _)); have VB : Hid (Bx v2 v1.heap.size 54 [.int .i64 ((j : Int) + 1), .bool false, .int .i64 0, .int .i64 0, .slice none 0 0, .slice none 0 0, .slice none 0 0, .slice none 0 0, .int .i64 0, .int .i64 0, .int .i64 0, .int .i64 0, .int .i64 0, .int .i64 0, .int .i64 0, .int .i64 0, .int .i64 0, .slice none 0 0, .int .i64 0, .int .i64 0, .int .i64 0, .slice none 0 0, .slice none 0 0, .slice none 0 0]) := OB; have z_v2 : v1.heap.size ≤ v2.heap.size := b.size; have OR : Hid (Bx v2 gWB 32 [.slice u.a u.n u.c, .slice t.a t.n t.c, .slice none 0 0, .slice none 0 0]) := OR.out.later b; have LR : Hid (BdsO v2 w3.heap.size t (fst j)) := LR.out.below b; have KR : Hid (KeepR gWB w3.heap.size w3 v2) := KR.out.belowN ((b).mono (by omega)); clear OB TB b; refine Stp.here ?_))
      refine Stp.go ?_
      clear hz
      have zl_VB : v1.heap.size < v2.heap.size := VB.out.lt
      generalize hg_VB : v1.heap.size = gVB at *
      have c1 := OR.out.cell 1
      simp only [List.getElem?_cons_succ, List.getElem?_cons_zero] at c1
      go_wp2_with (first | (refine wpList_ldG rfl 54 _ rfl gVB 0 rfl 54 _ VB.out [.int .i64 ((j : Int) + 1), .bool false, .int .i64 0, .int .i64 0, .slice none 0 0, .slice none 0 0, .slice none 0 0, .slice none 0 0, .int .i64 0, .int .i64 0, .int .i64 0, .int .i64 0, .int .i64 0, .int .i64 0, .int .i64 0, .int .i64 0, .int .i64 0, .slice none 0 0, .int .i64 0, .int .i64 0, .int .i64 0, .slice none 0 0, .slice none 0 0, .slice none 0 0] rfl _ Tryz.underlying54 rfl Tryz.sizeDa ?_) | (with_reducible refine wpList_haltA _ _ _ rfl ?_))
      refine Stp.go ?_
      clear c1
      refine wpList_pushN rfl _ _ 28 rfl (.agg #[.int .i64 0, .bool false, .int .i64 0, .int .i64 0, .slice none 0 0, .slice none 0 0, .slice none 0 0, .slice none 0 0, .int .i64 0, .int .i64 0, .int .i64 0, .int .i64 0, .int .i64 0, .int .i64 0, .int .i64 0, .int .i64 0, .int .i64 0, .slice none 0 0, .int .i64 0, .int .i64 0, .int .i64 0, .slice none 0 0, .slice none 0 0, .slice none 0 0]) 320 Tryz.underlying28 Tryz.infoDa rfl (by omega) w3.heap.size _ _ rfl (show SlN v2 54 24 w3.heap.size (.slice t.a t.n t.c) ((fst j).map Bd.row) from LR.out) [.int .i64 ((j : Int) + 1), .bool false, .int .i64 0, .int .i64 0, .slice none 0 0, .slice none 0 0, .slice none 0 0, .slice none 0 0, .int .i64 0, .int .i64 0, .int .i64 0, .int .i64 0, .int .i64 0, .int .i64 0, .int .i64 0, .int .i64 0, .int .i64 0, .slice none 0 0, .int .i64 0, .int .i64 0, .int .i64 0, .slice none 0 0, .slice none 0 0, .slice none 0 0] rfl rfl rfl HLEN.out (by omega) ?_
      intro v6 w6 O6 g6 b6 _
      obtain ⟨s6, hs6, hq6⟩ := O6.form
      subst hs6
      clear hq6
      have L6 : Hid (BdsO w6 w3.heap.size s6 (fst (j + 1))) := by have h := fst_snoc j hlt; unfold BdsO; rw [← h]; exact O6
      have zs6 : v2.heap.size ≤ w6.heap.size := by have := g6.size; simpa using (Nat.le_trans (by simp) this)
      clear O6
      have OR : Hid (Bx w6 gWB 32 [.slice u.a u.n u.c, .slice t.a t.n t.c, .slice none 0 0, .slice none 0 0]) := OR.out.grown g6 (fun e => by have := (RLt.out _ e.symm).2; omega)
      have KR : Hid (KeepR gWB w3.heap.size w3 w6) := KR.out.belowN b6
      clear g6 b6 VB LR
      go_wp2_with (first | (with_reducible refine wpList_haltS 28 _ _ rfl ?_))
      refine Stp.go ?_
      refine wpList_st1 rfl 28 _ _ rfl gWB 1 rfl 32 _ OR.out (.slice s6.a s6.n s6.c) rfl (by simp) rfl Tryz.sizeDs [.slice u.a u.n u.c, .slice s6.a s6.n s6.c, .slice none 0 0, .slice none 0 0] rfl ?_
      intro w7 OB TB
      have z_w7 : w6.heap.size ≤ w7.heap.size := Nat.le_of_eq TB.size.symm
      have L6 : Hid (BdsO w7 w3.heap.size s6 (fst (j + 1))) := L6.out.keep fun b hb _ => TB.block b (by have := (SlN.lt L6.out b hb).1; omega)
      have KR : Hid (KeepR gWB w3.heap.size w3 w7) := KR.out.turn TB
      have OR : Hid (Bx w7 gWB 32 [.slice u.a u.n u.c, .slice s6.a s6.n s6.c, .slice none 0 0, .slice none 0 0]) := OB
      clear OB TB
      go_wp2_with fail
      go_roundw
      case rel => exact ⟨j + 1, s6, by omega, by go_num, OR, L6, KR⟩
      case measure => simp [intOf]; omega
    · skip
      obtain rfl : j = 5 := by omega
      have EB : Hid (Bx wr w.heap.size 32 [.slice none 0 0, .slice none 0 0, .slice none 0 0, .slice none 0 0]) := EB.out.kr KR.out (by omega) (by omega)
      have RO : Hid (RnsO wr w1.heap.size u cs) := RO.out.keepo fun b hb hl => KR.out.blk b hl (RG.out b hb)
      have BW : Hid (Below w.heap.size w wr) := BW.out.trans (KR.out.below (by omega) (by omega))
      clear KR
      go_wp2_with (first | (refine wpList_ldG rfl 32 _ rfl gWB 0 rfl 32 _ OR.out [.slice u.a u.n u.c, .slice t.a t.n t.c, .slice none 0 0, .slice none 0 0] rfl _ Tryz.underlying32 rfl Tryz.sizeWo ?_) | (with_reducible refine wpList_haltS 32 _ _ rfl ?_))
      refine Stp.go ?_
      refine wpList_stB rfl 32 _ _ rfl w.heap.size 0 rfl 32 _ EB.out [.slice u.a u.n u.c, .slice t.a t.n t.c, .slice none 0 0, .slice none 0 0] rfl (by simp) Tryz.sizeWo rfl [.slice u.a u.n u.c, .slice t.a t.n t.c, .slice none 0 0, .slice none 0 0] rfl ?_
      intro w8 OB TB
      have z_w8 : wr.heap.size ≤ w8.heap.size := Nat.le_of_eq TB.size.symm
      have OR : Hid (Bx w8 gWB 32 [.slice u.a u.n u.c, .slice t.a t.n t.c, .slice none 0 0, .slice none 0 0]) := OR.out.turn TB (by omega)
      have RO : Hid (RnsO w8 w1.heap.size u cs) := RO.out.keep fun b hb _ => TB.block b (by omega)
      have LR : Hid (BdsO w8 w3.heap.size t (fst 5)) := LR.out.keep fun b hb _ => TB.block b (by have := (SlN.lt LR.out b hb).1; omega)
      have BW : Hid (Below w.heap.size w w8) := BW.out.trans (TB.below (by omega))
      have EB : Hid (Bx w8 w.heap.size 32 [.slice u.a u.n u.c, .slice t.a t.n t.c, .slice none 0 0, .slice none 0 0]) := OB
      clear OB TB
      go_wp2_with fail
      refine bodyPost_ret (results_bt Tryz.results15 w.heap.size 32 [.slice u.a u.n u.c, .slice t.a t.n t.c, .slice none 0 0, .slice none 0 0] _ rfl EB.out Tryz.underlying32 rfl Tryz.sizeWo) rfl ?_
      exact ⟨⟨u, cs, t, fst 5⟩, rfl, PL.out, fst_5, ⟨RO.out.down (by omega), LR.out.down (by omega)⟩,  BW.out⟩
end Go.Proofs.YtoahljkifikbaaaGreat


/- A new world: the program's WorldNew. Written by gen_wn15.py. -/
namespace Go.Proofs.YtoahljkifikbaaaGreat
open Go.RowKit Pl
set_option linter.unusedVariables false
set_option linter.unusedSimpArgs false

set_option maxRecDepth 100000 in
set_option maxHeartbeats 2000000 in
theorem worldNew_no (s : Sv) (es : List Rn) (w : World) (hx : Hid (RnsR w s es)) (hl : es.length ≤ 1048576) (hs : Hid (∀ e ∈ es, e.S)) (hr : Hid (ringsB (es.map Rn.pl) = false)) :
    Calls Tryz.prog 14 #[.slice s.a s.n s.c] w fun x w' => x = .returned (.tuple #[.agg #[.slice none 0 0, .slice none 0 0, .slice none 0 0, .slice none 0 0], .bool false]) ∧ Below w.heap.size w w' := by
  have EB : Hid (Bx (w.alloc (.cells #[.slice none 0 0, .slice none 0 0, .slice none 0 0, .slice none 0 0] 32)) w.heap.size 32 [.slice none 0 0, .slice none 0 0, .slice none 0 0, .slice none 0 0]) := Bx.new w 32 _
  have BW : Hid (Below w.heap.size w (w.alloc (.cells #[.slice none 0 0, .slice none 0 0, .slice none 0 0, .slice none 0 0] 32))) := (Below.refl _ _).alloc (Nat.le_refl _) _
  have HX : Hid (RnsR (w.alloc (.cells #[.slice none 0 0, .slice none 0 0, .slice none 0 0, .slice none 0 0] 32)) s es) := hx.out.stays BW.out
  clear hx
  go_enter Tryz.func14, Tryz.ntmps14
  go_wp2_with fail
  generalize w.alloc (.cells #[.slice none 0 0, .slice none 0 0, .slice none 0 0, .slice none 0 0] 32) = W at *
  refine (ringsOk_any s es _ HX hl hs).mono ?_
  rintro x w1 ⟨rfl, b⟩
  rw [hr.out]
  have EB : Hid (Bx w1 w.heap.size 32 [.slice none 0 0, .slice none 0 0, .slice none 0 0, .slice none 0 0]) := EB.out.later b
  have BW : Hid (Below w.heap.size w w1) := bl_next BW.out b
  clear b HX hr
  go_wp2_with (first | (with_reducible refine wpList_haltS 32 _ _ rfl ?_))
  refine Stp.go ?_
  refine wpList_stB rfl 32 _ _ rfl w.heap.size 0 rfl 32 _ EB.out [.slice none 0 0, .slice none 0 0, .slice none 0 0, .slice none 0 0] rfl (by simp) Tryz.sizeWo rfl [.slice none 0 0, .slice none 0 0, .slice none 0 0, .slice none 0 0] rfl ?_
  intro w2 OB TB
  have EB : Hid (Bx w2 w.heap.size 32 [.slice none 0 0, .slice none 0 0, .slice none 0 0, .slice none 0 0]) := OB
  have BW : Hid (Below w.heap.size w w2) := BW.out.trans (TB.below (Nat.le_refl _))
  clear TB OB
  go_wp2_with fail
  refine bodyPost_ret (results_bt Tryz.results14 w.heap.size 32 [.slice none 0 0, .slice none 0 0, .slice none 0 0, .slice none 0 0] _ rfl EB.out Tryz.underlying32 rfl Tryz.sizeWo) rfl ?_
  exact ⟨rfl, BW.out⟩
/-- .. whose lists lie apart. -/
structure WnA (x : Wn) : Prop where
  r : RnsA x.rs x.rl
  d : ∀ y, RnsOwn x.rs x.rl y → x.ds.v.ownBlock ≠ some y
set_option maxRecDepth 100000 in
set_option maxHeartbeats 8000000 in
theorem worldNew_yes (s : Sv) (es : List Rn) (w : World) (hx : Hid (RnsR w s es)) (hl : es.length ≤ 1048576) (hs : Hid (∀ e ∈ es, e.S)) (hr : Hid (ringsB (es.map Rn.pl) = true)) :
    Calls Tryz.prog 14 #[.slice s.a s.n s.c] w fun e w' => ∃ x : Wn, e = .returned (.tuple #[.agg #[.slice x.rs.a x.rs.n x.rs.c, .slice x.ds.a x.ds.n x.ds.c, .slice none 0 0, .slice none 0 0], .bool true]) ∧ x.rl.map Rn.pl = es.map Rn.pl ∧ x.dl = five ∧ WnO w' w.heap.size x ∧ WnA x ∧ Below w.heap.size w w' := by
  obtain ⟨a, n, c0⟩ := s
  dsimp only
  have HN : Hid (n = es.length) := hx.out.1
  have hn : n ≤ 1048576 := by have := HN.out; omega
  have EB : Hid (Bx (w.alloc (.cells #[.slice none 0 0, .slice none 0 0, .slice none 0 0, .slice none 0 0] 32)) w.heap.size 32 [.slice none 0 0, .slice none 0 0, .slice none 0 0, .slice none 0 0]) := Bx.new w 32 _
  have BW : Hid (Below w.heap.size w (w.alloc (.cells #[.slice none 0 0, .slice none 0 0, .slice none 0 0, .slice none 0 0] 32))) := (Below.refl _ _).alloc (Nat.le_refl _) _
  go_enter Tryz.func14, Tryz.ntmps14
  go_wp2_with fail
  generalize w.alloc (.cells #[.slice none 0 0, .slice none 0 0, .slice none 0 0, .slice none 0 0] 32) = W at *
  have zW : w.heap.size < W.heap.size := EB.out.lt
  have HX : Hid (RnsR W ⟨a, n, c0⟩ es) := hx.out.stays BW.out
  refine (ringsOk_any ⟨a, n, c0⟩ es _ HX hl hs).mono ?_
  rintro e w1 ⟨rfl, b⟩
  have z_w1 : W.heap.size ≤ w1.heap.size := b.size
  have EB : Hid (Bx w1 w.heap.size 32 [.slice none 0 0, .slice none 0 0, .slice none 0 0, .slice none 0 0]) := EB.out.later b
  have BW : Hid (Below w.heap.size w w1) := bl_next BW.out b
  clear b
  rw [hr.out]
  clear HX hl
  have WB : Hid (Bx (w1.alloc (.cells #[.slice none 0 0, .slice none 0 0, .slice none 0 0, .slice none 0 0] 32)) w1.heap.size 32 [.slice none 0 0, .slice none 0 0, .slice none 0 0, .slice none 0 0]) := Bx.new w1 32 _
  have b : Below w1.heap.size w1 (w1.alloc (.cells #[.slice none 0 0, .slice none 0 0, .slice none 0 0, .slice none 0 0] 32)) := (Below.refl _ _).alloc (Nat.le_refl _) _
  have EB : Hid (Bx (w1.alloc (.cells #[.slice none 0 0, .slice none 0 0, .slice none 0 0, .slice none 0 0] 32)) w.heap.size 32 [.slice none 0 0, .slice none 0 0, .slice none 0 0, .slice none 0 0]) := EB.out.later b
  have BW : Hid (Below w.heap.size w (w1.alloc (.cells #[.slice none 0 0, .slice none 0 0, .slice none 0 0, .slice none 0 0] 32))) := bl_next BW.out b
  clear b
  go_wp2_with fail
  generalize w1.alloc (.cells #[.slice none 0 0, .slice none 0 0, .slice none 0 0, .slice none 0 0] 32) = w3 at *
  have zWB : w1.heap.size < w3.heap.size := WB.out.lt
  generalize hg_WB : w1.heap.size = gWB at *
  clear hg_WB
  go_loopw [16] (fun i wr => ∃ (j : Nat) (s : Sv) (cs : List Rn), j ≤ n ∧ i = .int .i64 j ∧ Hid (cs.length = j) ∧ Hid (cs.map Rn.pl = (es.take j).map Rn.pl) ∧ Hid (Bx wr gWB 32 [.slice s.a s.n s.c, .slice none 0 0, .slice none 0 0, .slice none 0 0]) ∧ Hid (RnsO wr w3.heap.size s cs) ∧ Hid (RnsUp cs) ∧ Hid (KeepR gWB w3.heap.size w3 wr)) (fun i _ => n - (intOf i).toNat)
  case atStart => exact ⟨0, zSv, [], Nat.zero_le _, rfl, rfl, rfl, WB, RnsO.nil _ _, ⟨fun e he => (by cases he), List.Pairwise.nil⟩, KeepR.refl _ _ _⟩
  case round =>
    obtain ⟨j, s, cs, hj, rfl, hcl, hpl, OR, LR, hup, KR⟩ := hrel
    have zr : w3.heap.size ≤ wr.heap.size := KR.out.size
    have HXr : Hid (RnsR wr ⟨a, n, c0⟩ es) := hx.out.stays (BW.out.trans (KR.out.below (by omega) (by omega)))
    by_cases hlt : j < n
    · skip
      have hlt2 : j < es.length := by have := HN.out; omega
      obtain ⟨g, off, ha, hg, _, hr⟩ := HXr.out.2.1 j (by simpa using hlt2)
      obtain ⟨e, he⟩ : ∃ e, e = es[j] := ⟨_, rfl⟩
      have hr2 : wr.rangeAt g (off + j * 2) e.row := by rw [he]; simpa using hr
      have HR : Hid (wr.rangeAt g (off + j * 2) [.int .i64 e.id, .slice e.s.a e.s.n e.s.c]) := hr2
      have HE : Hid (e = es[j]) := he
      have RR : Hid (RI wr e.s.v e.ms) := by rw [he]; exact HXr.out.2.2 _ (List.getElem_mem hlt2)
      have SS : Hid (e.ms.length ≤ 1048576) := by rw [he]; exact hs.out _ (List.getElem_mem hlt2)
      have ha : a = some ⟨g, off, none⟩ := ha
      subst ha
      have i0 : (0 : Int) ≤ (j : Int) := by omega
      have i1 : (j : Int) < (n : Int) := by omega
      have LT : Hid (∀ c ∈ cs, ∀ y, c.own y → y < wr.heap.size) := fun c hc y hy => ((LR.out.2 c hc).lt y hy).2
      have RL : Hid (∀ b, s.v.ownBlock = some b → b < wr.heap.size) := fun b hb => (LR.out.1.lt b hb).2
      have HLEN : Hid ((cs.map Rn.row).length + 1 ≤ 1048577) := (by have := hcl.out; simp; omega : _ ≤ _)
      clear hr hr2 he hg
      have hz : Hid (Bx (wr.alloc (.cells #[.int .i64 0, .slice none 0 0] 37)) wr.heap.size 37 [.int .i64 0, .slice none 0 0]) := Bx.new wr 37 _
      go_wp2_with (first | (refine wpList_ldN rfl 37 _ rfl g (off + j * 2) (by rfl) [.int .i64 e.id, .slice e.s.a e.s.n e.s.c] HR.out _ Tryz.underlying37 rfl Tryz.sizeRn ?_) | (refine wpList_stB rfl 37 _ _ rfl wr.heap.size 0 rfl 37 _ hz.out [.int .i64 e.id, .slice e.s.a e.s.n e.s.c] rfl (by simp) Tryz.sizeRn rfl [.int .i64 e.id, .slice e.s.a e.s.n e.s.c] rfl ?_; intro v1 OB TB; have b : Below wr.heap.size wr v1 := ((Below.refl _ _).alloc (Nat.le_refl _) _).trans (TB.below (Nat.le_refl _)); have VB : Hid (Bx v1 wr.heap.size 37 [.int .i64 e.id, .slice e.s.a e.s.n e.s.c]) := OB; have z_v1 : wr.heap.size ≤ v1.heap.size := b.size; have OR : Hid (Bx v1 gWB 32 [.slice s.a s.n s.c, .slice none 0 0, .slice none 0 0, .slice none 0 0]) := OR.out.later b; have LR : Hid (RnsO v1 w3.heap.size s cs) := LR.out.below b; have RR : Hid (RI v1 e.s.v e.ms) := RR.out.stays b; have KR : Hid (KeepR gWB w3.heap.size w3 v1) := KR.out.belowN ((b).mono (by omega)); clear OB TB b; refine Stp.here ?_))
      refine Stp.go ?_
      clear hz
      have zl_VB : wr.heap.size < v1.heap.size := VB.out.lt
      generalize hg_VB : wr.heap.size = gVB at *
      clear HR
      go_wp2_with fail
      have c : Below v1.heap.size v1 v1.drew := (Below.refl _ _).drew
      have BD : Hid (Bx v1.drew gWB 32 [.slice s.a s.n s.c, .slice none 0 0, .slice none 0 0, .slice none 0 0]) := OR.out.later c
      have VD : Hid (Bx v1.drew gVB 37 [.int .i64 e.id, .slice e.s.a e.s.n e.s.c]) := VB.out.later c
      have zVB : gVB < v1.heap.size ∧ w3.heap.size ≤ gVB := by omega
      refine wp_region_heldLast (S := fun w' => Bx w' gWB 32 [.slice s.a s.n s.c, .slice none 0 0, .slice none 0 0, .slice none 0 0] ∧ Bx w' gVB 37 [.int .i64 e.id, .slice e.s.a e.s.n e.s.c]) _ (by simp) (by kernel_rfl) (by rfl) (by rfl) (by kernel_rfl) (by kernel_rfl) ⟨BD.out, VD.out⟩ (fun hHeld => ?_)
      simp only [List.dropLast_cons_cons, List.dropLast_singleton, List.getLast_cons_cons, List.getLast_singleton, List.cons_append, List.nil_append, List.length_cons, List.length_nil]
      refine wpAnyH_take (i := 0) (v := ?v0b7) rfl (by kernel_rfl) (by kernel_rfl) (by kernel_rfl) (fun _ _ _ h => h) (Or.inl ⟨by rfl, ?hy0b7⟩) (by assumption) ?_
      case hy0b7 => (intro w hSw; (try dsimp only at hSw); simp only [List.getElem_toArray, List.getElem_cons_zero, List.getElem_cons_succ]; go_simp; try with_reducible rfl)
      try simp only [Act.put, List.getElem_toArray, List.getElem_cons_zero, List.getElem_cons_succ, List.setIfInBounds_toArray, List.set_cons_zero, List.set_cons_succ]
      refine wpAnyH_take (i := 1) (v := _) rfl (by kernel_rfl) (by kernel_rfl) (by kernel_rfl) (fun _ _ _ h => h) (ld1_yield (by rfl) 24 _ rfl gWB 0 rfl 32 _ (fun w hS => hS.1) (.slice s.a s.n s.c) rfl _ Tryz.underlying24 rfl) (by assumption) ?_
      try simp only [Act.put, List.getElem_toArray, List.getElem_cons_zero, List.getElem_cons_succ, List.setIfInBounds_toArray, List.set_cons_zero, List.set_cons_succ]
      refine wpAnyH_take (i := 2) (v := _) rfl (by kernel_rfl) (by kernel_rfl) (by kernel_rfl) (fun _ _ _ h => h) (ld_yield (by rfl) 37 _ rfl gVB 0 rfl 37 _ (fun w hS => hS.2) [.int .i64 e.id, .slice e.s.a e.s.n e.s.c] rfl _ Tryz.underlying37 rfl Tryz.sizeRn) (by assumption) ?_
      try simp only [Act.put, List.getElem_toArray, List.getElem_cons_zero, List.getElem_cons_succ, List.setIfInBounds_toArray, List.set_cons_zero, List.set_cons_succ]
      refine wpAnyH_ready (rs := [3]) (by kernel_rfl) (by simp) ?_
      refine AllReadyH.cons (i := 3) rfl (fun K hK => ?_) AllReadyH.nil
      rw [if_pos (by rfl)]
      simp only [List.getElem_toArray, List.getElem_cons_zero, List.getElem_cons_succ]
      go_simp
      refine (copyRing_s e.id e.s e.ms _ (show Hid (RI v1.drew e.s.v e.ms) from RR.out.stays c) SS.out).mono ?_
      rintro x_ y1 ⟨u1, rfl, o1, b⟩
      have zb : v1.heap.size ≤ v1.drew.heap.size := c.size
      have c : Below v1.heap.size v1 y1 := bl_next c b
      have BD : Hid (Bx y1 gWB 32 [.slice s.a s.n s.c, .slice none 0 0, .slice none 0 0, .slice none 0 0]) := BD.out.later b
      have LY : Hid (RnsO y1 w3.heap.size s cs) := LR.out.below c
      have VD : Hid (Bx y1 gVB 37 [.int .i64 e.id, .slice e.s.a e.s.n e.s.c]) := VD.out.later b
      obtain ⟨c1, hc1⟩ : ∃ c : Rn, c = { e with s := u1 } := ⟨_, rfl⟩
      have C1 : Hid (c1.O y1 v1.heap.size) := by rw [hc1]; exact OwnI.down o1 zb
      have CP : Hid (c1.pl = e.pl) := by rw [hc1]; exact rfl
      have CR : Hid (([.int .i64 e.id, .slice u1.a u1.n u1.c] : List Value) = c1.row) := by rw [hc1]; rfl
      refine hK.out _ _ (⟨BD.out, VD.out⟩) (fun hHeld => ?_)
      clear hK K
      try simp only [Act.put, List.getElem_toArray, List.getElem_cons_zero, List.getElem_cons_succ, List.setIfInBounds_toArray, List.set_cons_zero, List.set_cons_succ]
      clear b o1 hc1
      refine wpAnyH_ready (rs := [4]) (by kernel_rfl) (by simp) ?_
      refine AllReadyH.cons (i := 4) rfl (fun K hK => ?_) AllReadyH.nil
      rw [if_pos (by rfl)]
      simp only [List.getElem_toArray, List.getElem_cons_zero, List.getElem_cons_succ]
      go_simp
      have b : Below y1.heap.size y1 (y1.alloc (.cells #[.int .i64 e.id, .slice u1.a u1.n u1.c] 37)) := (Below.refl _ _).alloc (Nat.le_refl _) _
      have SX : Hid (SlN (y1.alloc (.cells #[.int .i64 e.id, .slice u1.a u1.n u1.c] 37)) 37 2 0 (.slice (some ⟨y1.heap.size, 0, none⟩) 1 1) [[.int .i64 e.id, .slice u1.a u1.n u1.c]]) := SlN.one y1 37 2 0 _ rfl rfl (Nat.zero_le _)
      have c : Below v1.heap.size v1 (y1.alloc (.cells #[.int .i64 e.id, .slice u1.a u1.n u1.c] 37)) := bl_next c b
      have BD : Hid (Bx (y1.alloc (.cells #[.int .i64 e.id, .slice u1.a u1.n u1.c] 37)) gWB 32 [.slice s.a s.n s.c, .slice none 0 0, .slice none 0 0, .slice none 0 0]) := BD.out.later b
      have LY : Hid (RnsO (y1.alloc (.cells #[.int .i64 e.id, .slice u1.a u1.n u1.c] 37)) w3.heap.size s cs) := LY.out.below b
      have C1 : Hid (c1.O (y1.alloc (.cells #[.int .i64 e.id, .slice u1.a u1.n u1.c] 37)) v1.heap.size) := C1.out.below b
      have VD : Hid (Bx (y1.alloc (.cells #[.int .i64 e.id, .slice u1.a u1.n u1.c] 37)) gVB 37 [.int .i64 e.id, .slice e.s.a e.s.n e.s.c]) := VD.out.later b
      refine hK.out _ _ (⟨BD.out, VD.out⟩) (fun hHeld => ?_)
      clear hK K
      try simp only [Act.put, List.getElem_toArray, List.getElem_cons_zero, List.getElem_cons_succ, List.setIfInBounds_toArray, List.set_cons_zero, List.set_cons_succ]
      clear b
      refine wpAnyH_ready (rs := [5]) (by kernel_rfl) (by simp) ?_
      refine AllReadyH.cons (i := 5) rfl (fun K hK => ?_) AllReadyH.nil
      rw [if_pos (by rfl)]
      simp only [List.getElem_toArray, List.getElem_cons_zero, List.getElem_cons_succ]
      refine wp_catM _ _ 24 rfl _ 32 Tryz.underlying24 Tryz.infoRn rfl (by decide) w3.heap.size (.slice s.a s.n s.c) (cs.map Rn.row) (by rfl) LY.out.1 0 _ [[.int .i64 e.id, .slice u1.a u1.n u1.c]] (by rfl) SX.out HLEN.out (by have := c.size; omega) ?_
      intro v2 y2 s2 g2 b2
      obtain ⟨nz, hnz, hnq⟩ := s2.form
      subst hnz
      clear hnq
      rw [CR.out] at s2
      have LN : Hid (RnsO y2 w3.heap.size nz (cs ++ [c1])) := ⟨by rw [List.map_append]; exact s2, fun q hq => by
        rcases List.mem_append.1 hq with hq | hq
        · exact Rn.O.rowkeep (by decide) (fun k hk => LY.out.1.blk hk) g2 (LY.out.2 q hq)
        · rw [List.mem_singleton.1 hq]; exact Rn.O.rowkeep (by decide) (fun k hk => LY.out.1.blk hk) g2 (C1.out.down (by omega))⟩
      have BD : Hid (Bx y2 gWB 32 [.slice s.a s.n s.c, .slice none 0 0, .slice none 0 0, .slice none 0 0]) := BD.out.grown g2 (fun e => by obtain ⟨_, h1⟩ := LY.out.1.blk e.symm; have h2 := BD.out; unfold Bx at h2; rw [h1] at h2; simp at h2)
      have VD : Hid (Bx y2 gVB 37 [.int .i64 e.id, .slice e.s.a e.s.n e.s.c]) := VD.out.grown g2 (fun e => by have := RL.out _ e.symm; omega)
      have kr : Below w3.heap.size v1 y2 := (c.mono (by omega)).trans b2
      refine hK.out _ _ (⟨BD.out, VD.out⟩) (fun hHeld => ?_)
      clear hK K
      try simp only [Act.put, List.getElem_toArray, List.getElem_cons_zero, List.getElem_cons_succ, List.setIfInBounds_toArray, List.set_cons_zero, List.set_cons_succ]
      clear s2 g2 SX
      refine wpAnyH_take (i := 6) (v := ?v6b10) rfl (by kernel_rfl) (by kernel_rfl) (by kernel_rfl) (fun _ _ _ h => h) (Or.inl ⟨by rfl, ?hy6b10⟩) (by assumption) ?_
      case hy6b10 => (intro w hSw; (try dsimp only at hSw); simp only [List.getElem_toArray, List.getElem_cons_zero, List.getElem_cons_succ]; go_simp; try with_reducible rfl)
      try simp only [Act.put, List.getElem_toArray, List.getElem_cons_zero, List.getElem_cons_succ, List.setIfInBounds_toArray, List.set_cons_zero, List.set_cons_succ]
      refine wpAnyH_take (i := 7) (v := ?v7b11) rfl (by kernel_rfl) (by kernel_rfl) (by kernel_rfl) (fun _ _ _ h => h) (Or.inl ⟨by rfl, ?hy7b11⟩) (by assumption) ?_
      case hy7b11 => (intro w hSw; (try dsimp only at hSw); simp only [List.getElem_toArray, List.getElem_cons_zero, List.getElem_cons_succ]; go_simp; try with_reducible rfl)
      try simp only [Act.put, List.getElem_toArray, List.getElem_cons_zero, List.getElem_cons_succ, List.setIfInBounds_toArray, List.set_cons_zero, List.set_cons_succ]
      refine wpAnyH_done (by kernel_rfl) ?_ _
      refine lastQ_of rfl rfl ?_
      refine wp_st1 24 _ _ rfl gWB 0 rfl 32 _ BD.out (.slice nz.a nz.n nz.c) rfl (by simp) rfl Tryz.sizeRs [.slice nz.a nz.n nz.c, .slice none 0 0, .slice none 0 0, .slice none 0 0] rfl ?_
      intro v3 ob tb
      have OR : Hid (Bx v3 gWB 32 [.slice nz.a nz.n nz.c, .slice none 0 0, .slice none 0 0, .slice none 0 0]) := ob
      have KR : Hid (KeepR gWB w3.heap.size w3 v3) := (KR.out.belowN kr).turn tb
      have LN : Hid (RnsO v3 w3.heap.size nz (cs ++ [c1])) := LN.out.keep fun b hb _ => tb.block b (by omega)
      have UN : Hid (RnsUp (cs ++ [c1])) := hup.out.snoc LT.out (fun y hy => by have := (C1.out.lt y hy).1; omega)
      have PN : Hid ((cs ++ [c1]).map Rn.pl = (es.take (j + 1)).map Rn.pl) := (by rw [List.map_append, hpl.out, List.take_succ_eq_append_getElem hlt2, List.map_append, ← HE.out]; simp [CP.out] : _ = _)
      clear ob tb kr c BD VD hHeld C1 CR LY b2
      go_wp2_with fail
      go_roundw
      case rel => exact ⟨j + 1, nz, cs ++ [c1], by omega, by go_num, (by have := hcl.out; simp; omega : _ = _), PN, OR, LN, UN, KR⟩
      case measure => simp [intOf]; omega
    · skip
      obtain rfl : j = n := by omega
      have PL : Hid (cs.map Rn.pl = es.map Rn.pl) := (by have e := hpl.out; rw [HN.out, List.take_length] at e; exact e : _ = _)
      have EB : Hid (Bx wr w.heap.size 32 [.slice none 0 0, .slice none 0 0, .slice none 0 0, .slice none 0 0]) := EB.out.kr KR.out (by omega) (by omega)
      have BW : Hid (Below w.heap.size w wr) := BW.out.trans (KR.out.below (by omega) (by omega))
      have RL : Hid (∀ b, RnsOwn s cs b → b < wr.heap.size) := fun b hb => (LR.out.olt hb).2
      have RG : Hid (∀ b, RnsOwn s cs b → w3.heap.size ≤ b) := fun b hb => (LR.out.olt hb).1
      have RO : Hid (RnsO wr w3.heap.size s cs) := LR
      clear KR HXr LR hpl hx HN
      go_wp2_with fail
      generalize hwa : wr = wa at *
      clear hwa
      go_loopw [28] (fun i wr => ∃ (k : Nat) (t : Sv), k ≤ 5 ∧ i = .int .i64 (k : Int) ∧ Hid (Bx wr gWB 32 [.slice s.a s.n s.c, .slice t.a t.n t.c, .slice none 0 0, .slice none 0 0]) ∧ Hid (BdsO wr wa.heap.size t (fst k)) ∧ Hid (KeepR gWB wa.heap.size wa wr)) (fun i _ => 5 - (intOf i).toNat)
      case atStart => exact ⟨0, zSv, by omega, rfl, OR, BdsO.nil _ _, KeepR.refl _ _ _⟩
      case round =>
        obtain ⟨j, t, hj2, rfl, OR, LR, KR⟩ := hrel
        have zq : wa.heap.size ≤ wr.heap.size := KR.out.size
        by_cases hlt : j < 5
        · skip
          have i1 : (j : Int) < 5 := by omega
          have RLt : Hid (∀ b, t.v.ownBlock = some b → b < wr.heap.size ∧ wa.heap.size ≤ b) := fun b hb => ⟨(SlN.lt LR.out b hb).2, (SlN.lt LR.out b hb).1⟩
          have HLEN : Hid (((fst j).map Bd.row).length ≤ 1048576) := (by rw [List.length_map, fst_len j (by omega)]; omega : _ ≤ _)
          go_wp2_with fail
          refine (daemonNew_yes ((j : Int) + 1) _ (by simp; omega)).mono ?_
          rintro e v1 ⟨rfl, b⟩
          have z_v1 : wr.heap.size ≤ v1.heap.size := b.size
          have OR : Hid (Bx v1 gWB 32 [.slice s.a s.n s.c, .slice t.a t.n t.c, .slice none 0 0, .slice none 0 0]) := OR.out.later b
          have LR : Hid (BdsO v1 wa.heap.size t (fst j)) := LR.out.below b
          have KR : Hid (KeepR gWB wa.heap.size wa v1) := KR.out.belowN ((b).mono (by omega))
          clear b
          have hz : Hid (Bx (v1.alloc (.cells #[.int .i64 0, .bool false, .int .i64 0, .int .i64 0, .slice none 0 0, .slice none 0 0, .slice none 0 0, .slice none 0 0, .int .i64 0, .int .i64 0, .int .i64 0, .int .i64 0, .int .i64 0, .int .i64 0, .int .i64 0, .int .i64 0, .int .i64 0, .slice none 0 0, .int .i64 0, .int .i64 0, .int .i64 0, .slice none 0 0, .slice none 0 0, .slice none 0 0] 54)) v1.heap.size 54 [.int .i64 0, .bool false, .int .i64 0, .int .i64 0, .slice none 0 0, .slice none 0 0, .slice none 0 0, .slice none 0 0, .int .i64 0, .int .i64 0, .int .i64 0, .int .i64 0, .int .i64 0, .int .i64 0, .int .i64 0, .int .i64 0, .int .i64 0, .slice none 0 0, .int .i64 0, .int .i64 0, .int .i64 0, .slice none 0 0, .slice none 0 0, .slice none 0 0]) := Bx.new v1 54 _
          go_wp2_with (first | (refine wpList_stB rfl 54 _ _ rfl v1.heap.size 0 rfl 54 _ hz.out [.int .i64 ((j : Int) + 1), .bool false, .int .i64 0, .int .i64 0, .slice none 0 0, .slice none 0 0, .slice none 0 0, .slice none 0 0, .int .i64 0, .int .i64 0, .int .i64 0, .int .i64 0, .int .i64 0, .int .i64 0, .int .i64 0, .int .i64 0, .int .i64 0, .slice none 0 0, .int .i64 0, .int .i64 0, .int .i64 0, .slice none 0 0, .slice none 0 0, .slice none 0 0] rfl (by simp) Tryz.sizeDa rfl [.int .i64 ((j : Int) + 1), .bool false, .int .i64 0, .int .i64 0, .slice none 0 0, .slice none 0 0, .slice none 0 0, .slice none 0 0, .int .i64 0, .int .i64 0, .int .i64 0, .int .i64 0, .int .i64 0, .int .i64 0, .int .i64 0, .int .i64 0, .int .i64 0, .slice none 0 0, .int .i64 0, .int .i64 0, .int .i64 0, .slice none 0 0, .slice none 0 0, .slice none 0 0] rfl ?_; intro v2 OB TB; have b : Below v1.heap.size v1 v2 := ((Below.refl _ _).alloc (Nat.le_refl _) _).trans (TB.below (Nat.le_refl _)); have VB : Hid (Bx v2 v1.heap.size 54 [.int .i64 ((j : Int) + 1), .bool false, .int .i64 0, .int .i64 0, .slice none 0 0, .slice none 0 0, .slice none 0 0, .slice none 0 0, .int .i64 0, .int .i64 0, .int .i64 0, .int .i64 0, .int .i64 0, .int .i64 0, .int .i64 0, .int .i64 0, .int .i64 0, .slice none 0 0, .int .i64 0, .int .i64 0, .int .i64 0, .slice none 0 0, .slice none 0 0, .slice none 0 0]) := OB; have z_v2 : v1.heap.size ≤ v2.heap.size := b.size; have OR : Hid (Bx v2 gWB 32 [.slice s.a s.n s.c, .slice t.a t.n t.c, .slice none 0 0, .slice none 0 0]) := OR.out.later b; have LR : Hid (BdsO v2 wa.heap.size t (fst j)) := LR.out.below b; have KR : Hid (KeepR gWB wa.heap.size wa v2) := KR.out.belowN ((b).mono (by omega)); clear OB TB b; refine Stp.here ?_))
          refine Stp.go ?_
          clear hz
          have zl_VB : v1.heap.size < v2.heap.size := VB.out.lt
          generalize hg_VB : v1.heap.size = gVB at *
          have c1 := OR.out.cell 1
          simp only [List.getElem?_cons_succ, List.getElem?_cons_zero] at c1
          go_wp2_with (first | (refine wpList_ldG rfl 54 _ rfl gVB 0 rfl 54 _ VB.out [.int .i64 ((j : Int) + 1), .bool false, .int .i64 0, .int .i64 0, .slice none 0 0, .slice none 0 0, .slice none 0 0, .slice none 0 0, .int .i64 0, .int .i64 0, .int .i64 0, .int .i64 0, .int .i64 0, .int .i64 0, .int .i64 0, .int .i64 0, .int .i64 0, .slice none 0 0, .int .i64 0, .int .i64 0, .int .i64 0, .slice none 0 0, .slice none 0 0, .slice none 0 0] rfl _ Tryz.underlying54 rfl Tryz.sizeDa ?_) | (with_reducible refine wpList_haltA _ _ _ rfl ?_))
          refine Stp.go ?_
          clear c1
          refine wpList_pushN rfl _ _ 28 rfl (.agg #[.int .i64 0, .bool false, .int .i64 0, .int .i64 0, .slice none 0 0, .slice none 0 0, .slice none 0 0, .slice none 0 0, .int .i64 0, .int .i64 0, .int .i64 0, .int .i64 0, .int .i64 0, .int .i64 0, .int .i64 0, .int .i64 0, .int .i64 0, .slice none 0 0, .int .i64 0, .int .i64 0, .int .i64 0, .slice none 0 0, .slice none 0 0, .slice none 0 0]) 320 Tryz.underlying28 Tryz.infoDa rfl (by omega) wa.heap.size _ _ rfl (show SlN v2 54 24 wa.heap.size (.slice t.a t.n t.c) ((fst j).map Bd.row) from LR.out) [.int .i64 ((j : Int) + 1), .bool false, .int .i64 0, .int .i64 0, .slice none 0 0, .slice none 0 0, .slice none 0 0, .slice none 0 0, .int .i64 0, .int .i64 0, .int .i64 0, .int .i64 0, .int .i64 0, .int .i64 0, .int .i64 0, .int .i64 0, .int .i64 0, .slice none 0 0, .int .i64 0, .int .i64 0, .int .i64 0, .slice none 0 0, .slice none 0 0, .slice none 0 0] rfl rfl rfl HLEN.out (by omega) ?_
          intro v6 w6 O6 g6 b6 _
          obtain ⟨s6, hs6, hq6⟩ := O6.form
          subst hs6
          clear hq6
          have L6 : Hid (BdsO w6 wa.heap.size s6 (fst (j + 1))) := by have h := fst_snoc j hlt; unfold BdsO; rw [← h]; exact O6
          have zs6 : v2.heap.size ≤ w6.heap.size := by have := g6.size; simpa using (Nat.le_trans (by simp) this)
          clear O6
          have OR : Hid (Bx w6 gWB 32 [.slice s.a s.n s.c, .slice t.a t.n t.c, .slice none 0 0, .slice none 0 0]) := OR.out.grown g6 (fun e => by have := (RLt.out _ e.symm).2; omega)
          have KR : Hid (KeepR gWB wa.heap.size wa w6) := KR.out.belowN b6
          clear g6 b6 VB LR
          go_wp2_with (first | (with_reducible refine wpList_haltS 28 _ _ rfl ?_))
          refine Stp.go ?_
          refine wpList_st1 rfl 28 _ _ rfl gWB 1 rfl 32 _ OR.out (.slice s6.a s6.n s6.c) rfl (by simp) rfl Tryz.sizeDs [.slice s.a s.n s.c, .slice s6.a s6.n s6.c, .slice none 0 0, .slice none 0 0] rfl ?_
          intro w7 OB TB
          have z_w7 : w6.heap.size ≤ w7.heap.size := Nat.le_of_eq TB.size.symm
          have L6 : Hid (BdsO w7 wa.heap.size s6 (fst (j + 1))) := L6.out.keep fun b hb _ => TB.block b (by have := (SlN.lt L6.out b hb).1; omega)
          have KR : Hid (KeepR gWB wa.heap.size wa w7) := KR.out.turn TB
          have OR : Hid (Bx w7 gWB 32 [.slice s.a s.n s.c, .slice s6.a s6.n s6.c, .slice none 0 0, .slice none 0 0]) := OB
          clear OB TB
          go_wp2_with fail
          go_roundw
          case rel => exact ⟨j + 1, s6, by omega, by go_num, OR, L6, KR⟩
          case measure => simp [intOf]; omega
        · skip
          obtain rfl : j = 5 := by omega
          have EB : Hid (Bx wr w.heap.size 32 [.slice none 0 0, .slice none 0 0, .slice none 0 0, .slice none 0 0]) := EB.out.kr KR.out (by omega) (by omega)
          have RO : Hid (RnsO wr w3.heap.size s cs) := RO.out.keepo fun b hb hl => KR.out.blk b hl (by have := RG.out b hb; omega)
          have BW : Hid (Below w.heap.size w wr) := BW.out.trans (KR.out.below (by omega) (by omega))
          have DG : Hid (∀ b, t.v.ownBlock = some b → wa.heap.size ≤ b) := fun b hb => (SlN.lt LR.out b hb).1
          clear KR
          go_wp2_with (first | (refine wpList_ldG rfl 32 _ rfl gWB 0 rfl 32 _ OR.out [.slice s.a s.n s.c, .slice t.a t.n t.c, .slice none 0 0, .slice none 0 0] rfl _ Tryz.underlying32 rfl Tryz.sizeWo ?_) | (with_reducible refine wpList_haltS 32 _ _ rfl ?_))
          refine Stp.go ?_
          refine wpList_stB rfl 32 _ _ rfl w.heap.size 0 rfl 32 _ EB.out [.slice s.a s.n s.c, .slice t.a t.n t.c, .slice none 0 0, .slice none 0 0] rfl (by simp) Tryz.sizeWo rfl [.slice s.a s.n s.c, .slice t.a t.n t.c, .slice none 0 0, .slice none 0 0] rfl ?_
          intro w8 OB TB
          have z_w8 : wr.heap.size ≤ w8.heap.size := Nat.le_of_eq TB.size.symm
          have OR : Hid (Bx w8 gWB 32 [.slice s.a s.n s.c, .slice t.a t.n t.c, .slice none 0 0, .slice none 0 0]) := OR.out.turn TB (by omega)
          have RO : Hid (RnsO w8 w3.heap.size s cs) := RO.out.keep fun b hb _ => TB.block b (by omega)
          have LR : Hid (BdsO w8 wa.heap.size t (fst 5)) := LR.out.keep fun b hb _ => TB.block b (by have := (SlN.lt LR.out b hb).1; omega)
          have BW : Hid (Below w.heap.size w w8) := BW.out.trans (TB.below (by omega))
          have EB : Hid (Bx w8 w.heap.size 32 [.slice s.a s.n s.c, .slice t.a t.n t.c, .slice none 0 0, .slice none 0 0]) := OB
          clear OB TB
          go_wp2_with fail
          refine bodyPost_ret (results_bt Tryz.results14 w.heap.size 32 [.slice s.a s.n s.c, .slice t.a t.n t.c, .slice none 0 0, .slice none 0 0] _ rfl EB.out Tryz.underlying32 rfl Tryz.sizeWo) rfl ?_
          exact ⟨⟨s, cs, t, fst 5⟩, rfl, PL.out, fst_5, ⟨RO.out.down (by omega), LR.out.down (by omega)⟩, ⟨hup.out.a2 RO.out, fun y h1 h2 => by have := RL.out y h1; have := DG.out y h2; omega⟩, BW.out⟩
end Go.Proofs.YtoahljkifikbaaaGreat


