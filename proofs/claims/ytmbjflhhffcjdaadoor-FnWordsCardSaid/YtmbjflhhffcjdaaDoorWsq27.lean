/- Joined texts: CHf CShr CSla CLem14 CLs CGns CWds CKrr. -/
import Derived.Test.YtmbjflhhffcjdaaDoorWsq26
import Derived.Test.YtmbjflhhffcjdaaDoorWsq25
import Derived.Test.YtmbjflhhffcjdaaDoorWsq24
import Derived.Test.YtmbjflhhffcjdaaDoorWsq8
import Derived.Test.YtmbjflhhffcjdaaDoorWsq11
import Derived.Laws.MakeOwn
import Derived.Test.YtmbjflhhffcjdaaDoorWsq22
/- Hear. -/
namespace Go.Proofs.YtmbjflhhffcjdaaDoor
open Go.RowKit Pl
set_option linter.unusedVariables false
set_option linter.unusedSimpArgs false

/-- the member behind it. -/
def Mt.hadH (m : Mt) : Mt := m.setH (m.he + m.hear.length)

end Go.Proofs.YtmbjflhhffcjdaaDoor


/- What a member hears: the specification's Hear, where the member is right. Written by gen_shr.py. -/
namespace Go.Proofs.YtmbjflhhffcjdaaDoor
open Go.RowKit Pl
set_option linter.unusedVariables false
set_option linter.unusedSimpArgs false
end Go.Proofs.YtmbjflhhffcjdaaDoor


/- What a token wants yet: the specification's Lacks. Written by gen_sla.py. -/
namespace Go.Proofs.YtmbjflhhffcjdaaDoor
open Go.RowKit Pl
set_option linter.unusedVariables false
set_option linter.unusedSimpArgs false

/-- whether a number is wanted yet. -/
def slB (ws lk : List Int) (its : List It) (n : Int) : Bool := (!hasP its n && inB ws n) || inB lk n
def slGo (ws lk : List Int) (its : List It) : Nat → Nat → List Int → List Int
  | 0, _, acc => acc
  | f + 1, n, acc => if acc.length < 20 then slGo ws lk its f (n + 1) (if slB ws lk its (n : Int) = true then acc ++ [(n : Int)] else acc) else acc
def slackP (ws : List Int) (its : List It) (q : Int) : List Int := slGo ws (missP its q) its 60 1 []
end Go.Proofs.YtmbjflhhffcjdaaDoor


/- Small lemmas of round 14: rows that are read in drawn regions, lists cut, lengths of slices. -/
namespace Go.Proofs.YtmbjflhhffcjdaaDoor
open Go.RowKit Pl
set_option linter.unusedVariables false
set_option linter.unusedSimpArgs false

theorem range_later {w w' : World} {g off : Nat} {cs : List Value} (h : w.rangeAt g off cs) (hg : g < w.heap.size) (b : Below w.heap.size w w') : w'.rangeAt g off cs := fun j v hv => (b.cell (p := ⟨g, off + j, none⟩) hg).trans (h j v hv)
theorem Pl.OwnI.slen {w : World} {B : Nat} {s : Sv} {ts : List Int} (h : OwnI w B s.v ts) : s.n = ts.length := by obtain ⟨a, c, h1⟩ := h.form; simp only [Sv.v, Value.slice.injEq] at h1; exact h1.2.1
theorem Pl.OwnS.slen {w : World} {B : Nat} {s : Sv} {ts : List ByteArray} (h : OwnS w B s.v ts) : s.n = ts.length := by obtain ⟨a, c, h1⟩ := h.form; simp only [Sv.v, Value.slice.injEq] at h1; exact h1.2.1
end Go.Proofs.YtmbjflhhffcjdaaDoor


/- Lists of structs: rows that are read, rows that were made. No function of the program is named here. -/
namespace Go.Proofs.YtmbjflhhffcjdaaDoor
open Go.RowKit Pl
set_option linter.unusedVariables false
set_option linter.unusedSimpArgs false

/-- rows that are read. -/
def RwA (w : World) (a : Option Addr) (size : Nat) (rows : List (List Value)) : Prop :=
  ∀ i (h : i < rows.length), ∃ g off, a = some ⟨g, off, none⟩ ∧ g < w.heap.size ∧ rows[i].length = size ∧ w.rangeAt g (off + i * size) rows[i]
section
variable {w w' : World} {a : Option Addr} {size T B : Nat} {rows : List (List Value)}
theorem RwA.stays (h : RwA w a size rows) (b : Below w.heap.size w w') : RwA w' a size rows := fun i hi => by
  obtain ⟨g, off, h1, h2, h3, h4⟩ := h i hi
  exact ⟨g, off, h1, Nat.lt_of_lt_of_le h2 b.size, h3, range_later h4 h2 b⟩
theorem RwA.nil (w : World) (a : Option Addr) (size : Nat) : RwA w a size [] := fun i hi => absurd hi (Nat.not_lt_zero _)
theorem SlN.rwa {s : Sv} (h : SlN w T size B s.v rows) : RwA w s.a size rows := fun i hi => by
  obtain ⟨g, off, cap, h1, h2, h3, h4⟩ := h.read hi
  simp only [Sv.v, Value.slice.injEq] at h1
  exact ⟨g, off, h1.1, h3, h.lens _ (List.getElem_mem hi), h4⟩
theorem SlN.slen {s : Sv} (h : SlN w T size B s.v rows) : s.n = rows.length := by
  obtain ⟨s', e, hn⟩ := h.form
  simp only [Sv.v, Value.slice.injEq] at e
  omega
end
end Go.Proofs.YtmbjflhhffcjdaaDoor


/- Lists of groups that a law measures and copies. Written by gen_gn.py. -/
namespace Go.Proofs.YtmbjflhhffcjdaaDoor
open Go.RowKit Pl
set_option linter.unusedVariables false
set_option linter.unusedSimpArgs false

/-- a group, and where its list lies. -/
structure Gn where
  nm : ByteArray
  ms : List ByteArray
  s : Sv
def Gn.pl (r : Gn) : ByteArray × List ByteArray := (r.nm, r.ms)
def Gn.row (r : Gn) : List Value := [.string r.nm, .slice r.s.a r.s.n r.s.c]
def Gn.R (w : World) (r : Gn) : Prop := RT w r.s.v r.ms
theorem Gn.R.stays {w w' : World} {b : Gn} (h : b.R w) (hb : Below w.heap.size w w') : b.R w' := RT.stays h hb
def Gn.S (b : Gn) : Prop := b.nm.size ≤ 1048576 ∧ totS b.ms ≤ 1048576
def Gn.M (b : Gn) : Prop := b.ms.length ≤ 1048576
def Gn.L (b : Gn) : Prop := b.nm.size ≤ 9223372036854775807 ∧ b.ms.length ≤ 9223372036854775807 ∧ ∀ t ∈ b.ms, t.size ≤ 9223372036854775807
def Gn.sz (b : Gn) : Nat := b.nm.size + totS b.ms
def Gn.O (w : World) (B : Nat) (b : Gn) : Prop := OwnS w B b.s.v b.ms
theorem Gn.O.r {w : World} {B : Nat} {b : Gn} (h : b.O w B) : b.R w := OwnS.texts h
theorem Gn.O.keep {w w' : World} {B : Nat} {e : Gn} (h : e.O w B) (hk : ∀ b, B ≤ b → b < w.heap.size → w'.heap[b]? = w.heap[b]?) : e.O w' B := OwnS.keep' h fun b hb hl => hk b (OwnS.lt h b hb).1 hl
theorem Gn.O.below {w w' : World} {B : Nat} {e : Gn} (h : e.O w B) (b : Below w.heap.size w w') : e.O w' B := h.keep fun k _ hk => b.block k hk
theorem Gn.O.down {w : World} {B B' : Nat} {e : Gn} (h : e.O w B) (hB : B' ≤ B) : e.O w B' := OwnS.down h hB
def Gn.own (e : Gn) (x : Nat) : Prop := e.s.v.ownBlock = some x
theorem Gn.O.lt {w : World} {B : Nat} {e : Gn} (h : e.O w B) (x : Nat) (hx : e.own x) : B ≤ x ∧ x < w.heap.size := OwnS.lt h x hx
def Gn.Up (e : Gn) : Prop := True
theorem Tryd.sizeStrs : (Tryd.prog.info? 24).map (·.size) = some 1 := by kernel_rfl
/-- a list of them that is read. -/
def GnsR (w : World) (s : Sv) (es : List Gn) : Prop := s.n = es.length ∧ RwA w s.a 2 (es.map Gn.row) ∧ ∀ e ∈ es, e.R w
theorem GnsR.stays {w w' : World} {s : Sv} {es : List Gn} (h : GnsR w s es) (b : Below w.heap.size w w') : GnsR w' s es := ⟨h.1, h.2.1.stays b, fun e he => (h.2.2 e he).stays b⟩
/-- a list of the call's own. -/
def GnsO (w : World) (B : Nat) (s : Sv) (es : List Gn) : Prop := SlN w 86 2 B s.v (es.map Gn.row) ∧ ∀ e ∈ es, e.O w B
theorem GnsO.r {w : World} {B : Nat} {s : Sv} {es : List Gn} (h : GnsO w B s es) : GnsR w s es := ⟨by have := h.1.slen; simpa using this, h.1.rwa, fun e he => (h.2 e he).r⟩
theorem GnsO.keep {w w' : World} {B : Nat} {s : Sv} {es : List Gn} (h : GnsO w B s es) (hk : ∀ b, B ≤ b → b < w.heap.size → w'.heap[b]? = w.heap[b]?) : GnsO w' B s es := ⟨h.1.keep fun b hb hl => hk b (h.1.lt b hb).1 hl, fun e he => (h.2 e he).keep hk⟩
theorem GnsO.below {w w' : World} {B : Nat} {s : Sv} {es : List Gn} (h : GnsO w B s es) (b : Below w.heap.size w w') : GnsO w' B s es := h.keep fun k _ hk => b.block k hk
theorem GnsO.down {w : World} {B B' : Nat} {s : Sv} {es : List Gn} (h : GnsO w B s es) (hB : B' ≤ B) : GnsO w B' s es := ⟨h.1.down hB, fun e he => (h.2 e he).down hB⟩
theorem GnsO.nil (w : World) (B : Nat) : GnsO w B zSv [] := ⟨SlN.nil _ _ _ _, fun e he => by cases he⟩
/-- each one's lists lie behind those of the ones ahead. -/
def GnsUp (es : List Gn) : Prop := (∀ e ∈ es, e.Up) ∧ es.Pairwise fun a b => ∀ x y, a.own x → b.own y → x < y
def Gns.tot (es : List Gn) : Nat := (es.map fun e => e.sz).sum
end Go.Proofs.YtmbjflhhffcjdaaDoor


/- Words that a law measures and copies. Written by gen_wd.py. -/
namespace Go.Proofs.YtmbjflhhffcjdaaDoor
open Go.RowKit Pl
set_option linter.unusedVariables false
set_option linter.unusedSimpArgs false

/-- a word, and where its list lies. -/
structure Wd where
  k : Int
  who : ByteArray
  gs : List ByteArray
  t : ByteArray
  s : Sv
def Wd.pl (r : Wd) : Int × ByteArray × List ByteArray × ByteArray := (r.k, r.who, r.gs, r.t)
def Wd.row (e : Wd) : List Value := [.int .i64 e.k, .string e.who, .slice e.s.a e.s.n e.s.c, .string e.t]
def Wd.R (w : World) (r : Wd) : Prop := RT w r.s.v r.gs
theorem Wd.R.stays {w w' : World} {b : Wd} (h : b.R w) (hb : Below w.heap.size w w') : b.R w' := RT.stays h hb
def Wd.S (b : Wd) : Prop := b.who.size ≤ 1048576 ∧ totS b.gs ≤ 1048576 ∧ b.t.size ≤ 1048576
def Wd.L (b : Wd) : Prop := b.who.size ≤ 9223372036854775807 ∧ b.gs.length ≤ 9223372036854775807 ∧ (∀ t ∈ b.gs, t.size ≤ 9223372036854775807) ∧ b.t.size ≤ 9223372036854775807
def Wd.sz (b : Wd) : Nat := b.who.size + totS b.gs + b.t.size
def Wd.O (w : World) (B : Nat) (b : Wd) : Prop := OwnS w B b.s.v b.gs
theorem Wd.O.r {w : World} {B : Nat} {b : Wd} (h : b.O w B) : b.R w := OwnS.texts h
theorem Wd.O.keep {w w' : World} {B : Nat} {e : Wd} (h : e.O w B) (hk : ∀ b, B ≤ b → b < w.heap.size → w'.heap[b]? = w.heap[b]?) : e.O w' B := OwnS.keep' h fun b hb hl => hk b (OwnS.lt h b hb).1 hl
theorem Wd.O.below {w w' : World} {B : Nat} {e : Wd} (h : e.O w B) (b : Below w.heap.size w w') : e.O w' B := h.keep fun k _ hk => b.block k hk
theorem Wd.O.down {w : World} {B B' : Nat} {e : Wd} (h : e.O w B) (hB : B' ≤ B) : e.O w B' := OwnS.down h hB
def Wd.own (e : Wd) (x : Nat) : Prop := e.s.v.ownBlock = some x
theorem Wd.O.lt {w : World} {B : Nat} {e : Wd} (h : e.O w B) (x : Nat) (hx : e.own x) : B ≤ x ∧ x < w.heap.size := OwnS.lt h x hx
def Wd.Up (e : Wd) : Prop := True
theorem Tryd.sizeWd : (Tryd.prog.info? 26).map (·.size) = some 4 := by kernel_rfl
end Go.Proofs.YtmbjflhhffcjdaaDoor


/- A list that is appended to in a box, inside a drawn region; what stays then. Out of stage 14's texts, under names of its own. -/
namespace Go.Proofs.YtmbjflhhffcjdaaDoor
open Go.RowKit Pl
set_option linter.unusedVariables false
set_option linter.unusedSimpArgs false

section
variable {P : Program} {w : World} {o : Oper} {a : Act} {K : Act → World → Prop} {Q : Exit → Act → World → Prop}
end
/-- but for the box g and what lies from N on all is as it was. -/
structure KepR (g N : Nat) (w w' : World) : Prop where
  os : w'.os = w.os
  tape : w'.tape = w.tape
  output : w'.output = w.output
  size : w.heap.size ≤ w'.heap.size
  blk : ∀ k, k < N → k ≠ g → w'.heap[k]? = w.heap[k]?
  news : True
section
variable {g N : Nat} {w w' w'' : World}
theorem KepR.refl (g N : Nat) (w : World) : KepR g N w w := ⟨rfl, rfl, rfl, Nat.le_refl _, fun _ _ _ => rfl, trivial⟩
theorem KepR.trans (h : KepR g N w w') (k : KepR g N w' w'') : KepR g N w w'' := ⟨k.os.trans h.os, k.tape.trans h.tape, k.output.trans h.output, Nat.le_trans h.size k.size, fun i hi hn => (k.blk i hi hn).trans (h.blk i hi hn), trivial⟩
theorem KepR.below {B : Nat} (h : KepR g N w w') (h1 : B ≤ g) (h2 : B ≤ N) : Below B w w' := ⟨h.os, h.tape, h.output, h.size, fun k hk => h.blk k (by omega) (by omega)⟩
theorem KepR.turn (h : KepR g N w w') (t : TurnAt g w' w'') : KepR g N w w'' := ⟨t.os.trans h.os, t.tape.trans h.tape, t.output.trans h.output, Nat.le_trans h.size (Nat.le_of_eq t.size.symm), fun i hi hn => (t.block i hn).trans (h.blk i hi hn), trivial⟩
end
/-- a row of the call's own, of groups whose members are read. -/
def GnsP (w : World) (B : Nat) (s : Sv) (es : List Gn) : Prop := SlN w 86 2 B s.v (es.map Gn.row) ∧ ∀ e ∈ es, e.R w
theorem GnsP.r {w : World} {B : Nat} {s : Sv} {es : List Gn} (h : GnsP w B s es) : GnsR w s es := ⟨by have := h.1.slen; simpa using this, h.1.rwa, h.2⟩
end Go.Proofs.YtmbjflhhffcjdaaDoor


