/- Joined texts: CHf CShr CSla CLem14 CLs CGns CWds CWdq CEv CEvs CBus CGee CGeb CEqw CDm. -/
import Derived.Test.YtmbjflhhffcjdaaDoorWtq25
import Derived.Test.YtmbjflhhffcjdaaDoorWtq24
import Derived.Test.YtmbjflhhffcjdaaDoorWtq23
import Derived.Test.YtmbjflhhffcjdaaDoorWtq14
import Derived.Test.YtmbjflhhffcjdaaDoorWtq16
import Derived.Laws.MakeOwn
import Derived.Test.YtmbjflhhffcjdaaDoorWtq21
/- Hear. -/
namespace Go.Proofs.YtmbjflhhffcjdaaDoor
open Go.RowKit Pl
set_option linter.unusedVariables false
set_option linter.unusedSimpArgs false

/-- the member behind it. -/
def Mt.hadH (m : Mt) : Mt := m.setH (m.he + m.hear.length)

end Go.Proofs.YtmbjflhhffcjdaaDoor


/- What a member hears: the specification's Hear, where the member is right. Written by gen_shr.py. -/
namespace Go.Proofs.YtmbjflhhffcjdaaDoor
open Go.RowKit Pl
set_option linter.unusedVariables false
set_option linter.unusedSimpArgs false
end Go.Proofs.YtmbjflhhffcjdaaDoor


/- What a token wants yet: the specification's Lacks. Written by gen_sla.py. -/
namespace Go.Proofs.YtmbjflhhffcjdaaDoor
open Go.RowKit Pl
set_option linter.unusedVariables false
set_option linter.unusedSimpArgs false

/-- whether a number is wanted yet. -/
def slB (ws lk : List Int) (its : List It) (n : Int) : Bool := (!hasP its n && inB ws n) || inB lk n
def slGo (ws lk : List Int) (its : List It) : Nat → Nat → List Int → List Int
  | 0, _, acc => acc
  | f + 1, n, acc => if acc.length < 20 then slGo ws lk its f (n + 1) (if slB ws lk its (n : Int) = true then acc ++ [(n : Int)] else acc) else acc
def slackP (ws : List Int) (its : List It) (q : Int) : List Int := slGo ws (missP its q) its 60 1 []
end Go.Proofs.YtmbjflhhffcjdaaDoor


/- Small lemmas of round 14: rows that are read in drawn regions, lists cut, lengths of slices. -/
namespace Go.Proofs.YtmbjflhhffcjdaaDoor
open Go.RowKit Pl
set_option linter.unusedVariables false
set_option linter.unusedSimpArgs false

theorem range_later {w w' : World} {g off : Nat} {cs : List Value} (h : w.rangeAt g off cs) (hg : g < w.heap.size) (b : Below w.heap.size w w') : w'.rangeAt g off cs := fun j v hv => (b.cell (p := ⟨g, off + j, none⟩) hg).trans (h j v hv)
theorem Pl.OwnI.slen {w : World} {B : Nat} {s : Sv} {ts : List Int} (h : OwnI w B s.v ts) : s.n = ts.length := by obtain ⟨a, c, h1⟩ := h.form; simp only [Sv.v, Value.slice.injEq] at h1; exact h1.2.1
theorem Pl.OwnS.slen {w : World} {B : Nat} {s : Sv} {ts : List ByteArray} (h : OwnS w B s.v ts) : s.n = ts.length := by obtain ⟨a, c, h1⟩ := h.form; simp only [Sv.v, Value.slice.injEq] at h1; exact h1.2.1
end Go.Proofs.YtmbjflhhffcjdaaDoor


/- Lists of structs: rows that are read, rows that were made. No function of the program is named here. -/
namespace Go.Proofs.YtmbjflhhffcjdaaDoor
open Go.RowKit Pl
set_option linter.unusedVariables false
set_option linter.unusedSimpArgs false

/-- rows that are read. -/
def RwA (w : World) (a : Option Addr) (size : Nat) (rows : List (List Value)) : Prop :=
  ∀ i (h : i < rows.length), ∃ g off, a = some ⟨g, off, none⟩ ∧ g < w.heap.size ∧ rows[i].length = size ∧ w.rangeAt g (off + i * size) rows[i]
section
variable {w w' : World} {a : Option Addr} {size T B : Nat} {rows : List (List Value)}
theorem RwA.stays (h : RwA w a size rows) (b : Below w.heap.size w w') : RwA w' a size rows := fun i hi => by
  obtain ⟨g, off, h1, h2, h3, h4⟩ := h i hi
  exact ⟨g, off, h1, Nat.lt_of_lt_of_le h2 b.size, h3, range_later h4 h2 b⟩
theorem RwA.nil (w : World) (a : Option Addr) (size : Nat) : RwA w a size [] := fun i hi => absurd hi (Nat.not_lt_zero _)
theorem SlN.rwa {s : Sv} (h : SlN w T size B s.v rows) : RwA w s.a size rows := fun i hi => by
  obtain ⟨g, off, cap, h1, h2, h3, h4⟩ := h.read hi
  simp only [Sv.v, Value.slice.injEq] at h1
  exact ⟨g, off, h1.1, h3, h.lens _ (List.getElem_mem hi), h4⟩
theorem SlN.slen {s : Sv} (h : SlN w T size B s.v rows) : s.n = rows.length := by
  obtain ⟨s', e, hn⟩ := h.form
  simp only [Sv.v, Value.slice.injEq] at e
  omega
end
end Go.Proofs.YtmbjflhhffcjdaaDoor


/- Lists of groups that a law measures and copies. Written by gen_gn.py. -/
namespace Go.Proofs.YtmbjflhhffcjdaaDoor
open Go.RowKit Pl
set_option linter.unusedVariables false
set_option linter.unusedSimpArgs false

/-- a group, and where its list lies. -/
structure Gn where
  nm : ByteArray
  ms : List ByteArray
  s : Sv
def Gn.pl (r : Gn) : ByteArray × List ByteArray := (r.nm, r.ms)
def Gn.row (r : Gn) : List Value := [.string r.nm, .slice r.s.a r.s.n r.s.c]
def Gn.R (w : World) (r : Gn) : Prop := RT w r.s.v r.ms
theorem Gn.R.stays {w w' : World} {b : Gn} (h : b.R w) (hb : Below w.heap.size w w') : b.R w' := RT.stays h hb
def Gn.S (b : Gn) : Prop := b.nm.size ≤ 1048576 ∧ totS b.ms ≤ 1048576
def Gn.M (b : Gn) : Prop := b.ms.length ≤ 1048576
theorem Gn.S.m {b : Gn} (h : b.S) : b.M := by have := h.2; unfold totS at this; unfold Gn.M; omega
def Gn.L (b : Gn) : Prop := b.nm.size ≤ 9223372036854775807 ∧ b.ms.length ≤ 9223372036854775807 ∧ ∀ t ∈ b.ms, t.size ≤ 9223372036854775807
def Gn.sz (b : Gn) : Nat := b.nm.size + totS b.ms
def Gn.O (w : World) (B : Nat) (b : Gn) : Prop := OwnS w B b.s.v b.ms
theorem Gn.O.r {w : World} {B : Nat} {b : Gn} (h : b.O w B) : b.R w := OwnS.texts h
theorem Gn.O.keep {w w' : World} {B : Nat} {e : Gn} (h : e.O w B) (hk : ∀ b, B ≤ b → b < w.heap.size → w'.heap[b]? = w.heap[b]?) : e.O w' B := OwnS.keep' h fun b hb hl => hk b (OwnS.lt h b hb).1 hl
theorem Gn.O.below {w w' : World} {B : Nat} {e : Gn} (h : e.O w B) (b : Below w.heap.size w w') : e.O w' B := h.keep fun k _ hk => b.block k hk
theorem Gn.O.down {w : World} {B B' : Nat} {e : Gn} (h : e.O w B) (hB : B' ≤ B) : e.O w B' := OwnS.down h hB
def Gn.own (e : Gn) (x : Nat) : Prop := e.s.v.ownBlock = some x
theorem Gn.O.lt {w : World} {B : Nat} {e : Gn} (h : e.O w B) (x : Nat) (hx : e.own x) : B ≤ x ∧ x < w.heap.size := OwnS.lt h x hx
def Gn.Up (e : Gn) : Prop := True
theorem Tryd.sizeStr : (Tryd.prog.info? 9).map (·.size) = some 1 := by kernel_rfl
theorem Tryd.sizeStrs : (Tryd.prog.info? 24).map (·.size) = some 1 := by kernel_rfl
/-- a list of them that is read. -/
def GnsR (w : World) (s : Sv) (es : List Gn) : Prop := s.n = es.length ∧ RwA w s.a 2 (es.map Gn.row) ∧ ∀ e ∈ es, e.R w
theorem GnsR.stays {w w' : World} {s : Sv} {es : List Gn} (h : GnsR w s es) (b : Below w.heap.size w w') : GnsR w' s es := ⟨h.1, h.2.1.stays b, fun e he => (h.2.2 e he).stays b⟩
/-- a list of the call's own. -/
def GnsO (w : World) (B : Nat) (s : Sv) (es : List Gn) : Prop := SlN w 86 2 B s.v (es.map Gn.row) ∧ ∀ e ∈ es, e.O w B
theorem GnsO.r {w : World} {B : Nat} {s : Sv} {es : List Gn} (h : GnsO w B s es) : GnsR w s es := ⟨by have := h.1.slen; simpa using this, h.1.rwa, fun e he => (h.2 e he).r⟩
theorem GnsO.keep {w w' : World} {B : Nat} {s : Sv} {es : List Gn} (h : GnsO w B s es) (hk : ∀ b, B ≤ b → b < w.heap.size → w'.heap[b]? = w.heap[b]?) : GnsO w' B s es := ⟨h.1.keep fun b hb hl => hk b (h.1.lt b hb).1 hl, fun e he => (h.2 e he).keep hk⟩
theorem GnsO.below {w w' : World} {B : Nat} {s : Sv} {es : List Gn} (h : GnsO w B s es) (b : Below w.heap.size w w') : GnsO w' B s es := h.keep fun k _ hk => b.block k hk
theorem GnsO.down {w : World} {B B' : Nat} {s : Sv} {es : List Gn} (h : GnsO w B s es) (hB : B' ≤ B) : GnsO w B' s es := ⟨h.1.down hB, fun e he => (h.2 e he).down hB⟩
theorem GnsO.nil (w : World) (B : Nat) : GnsO w B zSv [] := ⟨SlN.nil _ _ _ _, fun e he => by cases he⟩
/-- each one's lists lie behind those of the ones ahead. -/
def GnsUp (es : List Gn) : Prop := (∀ e ∈ es, e.Up) ∧ es.Pairwise fun a b => ∀ x y, a.own x → b.own y → x < y
def Gns.tot (es : List Gn) : Nat := (es.map fun e => e.sz).sum
end Go.Proofs.YtmbjflhhffcjdaaDoor


/- Words that a law measures and copies. Written by gen_wd.py. -/
namespace Go.Proofs.YtmbjflhhffcjdaaDoor
open Go.RowKit Pl
set_option linter.unusedVariables false
set_option linter.unusedSimpArgs false

/-- a word, and where its list lies. -/
structure Wd where
  k : Int
  who : ByteArray
  gs : List ByteArray
  t : ByteArray
  s : Sv
def Wd.pl (r : Wd) : Int × ByteArray × List ByteArray × ByteArray := (r.k, r.who, r.gs, r.t)
def Wd.row (e : Wd) : List Value := [.int .i64 e.k, .string e.who, .slice e.s.a e.s.n e.s.c, .string e.t]
def Wd.R (w : World) (r : Wd) : Prop := RT w r.s.v r.gs
theorem Wd.R.stays {w w' : World} {b : Wd} (h : b.R w) (hb : Below w.heap.size w w') : b.R w' := RT.stays h hb
def Wd.S (b : Wd) : Prop := b.who.size ≤ 1048576 ∧ totS b.gs ≤ 1048576 ∧ b.t.size ≤ 1048576
def Wd.L (b : Wd) : Prop := b.who.size ≤ 9223372036854775807 ∧ b.gs.length ≤ 9223372036854775807 ∧ (∀ t ∈ b.gs, t.size ≤ 9223372036854775807) ∧ b.t.size ≤ 9223372036854775807
def Wd.sz (b : Wd) : Nat := b.who.size + totS b.gs + b.t.size
def Wd.O (w : World) (B : Nat) (b : Wd) : Prop := OwnS w B b.s.v b.gs
theorem Wd.O.r {w : World} {B : Nat} {b : Wd} (h : b.O w B) : b.R w := OwnS.texts h
theorem Wd.O.keep {w w' : World} {B : Nat} {e : Wd} (h : e.O w B) (hk : ∀ b, B ≤ b → b < w.heap.size → w'.heap[b]? = w.heap[b]?) : e.O w' B := OwnS.keep' h fun b hb hl => hk b (OwnS.lt h b hb).1 hl
theorem Wd.O.below {w w' : World} {B : Nat} {e : Wd} (h : e.O w B) (b : Below w.heap.size w w') : e.O w' B := h.keep fun k _ hk => b.block k hk
theorem Wd.O.down {w : World} {B B' : Nat} {e : Wd} (h : e.O w B) (hB : B' ≤ B) : e.O w B' := OwnS.down h hB
def Wd.own (e : Wd) (x : Nat) : Prop := e.s.v.ownBlock = some x
theorem Wd.O.lt {w : World} {B : Nat} {e : Wd} (h : e.O w B) (x : Nat) (hx : e.own x) : B ≤ x ∧ x < w.heap.size := OwnS.lt h x hx
def Wd.Up (e : Wd) : Prop := True
theorem Tryd.sizeLWd : (Tryd.prog.info? 35).map (·.size) = some 4 := by kernel_rfl
theorem Tryd.sizeWd : (Tryd.prog.info? 26).map (·.size) = some 4 := by kernel_rfl
theorem Tryd.sizeInt : (Tryd.prog.info? 3).map (·.size) = some 1 := by kernel_rfl
set_option maxRecDepth 100000 in
set_option maxHeartbeats 4000000 in
theorem szWd_any (e : Wd) (L : Nat) (w : World) (h : Hid (e.R w)) (hl : Hid e.L) (hL : L ≤ 1048576) :
    Calls Tryd.prog 18 #[.agg #[.int .i64 e.k, .string e.who, .slice e.s.a e.s.n e.s.c, .string e.t], .int .i64 L] w fun x w' => (x = .returned (.int .i64 (-1)) ∨ ∃ r : Nat, x = .returned (.int .i64 r) ∧ r + e.sz ≤ L) ∧ Below w.heap.size w w' := by
  have LA : Hid (Bx (w.alloc (.cells #[.int .i64 e.k, .string e.who, .slice e.s.a e.s.n e.s.c, .string e.t] 35)) w.heap.size 35 [.int .i64 e.k, .string e.who, .slice e.s.a e.s.n e.s.c, .string e.t]) := by
    have h := Bx.new w 35 [.int .i64 e.k, .string e.who, .slice e.s.a e.s.n e.s.c, .string e.t]
    exact h
  have BW : Hid (Below w.heap.size w (w.alloc (.cells #[.int .i64 e.k, .string e.who, .slice e.s.a e.s.n e.s.c, .string e.t] 35))) := ((Below.refl _ _).alloc (by simp) _)
  have HR : Hid (e.R (w.alloc (.cells #[.int .i64 e.k, .string e.who, .slice e.s.a e.s.n e.s.c, .string e.t] 35))) := h.out.stays BW.out
  clear h
  have hnm : e.who.size ≤ 9223372036854775807 := hl.out.1
  have hnt : e.t.size ≤ 9223372036854775807 := hl.out.2.2.2
  have c1 := LA.out.cell 1
  have c2 := LA.out.cell 2
  have c3 := LA.out.cell 3
  simp only [List.getElem?_cons_succ, List.getElem?_cons_zero] at c1 c2 c3
  by_cases h1 : L < e.who.size
  · have hd : decide ((L : Int) - (e.who.size : Int) < 0) = true := by simp; omega
    go_enter Tryd.func18, Tryd.ntmps18
    go_wp2_with fail
    go_ret
    exact ⟨.inl rfl, BW.out⟩
  have hd : decide ((L : Int) - (e.who.size : Int) < 0) = false := by simp; omega
  obtain ⟨z, hz⟩ : ∃ z : Nat, z = L - e.who.size := ⟨_, rfl⟩
  have hze : (L : Int) - (e.who.size : Int) = (z : Int) := by omega
  have HZ : Hid (z + e.who.size = L) := (by omega : z + e.who.size = L)
  have hzl : z ≤ 1048576 := by omega
  clear hz
  go_enter Tryd.func18, Tryd.ntmps18
  go_wp2_with fail
  try rw [hze]
  clear hd hze c1 c2
  refine (szT_tot e.s e.gs z _ (show Hid (RT _ e.s.v e.gs) from HR.out) hzl hl.out.2.1 (show Hid (∀ x ∈ e.gs, x.size ≤ 9223372036854775807) from hl.out.2.2.1)).mono ?_
  rintro x w1 ⟨rfl | ⟨r, rfl, hr⟩, rfl⟩
  · go_wp2_with fail
    go_ret
    exact ⟨.inl rfl, BW.out⟩
  have HRR : Hid (r + totS e.gs ≤ z) := hr
  have hrl : r ≤ 1048576 := by omega
  have hd1 : decide ((r : Int) < 0) = false := by simp
  clear hr
  by_cases h2 : r < e.t.size
  · have hd : decide ((r : Int) - (e.t.size : Int) < 0) = true := by simp; omega
    go_wp2_with fail
    go_ret
    exact ⟨.inl rfl, BW.out⟩
  have hd : decide ((r : Int) - (e.t.size : Int) < 0) = false := by simp; omega
  go_wp2_with fail
  go_ret
  exact ⟨.inr ⟨r - e.t.size, by rw [show ((r - e.t.size : Nat) : Int) = (r : Int) - (e.t.size : Int) by omega]; rfl, by have := HZ.out; have := HRR.out; unfold Wd.sz; omega⟩, BW.out⟩
set_option maxRecDepth 100000 in
set_option maxHeartbeats 8000000 in
theorem toWd_any (e : Wd) (w : World) (h : Hid (e.R w)) (hs : e.S) :
    Calls Tryd.prog 19 #[.agg #[.int .i64 e.k, .string e.who, .slice e.s.a e.s.n e.s.c, .string e.t]] w fun x w' => ∃ u : Sv, x = .returned (.agg #[.int .i64 e.k, .string e.who, .slice u.a u.n u.c, .string e.t]) ∧ OwnS w' w.heap.size u.v e.gs ∧ Below w.heap.size w w' := by
  have hn1 : (w.alloc (.cells #[.int .i64 e.k, .string e.who, .slice e.s.a e.s.n e.s.c, .string e.t] 35)).heap.size = w.heap.size + 1 := by simp
  have hn2 : ((w.alloc (.cells #[.int .i64 e.k, .string e.who, .slice e.s.a e.s.n e.s.c, .string e.t] 35)).alloc (.cells #[.int .i64 0, .string ⟨#[]⟩, .slice none 0 0, .string ⟨#[]⟩] 26)).heap.size = w.heap.size + 2 := by simp
  have LA : Hid (Bx (((w.alloc (.cells #[.int .i64 e.k, .string e.who, .slice e.s.a e.s.n e.s.c, .string e.t] 35)).alloc (.cells #[.int .i64 0, .string ⟨#[]⟩, .slice none 0 0, .string ⟨#[]⟩] 26)).alloc (.cells #[.int .i64 0, .string ⟨#[]⟩, .slice none 0 0, .string ⟨#[]⟩] 26)) w.heap.size 35 [.int .i64 e.k, .string e.who, .slice e.s.a e.s.n e.s.c, .string e.t]) := by
    have h := Bx.new w 35 [.int .i64 e.k, .string e.who, .slice e.s.a e.s.n e.s.c, .string e.t]
    exact ((h).later ((Below.refl _ _).alloc (Nat.le_refl _) _)).later ((Below.refl _ _).alloc (Nat.le_refl _) _)
  have EB : Hid (Bx (((w.alloc (.cells #[.int .i64 e.k, .string e.who, .slice e.s.a e.s.n e.s.c, .string e.t] 35)).alloc (.cells #[.int .i64 0, .string ⟨#[]⟩, .slice none 0 0, .string ⟨#[]⟩] 26)).alloc (.cells #[.int .i64 0, .string ⟨#[]⟩, .slice none 0 0, .string ⟨#[]⟩] 26)) (w.heap.size + 1) 26 [.int .i64 0, .string ⟨#[]⟩, .slice none 0 0, .string ⟨#[]⟩]) := by
    have h := Bx.new (w.alloc (.cells #[.int .i64 e.k, .string e.who, .slice e.s.a e.s.n e.s.c, .string e.t] 35)) 26 [.int .i64 0, .string ⟨#[]⟩, .slice none 0 0, .string ⟨#[]⟩]
    rw [hn1] at h
    exact (h).later ((Below.refl _ _).alloc (Nat.le_refl _) _)
  have VB : Hid (Bx (((w.alloc (.cells #[.int .i64 e.k, .string e.who, .slice e.s.a e.s.n e.s.c, .string e.t] 35)).alloc (.cells #[.int .i64 0, .string ⟨#[]⟩, .slice none 0 0, .string ⟨#[]⟩] 26)).alloc (.cells #[.int .i64 0, .string ⟨#[]⟩, .slice none 0 0, .string ⟨#[]⟩] 26)) (w.heap.size + 2) 26 [.int .i64 0, .string ⟨#[]⟩, .slice none 0 0, .string ⟨#[]⟩]) := by
    have h := Bx.new ((w.alloc (.cells #[.int .i64 e.k, .string e.who, .slice e.s.a e.s.n e.s.c, .string e.t] 35)).alloc (.cells #[.int .i64 0, .string ⟨#[]⟩, .slice none 0 0, .string ⟨#[]⟩] 26)) 26 [.int .i64 0, .string ⟨#[]⟩, .slice none 0 0, .string ⟨#[]⟩]
    rw [hn2] at h
    exact h
  have BW : Hid (Below w.heap.size w (((w.alloc (.cells #[.int .i64 e.k, .string e.who, .slice e.s.a e.s.n e.s.c, .string e.t] 35)).alloc (.cells #[.int .i64 0, .string ⟨#[]⟩, .slice none 0 0, .string ⟨#[]⟩] 26)).alloc (.cells #[.int .i64 0, .string ⟨#[]⟩, .slice none 0 0, .string ⟨#[]⟩] 26))) := ((((Below.refl _ _).alloc (by simp) _).alloc (by simp; try omega) _).alloc (by simp; try omega) _)
  clear hn1 hn2
  have h0 := h
  clear h
  have hl : e.gs.length ≤ 1048576 := by have := hs.2.1; unfold totS at this; omega
  go_enter Tryd.func19, Tryd.ntmps19
  have c0 := LA.out.cell 0
  simp only [List.getElem?_cons_succ, List.getElem?_cons_zero] at c0
  go_wp2_with (first | (with_reducible refine wpList_haltS 3 _ _ rfl ?_))
  refine Stp.go ?_
  generalize (((w.alloc (.cells #[.int .i64 e.k, .string e.who, .slice e.s.a e.s.n e.s.c, .string e.t] 35)).alloc (.cells #[.int .i64 0, .string ⟨#[]⟩, .slice none 0 0, .string ⟨#[]⟩] 26)).alloc (.cells #[.int .i64 0, .string ⟨#[]⟩, .slice none 0 0, .string ⟨#[]⟩] 26)) = W at *
  have zW : w.heap.size + 2 < W.heap.size := VB.out.lt
  clear c0
  refine wpList_st1 rfl 3 _ _ rfl (w.heap.size + 2) 0 rfl 26 _ VB.out (.int .i64 e.k) rfl (by simp) rfl Tryd.sizeInt [.int .i64 e.k, .string ⟨#[]⟩, .slice none 0 0, .string ⟨#[]⟩] rfl ?_
  intro w1 OB TB
  have z_w1 : W.heap.size ≤ w1.heap.size := Nat.le_of_eq TB.size.symm
  have LA : Hid (Bx w1 w.heap.size 35 [.int .i64 e.k, .string e.who, .slice e.s.a e.s.n e.s.c, .string e.t]) := LA.out.turn TB (by omega)
  have EB : Hid (Bx w1 (w.heap.size + 1) 26 [.int .i64 0, .string ⟨#[]⟩, .slice none 0 0, .string ⟨#[]⟩]) := EB.out.turn TB (by omega)
  have BW : Hid (Below w.heap.size w w1) := BW.out.trans (TB.below (by omega))
  have VB : Hid (Bx w1 (w.heap.size + 2) 26 [.int .i64 e.k, .string ⟨#[]⟩, .slice none 0 0, .string ⟨#[]⟩]) := OB
  clear OB TB
  have c1 := LA.out.cell 1
  simp only [List.getElem?_cons_succ, List.getElem?_cons_zero] at c1
  go_wp2_with (first | (with_reducible refine wpList_haltS 9 _ _ rfl ?_))
  refine Stp.go ?_
  clear c1
  refine wpList_st1 rfl 9 _ _ rfl (w.heap.size + 2) 1 rfl 26 _ VB.out (.string e.who) rfl (by simp) rfl Tryd.sizeStr [.int .i64 e.k, .string e.who, .slice none 0 0, .string ⟨#[]⟩] rfl ?_
  intro w2 OB TB
  have z_w2 : w1.heap.size ≤ w2.heap.size := Nat.le_of_eq TB.size.symm
  have LA : Hid (Bx w2 w.heap.size 35 [.int .i64 e.k, .string e.who, .slice e.s.a e.s.n e.s.c, .string e.t]) := LA.out.turn TB (by omega)
  have EB : Hid (Bx w2 (w.heap.size + 1) 26 [.int .i64 0, .string ⟨#[]⟩, .slice none 0 0, .string ⟨#[]⟩]) := EB.out.turn TB (by omega)
  have BW : Hid (Below w.heap.size w w2) := BW.out.trans (TB.below (by omega))
  have VB : Hid (Bx w2 (w.heap.size + 2) 26 [.int .i64 e.k, .string e.who, .slice none 0 0, .string ⟨#[]⟩]) := OB
  clear OB TB
  have HR : Hid (RT w2 e.s.v e.gs) := h0.out.stays BW.out
  have c2 := LA.out.cell 2
  simp only [List.getElem?_cons_succ, List.getElem?_cons_zero] at c2
  go_wp2_with fail
  clear c2
  refine (toT_r e.s e.gs _ HR hl).mono ?_
  rintro e w3 ⟨u1, rfl, o1, b⟩
  have zo1 : w.heap.size ≤ w2.heap.size := BW.out.size
  have O1 : Hid (OwnS w3 w.heap.size u1.v e.gs) := o1.down zo1
  clear o1
  have z_w3 : w2.heap.size ≤ w3.heap.size := b.size
  have LA : Hid (Bx w3 w.heap.size 35 [.int .i64 e.k, .string e.who, .slice e.s.a e.s.n e.s.c, .string e.t]) := LA.out.later b
  have EB : Hid (Bx w3 (w.heap.size + 1) 26 [.int .i64 0, .string ⟨#[]⟩, .slice none 0 0, .string ⟨#[]⟩]) := EB.out.later b
  have VB : Hid (Bx w3 (w.heap.size + 2) 26 [.int .i64 e.k, .string e.who, .slice none 0 0, .string ⟨#[]⟩]) := VB.out.later b
  have BW : Hid (Below w.heap.size w w3) := bl_next BW.out b
  have HR : Hid (RT w3 (e.s.v) (e.gs)) := HR.out.stays b
  clear b
  clear HR
  go_wp2_with (first | (with_reducible refine wpList_haltS 24 _ _ rfl ?_))
  refine Stp.go ?_
  refine wpList_st1 rfl 24 _ _ rfl (w.heap.size + 2) 2 rfl 26 _ VB.out (.slice u1.a u1.n u1.c) rfl (by simp) rfl Tryd.sizeStrs [.int .i64 e.k, .string e.who, .slice u1.a u1.n u1.c, .string ⟨#[]⟩] rfl ?_
  intro w4 OB TB
  have z_w4 : w3.heap.size ≤ w4.heap.size := Nat.le_of_eq TB.size.symm
  have LA : Hid (Bx w4 w.heap.size 35 [.int .i64 e.k, .string e.who, .slice e.s.a e.s.n e.s.c, .string e.t]) := LA.out.turn TB (by omega)
  have EB : Hid (Bx w4 (w.heap.size + 1) 26 [.int .i64 0, .string ⟨#[]⟩, .slice none 0 0, .string ⟨#[]⟩]) := EB.out.turn TB (by omega)
  have BW : Hid (Below w.heap.size w w4) := BW.out.trans (TB.below (by omega))
  have O1 : Hid (OwnS w4 w.heap.size (u1.v) (e.gs)) := O1.out.past VB.out TB (by decide)
  have VB : Hid (Bx w4 (w.heap.size + 2) 26 [.int .i64 e.k, .string e.who, .slice u1.a u1.n u1.c, .string ⟨#[]⟩]) := OB
  clear OB TB
  have c3 := LA.out.cell 3
  simp only [List.getElem?_cons_succ, List.getElem?_cons_zero] at c3
  go_wp2_with (first | (with_reducible refine wpList_haltS 9 _ _ rfl ?_))
  refine Stp.go ?_
  clear c3
  refine wpList_st1 rfl 9 _ _ rfl (w.heap.size + 2) 3 rfl 26 _ VB.out (.string e.t) rfl (by simp) rfl Tryd.sizeStr [.int .i64 e.k, .string e.who, .slice u1.a u1.n u1.c, .string e.t] rfl ?_
  intro w5 OB TB
  have z_w5 : w4.heap.size ≤ w5.heap.size := Nat.le_of_eq TB.size.symm
  have LA : Hid (Bx w5 w.heap.size 35 [.int .i64 e.k, .string e.who, .slice e.s.a e.s.n e.s.c, .string e.t]) := LA.out.turn TB (by omega)
  have EB : Hid (Bx w5 (w.heap.size + 1) 26 [.int .i64 0, .string ⟨#[]⟩, .slice none 0 0, .string ⟨#[]⟩]) := EB.out.turn TB (by omega)
  have BW : Hid (Below w.heap.size w w5) := BW.out.trans (TB.below (by omega))
  have O1 : Hid (OwnS w5 w.heap.size (u1.v) (e.gs)) := O1.out.past VB.out TB (by decide)
  have VB : Hid (Bx w5 (w.heap.size + 2) 26 [.int .i64 e.k, .string e.who, .slice u1.a u1.n u1.c, .string e.t]) := OB
  clear OB TB
  go_wp2_with (first | (refine wpList_ldG rfl 26 _ rfl (w.heap.size + 2) 0 rfl 26 _ VB.out [.int .i64 e.k, .string e.who, .slice u1.a u1.n u1.c, .string e.t] rfl _ Tryd.underlying26 rfl Tryd.sizeWd ?_) | (with_reducible refine wpList_haltS 26 _ _ rfl ?_))
  refine Stp.go ?_
  refine wpList_stB rfl 26 _ _ rfl (w.heap.size + 1) 0 rfl 26 _ EB.out [.int .i64 e.k, .string e.who, .slice u1.a u1.n u1.c, .string e.t] rfl (by simp) Tryd.sizeWd rfl [.int .i64 e.k, .string e.who, .slice u1.a u1.n u1.c, .string e.t] rfl ?_
  intro w6 OB TB
  have z_w6 : w5.heap.size ≤ w6.heap.size := Nat.le_of_eq TB.size.symm
  have LA : Hid (Bx w6 w.heap.size 35 [.int .i64 e.k, .string e.who, .slice e.s.a e.s.n e.s.c, .string e.t]) := LA.out.turn TB (by omega)
  have VB : Hid (Bx w6 (w.heap.size + 2) 26 [.int .i64 e.k, .string e.who, .slice u1.a u1.n u1.c, .string e.t]) := VB.out.turn TB (by omega)
  have BW : Hid (Below w.heap.size w w6) := BW.out.trans (TB.below (by omega))
  have O1 : Hid (OwnS w6 w.heap.size (u1.v) (e.gs)) := O1.out.past EB.out TB (by decide)
  have EB : Hid (Bx w6 (w.heap.size + 1) 26 [.int .i64 e.k, .string e.who, .slice u1.a u1.n u1.c, .string e.t]) := OB
  clear OB TB
  go_wp2_with fail
  refine bodyPost_ret (results_b Tryd.results19 (w.heap.size + 1) 26 [.int .i64 e.k, .string e.who, .slice u1.a u1.n u1.c, .string e.t] _ rfl EB.out Tryd.underlying26 rfl Tryd.sizeWd) rfl ?_
  exact ⟨u1, rfl, O1.out, BW.out⟩
end Go.Proofs.YtmbjflhhffcjdaaDoor


/- Words held against each other. Written by gen_wd.py. -/
namespace Go.Proofs.YtmbjflhhffcjdaaDoor
open Go.RowKit Pl
set_option linter.unusedVariables false
set_option linter.unusedSimpArgs false

set_option maxRecDepth 100000 in
set_option maxHeartbeats 4000000 in
theorem eqWd_same (e : Wd) (a b : Sv) (B1 B2 : Nat) (w : World) (hs : Hid e.S) (h1 : Hid (OwnS w B1 a.v e.gs)) (h2 : Hid (OwnS w B2 b.v e.gs)) :
    Calls Tryd.prog 20 #[.agg #[.int .i64 e.k, .string e.who, .slice a.a a.n a.c, .string e.t], .agg #[.int .i64 e.k, .string e.who, .slice b.a b.n b.c, .string e.t]] w fun x w' => x = .returned (.bool true) ∧ Below w.heap.size w w' := by
  have hn1 : (w.alloc (.cells #[.int .i64 e.k, .string e.who, .slice a.a a.n a.c, .string e.t] 26)).heap.size = w.heap.size + 1 := by simp
  have LA : Hid (Bx ((w.alloc (.cells #[.int .i64 e.k, .string e.who, .slice a.a a.n a.c, .string e.t] 26)).alloc (.cells #[.int .i64 e.k, .string e.who, .slice b.a b.n b.c, .string e.t] 26)) w.heap.size 26 [.int .i64 e.k, .string e.who, .slice a.a a.n a.c, .string e.t]) := by
    have h := Bx.new w 26 [.int .i64 e.k, .string e.who, .slice a.a a.n a.c, .string e.t]
    exact (h).later ((Below.refl _ _).alloc (Nat.le_refl _) _)
  have LB : Hid (Bx ((w.alloc (.cells #[.int .i64 e.k, .string e.who, .slice a.a a.n a.c, .string e.t] 26)).alloc (.cells #[.int .i64 e.k, .string e.who, .slice b.a b.n b.c, .string e.t] 26)) (w.heap.size + 1) 26 [.int .i64 e.k, .string e.who, .slice b.a b.n b.c, .string e.t]) := by
    have h := Bx.new (w.alloc (.cells #[.int .i64 e.k, .string e.who, .slice a.a a.n a.c, .string e.t] 26)) 26 [.int .i64 e.k, .string e.who, .slice b.a b.n b.c, .string e.t]
    rw [hn1] at h
    exact h
  have BW : Hid (Below w.heap.size w ((w.alloc (.cells #[.int .i64 e.k, .string e.who, .slice a.a a.n a.c, .string e.t] 26)).alloc (.cells #[.int .i64 e.k, .string e.who, .slice b.a b.n b.c, .string e.t] 26))) := (((Below.refl _ _).alloc (by simp) _).alloc (by simp; try omega) _)
  clear hn1
  have H1 : Hid (OwnS ((w.alloc (.cells #[.int .i64 e.k, .string e.who, .slice a.a a.n a.c, .string e.t] 26)).alloc (.cells #[.int .i64 e.k, .string e.who, .slice b.a b.n b.c, .string e.t] 26)) B1 a.v e.gs) := h1.out.keep' fun _ _ hk => BW.out.block _ hk
  have H2 : Hid (OwnS ((w.alloc (.cells #[.int .i64 e.k, .string e.who, .slice a.a a.n a.c, .string e.t] 26)).alloc (.cells #[.int .i64 e.k, .string e.who, .slice b.a b.n b.c, .string e.t] 26)) B2 b.v e.gs) := h2.out.keep' fun _ _ hk => BW.out.block _ hk
  clear h1 h2
  have hl : e.gs.length ≤ 1048577 := by have := hs.out.2.1; unfold totS at this; omega
  have d0 : (e.k != e.k) = false := by simp
  have d1 : (e.who.toList == e.who.toList) = true := by simp
  have d2 : (e.t.toList == e.t.toList) = true := by simp
  have a0 := LA.out.cell 0
  have a1 := LA.out.cell 1
  have a2 := LA.out.cell 2
  have a3 := LA.out.cell 3
  simp only [List.getElem?_cons_succ, List.getElem?_cons_zero] at a0 a1 a2 a3
  have b0 := LB.out.cell 0
  have b1 := LB.out.cell 1
  have b2 := LB.out.cell 2
  have b3 := LB.out.cell 3
  simp only [List.getElem?_cons_succ, List.getElem?_cons_zero] at b0 b1 b2 b3
  go_enter Tryd.func20, Tryd.ntmps20
  go_wp2_with fail
  clear a0 b0 a1 b1 a2 b2 d0 d1
  refine (eqS_same a.v b.v e.gs _ _ _ H1.out H2.out hl).mono ?_
  rintro x w1 ⟨rfl, c⟩
  have LA : Hid (Bx w1 w.heap.size 26 [.int .i64 e.k, .string e.who, .slice a.a a.n a.c, .string e.t]) := LA.out.later c
  have LB : Hid (Bx w1 (w.heap.size + 1) 26 [.int .i64 e.k, .string e.who, .slice b.a b.n b.c, .string e.t]) := LB.out.later c
  have BW : Hid (Below w.heap.size w w1) := bl_next BW.out c
  clear a3 b3
  have a3 := LA.out.cell 3
  simp only [List.getElem?_cons_succ, List.getElem?_cons_zero] at a3
  have b3 := LB.out.cell 3
  simp only [List.getElem?_cons_succ, List.getElem?_cons_zero] at b3
  go_wp2_with fail
  go_ret
  exact ⟨rfl, BW.out⟩
end Go.Proofs.YtmbjflhhffcjdaaDoor


/- Events in plain words and in memory; one event measured, copied, held against another. Written by gen_ev.py. -/
namespace Go.Proofs.YtmbjflhhffcjdaaDoor
open Go.RowKit Pl
set_option linter.unusedVariables false
set_option linter.unusedSimpArgs false

/-- an event, and where its lists lie. -/
structure Ev where
  k : Int
  rid : Int
  ms : List Int
  q : Int
  f : Int
  l : Int
  t : ByteArray
  wi : List Int
  sm : Sv
  sw : Sv
def Ev.row (e : Ev) : List Value := [.int .i64 e.k, .int .i64 e.rid, .slice e.sm.a e.sm.n e.sm.c, .int .i64 e.q, .int .i64 e.f, .int .i64 e.l, .string e.t, .slice e.sw.a e.sw.n e.sw.c]
/-- what an event says. -/
def Ev.pl (e : Ev) : Int × Int × List Int × It × List Int := (e.k, e.rid, e.ms, (e.q, e.f, e.l, e.t), e.wi)
/-- its lists are read. -/
def Ev.R (w : World) (e : Ev) : Prop := RI w e.sm.v e.ms ∧ RI w e.sw.v e.wi
theorem Ev.R.stays {w w' : World} {e : Ev} (h : e.R w) (b : Below w.heap.size w w') : e.R w' := ⟨h.1.stays b, h.2.stays b⟩
def Ev.S (e : Ev) : Prop := e.ms.length ≤ 1048576 ∧ e.wi.length ≤ 1048576 ∧ e.t.size ≤ 1048576
def Ev.L (e : Ev) : Prop := e.ms.length ≤ 9223372036854775807 ∧ e.wi.length ≤ 9223372036854775807 ∧ e.t.size ≤ 9223372036854775807
def Ev.sz (e : Ev) : Nat := e.ms.length + e.t.size + e.wi.length
/-- its lists are of a call's own. -/
def Ev.O (w : World) (B : Nat) (e : Ev) : Prop := OwnI w B e.sm.v e.ms ∧ OwnI w B e.sw.v e.wi
theorem Ev.O.r {w : World} {B : Nat} {e : Ev} (h : e.O w B) : e.R w := ⟨h.1.ri, h.2.ri⟩
end Go.Proofs.YtmbjflhhffcjdaaDoor


/- Lists of events that a law measures and copies. Written by gen_ls.py. -/
namespace Go.Proofs.YtmbjflhhffcjdaaDoor
open Go.RowKit Pl
set_option linter.unusedVariables false
set_option linter.unusedSimpArgs false

theorem Ev.O.keep {w w' : World} {B : Nat} {e : Ev} (h : e.O w B) (hk : ∀ b, B ≤ b → b < w.heap.size → w'.heap[b]? = w.heap[b]?) : e.O w' B := ⟨h.1.keep fun b hb hl => hk b (h.1.lt b hb).1 hl, h.2.keep fun b hb hl => hk b (h.2.lt b hb).1 hl⟩
theorem Ev.O.below {w w' : World} {B : Nat} {e : Ev} (h : e.O w B) (b : Below w.heap.size w w') : e.O w' B := h.keep fun k _ hk => b.block k hk
theorem Ev.O.down {w : World} {B B' : Nat} {e : Ev} (h : e.O w B) (hB : B' ≤ B) : e.O w B' := ⟨h.1.down hB, h.2.down hB⟩
def Ev.own (e : Ev) (x : Nat) : Prop := e.sm.v.ownBlock = some x ∨ e.sw.v.ownBlock = some x
theorem Ev.O.lt {w : World} {B : Nat} {e : Ev} (h : e.O w B) (x : Nat) (hx : e.own x) : B ≤ x ∧ x < w.heap.size := by
  rcases hx with hx | hx
  · exact h.1.lt x hx
  · exact h.2.lt x hx
def Ev.Up (e : Ev) : Prop := ∀ a c, e.sm.v.ownBlock = some a → e.sw.v.ownBlock = some c → a < c
/-- a list of them that is read. -/
def EvsR (w : World) (s : Sv) (es : List Ev) : Prop := s.n = es.length ∧ RwA w s.a 8 (es.map Ev.row) ∧ ∀ e ∈ es, e.R w
theorem EvsR.stays {w w' : World} {s : Sv} {es : List Ev} (h : EvsR w s es) (b : Below w.heap.size w w') : EvsR w' s es := ⟨h.1, h.2.1.stays b, fun e he => (h.2.2 e he).stays b⟩
/-- each one's lists lie behind those of the ones ahead. -/
def EvsUp (es : List Ev) : Prop := (∀ e ∈ es, e.Up) ∧ es.Pairwise fun a b => ∀ x y, a.own x → b.own y → x < y
def Evs.tot (es : List Ev) : Nat := (es.map fun e => e.sz).sum
end Go.Proofs.YtmbjflhhffcjdaaDoor


/- Lists of bundles that a law measures and copies. Written by gen_ls.py. -/
namespace Go.Proofs.YtmbjflhhffcjdaaDoor
open Go.RowKit Pl
set_option linter.unusedVariables false
set_option linter.unusedSimpArgs false

/-- a bundle, and where its list lies. -/
structure Bu where
  f : Int
  n : Int
  o : Int
  ts : List It
  s : Sv
def Bu.ok (b : Bu) : Bool := bunB b.f b.n b.o b.ts
/-- what a bundle says. -/
def Bu.pl (b : Bu) : Int × Int × Int × List It := (b.f, b.n, b.o, b.ts)
def Bu.row (b : Bu) : List Value := [.int .i64 b.f, .int .i64 b.n, .int .i64 b.o, .slice b.s.a b.s.n b.s.c]
def Bu.R (w : World) (b : Bu) : Prop := RSt w b.s b.ts
theorem Bu.R.stays {w w' : World} {b : Bu} (h : b.R w) (hb : Below w.heap.size w w') : b.R w' := RSt.stays h hb
def Bu.S (b : Bu) : Prop := b.ts.length ≤ 1048576
def Bu.L (b : Bu) : Prop := b.ts.length ≤ 9223372036854775807 ∧ ∀ x ∈ b.ts, x.2.2.2.size ≤ 9223372036854775807
def Bu.sz (b : Bu) : Nat := b.ts.length
def Bu.own (e : Bu) (x : Nat) : Prop := e.s.v.ownBlock = some x
def Bu.Up (e : Bu) : Prop := True
/-- a list of them that is read. -/
def BusR (w : World) (s : Sv) (es : List Bu) : Prop := s.n = es.length ∧ RwA w s.a 4 (es.map Bu.row) ∧ ∀ e ∈ es, e.R w
theorem BusR.stays {w w' : World} {s : Sv} {es : List Bu} (h : BusR w s es) (b : Below w.heap.size w w') : BusR w' s es := ⟨h.1, h.2.1.stays b, fun e he => (h.2.2 e he).stays b⟩
/-- each one's lists lie behind those of the ones ahead. -/
def BusUp (es : List Bu) : Prop := (∀ e ∈ es, e.Up) ∧ es.Pairwise fun a b => ∀ x y, a.own x → b.own y → x < y
def Bus.tot (es : List Bu) : Nat := (es.map fun e => e.sz).sum
end Go.Proofs.YtmbjflhhffcjdaaDoor


/- Lists of events, held against each other. Written by gen_gs.py. -/
namespace Go.Proofs.YtmbjflhhffcjdaaDoor
open Go.RowKit Pl
set_option linter.unusedVariables false
set_option linter.unusedSimpArgs false
end Go.Proofs.YtmbjflhhffcjdaaDoor


/- Lists of bundles, held against each other. Written by gen_gs.py. -/
namespace Go.Proofs.YtmbjflhhffcjdaaDoor
open Go.RowKit Pl
set_option linter.unusedVariables false
set_option linter.unusedSimpArgs false
end Go.Proofs.YtmbjflhhffcjdaaDoor


/- Lists of events, lists of bundles: held against each other. -/
namespace Go.Proofs.YtmbjflhhffcjdaaDoor
open Go.RowKit Pl
set_option linter.unusedVariables false
set_option linter.unusedSimpArgs false

end Go.Proofs.YtmbjflhhffcjdaaDoor


/- Daemons in plain words and in memory; a daemon measured, copied, held against another. Written by gen_dm.py. -/
namespace Go.Proofs.YtmbjflhhffcjdaaDoor
open Go.RowKit Pl
set_option linter.unusedVariables false
set_option linter.unusedSimpArgs false

/-- a daemon, and where its lists lie. -/
structure Dm where
  id : Int
  dead : Bool
  m : Mt
  mv : Mv
  most : Int
  old : Int
  jid : Int
  jms : List Int
  js : Sv
  bu : List Bu
  bs : Sv
  lo : List Ev
  ls : Sv
/-- its lists are read. -/
structure DmR (w : World) (d : Dm) : Prop where
  mt : MtR w d.m d.mv
  jo : RI w d.js.v d.jms
  bu : BusR w d.bs d.bu
  lo : EvsR w d.ls d.lo
theorem DmR.stays {w w' : World} {d : Dm} (h : DmR w d) (b : Below w.heap.size w w') : DmR w' d := ⟨h.mt.stays b, h.jo.stays b, h.bu.stays b, h.lo.stays b⟩
/-- no longer than can be. -/
structure DmL (d : Dm) : Prop where
  mt : MtL d.m
  jo : d.jms.length ≤ 9223372036854775807
  bu : d.bu.length ≤ 9223372036854775807 ∧ ∀ b ∈ d.bu, b.L
  lo : d.lo.length ≤ 9223372036854775807 ∧ ∀ e ∈ d.lo, e.L
/-- not too long. -/
structure DmS (d : Dm) : Prop where
  mt : MtS d.m
  jo : d.jms.length ≤ 1048576
  bu : d.bu.length + Bus.tot d.bu ≤ 1048576
  lo : d.lo.length + Evs.tot d.lo ≤ 1048576
/-- the same, in plain words. -/
structure Dm.Same (a b : Dm) : Prop where
  id : a.id = b.id
  dead : a.dead = b.dead
  m : a.m = b.m
  most : a.most = b.most
  old : a.old = b.old
  jid : a.jid = b.jid
  jms : a.jms = b.jms
  bu : a.bu.map Bu.pl = b.bu.map Bu.pl
  lo : a.lo.map Ev.pl = b.lo.map Ev.pl
theorem Dm.Same.symm {a b : Dm} (h : a.Same b) : b.Same a := ⟨h.id.symm, h.dead.symm, h.m.symm, h.most.symm, h.old.symm, h.jid.symm, h.jms.symm, h.bu.symm, h.lo.symm⟩
theorem Dm.Same.trans {a b c : Dm} (h : a.Same b) (k : b.Same c) : a.Same c := ⟨h.id.trans k.id, h.dead.trans k.dead, h.m.trans k.m, h.most.trans k.most, h.old.trans k.old, h.jid.trans k.jid, h.jms.trans k.jms, h.bu.trans k.bu, h.lo.trans k.lo⟩
theorem sz_of_pl {a b : List Bu} (h : a.map Bu.pl = b.map Bu.pl) : Bus.tot a = Bus.tot b := by
  have e : ∀ l : List Bu, l.map (fun e => e.sz) = (l.map Bu.pl).map (fun p => p.2.2.2.length) := fun l => by rw [List.map_map]; rfl
  unfold Bus.tot; rw [e, e, h]
theorem sz_of_ple {a b : List Ev} (h : a.map Ev.pl = b.map Ev.pl) : Evs.tot a = Evs.tot b := by
  have e : ∀ l : List Ev, l.map (fun e => e.sz) = (l.map Ev.pl).map (fun p => p.2.2.1.length + p.2.2.2.1.2.2.2.size + p.2.2.2.2.length) := fun l => by rw [List.map_map]; rfl
  unfold Evs.tot; rw [e, e, h]
theorem Dm.Same.small {a b : Dm} (h : a.Same b) (k : DmS b) : DmS a := by
  have l1 : a.bu.length = b.bu.length := by have := congrArg List.length h.bu; simpa using this
  have l2 : a.lo.length = b.lo.length := by have := congrArg List.length h.lo; simpa using this
  exact ⟨h.m ▸ k.mt, h.jms ▸ k.jo, by rw [l1, sz_of_pl h.bu]; exact k.bu, by rw [l2, sz_of_ple h.lo]; exact k.lo⟩
/-- the blocks of a list of bundles, of a list of events. -/
def BusOwn (s : Sv) (bs : List Bu) (y : Nat) : Prop := s.v.ownBlock = some y ∨ ∃ b ∈ bs, b.own y
def EvsOwn (s : Sv) (es : List Ev) (y : Nat) : Prop := s.v.ownBlock = some y ∨ ∃ e ∈ es, e.own y
/-- each of its lists lies apart. -/
structure BusA (s : Sv) (bs : List Bu) : Prop where
  row : ∀ y, s.v.ownBlock = some y → ∀ b ∈ bs, ¬ b.own y
  two : bs.Pairwise fun a b => ∀ x, a.own x → ¬ b.own x
structure EvsA (s : Sv) (es : List Ev) : Prop where
  row : ∀ y, s.v.ownBlock = some y → ∀ e ∈ es, ¬ e.own y
  one : ∀ e ∈ es, ∀ x, e.sm.v.ownBlock = some x → e.sw.v.ownBlock ≠ some x
  two : es.Pairwise fun a b => ∀ x, a.own x → ¬ b.own x
structure DmA (d : Dm) : Prop where
  mj : ∀ x, d.mv.own x → d.js.v.ownBlock ≠ some x
  mb : ∀ x, d.mv.own x → ¬ BusOwn d.bs d.bu x
  ml : ∀ x, d.mv.own x → ¬ EvsOwn d.ls d.lo x
  jb : ∀ x, d.js.v.ownBlock = some x → ¬ BusOwn d.bs d.bu x
  jl : ∀ x, d.js.v.ownBlock = some x → ¬ EvsOwn d.ls d.lo x
  bl : ∀ x, BusOwn d.bs d.bu x → ¬ EvsOwn d.ls d.lo x
  bu : BusA d.bs d.bu
  lo : EvsA d.ls d.lo
theorem BusUp.a {s : Sv} {bs : List Bu} (h : BusUp bs) (hr : ∀ b, s.v.ownBlock = some b → ∀ e ∈ bs, ∀ x, e.own x → b < x) : BusA s bs :=
  ⟨fun y hy b hb hx => by have := hr y hy b hb y hx; omega, h.2.imp fun h x hx hy => by have := h x x hx hy; omega⟩
theorem EvsUp.a {s : Sv} {es : List Ev} (h : EvsUp es) (hr : ∀ b, s.v.ownBlock = some b → ∀ e ∈ es, ∀ x, e.own x → b < x) : EvsA s es :=
  ⟨fun y hy b hb hx => by have := hr y hy b hb y hx; omega, fun e he x h1 h2 => by have := h.1 e he x x h1 h2; omega, h.2.imp fun h x hx hy => by have := h x x hx hy; omega⟩
end Go.Proofs.YtmbjflhhffcjdaaDoor


