/- Joined texts: CHf CShr CSla CLem14 CLs CGns CKrr CGnq CGeg CEv CEvs CBus CGee CGeb CEqw CDm CEqg CGp CGnm CGnl CTbw CWds. -/
import Derived.Test.YtmbjflhhffcjdaaDoorTbq25
import Derived.Test.YtmbjflhhffcjdaaDoorTbq24
import Derived.Test.YtmbjflhhffcjdaaDoorTbq23
import Derived.Test.YtmbjflhhffcjdaaDoorTbq14
import Derived.Test.YtmbjflhhffcjdaaDoorTbq16
import Derived.Laws.MakeOwn
import Derived.Test.YtmbjflhhffcjdaaDoorTbq21
import Derived.Test.YtmbjflhhffcjdaaDoorTbq12
/- Hear. -/
namespace Go.Proofs.YtmbjflhhffcjdaaDoor
open Go.RowKit Pl
set_option linter.unusedVariables false
set_option linter.unusedSimpArgs false

/-- the member behind it. -/
def Mt.hadH (m : Mt) : Mt := m.setH (m.he + m.hear.length)

end Go.Proofs.YtmbjflhhffcjdaaDoor


/- What a member hears: the specification's Hear, where the member is right. Written by gen_shr.py. -/
namespace Go.Proofs.YtmbjflhhffcjdaaDoor
open Go.RowKit Pl
set_option linter.unusedVariables false
set_option linter.unusedSimpArgs false
end Go.Proofs.YtmbjflhhffcjdaaDoor


/- What a token wants yet: the specification's Lacks. Written by gen_sla.py. -/
namespace Go.Proofs.YtmbjflhhffcjdaaDoor
open Go.RowKit Pl
set_option linter.unusedVariables false
set_option linter.unusedSimpArgs false

/-- whether a number is wanted yet. -/
def slB (ws lk : List Int) (its : List It) (n : Int) : Bool := (!hasP its n && inB ws n) || inB lk n
def slGo (ws lk : List Int) (its : List It) : Nat → Nat → List Int → List Int
  | 0, _, acc => acc
  | f + 1, n, acc => if acc.length < 20 then slGo ws lk its f (n + 1) (if slB ws lk its (n : Int) = true then acc ++ [(n : Int)] else acc) else acc
def slackP (ws : List Int) (its : List It) (q : Int) : List Int := slGo ws (missP its q) its 60 1 []
end Go.Proofs.YtmbjflhhffcjdaaDoor


/- Small lemmas of round 14: rows that are read in drawn regions, lists cut, lengths of slices. -/
namespace Go.Proofs.YtmbjflhhffcjdaaDoor
open Go.RowKit Pl
set_option linter.unusedVariables false
set_option linter.unusedSimpArgs false

theorem ldN_yield {P : Program} {ops : Array Oper} {o : Oper} {a : Act} {S : World → Prop} (hw : Region.wanted o (yielded ops a.tmps) = true) (ty : TypeId) (x : Operand) (ho : o.op = .load ty x) (g off : Nat) (hx : a.eval x = .pointer (some ⟨g, off, none⟩)) (cs : List Value) (hS : ∀ w, S w → w.rangeAt g off cs)
    (d : TypeDesc) (hu : P.underlying ty = some d) (hd : d.isRow = true) (hi : (P.info? ty).map (·.size) = some cs.length) : YieldsIf P ops S o (.agg cs.toArray) a :=
  yieldsIf_load_mid hw ty x ho g off hx cs d hS hu hd hi
theorem range_later {w w' : World} {g off : Nat} {cs : List Value} (h : w.rangeAt g off cs) (hg : g < w.heap.size) (b : Below w.heap.size w w') : w'.rangeAt g off cs := fun j v hv => (b.cell (p := ⟨g, off + j, none⟩) hg).trans (h j v hv)
theorem Pl.OwnI.slen {w : World} {B : Nat} {s : Sv} {ts : List Int} (h : OwnI w B s.v ts) : s.n = ts.length := by obtain ⟨a, c, h1⟩ := h.form; simp only [Sv.v, Value.slice.injEq] at h1; exact h1.2.1
theorem Pl.OwnS.slen {w : World} {B : Nat} {s : Sv} {ts : List ByteArray} (h : OwnS w B s.v ts) : s.n = ts.length := by obtain ⟨a, c, h1⟩ := h.form; simp only [Sv.v, Value.slice.injEq] at h1; exact h1.2.1
end Go.Proofs.YtmbjflhhffcjdaaDoor


/- Lists of structs: rows that are read, rows that were made. No function of the program is named here. -/
namespace Go.Proofs.YtmbjflhhffcjdaaDoor
open Go.RowKit Pl
set_option linter.unusedVariables false
set_option linter.unusedSimpArgs false

/-- rows that are read. -/
def RwA (w : World) (a : Option Addr) (size : Nat) (rows : List (List Value)) : Prop :=
  ∀ i (h : i < rows.length), ∃ g off, a = some ⟨g, off, none⟩ ∧ g < w.heap.size ∧ rows[i].length = size ∧ w.rangeAt g (off + i * size) rows[i]
section
variable {w w' : World} {a : Option Addr} {size T B : Nat} {rows : List (List Value)}
theorem RwA.stays (h : RwA w a size rows) (b : Below w.heap.size w w') : RwA w' a size rows := fun i hi => by
  obtain ⟨g, off, h1, h2, h3, h4⟩ := h i hi
  exact ⟨g, off, h1, Nat.lt_of_lt_of_le h2 b.size, h3, range_later h4 h2 b⟩
theorem RwA.nil (w : World) (a : Option Addr) (size : Nat) : RwA w a size [] := fun i hi => absurd hi (Nat.not_lt_zero _)
theorem SlN.rwa {s : Sv} (h : SlN w T size B s.v rows) : RwA w s.a size rows := fun i hi => by
  obtain ⟨g, off, cap, h1, h2, h3, h4⟩ := h.read hi
  simp only [Sv.v, Value.slice.injEq] at h1
  exact ⟨g, off, h1.1, h3, h.lens _ (List.getElem_mem hi), h4⟩
theorem SlN.slen {s : Sv} (h : SlN w T size B s.v rows) : s.n = rows.length := by
  obtain ⟨s', e, hn⟩ := h.form
  simp only [Sv.v, Value.slice.injEq] at e
  omega
end
theorem made_flat (zr : List Value) (h0 : 0 < zr.length) (n : Nat) : (madeCells zr.toArray (n * zr.length)).toList = (List.replicate n zr).flatten := by
  apply List.ext_getElem?
  intro j
  have hl : ((List.replicate n zr).flatten).length = n * zr.length := by simp
  by_cases hj : j < n * zr.length
  · have hm : j % zr.length < zr.length := Nat.mod_lt _ h0
    have hd : j / zr.length < n := Nat.div_lt_of_lt_mul (by rw [Nat.mul_comm]; exact hj)
    have e : j = (j / zr.length) * zr.length + j % zr.length := by rw [Nat.mul_comm]; exact (Nat.div_add_mod j zr.length).symm
    have h1 : (madeCells zr.toArray (n * zr.length)).toList[j]? = some (zr[j % zr.length]'hm) := by simp [madeCells, hj, hm]
    rw [h1]
    have h2 : ∀ (m i r : Nat) (hr : r < zr.length), i < m → ((List.replicate m zr).flatten)[i * zr.length + r]? = zr[r]? := by
      intro m
      induction m with
      | zero => intro i r hr hi; omega
      | succ m ih =>
        intro i r hr hi
        rw [List.replicate_succ, List.flatten_cons]
        cases i with
        | zero => rw [List.getElem?_append_left (by simpa using hr)]; simp
        | succ i =>
          rw [List.getElem?_append_right (by rw [Nat.succ_mul]; omega), show (i + 1) * zr.length + r - zr.length = i * zr.length + r by rw [Nat.succ_mul]; omega]
          exact ih i r hr (by omega)
    have h3 := h2 n (j / zr.length) (j % zr.length) hm hd
    rw [← e] at h3
    rw [h3, List.getElem?_eq_getElem hm]
  · rw [List.getElem?_eq_none (by simp [madeCells]; omega), List.getElem?_eq_none (by rw [hl]; omega)]
/-- a list that was just made. -/
theorem SlN.zeros (w : World) (T : TypeId) (zr : List Value) (h0 : 0 < zr.length) (h1 : zr.all (·.oneCell') = true) (n B : Nat) (hB : B ≤ w.heap.size) (hn : n ≤ 1048576) : SlN (w.alloc (.cells (madeCells zr.toArray (n * zr.length)) T)) T zr.length B (.slice (some ⟨w.heap.size, 0, none⟩) n n) (List.replicate n zr) := by
  refine ⟨?_, fun r hr => ?_⟩
  · rw [List.length_replicate]
    refine ⟨by simp, .inr ⟨w.heap.size, 0, n, _, rfl, hB, heap_alloc_new w _, Nat.le_refl _, by unfold maxLen; omega, by rw [size_madeCells]; omega, fun j hj => ?_⟩⟩
    rw [← made_flat zr h0 n, Nat.zero_add, Array.getElem?_toList]
  · rw [(List.mem_replicate.1 hr).2]
    exact ⟨rfl, List.all_eq_true.1 h1⟩
theorem set_snoc {α : Type} (xs : List α) (z x : α) (n : Nat) : (xs ++ List.replicate (n + 1) z).set xs.length x = (xs ++ [x]) ++ List.replicate n z := by
  rw [List.set_append_right _ _ (Nat.le_refl _), Nat.sub_self, List.replicate_succ, List.set_cons_zero, List.append_assoc]
  rfl
end Go.Proofs.YtmbjflhhffcjdaaDoor


/- Lists of groups that a law measures and copies. Written by gen_gn.py. -/
namespace Go.Proofs.YtmbjflhhffcjdaaDoor
open Go.RowKit Pl
set_option linter.unusedVariables false
set_option linter.unusedSimpArgs false

/-- a group, and where its list lies. -/
structure Gn where
  nm : ByteArray
  ms : List ByteArray
  s : Sv
def Gn.pl (r : Gn) : ByteArray × List ByteArray := (r.nm, r.ms)
def Gn.row (r : Gn) : List Value := [.string r.nm, .slice r.s.a r.s.n r.s.c]
def Gn.R (w : World) (r : Gn) : Prop := RT w r.s.v r.ms
theorem Gn.R.stays {w w' : World} {b : Gn} (h : b.R w) (hb : Below w.heap.size w w') : b.R w' := RT.stays h hb
def Gn.S (b : Gn) : Prop := b.nm.size ≤ 1048576 ∧ totS b.ms ≤ 1048576
def Gn.M (b : Gn) : Prop := b.ms.length ≤ 1048576
theorem Gn.S.m {b : Gn} (h : b.S) : b.M := by have := h.2; unfold totS at this; unfold Gn.M; omega
def Gn.L (b : Gn) : Prop := b.nm.size ≤ 9223372036854775807 ∧ b.ms.length ≤ 9223372036854775807 ∧ ∀ t ∈ b.ms, t.size ≤ 9223372036854775807
def Gn.sz (b : Gn) : Nat := b.nm.size + totS b.ms
def Gn.O (w : World) (B : Nat) (b : Gn) : Prop := OwnS w B b.s.v b.ms
theorem Gn.O.r {w : World} {B : Nat} {b : Gn} (h : b.O w B) : b.R w := OwnS.texts h
theorem Gn.O.keep {w w' : World} {B : Nat} {e : Gn} (h : e.O w B) (hk : ∀ b, B ≤ b → b < w.heap.size → w'.heap[b]? = w.heap[b]?) : e.O w' B := OwnS.keep' h fun b hb hl => hk b (OwnS.lt h b hb).1 hl
theorem Gn.O.below {w w' : World} {B : Nat} {e : Gn} (h : e.O w B) (b : Below w.heap.size w w') : e.O w' B := h.keep fun k _ hk => b.block k hk
theorem Gn.O.down {w : World} {B B' : Nat} {e : Gn} (h : e.O w B) (hB : B' ≤ B) : e.O w B' := OwnS.down h hB
def Gn.own (e : Gn) (x : Nat) : Prop := e.s.v.ownBlock = some x
theorem Gn.O.lt {w : World} {B : Nat} {e : Gn} (h : e.O w B) (x : Nat) (hx : e.own x) : B ≤ x ∧ x < w.heap.size := OwnS.lt h x hx
def Gn.Up (e : Gn) : Prop := True
theorem Tryd.sizeLGn : (Tryd.prog.info? 116).map (·.size) = some 2 := by kernel_rfl
theorem Tryd.sizeGn : (Tryd.prog.info? 86).map (·.size) = some 2 := by kernel_rfl
theorem Tryd.sizeStr : (Tryd.prog.info? 9).map (·.size) = some 1 := by kernel_rfl
theorem Tryd.sizeStrs : (Tryd.prog.info? 24).map (·.size) = some 1 := by kernel_rfl
set_option maxRecDepth 100000 in
set_option maxHeartbeats 4000000 in
theorem szGn_any (e : Gn) (L : Nat) (w : World) (h : Hid (e.R w)) (hl : Hid e.L) (hL : L ≤ 1048576) :
    Calls Tryd.prog 97 #[.agg #[.string e.nm, .slice e.s.a e.s.n e.s.c], .int .i64 L] w fun x w' => (x = .returned (.int .i64 (-1)) ∨ ∃ r : Nat, x = .returned (.int .i64 r) ∧ r + e.sz ≤ L) ∧ Below w.heap.size w w' := by
  have LA : Hid (Bx (w.alloc (.cells #[.string e.nm, .slice e.s.a e.s.n e.s.c] 116)) w.heap.size 116 [.string e.nm, .slice e.s.a e.s.n e.s.c]) := by
    have h := Bx.new w 116 [.string e.nm, .slice e.s.a e.s.n e.s.c]
    exact h
  have BW : Hid (Below w.heap.size w (w.alloc (.cells #[.string e.nm, .slice e.s.a e.s.n e.s.c] 116))) := ((Below.refl _ _).alloc (by simp) _)
  have HR : Hid (e.R (w.alloc (.cells #[.string e.nm, .slice e.s.a e.s.n e.s.c] 116))) := h.out.stays BW.out
  clear h
  have hnm : e.nm.size ≤ 9223372036854775807 := hl.out.1
  have c0 := LA.out.cell 0
  simp only [List.getElem?_cons_zero] at c0
  have c1 := LA.out.cell 1
  simp only [List.getElem?_cons_succ, List.getElem?_cons_zero] at c1
  by_cases h1 : L < e.nm.size
  · have hd : decide ((L : Int) - (e.nm.size : Int) < 0) = true := by simp; omega
    go_enter Tryd.func97, Tryd.ntmps97
    go_wp2_with fail
    go_ret
    exact ⟨.inl rfl, BW.out⟩
  have hd : decide ((L : Int) - (e.nm.size : Int) < 0) = false := by simp; omega
  obtain ⟨z, hz⟩ : ∃ z : Nat, z = L - e.nm.size := ⟨_, rfl⟩
  have hze : (L : Int) - (e.nm.size : Int) = (z : Int) := by omega
  have HZ : Hid (z + e.nm.size = L) := (by omega : z + e.nm.size = L)
  have hzl : z ≤ 1048576 := by omega
  clear hz
  go_enter Tryd.func97, Tryd.ntmps97
  go_wp2_with fail
  try rw [hze]
  clear c0 c1 hd hze
  refine (szT_tot e.s e.ms z _ (show Hid (RT _ e.s.v e.ms) from HR.out) hzl hl.out.2.1 (show Hid (∀ x ∈ e.ms, x.size ≤ 9223372036854775807) from hl.out.2.2)).mono ?_
  rintro x w1 ⟨rfl | ⟨r, rfl, hr⟩, rfl⟩
  · go_wp2_with fail
    go_ret
    exact ⟨.inl rfl, BW.out⟩
  have HRR : Hid (r + totS e.ms ≤ z) := hr
  have hd : decide ((r : Int) < 0) = false := by simp
  clear hr
  go_wp2_with fail
  go_ret
  exact ⟨.inr ⟨r, rfl, by have := HZ.out; have := HRR.out; unfold Gn.sz; omega⟩, BW.out⟩
set_option maxRecDepth 100000 in
set_option maxHeartbeats 4000000 in
theorem toGn_any (e : Gn) (w : World) (h : Hid (e.R w)) (hs : e.S) :
    Calls Tryd.prog 98 #[.agg #[.string e.nm, .slice e.s.a e.s.n e.s.c]] w fun x w' => ∃ u : Sv, x = .returned (.agg #[.string e.nm, .slice u.a u.n u.c]) ∧ OwnS w' w.heap.size u.v e.ms ∧ Below w.heap.size w w' := by
  have hn1 : (w.alloc (.cells #[.string e.nm, .slice e.s.a e.s.n e.s.c] 116)).heap.size = w.heap.size + 1 := by simp
  have hn2 : ((w.alloc (.cells #[.string e.nm, .slice e.s.a e.s.n e.s.c] 116)).alloc (.cells #[.string ⟨#[]⟩, .slice none 0 0] 86)).heap.size = w.heap.size + 2 := by simp
  have LA : Hid (Bx (((w.alloc (.cells #[.string e.nm, .slice e.s.a e.s.n e.s.c] 116)).alloc (.cells #[.string ⟨#[]⟩, .slice none 0 0] 86)).alloc (.cells #[.string ⟨#[]⟩, .slice none 0 0] 86)) w.heap.size 116 [.string e.nm, .slice e.s.a e.s.n e.s.c]) := by
    have h := Bx.new w 116 [.string e.nm, .slice e.s.a e.s.n e.s.c]
    exact ((h).later ((Below.refl _ _).alloc (Nat.le_refl _) _)).later ((Below.refl _ _).alloc (Nat.le_refl _) _)
  have EB : Hid (Bx (((w.alloc (.cells #[.string e.nm, .slice e.s.a e.s.n e.s.c] 116)).alloc (.cells #[.string ⟨#[]⟩, .slice none 0 0] 86)).alloc (.cells #[.string ⟨#[]⟩, .slice none 0 0] 86)) (w.heap.size + 1) 86 [.string ⟨#[]⟩, .slice none 0 0]) := by
    have h := Bx.new (w.alloc (.cells #[.string e.nm, .slice e.s.a e.s.n e.s.c] 116)) 86 [.string ⟨#[]⟩, .slice none 0 0]
    rw [hn1] at h
    exact (h).later ((Below.refl _ _).alloc (Nat.le_refl _) _)
  have VB : Hid (Bx (((w.alloc (.cells #[.string e.nm, .slice e.s.a e.s.n e.s.c] 116)).alloc (.cells #[.string ⟨#[]⟩, .slice none 0 0] 86)).alloc (.cells #[.string ⟨#[]⟩, .slice none 0 0] 86)) (w.heap.size + 2) 86 [.string ⟨#[]⟩, .slice none 0 0]) := by
    have h := Bx.new ((w.alloc (.cells #[.string e.nm, .slice e.s.a e.s.n e.s.c] 116)).alloc (.cells #[.string ⟨#[]⟩, .slice none 0 0] 86)) 86 [.string ⟨#[]⟩, .slice none 0 0]
    rw [hn2] at h
    exact h
  have BW : Hid (Below w.heap.size w (((w.alloc (.cells #[.string e.nm, .slice e.s.a e.s.n e.s.c] 116)).alloc (.cells #[.string ⟨#[]⟩, .slice none 0 0] 86)).alloc (.cells #[.string ⟨#[]⟩, .slice none 0 0] 86))) := ((((Below.refl _ _).alloc (by simp) _).alloc (by simp; try omega) _).alloc (by simp; try omega) _)
  clear hn1 hn2
  have h0 := h
  clear h
  have hl : e.ms.length ≤ 1048576 := by have := hs.2; unfold totS at this; omega
  go_enter Tryd.func98, Tryd.ntmps98
  have c0 := LA.out.cell 0
  simp only [List.getElem?_cons_zero] at c0
  go_wp2_with (first | (with_reducible refine wpList_haltS 9 _ _ rfl ?_))
  refine Stp.go ?_
  generalize (((w.alloc (.cells #[.string e.nm, .slice e.s.a e.s.n e.s.c] 116)).alloc (.cells #[.string ⟨#[]⟩, .slice none 0 0] 86)).alloc (.cells #[.string ⟨#[]⟩, .slice none 0 0] 86)) = W at *
  have zW : w.heap.size + 2 < W.heap.size := VB.out.lt
  clear c0
  refine wpList_st1 rfl 9 _ _ rfl (w.heap.size + 2) 0 rfl 86 _ VB.out (.string e.nm) rfl (by simp) rfl Tryd.sizeStr [.string e.nm, .slice none 0 0] rfl ?_
  intro w1 OB TB
  have z_w1 : W.heap.size ≤ w1.heap.size := Nat.le_of_eq TB.size.symm
  have LA : Hid (Bx w1 w.heap.size 116 [.string e.nm, .slice e.s.a e.s.n e.s.c]) := LA.out.turn TB (by omega)
  have EB : Hid (Bx w1 (w.heap.size + 1) 86 [.string ⟨#[]⟩, .slice none 0 0]) := EB.out.turn TB (by omega)
  have BW : Hid (Below w.heap.size w w1) := BW.out.trans (TB.below (by omega))
  have VB : Hid (Bx w1 (w.heap.size + 2) 86 [.string e.nm, .slice none 0 0]) := OB
  clear OB TB
  have HR : Hid (RT w1 e.s.v e.ms) := h0.out.stays BW.out
  have c1 := LA.out.cell 1
  simp only [List.getElem?_cons_succ, List.getElem?_cons_zero] at c1
  go_wp2_with fail
  clear c1
  refine (toT_r e.s e.ms _ HR hl).mono ?_
  rintro e w2 ⟨u1, rfl, o1, b⟩
  have zo1 : w.heap.size ≤ w1.heap.size := BW.out.size
  have O1 : Hid (OwnS w2 w.heap.size u1.v e.ms) := o1.down zo1
  clear o1
  have z_w2 : w1.heap.size ≤ w2.heap.size := b.size
  have LA : Hid (Bx w2 w.heap.size 116 [.string e.nm, .slice e.s.a e.s.n e.s.c]) := LA.out.later b
  have EB : Hid (Bx w2 (w.heap.size + 1) 86 [.string ⟨#[]⟩, .slice none 0 0]) := EB.out.later b
  have VB : Hid (Bx w2 (w.heap.size + 2) 86 [.string e.nm, .slice none 0 0]) := VB.out.later b
  have BW : Hid (Below w.heap.size w w2) := bl_next BW.out b
  have HR : Hid (RT w2 (e.s.v) (e.ms)) := HR.out.stays b
  clear b
  clear HR
  go_wp2_with (first | (with_reducible refine wpList_haltS 24 _ _ rfl ?_))
  refine Stp.go ?_
  refine wpList_st1 rfl 24 _ _ rfl (w.heap.size + 2) 1 rfl 86 _ VB.out (.slice u1.a u1.n u1.c) rfl (by simp) rfl Tryd.sizeStrs [.string e.nm, .slice u1.a u1.n u1.c] rfl ?_
  intro w3 OB TB
  have z_w3 : w2.heap.size ≤ w3.heap.size := Nat.le_of_eq TB.size.symm
  have LA : Hid (Bx w3 w.heap.size 116 [.string e.nm, .slice e.s.a e.s.n e.s.c]) := LA.out.turn TB (by omega)
  have EB : Hid (Bx w3 (w.heap.size + 1) 86 [.string ⟨#[]⟩, .slice none 0 0]) := EB.out.turn TB (by omega)
  have BW : Hid (Below w.heap.size w w3) := BW.out.trans (TB.below (by omega))
  have O1 : Hid (OwnS w3 w.heap.size (u1.v) (e.ms)) := O1.out.past VB.out TB (by decide)
  have VB : Hid (Bx w3 (w.heap.size + 2) 86 [.string e.nm, .slice u1.a u1.n u1.c]) := OB
  clear OB TB
  go_wp2_with (first | (refine wpList_ldG rfl 86 _ rfl (w.heap.size + 2) 0 rfl 86 _ VB.out [.string e.nm, .slice u1.a u1.n u1.c] rfl _ Tryd.underlying86 rfl Tryd.sizeGn ?_) | (with_reducible refine wpList_haltS 86 _ _ rfl ?_))
  refine Stp.go ?_
  refine wpList_stB rfl 86 _ _ rfl (w.heap.size + 1) 0 rfl 86 _ EB.out [.string e.nm, .slice u1.a u1.n u1.c] rfl (by simp) Tryd.sizeGn rfl [.string e.nm, .slice u1.a u1.n u1.c] rfl ?_
  intro w4 OB TB
  have z_w4 : w3.heap.size ≤ w4.heap.size := Nat.le_of_eq TB.size.symm
  have LA : Hid (Bx w4 w.heap.size 116 [.string e.nm, .slice e.s.a e.s.n e.s.c]) := LA.out.turn TB (by omega)
  have VB : Hid (Bx w4 (w.heap.size + 2) 86 [.string e.nm, .slice u1.a u1.n u1.c]) := VB.out.turn TB (by omega)
  have BW : Hid (Below w.heap.size w w4) := BW.out.trans (TB.below (by omega))
  have O1 : Hid (OwnS w4 w.heap.size (u1.v) (e.ms)) := O1.out.past EB.out TB (by decide)
  have EB : Hid (Bx w4 (w.heap.size + 1) 86 [.string e.nm, .slice u1.a u1.n u1.c]) := OB
  clear OB TB
  go_wp2_with fail
  refine bodyPost_ret (results_b Tryd.results98 (w.heap.size + 1) 86 [.string e.nm, .slice u1.a u1.n u1.c] _ rfl EB.out Tryd.underlying86 rfl Tryd.sizeGn) rfl ?_
  exact ⟨u1, rfl, O1.out, BW.out⟩
/-- a list of them that is read. -/
def GnsR (w : World) (s : Sv) (es : List Gn) : Prop := s.n = es.length ∧ RwA w s.a 2 (es.map Gn.row) ∧ ∀ e ∈ es, e.R w
theorem GnsR.stays {w w' : World} {s : Sv} {es : List Gn} (h : GnsR w s es) (b : Below w.heap.size w w') : GnsR w' s es := ⟨h.1, h.2.1.stays b, fun e he => (h.2.2 e he).stays b⟩
/-- a list of the call's own. -/
def GnsO (w : World) (B : Nat) (s : Sv) (es : List Gn) : Prop := SlN w 86 2 B s.v (es.map Gn.row) ∧ ∀ e ∈ es, e.O w B
theorem GnsO.r {w : World} {B : Nat} {s : Sv} {es : List Gn} (h : GnsO w B s es) : GnsR w s es := ⟨by have := h.1.slen; simpa using this, h.1.rwa, fun e he => (h.2 e he).r⟩
theorem GnsO.keep {w w' : World} {B : Nat} {s : Sv} {es : List Gn} (h : GnsO w B s es) (hk : ∀ b, B ≤ b → b < w.heap.size → w'.heap[b]? = w.heap[b]?) : GnsO w' B s es := ⟨h.1.keep fun b hb hl => hk b (h.1.lt b hb).1 hl, fun e he => (h.2 e he).keep hk⟩
theorem GnsO.below {w w' : World} {B : Nat} {s : Sv} {es : List Gn} (h : GnsO w B s es) (b : Below w.heap.size w w') : GnsO w' B s es := h.keep fun k _ hk => b.block k hk
theorem GnsO.down {w : World} {B B' : Nat} {s : Sv} {es : List Gn} (h : GnsO w B s es) (hB : B' ≤ B) : GnsO w B' s es := ⟨h.1.down hB, fun e he => (h.2 e he).down hB⟩
theorem GnsO.nil (w : World) (B : Nat) : GnsO w B zSv [] := ⟨SlN.nil _ _ _ _, fun e he => by cases he⟩
/-- each one's lists lie behind those of the ones ahead. -/
def GnsUp (es : List Gn) : Prop := (∀ e ∈ es, e.Up) ∧ es.Pairwise fun a b => ∀ x y, a.own x → b.own y → x < y
def Gns.tot (es : List Gn) : Nat := (es.map fun e => e.sz).sum
theorem Gns.tot_take (es : List Gn) (k : Nat) (hk : k < es.length) : Gns.tot (es.take (k + 1)) = Gns.tot (es.take k) + es[k].sz := by
  unfold Gns.tot
  rw [List.take_succ_eq_append_getElem hk, List.map_append, List.sum_append]
  simp

set_option maxRecDepth 100000 in
set_option maxHeartbeats 4000000 in
theorem szGroups_any (s : Sv) (es : List Gn) (left : Nat) (w : World) (hx : Hid (GnsR w s es)) (hleft : left ≤ 1048576) (hl : es.length ≤ 9223372036854775807) (hs : Hid (∀ e ∈ es, e.L)) :
    Calls Tryd.prog 65 #[.slice s.a s.n s.c, .int .i64 left] w fun x w' => (x = .returned (.int .i64 (-1)) ∨ ∃ z : Nat, x = .returned (.int .i64 z) ∧ Hid (z + (es.length + Gns.tot es) ≤ left)) ∧ Below w.heap.size w w' := by
  obtain ⟨a, n, c⟩ := s
  dsimp only
  have HN : Hid (n = es.length) := hx.out.1
  have hn : n ≤ 9223372036854775807 := by have := HN.out; omega
  clear hl
  by_cases h1 : left < n
  · have hd : decide ((left : Int) - (n : Int) < 0) = true := by simp; omega
    go_enter Tryd.func65, Tryd.ntmps65
    go_wp2_with fail
    go_ret
    exact ⟨.inl rfl, Below.refl _ _⟩
  have hd : decide ((left : Int) - (n : Int) < 0) = false := by simp; omega
  go_enter Tryd.func65, Tryd.ntmps65
  go_wp2_with fail
  clear hd
  go_loopw [1, 5] (fun lf i wr => ∃ (k z : Nat), k ≤ n ∧ z ≤ 1048576 ∧ lf = .int .i64 z ∧ i = .int .i64 k ∧ Hid (z + (es.length + Gns.tot (es.take k)) ≤ left) ∧ Hid (Below w.heap.size w wr)) (fun _ i _ => n - (intOf i).toNat)
  case atStart => exact ⟨0, left - n, Nat.zero_le _, by omega, by congr 1; omega, rfl, (by have := HN.out; simp [Gns.tot]; omega : left - n + (es.length + Gns.tot (es.take 0)) ≤ left), Below.refl _ _⟩
  case round =>
    obtain ⟨k, z, hk, hz, rfl, rfl, hsm, hb⟩ := hrel
    by_cases hlt : k < n
    · have hlt2 : k < es.length := by have := HN.out; omega
      obtain ⟨g, off, ha, hg, _, hr⟩ := (hx.out.stays hb.out).2.1 k (by simpa using hlt2)
      obtain ⟨e, he⟩ : ∃ e, e = es[k] := ⟨_, rfl⟩
      have hr2 : wr.rangeAt g (off + k * 2) e.row := by rw [he]; simpa using hr
      have HR : Hid (wr.rangeAt g (off + k * 2) e.row) := hr2
      have HE : Hid (e = es[k]) := he
      have RR : Hid (e.R wr) := by rw [he]; exact (hx.out.stays hb.out).2.2 _ (List.getElem_mem hlt2)
      have LL : Hid e.L := by rw [he]; exact hs.out _ (List.getElem_mem hlt2)
      have ha : a = some ⟨g, off, none⟩ := ha
      subst ha
      have i0 : (0 : Int) ≤ (k : Int) := by omega
      have i1 : (k : Int) < (n : Int) := by omega
      clear hr hr2 he hg
      go_wp2_with (first | (refine wpList_ldN rfl 116 _ rfl g (off + k * 2) (by rfl) e.row HR.out _ Tryd.underlying116 rfl Tryd.sizeLGn ?_))
      refine (szGn_any e z _ RR LL (by omega)).mono ?_
      rintro x w1 ⟨rfl | ⟨r, rfl, hr1⟩, hb1⟩
      · go_wp2_with fail
        go_ret
        exact ⟨.inl rfl, bl_nxt hb.out hb1⟩
      · have B1 : Hid (Below w.heap.size w w1) := bl_nxt hb.out hb1
        have HR1 : Hid (r + e.sz ≤ z) := (by omega : r + e.sz ≤ z)
        have hrz : r ≤ 1048576 := by omega
        have hd : decide ((r : Int) < 0) = false := by simp
        have HS2 : Hid (r + (es.length + Gns.tot (es.take (k + 1))) ≤ left) := by
          have h1 := hsm.out
          have h2 := HR1.out
          have h3 := Gns.tot_take es k hlt2
          rw [← HE.out] at h3
          show _ ≤ _
          omega
        clear hb1 hr1 HR
        go_wp2_with fail
        go_roundw
        case rel => exact ⟨k + 1, r, by omega, hrz, rfl, by go_num, HS2, B1⟩
        case measure => simp [intOf]; omega
    · obtain rfl : k = n := by omega
      go_wp2_with fail
      go_ret
      exact ⟨.inr ⟨z, rfl, by have := hsm.out; rwa [HN.out, List.take_of_length_le (Nat.le_refl _)] at this⟩, hb.out⟩
theorem Tryd.infoGn : (Tryd.prog.info? 86).map (fun i => (i.zero, i.size, i.bytes)) = some (some (.agg #[.string ⟨#[]⟩, .slice none 0 0]), 2, 40) := by kernel_rfl
set_option maxRecDepth 100000 in
set_option maxHeartbeats 8000000 in
theorem toGroups_any (s : Sv) (es : List Gn) (w : World) (hx : Hid (GnsR w s es)) (hl : es.length ≤ 1048576) (hs : Hid (∀ e ∈ es, e.S)) :
    Calls Tryd.prog 67 #[.slice s.a s.n s.c] w fun x w' => ∃ (u : Sv) (cs : List Gn), x = .returned (.slice u.a u.n u.c) ∧ cs.map Gn.pl = es.map Gn.pl ∧ GnsO w' w.heap.size u cs ∧ GnsUp cs ∧ (∀ b, u.v.ownBlock = some b → b = w.heap.size ∧ ∀ e ∈ cs, ∀ x, e.own x → b < x) ∧ Below w.heap.size w w' := by
  obtain ⟨a, n, c⟩ := s
  dsimp only
  have HN : Hid (n = es.length) := hx.out.1
  have hn : n ≤ 1048576 := by have := HN.out; omega
  clear hl
  obtain ⟨i0, hi, hz0, hz1, hz2⟩ := info_parts Tryd.infoGn
  obtain ⟨A, hA⟩ : ∃ A : Array Value, A = madeCells (Value.agg #[.string ⟨#[]⟩, .slice none 0 0]).cells (n * 2) := ⟨_, rfl⟩
  have hmk : ∀ W : World, (Instr.makeSlice 47 (.int .i64 (n : Int)) (.int .i64 (n : Int))).run Tryd.prog W = .ok (.slice (some ⟨W.heap.size, 0, none⟩) n n) (W.alloc (.cells A 86)) := fun W => by
    have h := run_make (P := Tryd.prog) W 47 86 i0 _ Tryd.underlying47 hi hz0 .i64 .i64 (n : Int) (n : Int) (by omega) (by omega) (by rw [hz2]; omega) (by omega)
    rw [hz1, Int.toNat_natCast, ← hA] at h
    simpa using h
  have H0 : Hid (SlN (w.alloc (.cells A 86)) 86 2 w.heap.size (.slice (some ⟨w.heap.size, 0, none⟩) n n) (List.replicate n [.string ⟨#[]⟩, .slice none 0 0])) := by rw [hA]; exact SlN.zeros w 86 [.string ⟨#[]⟩, .slice none 0 0] (by simp) rfl n w.heap.size (Nat.le_refl _) hn
  clear hA
  have HB0 : Hid (Below w.heap.size w (w.alloc (.cells A 86))) := (Below.refl _ _).alloc (Nat.le_refl _) _
  have HZ0 : Hid (w.heap.size < (w.alloc (.cells A 86)).heap.size) := (by simp : _ < _)
  go_enter Tryd.func67, Tryd.ntmps67
  go_wp2_with fail
  generalize w.alloc (.cells A 86) = W at *
  clear hmk hi hz0 hz1 hz2
  go_loopw [4] (fun i wr => ∃ (k : Nat) (cs : List Gn), k ≤ n ∧ i = .int .i64 k ∧ Hid (cs.length = k) ∧ Hid (cs.map Gn.pl = (es.take k).map Gn.pl) ∧ Hid (SlN wr 86 2 w.heap.size (.slice (some ⟨w.heap.size, 0, none⟩) n n) (cs.map Gn.row ++ List.replicate (n - k) ([.string ⟨#[]⟩, .slice none 0 0] : List Value))) ∧ Hid (∀ c ∈ cs, c.O wr (w.heap.size + 1)) ∧ Hid (GnsUp cs) ∧ Hid (w.heap.size < wr.heap.size) ∧ Hid (Below w.heap.size w wr)) (fun i _ => n - (intOf i).toNat)
  case atStart => exact ⟨0, [], Nat.zero_le _, rfl, rfl, rfl, (by have h := H0.out; simpa using h : SlN _ _ _ _ _ _), (fun c hc => (by cases hc) : ∀ c ∈ ([] : List Gn), _), ⟨fun e he => (by cases he), List.Pairwise.nil⟩, HZ0, HB0⟩
  case round =>
    obtain ⟨k, cs, hk, rfl, hcl, hpl, hrow, hown, hup, hzl, hb⟩ := hrel
    clear H0 HB0 HZ0
    by_cases hlt : k < n
    · have hlt2 : k < es.length := by have := HN.out; omega
      obtain ⟨g, off, ha, hg, _, hr⟩ := (hx.out.stays hb.out).2.1 k (by simpa using hlt2)
      obtain ⟨e, he⟩ : ∃ e, e = es[k] := ⟨_, rfl⟩
      have hr2 : wr.rangeAt g (off + k * 2) e.row := by rw [he]; simpa using hr
      have HR : Hid (wr.rangeAt g (off + k * 2) e.row) := hr2
      have HE : Hid (e = es[k]) := he
      have RR : Hid (e.R wr) := by rw [he]; exact (hx.out.stays hb.out).2.2 _ (List.getElem_mem hlt2)
      have SS : Hid e.S := by rw [he]; exact hs.out _ (List.getElem_mem hlt2)
      have ha : a = some ⟨g, off, none⟩ := ha
      subst ha
      have i0 : (0 : Int) ≤ (k : Int) := by omega
      have i1 : (k : Int) < (n : Int) := by omega
      clear hr hr2 he hg
      go_wp2_with (first | (refine wpList_ldN rfl 116 _ rfl g (off + k * 2) (by rfl) e.row HR.out _ Tryd.underlying116 rfl Tryd.sizeLGn ?_))
      refine (toGn_any e _ RR SS.out).mono ?_
      rintro x w1 ⟨u1, rfl, o1, b1⟩
      obtain ⟨c1, hc⟩ : ∃ c : Gn, c = { e with s := u1 } := ⟨_, rfl⟩
      have CO : Hid (c1.O w1 wr.heap.size) := by rw [hc]; exact o1
      have CU : Hid c1.Up := by rw [hc]; exact trivial
      have CP : Hid (c1.pl = e.pl) := by rw [hc]; exact rfl
      have CR : Hid (([.string e.nm, .slice u1.a u1.n u1.c] : List Value) = c1.row) := by rw [hc]; rfl
      have B1 : Hid (Below w.heap.size w w1) := bl_nxt hb.out b1
      have R1 : Hid (SlN w1 86 2 w.heap.size (.slice (some ⟨w.heap.size, 0, none⟩) n n) (cs.map Gn.row ++ List.replicate (n - k) ([.string ⟨#[]⟩, .slice none 0 0] : List Value))) := hrow.out.below b1
      have O1 : Hid (∀ c ∈ cs, c.O w1 (w.heap.size + 1)) := fun c hc => (hown.out c hc).below b1
      have LT : Hid (∀ c ∈ cs, ∀ x, c.own x → x < wr.heap.size) := fun c hc x hx => ((hown.out c hc).lt x hx).2
      have ZL : Hid (w.heap.size + 1 ≤ wr.heap.size) := hzl.out
      have ZL1 : Hid (w.heap.size < w1.heap.size) := Nat.lt_of_lt_of_le hzl.out b1.size
      clear HR b1 hrow hown hb hc hzl
      go_wp2_with (first | (with_reducible refine wpList_haltS 86 _ _ rfl ?_))
      refine Stp.go ?_
      have HL : n = (cs.map Gn.row ++ List.replicate (n - k) ([.string ⟨#[]⟩, .slice none 0 0] : List Value)).length := by have := hcl.out; simp; omega
      have R2 : SlN w1 86 2 w.heap.size (.slice (some ⟨w.heap.size, 0, none⟩) (cs.map Gn.row ++ List.replicate (n - k) ([.string ⟨#[]⟩, .slice none 0 0] : List Value)).length n) (cs.map Gn.row ++ List.replicate (n - k) ([.string ⟨#[]⟩, .slice none 0 0] : List Value)) := by rw [← HL]; exact R1.out
      refine wpList_stN (i := k) rfl 86 _ _ rfl R2 (by rw [← HL]; exact hlt) (by rw [Nat.zero_add]; rfl) ([.string e.nm, .slice u1.a u1.n u1.c]) rfl rfl rfl Tryd.sizeGn ?_
      intro w2 R3 T3
      rw [← HL, CR.out] at R3
      have e3 : (cs.map Gn.row ++ List.replicate (n - k) ([.string ⟨#[]⟩, .slice none 0 0] : List Value)).set k c1.row = (cs ++ [c1]).map Gn.row ++ List.replicate (n - (k + 1)) ([.string ⟨#[]⟩, .slice none 0 0] : List Value) := by
        have h := set_snoc (cs.map Gn.row) [.string ⟨#[]⟩, .slice none 0 0] c1.row (n - (k + 1))
        rw [show n - (k + 1) + 1 = n - k by omega, List.length_map, hcl.out] at h
        rw [h, List.map_append]
        rfl
      rw [e3] at R3
      have R4 : Hid (SlN w2 86 2 w.heap.size (.slice (some ⟨w.heap.size, 0, none⟩) n n) ((cs ++ [c1]).map Gn.row ++ List.replicate (n - (k + 1)) ([.string ⟨#[]⟩, .slice none 0 0] : List Value))) := R3
      have T4 : Hid (TurnAt w.heap.size w1 w2) := T3
      clear R1 R2 R3 T3 HL e3 CR
      go_wp2_with fail
      go_roundw
      case rel =>
        have kp : ∀ c : Gn, c.O w1 (w.heap.size + 1) → c.O w2 (w.heap.size + 1) := fun c h => h.keep fun b hb _ => T4.out.block b (by omega)
        refine ⟨k + 1, cs ++ [c1], by omega, by go_num, (by have := hcl.out; simp; omega : _ = _), ?_, R4, fun x hx => ?_, ⟨fun x hx => ?_, ?_⟩, (by have h := T4.out.size; have := ZL1.out; omega : _ < _), B1.out.trans (T4.out.below (Nat.le_refl _))⟩
        · show _ = _
          rw [List.map_append, hpl.out, List.take_succ_eq_append_getElem hlt2, List.map_append, ← HE.out]
          simp [CP.out]
        · rcases List.mem_append.1 hx with h | h
          · exact kp _ (O1.out x h)
          · rw [List.mem_singleton.1 h]; exact kp _ (CO.out.down ZL.out)
        · rcases List.mem_append.1 hx with h | h
          · exact hup.out.1 x h
          · rw [List.mem_singleton.1 h]; exact CU.out
        · refine List.pairwise_append.2 ⟨hup.out.2, List.pairwise_singleton _ _, fun a ha b hb x y hx hy => ?_⟩
          rw [List.mem_singleton.1 hb] at hy
          have h1 := LT.out a ha x hx
          have h2 := (CO.out.lt y hy).1
          omega
      case measure => simp [intOf]; omega
    · obtain rfl : k = n := by omega
      go_wp2_with fail
      go_ret
      have hr := hrow.out
      rw [Nat.sub_self, List.replicate_zero, List.append_nil] at hr
      refine ⟨⟨some ⟨w.heap.size, 0, none⟩, _, _⟩, cs, rfl, ?_, ⟨hr, fun e he => (hown.out e he).down (Nat.le_succ _)⟩, hup.out, fun b hb => ?_, hb.out⟩
      · have h := hpl.out
        rwa [HN.out, List.take_of_length_le (Nat.le_refl _)] at h
      · simp [Sv.v, Value.ownBlock] at hb
        subst hb
        exact ⟨rfl, fun e he x hx => by have := ((hown.out e he).lt x hx).1; omega⟩
end Go.Proofs.YtmbjflhhffcjdaaDoor


/- A list that is appended to in a box, inside a drawn region; what stays then. Out of stage 14's texts, under names of its own. -/
namespace Go.Proofs.YtmbjflhhffcjdaaDoor
open Go.RowKit Pl
set_option linter.unusedVariables false
set_option linter.unusedSimpArgs false

section
variable {P : Program} {w : World} {o : Oper} {a : Act} {K : Act → World → Prop} {Q : Exit → Act → World → Prop}
end
/-- but for the box g and what lies from N on all is as it was. -/
structure KepR (g N : Nat) (w w' : World) : Prop where
  os : w'.os = w.os
  tape : w'.tape = w.tape
  output : w'.output = w.output
  size : w.heap.size ≤ w'.heap.size
  blk : ∀ k, k < N → k ≠ g → w'.heap[k]? = w.heap[k]?
  news : True
section
variable {g N : Nat} {w w' w'' : World}
theorem KepR.refl (g N : Nat) (w : World) : KepR g N w w := ⟨rfl, rfl, rfl, Nat.le_refl _, fun _ _ _ => rfl, trivial⟩
theorem KepR.trans (h : KepR g N w w') (k : KepR g N w' w'') : KepR g N w w'' := ⟨k.os.trans h.os, k.tape.trans h.tape, k.output.trans h.output, Nat.le_trans h.size k.size, fun i hi hn => (k.blk i hi hn).trans (h.blk i hi hn), trivial⟩
theorem KepR.below {B : Nat} (h : KepR g N w w') (h1 : B ≤ g) (h2 : B ≤ N) : Below B w w' := ⟨h.os, h.tape, h.output, h.size, fun k hk => h.blk k (by omega) (by omega)⟩
theorem KepR.turn (h : KepR g N w w') (t : TurnAt g w' w'') : KepR g N w w'' := ⟨t.os.trans h.os, t.tape.trans h.tape, t.output.trans h.output, Nat.le_trans h.size (Nat.le_of_eq t.size.symm), fun i hi hn => (t.block i hn).trans (h.blk i hi hn), trivial⟩
end
/-- a row of the call's own, of groups whose members are read. -/
def GnsP (w : World) (B : Nat) (s : Sv) (es : List Gn) : Prop := SlN w 86 2 B s.v (es.map Gn.row) ∧ ∀ e ∈ es, e.R w
theorem GnsP.r {w : World} {B : Nat} {s : Sv} {es : List Gn} (h : GnsP w B s es) : GnsR w s es := ⟨by have := h.1.slen; simpa using this, h.1.rwa, h.2⟩
theorem Tryd.sizeTb : (Tryd.prog.info? 49).map (·.size) = some 1 := by kernel_rfl
theorem Tryd.sizeGs : (Tryd.prog.info? 47).map (·.size) = some 1 := by kernel_rfl
end Go.Proofs.YtmbjflhhffcjdaaDoor


/- Groups held against each other. Written by gen_gn.py. -/
namespace Go.Proofs.YtmbjflhhffcjdaaDoor
open Go.RowKit Pl
set_option linter.unusedVariables false
set_option linter.unusedSimpArgs false

set_option maxRecDepth 100000 in
set_option maxHeartbeats 4000000 in
theorem eqGn_same (e : Gn) (a b : Sv) (B1 B2 : Nat) (w : World) (hs : Hid e.S) (h1 : Hid (OwnS w B1 a.v e.ms)) (h2 : Hid (OwnS w B2 b.v e.ms)) :
    Calls Tryd.prog 99 #[.agg #[.string e.nm, .slice a.a a.n a.c], .agg #[.string e.nm, .slice b.a b.n b.c]] w fun x w' => x = .returned (.bool true) ∧ Below w.heap.size w w' := by
  have hn1 : (w.alloc (.cells #[.string e.nm, .slice a.a a.n a.c] 86)).heap.size = w.heap.size + 1 := by simp
  have LA : Hid (Bx ((w.alloc (.cells #[.string e.nm, .slice a.a a.n a.c] 86)).alloc (.cells #[.string e.nm, .slice b.a b.n b.c] 86)) w.heap.size 86 [.string e.nm, .slice a.a a.n a.c]) := by
    have h := Bx.new w 86 [.string e.nm, .slice a.a a.n a.c]
    exact (h).later ((Below.refl _ _).alloc (Nat.le_refl _) _)
  have LB : Hid (Bx ((w.alloc (.cells #[.string e.nm, .slice a.a a.n a.c] 86)).alloc (.cells #[.string e.nm, .slice b.a b.n b.c] 86)) (w.heap.size + 1) 86 [.string e.nm, .slice b.a b.n b.c]) := by
    have h := Bx.new (w.alloc (.cells #[.string e.nm, .slice a.a a.n a.c] 86)) 86 [.string e.nm, .slice b.a b.n b.c]
    rw [hn1] at h
    exact h
  have BW : Hid (Below w.heap.size w ((w.alloc (.cells #[.string e.nm, .slice a.a a.n a.c] 86)).alloc (.cells #[.string e.nm, .slice b.a b.n b.c] 86))) := (((Below.refl _ _).alloc (by simp) _).alloc (by simp; try omega) _)
  clear hn1
  have H1 : Hid (OwnS ((w.alloc (.cells #[.string e.nm, .slice a.a a.n a.c] 86)).alloc (.cells #[.string e.nm, .slice b.a b.n b.c] 86)) B1 a.v e.ms) := h1.out.keep' fun _ _ hk => BW.out.block _ hk
  have H2 : Hid (OwnS ((w.alloc (.cells #[.string e.nm, .slice a.a a.n a.c] 86)).alloc (.cells #[.string e.nm, .slice b.a b.n b.c] 86)) B2 b.v e.ms) := h2.out.keep' fun _ _ hk => BW.out.block _ hk
  clear h1 h2
  have hl : e.ms.length ≤ 1048577 := by have := hs.out.2; unfold totS at this; omega
  have d0 : (e.nm.toList == e.nm.toList) = true := by simp
  have a0 := LA.out.cell 0
  have b0 := LB.out.cell 0
  have a1 := LA.out.cell 1
  have b1 := LB.out.cell 1
  simp only [List.getElem?_cons_succ, List.getElem?_cons_zero] at a0 b0 a1 b1
  go_enter Tryd.func99, Tryd.ntmps99
  go_wp2_with fail
  generalize ((w.alloc (.cells #[.string e.nm, .slice a.a a.n a.c] 86)).alloc (.cells #[.string e.nm, .slice b.a b.n b.c] 86)) = W at *
  clear a0 b0 a1 b1 d0
  refine (eqS_same a.v b.v e.ms _ _ _ H1.out H2.out hl).mono ?_
  rintro x w1 ⟨rfl, c⟩
  go_wp2_with fail
  go_ret
  exact ⟨rfl, bl_next BW.out c⟩
end Go.Proofs.YtmbjflhhffcjdaaDoor


/- Lists of groups, held against each other. Written by gen_gs.py. -/
namespace Go.Proofs.YtmbjflhhffcjdaaDoor
open Go.RowKit Pl
set_option linter.unusedVariables false
set_option linter.unusedSimpArgs false

set_option maxRecDepth 100000 in
set_option maxHeartbeats 4000000 in
theorem eqgroups_sp (ao bo : Option Addr) (len c1 c2 : Nat) (r1 r2 : Nat → List Value) (w : World) (h1 : Hid (∀ j, j < len → ∃ g off, ao = some ⟨g, off, none⟩ ∧ g < w.heap.size ∧ (r1 j).length = 2 ∧ w.rangeAt g (off + j * 2) (r1 j))) (h2 : Hid (∀ j, j < len → ∃ g off, bo = some ⟨g, off, none⟩ ∧ g < w.heap.size ∧ (r2 j).length = 2 ∧ w.rangeAt g (off + j * 2) (r2 j))) (hE : Hid (∀ j, j < len → ∀ W, Below w.heap.size w W → Calls Tryd.prog 99 #[.agg (r1 j).toArray, .agg (r2 j).toArray] W fun e w' => e = .returned (.bool true) ∧ Below W.heap.size W w')) (hl : len ≤ 39999990) :
    Calls Tryd.prog 69 #[.slice ao len c1, .slice bo len c2] w fun e w' => e = .returned (.bool true) ∧ Below w.heap.size w w' := by
  go_enter Tryd.func69, Tryd.ntmps69
  go_wp2_with fail
  go_loopw [5] (fun i wr => ∃ (j : Nat), j ≤ len ∧ i = .int .i64 (j : Int) ∧ Hid (Below w.heap.size w wr)) (fun i _ => len - (intOf i).toNat)
  case atStart => exact ⟨0, by omega, rfl, Below.refl _ _⟩
  case round =>
    obtain ⟨j, hj, rfl, HB⟩ := hrel
    by_cases hlt : j < len
    · obtain ⟨g1, o1, rfl, l1, n1, x1⟩ := h1.out j hlt
      obtain ⟨g2, o2, rfl, l2, n2, x2⟩ := h2.out j hlt
      have X1 : Hid (w.rangeAt g1 (o1 + j * 2) (r1 j)) := x1
      have X2 : Hid (w.rangeAt g2 (o2 + j * 2) (r2 j)) := x2
      have N1 : Hid ((Tryd.prog.info? 86).map (·.size) = some (r1 j).length) := (by rw [n1]; exact Tryd.sizeGn : _ = _)
      have N2 : Hid ((Tryd.prog.info? 86).map (·.size) = some (r2 j).length) := (by rw [n2]; exact Tryd.sizeGn : _ = _)
      clear x1 x2 n1 n2
      have EJ : Hid _ := hE.out j hlt
      have i0 : (0 : Int) ≤ (j : Int) := by omega
      have i1 : (j : Int) < (len : Int) := by omega
      go_wp2_with fail
      have c : Below w.heap.size w wr.drew := HB.out.drew
      refine wp_region_held_drew (S := fun w' => Below w.heap.size w w') (by kernel_rfl) c (fun hHeld => ?_)
      refine wpAnyH_take (i := 0) (v := ?v0b1) rfl (by kernel_rfl) (by kernel_rfl) (by kernel_rfl) (fun _ _ _ h => h) (Or.inl ⟨by rfl, ?hy0b1⟩) (by assumption) ?_
      case hy0b1 => (intro w hSw; (try dsimp only at hSw); simp only [List.getElem_toArray, List.getElem_cons_zero, List.getElem_cons_succ]; go_simp; try with_reducible rfl)
      try simp only [Act.put, List.getElem_toArray, List.getElem_cons_zero, List.getElem_cons_succ, List.setIfInBounds_toArray, List.set_cons_zero, List.set_cons_succ]
      refine wpAnyH_take (i := 1) (v := ?v1b2) rfl (by kernel_rfl) (by kernel_rfl) (by kernel_rfl) (fun _ _ _ h => h) (Or.inl ⟨by rfl, ?hy1b2⟩) (by assumption) ?_
      case hy1b2 => (intro w hSw; (try dsimp only at hSw); simp only [List.getElem_toArray, List.getElem_cons_zero, List.getElem_cons_succ]; go_simp; try with_reducible rfl)
      try simp only [Act.put, List.getElem_toArray, List.getElem_cons_zero, List.getElem_cons_succ, List.setIfInBounds_toArray, List.set_cons_zero, List.set_cons_succ]
      refine wpAnyH_take (i := 2) (v := ?v2b3) rfl (by kernel_rfl) (by kernel_rfl) (by kernel_rfl) (fun _ _ _ h => h) (Or.inl ⟨by rfl, ?hy2b3⟩) (by assumption) ?_
      case hy2b3 => (intro w hSw; (try dsimp only at hSw); simp only [List.getElem_toArray, List.getElem_cons_zero, List.getElem_cons_succ]; go_simp; try with_reducible rfl)
      try simp only [Act.put, List.getElem_toArray, List.getElem_cons_zero, List.getElem_cons_succ, List.setIfInBounds_toArray, List.set_cons_zero, List.set_cons_succ]
      refine wpAnyH_take (i := 3) (v := _) rfl (by kernel_rfl) (by kernel_rfl) (by kernel_rfl) (fun _ _ _ h => h) (ldN_yield (by rfl) 86 _ rfl g1 (o1 + j * 2) (by rfl) (r1 j) (fun w hS => range_later X1.out l1 hS) _ Tryd.underlying86 rfl N1.out) (by assumption) ?_
      try simp only [Act.put, List.setIfInBounds_toArray, List.set_cons_zero, List.set_cons_succ]
      refine wpAnyH_take (i := 4) (v := ?v4b5) rfl (by kernel_rfl) (by kernel_rfl) (by kernel_rfl) (fun _ _ _ h => h) (Or.inl ⟨by rfl, ?hy4b5⟩) (by assumption) ?_
      case hy4b5 => (intro w hSw; (try dsimp only at hSw); simp only [List.getElem_toArray, List.getElem_cons_zero, List.getElem_cons_succ]; go_simp; try with_reducible rfl)
      try simp only [Act.put, List.getElem_toArray, List.getElem_cons_zero, List.getElem_cons_succ, List.setIfInBounds_toArray, List.set_cons_zero, List.set_cons_succ]
      refine wpAnyH_take (i := 5) (v := ?v5b6) rfl (by kernel_rfl) (by kernel_rfl) (by kernel_rfl) (fun _ _ _ h => h) (Or.inl ⟨by rfl, ?hy5b6⟩) (by assumption) ?_
      case hy5b6 => (intro w hSw; (try dsimp only at hSw); simp only [List.getElem_toArray, List.getElem_cons_zero, List.getElem_cons_succ]; go_simp; try with_reducible rfl)
      try simp only [Act.put, List.getElem_toArray, List.getElem_cons_zero, List.getElem_cons_succ, List.setIfInBounds_toArray, List.set_cons_zero, List.set_cons_succ]
      refine wpAnyH_take (i := 6) (v := ?v6b7) rfl (by kernel_rfl) (by kernel_rfl) (by kernel_rfl) (fun _ _ _ h => h) (Or.inl ⟨by rfl, ?hy6b7⟩) (by assumption) ?_
      case hy6b7 => (intro w hSw; (try dsimp only at hSw); simp only [List.getElem_toArray, List.getElem_cons_zero, List.getElem_cons_succ]; go_simp; try with_reducible rfl)
      try simp only [Act.put, List.getElem_toArray, List.getElem_cons_zero, List.getElem_cons_succ, List.setIfInBounds_toArray, List.set_cons_zero, List.set_cons_succ]
      refine wpAnyH_take (i := 7) (v := _) rfl (by kernel_rfl) (by kernel_rfl) (by kernel_rfl) (fun _ _ _ h => h) (ldN_yield (by rfl) 86 _ rfl g2 (o2 + j * 2) (by rfl) (r2 j) (fun w hS => range_later X2.out l2 hS) _ Tryd.underlying86 rfl N2.out) (by assumption) ?_
      try simp only [Act.put, List.setIfInBounds_toArray, List.set_cons_zero, List.set_cons_succ]
      refine wpAnyH_ready (rs := [8]) (by kernel_rfl) (by simp) ?_
      refine AllReadyH.cons (i := 8) rfl (fun K hK => ?_) AllReadyH.nil
      rw [if_pos (by rfl)]
      simp only [List.getElem_toArray, List.getElem_cons_zero, List.getElem_cons_succ]
      go_simp
      refine (EJ.out _ c).mono ?_
      rintro e y1 ⟨rfl, d1⟩
      have c1 : Below w.heap.size w y1 := bl_next c d1
      refine hK.out _ _ (c1) (fun hHeld => ?_)
      clear hK K
      try simp only [Act.put, List.getElem_toArray, List.getElem_cons_zero, List.getElem_cons_succ, List.setIfInBounds_toArray, List.set_cons_zero, List.set_cons_succ]
      clear d1
      refine wpAnyH_take (i := 9) (v := ?v9b9) rfl (by kernel_rfl) (by kernel_rfl) (by kernel_rfl) (fun _ _ _ h => h) (Or.inl ⟨by rfl, ?hy9b9⟩) (by assumption) ?_
      case hy9b9 => (intro w hSw; (try dsimp only at hSw); simp only [List.getElem_toArray, List.getElem_cons_zero, List.getElem_cons_succ]; go_simp; try with_reducible rfl)
      try simp only [Act.put, List.getElem_toArray, List.getElem_cons_zero, List.getElem_cons_succ, List.setIfInBounds_toArray, List.set_cons_zero, List.set_cons_succ]
      refine wpAnyH_done (by kernel_rfl) ?_ _
      have HB1 : Hid (Below w.heap.size w y1) := c1
      clear c c1 hHeld HB EJ X1 X2
      go_wp2_with fail
      go_roundw
      case rel => exact ⟨j + 1, by omega, by go_num, HB1⟩
      case measure => simp [intOf]; omega
    · obtain rfl : j = len := by omega
      go_wp2_with fail
      go_ret
      exact ⟨rfl, HB.out⟩
end Go.Proofs.YtmbjflhhffcjdaaDoor


/- Events in plain words and in memory; one event measured, copied, held against another. Written by gen_ev.py. -/
namespace Go.Proofs.YtmbjflhhffcjdaaDoor
open Go.RowKit Pl
set_option linter.unusedVariables false
set_option linter.unusedSimpArgs false

/-- an event, and where its lists lie. -/
structure Ev where
  k : Int
  rid : Int
  ms : List Int
  q : Int
  f : Int
  l : Int
  t : ByteArray
  wi : List Int
  sm : Sv
  sw : Sv
def Ev.row (e : Ev) : List Value := [.int .i64 e.k, .int .i64 e.rid, .slice e.sm.a e.sm.n e.sm.c, .int .i64 e.q, .int .i64 e.f, .int .i64 e.l, .string e.t, .slice e.sw.a e.sw.n e.sw.c]
/-- what an event says. -/
def Ev.pl (e : Ev) : Int × Int × List Int × It × List Int := (e.k, e.rid, e.ms, (e.q, e.f, e.l, e.t), e.wi)
/-- its lists are read. -/
def Ev.R (w : World) (e : Ev) : Prop := RI w e.sm.v e.ms ∧ RI w e.sw.v e.wi
theorem Ev.R.stays {w w' : World} {e : Ev} (h : e.R w) (b : Below w.heap.size w w') : e.R w' := ⟨h.1.stays b, h.2.stays b⟩
def Ev.S (e : Ev) : Prop := e.ms.length ≤ 1048576 ∧ e.wi.length ≤ 1048576 ∧ e.t.size ≤ 1048576
def Ev.L (e : Ev) : Prop := e.ms.length ≤ 9223372036854775807 ∧ e.wi.length ≤ 9223372036854775807 ∧ e.t.size ≤ 9223372036854775807
def Ev.sz (e : Ev) : Nat := e.ms.length + e.t.size + e.wi.length
/-- its lists are of a call's own. -/
def Ev.O (w : World) (B : Nat) (e : Ev) : Prop := OwnI w B e.sm.v e.ms ∧ OwnI w B e.sw.v e.wi
theorem Ev.O.r {w : World} {B : Nat} {e : Ev} (h : e.O w B) : e.R w := ⟨h.1.ri, h.2.ri⟩
end Go.Proofs.YtmbjflhhffcjdaaDoor


/- Lists of events that a law measures and copies. Written by gen_ls.py. -/
namespace Go.Proofs.YtmbjflhhffcjdaaDoor
open Go.RowKit Pl
set_option linter.unusedVariables false
set_option linter.unusedSimpArgs false

theorem Ev.O.keep {w w' : World} {B : Nat} {e : Ev} (h : e.O w B) (hk : ∀ b, B ≤ b → b < w.heap.size → w'.heap[b]? = w.heap[b]?) : e.O w' B := ⟨h.1.keep fun b hb hl => hk b (h.1.lt b hb).1 hl, h.2.keep fun b hb hl => hk b (h.2.lt b hb).1 hl⟩
theorem Ev.O.below {w w' : World} {B : Nat} {e : Ev} (h : e.O w B) (b : Below w.heap.size w w') : e.O w' B := h.keep fun k _ hk => b.block k hk
theorem Ev.O.down {w : World} {B B' : Nat} {e : Ev} (h : e.O w B) (hB : B' ≤ B) : e.O w B' := ⟨h.1.down hB, h.2.down hB⟩
def Ev.own (e : Ev) (x : Nat) : Prop := e.sm.v.ownBlock = some x ∨ e.sw.v.ownBlock = some x
theorem Ev.O.lt {w : World} {B : Nat} {e : Ev} (h : e.O w B) (x : Nat) (hx : e.own x) : B ≤ x ∧ x < w.heap.size := by
  rcases hx with hx | hx
  · exact h.1.lt x hx
  · exact h.2.lt x hx
def Ev.Up (e : Ev) : Prop := ∀ a c, e.sm.v.ownBlock = some a → e.sw.v.ownBlock = some c → a < c
/-- a list of them that is read. -/
def EvsR (w : World) (s : Sv) (es : List Ev) : Prop := s.n = es.length ∧ RwA w s.a 8 (es.map Ev.row) ∧ ∀ e ∈ es, e.R w
theorem EvsR.stays {w w' : World} {s : Sv} {es : List Ev} (h : EvsR w s es) (b : Below w.heap.size w w') : EvsR w' s es := ⟨h.1, h.2.1.stays b, fun e he => (h.2.2 e he).stays b⟩
/-- each one's lists lie behind those of the ones ahead. -/
def EvsUp (es : List Ev) : Prop := (∀ e ∈ es, e.Up) ∧ es.Pairwise fun a b => ∀ x y, a.own x → b.own y → x < y
def Evs.tot (es : List Ev) : Nat := (es.map fun e => e.sz).sum
theorem Evs.tot_take (es : List Ev) (k : Nat) (hk : k < es.length) : Evs.tot (es.take (k + 1)) = Evs.tot (es.take k) + es[k].sz := by
  unfold Evs.tot
  rw [List.take_succ_eq_append_getElem hk, List.map_append, List.sum_append]
  simp

end Go.Proofs.YtmbjflhhffcjdaaDoor


/- Lists of bundles that a law measures and copies. Written by gen_ls.py. -/
namespace Go.Proofs.YtmbjflhhffcjdaaDoor
open Go.RowKit Pl
set_option linter.unusedVariables false
set_option linter.unusedSimpArgs false

/-- a bundle, and where its list lies. -/
structure Bu where
  f : Int
  n : Int
  o : Int
  ts : List It
  s : Sv
def Bu.ok (b : Bu) : Bool := bunB b.f b.n b.o b.ts
/-- what a bundle says. -/
def Bu.pl (b : Bu) : Int × Int × Int × List It := (b.f, b.n, b.o, b.ts)
def Bu.row (b : Bu) : List Value := [.int .i64 b.f, .int .i64 b.n, .int .i64 b.o, .slice b.s.a b.s.n b.s.c]
def Bu.R (w : World) (b : Bu) : Prop := RSt w b.s b.ts
theorem Bu.R.stays {w w' : World} {b : Bu} (h : b.R w) (hb : Below w.heap.size w w') : b.R w' := RSt.stays h hb
def Bu.S (b : Bu) : Prop := b.ts.length ≤ 1048576
def Bu.L (b : Bu) : Prop := b.ts.length ≤ 9223372036854775807 ∧ ∀ x ∈ b.ts, x.2.2.2.size ≤ 9223372036854775807
def Bu.sz (b : Bu) : Nat := b.ts.length
def Bu.own (e : Bu) (x : Nat) : Prop := e.s.v.ownBlock = some x
def Bu.Up (e : Bu) : Prop := True
/-- a list of them that is read. -/
def BusR (w : World) (s : Sv) (es : List Bu) : Prop := s.n = es.length ∧ RwA w s.a 4 (es.map Bu.row) ∧ ∀ e ∈ es, e.R w
theorem BusR.stays {w w' : World} {s : Sv} {es : List Bu} (h : BusR w s es) (b : Below w.heap.size w w') : BusR w' s es := ⟨h.1, h.2.1.stays b, fun e he => (h.2.2 e he).stays b⟩
/-- each one's lists lie behind those of the ones ahead. -/
def BusUp (es : List Bu) : Prop := (∀ e ∈ es, e.Up) ∧ es.Pairwise fun a b => ∀ x y, a.own x → b.own y → x < y
def Bus.tot (es : List Bu) : Nat := (es.map fun e => e.sz).sum
theorem Bus.tot_take (es : List Bu) (k : Nat) (hk : k < es.length) : Bus.tot (es.take (k + 1)) = Bus.tot (es.take k) + es[k].sz := by
  unfold Bus.tot
  rw [List.take_succ_eq_append_getElem hk, List.map_append, List.sum_append]
  simp

end Go.Proofs.YtmbjflhhffcjdaaDoor


/- Lists of events, held against each other. Written by gen_gs.py. -/
namespace Go.Proofs.YtmbjflhhffcjdaaDoor
open Go.RowKit Pl
set_option linter.unusedVariables false
set_option linter.unusedSimpArgs false
end Go.Proofs.YtmbjflhhffcjdaaDoor


/- Lists of bundles, held against each other. Written by gen_gs.py. -/
namespace Go.Proofs.YtmbjflhhffcjdaaDoor
open Go.RowKit Pl
set_option linter.unusedVariables false
set_option linter.unusedSimpArgs false
end Go.Proofs.YtmbjflhhffcjdaaDoor


/- Lists of events, lists of bundles: held against each other. -/
namespace Go.Proofs.YtmbjflhhffcjdaaDoor
open Go.RowKit Pl
set_option linter.unusedVariables false
set_option linter.unusedSimpArgs false

theorem rowsAt {w : World} {T size B : Nat} {s : Sv} {rows : List (List Value)} (h : SlN w T size B s.v rows) (j : Nat) (hj : j < rows.length) : ∃ g off, s.a = some ⟨g, off, none⟩ ∧ g < w.heap.size ∧ ((rows[j]?).getD []).length = size ∧ w.rangeAt g (off + j * size) ((rows[j]?).getD []) := by
  obtain ⟨g, off, c, h1, h2, h3, h4⟩ := h.read hj
  simp only [Sv.v, Value.slice.injEq] at h1
  rw [List.getElem?_eq_getElem hj]
  exact ⟨g, off, h1.1, h3, h.lens _ (List.getElem_mem hj), h4⟩
end Go.Proofs.YtmbjflhhffcjdaaDoor


/- Daemons in plain words and in memory; a daemon measured, copied, held against another. Written by gen_dm.py. -/
namespace Go.Proofs.YtmbjflhhffcjdaaDoor
open Go.RowKit Pl
set_option linter.unusedVariables false
set_option linter.unusedSimpArgs false

/-- a daemon, and where its lists lie. -/
structure Dm where
  id : Int
  dead : Bool
  m : Mt
  mv : Mv
  most : Int
  old : Int
  jid : Int
  jms : List Int
  js : Sv
  bu : List Bu
  bs : Sv
  lo : List Ev
  ls : Sv
/-- its lists are read. -/
structure DmR (w : World) (d : Dm) : Prop where
  mt : MtR w d.m d.mv
  jo : RI w d.js.v d.jms
  bu : BusR w d.bs d.bu
  lo : EvsR w d.ls d.lo
theorem DmR.stays {w w' : World} {d : Dm} (h : DmR w d) (b : Below w.heap.size w w') : DmR w' d := ⟨h.mt.stays b, h.jo.stays b, h.bu.stays b, h.lo.stays b⟩
/-- no longer than can be. -/
structure DmL (d : Dm) : Prop where
  mt : MtL d.m
  jo : d.jms.length ≤ 9223372036854775807
  bu : d.bu.length ≤ 9223372036854775807 ∧ ∀ b ∈ d.bu, b.L
  lo : d.lo.length ≤ 9223372036854775807 ∧ ∀ e ∈ d.lo, e.L
/-- not too long. -/
structure DmS (d : Dm) : Prop where
  mt : MtS d.m
  jo : d.jms.length ≤ 1048576
  bu : d.bu.length + Bus.tot d.bu ≤ 1048576
  lo : d.lo.length + Evs.tot d.lo ≤ 1048576
theorem tot_le {α : Type} (f : α → Nat) : ∀ (l : List α) (x : α), x ∈ l → f x ≤ (l.map f).sum
  | a :: l, x, h => by
    rw [List.map_cons, List.sum_cons]
    rcases List.mem_cons.1 h with rfl | h
    · omega
    · have := tot_le f l x h; omega
/-- the same, in plain words. -/
structure Dm.Same (a b : Dm) : Prop where
  id : a.id = b.id
  dead : a.dead = b.dead
  m : a.m = b.m
  most : a.most = b.most
  old : a.old = b.old
  jid : a.jid = b.jid
  jms : a.jms = b.jms
  bu : a.bu.map Bu.pl = b.bu.map Bu.pl
  lo : a.lo.map Ev.pl = b.lo.map Ev.pl
theorem Dm.Same.symm {a b : Dm} (h : a.Same b) : b.Same a := ⟨h.id.symm, h.dead.symm, h.m.symm, h.most.symm, h.old.symm, h.jid.symm, h.jms.symm, h.bu.symm, h.lo.symm⟩
theorem Dm.Same.trans {a b c : Dm} (h : a.Same b) (k : b.Same c) : a.Same c := ⟨h.id.trans k.id, h.dead.trans k.dead, h.m.trans k.m, h.most.trans k.most, h.old.trans k.old, h.jid.trans k.jid, h.jms.trans k.jms, h.bu.trans k.bu, h.lo.trans k.lo⟩
theorem sz_of_pl {a b : List Bu} (h : a.map Bu.pl = b.map Bu.pl) : Bus.tot a = Bus.tot b := by
  have e : ∀ l : List Bu, l.map (fun e => e.sz) = (l.map Bu.pl).map (fun p => p.2.2.2.length) := fun l => by rw [List.map_map]; rfl
  unfold Bus.tot; rw [e, e, h]
theorem sz_of_ple {a b : List Ev} (h : a.map Ev.pl = b.map Ev.pl) : Evs.tot a = Evs.tot b := by
  have e : ∀ l : List Ev, l.map (fun e => e.sz) = (l.map Ev.pl).map (fun p => p.2.2.1.length + p.2.2.2.1.2.2.2.size + p.2.2.2.2.length) := fun l => by rw [List.map_map]; rfl
  unfold Evs.tot; rw [e, e, h]
theorem Dm.Same.small {a b : Dm} (h : a.Same b) (k : DmS b) : DmS a := by
  have l1 : a.bu.length = b.bu.length := by have := congrArg List.length h.bu; simpa using this
  have l2 : a.lo.length = b.lo.length := by have := congrArg List.length h.lo; simpa using this
  exact ⟨h.m ▸ k.mt, h.jms ▸ k.jo, by rw [l1, sz_of_pl h.bu]; exact k.bu, by rw [l2, sz_of_ple h.lo]; exact k.lo⟩
/-- the blocks of a list of bundles, of a list of events. -/
def BusOwn (s : Sv) (bs : List Bu) (y : Nat) : Prop := s.v.ownBlock = some y ∨ ∃ b ∈ bs, b.own y
def EvsOwn (s : Sv) (es : List Ev) (y : Nat) : Prop := s.v.ownBlock = some y ∨ ∃ e ∈ es, e.own y
/-- each of its lists lies apart. -/
structure BusA (s : Sv) (bs : List Bu) : Prop where
  row : ∀ y, s.v.ownBlock = some y → ∀ b ∈ bs, ¬ b.own y
  two : bs.Pairwise fun a b => ∀ x, a.own x → ¬ b.own x
structure EvsA (s : Sv) (es : List Ev) : Prop where
  row : ∀ y, s.v.ownBlock = some y → ∀ e ∈ es, ¬ e.own y
  one : ∀ e ∈ es, ∀ x, e.sm.v.ownBlock = some x → e.sw.v.ownBlock ≠ some x
  two : es.Pairwise fun a b => ∀ x, a.own x → ¬ b.own x
structure DmA (d : Dm) : Prop where
  mj : ∀ x, d.mv.own x → d.js.v.ownBlock ≠ some x
  mb : ∀ x, d.mv.own x → ¬ BusOwn d.bs d.bu x
  ml : ∀ x, d.mv.own x → ¬ EvsOwn d.ls d.lo x
  jb : ∀ x, d.js.v.ownBlock = some x → ¬ BusOwn d.bs d.bu x
  jl : ∀ x, d.js.v.ownBlock = some x → ¬ EvsOwn d.ls d.lo x
  bl : ∀ x, BusOwn d.bs d.bu x → ¬ EvsOwn d.ls d.lo x
  bu : BusA d.bs d.bu
  lo : EvsA d.ls d.lo
theorem BusUp.a {s : Sv} {bs : List Bu} (h : BusUp bs) (hr : ∀ b, s.v.ownBlock = some b → ∀ e ∈ bs, ∀ x, e.own x → b < x) : BusA s bs :=
  ⟨fun y hy b hb hx => by have := hr y hy b hb y hx; omega, h.2.imp fun h x hx hy => by have := h x x hx hy; omega⟩
theorem EvsUp.a {s : Sv} {es : List Ev} (h : EvsUp es) (hr : ∀ b, s.v.ownBlock = some b → ∀ e ∈ es, ∀ x, e.own x → b < x) : EvsA s es :=
  ⟨fun y hy b hb hx => by have := hr y hy b hb y hx; omega, fun e he x h1 h2 => by have := h.1 e he x x h1 h2; omega, h.2.imp fun h x hx hy => by have := h x x hx hy; omega⟩
end Go.Proofs.YtmbjflhhffcjdaaDoor


/- Lists of groups held against each other. Written by gen_gn.py. -/
namespace Go.Proofs.YtmbjflhhffcjdaaDoor
open Go.RowKit Pl
set_option linter.unusedVariables false
set_option linter.unusedSimpArgs false

theorem eqGns_any (s1 s2 : Sv) (es fs : List Gn) (B1 B2 : Nat) (w : World) (h1 : Hid (GnsO w B1 s1 es)) (h2 : Hid (GnsO w B2 s2 fs)) (hpl : Hid (es.map Gn.pl = fs.map Gn.pl)) (hl : es.length ≤ 1048576) (hs : Hid (∀ e ∈ es, e.S)) :
    Calls Tryd.prog 69 #[.slice s1.a s1.n s1.c, .slice s2.a s2.n s2.c] w fun x w' => x = .returned (.bool true) ∧ Below w.heap.size w w' := by
  have n1 : s1.n = es.length := by have := h1.out.1.slen; simpa using this
  have hfl : fs.length = es.length := by have := congrArg List.length hpl.out; simp at this; omega
  have n2 : s2.n = es.length := by have := h2.out.1.slen; simp at this; omega
  rw [n1, n2]
  refine eqgroups_sp s1.a s2.a es.length s1.c s2.c (fun j => ((es.map Gn.row)[j]?).getD []) (fun j => ((fs.map Gn.row)[j]?).getD []) w (fun j hj => rowsAt h1.out.1 j (by simpa using hj)) (fun j hj => rowsAt h2.out.1 j (by simpa [hfl] using hj)) ?_ (by omega)
  intro j hj W b
  have hj2 : j < fs.length := by omega
  have e1 : ((es.map Gn.row)[j]?).getD [] = es[j].row := by simp [hj]
  have e2 : ((fs.map Gn.row)[j]?).getD [] = fs[j].row := by simp [hj2]
  have hp : es[j].pl = fs[j].pl := by
    have h := congrArg (fun l => l[j]?) hpl.out
    simpa [hj, hj2] using h
  try dsimp only
  rw [e1, e2]
  have o1 := (h1.out.2 _ (List.getElem_mem hj)).below b
  have o2 := (h2.out.2 _ (List.getElem_mem hj2)).below b
  obtain ⟨e, he⟩ : ∃ e, e = es[j] := ⟨_, rfl⟩
  obtain ⟨f, hf⟩ : ∃ f, f = fs[j] := ⟨_, rfl⟩
  have hS := hs.out _ (List.getElem_mem hj)
  rw [← he] at o1 hS hp
  rw [← hf] at o2 hp
  rw [← he, ← hf]
  obtain ⟨nm, ms, sm⟩ := f
  simp only [Gn.pl, Prod.mk.injEq] at hp
  obtain ⟨rfl, rfl⟩ := hp
  exact eqGn_same e e.s sm B1 B2 W hS o1 o2
/-- what a law's budget leaves room for. -/
theorem Gns.small {es : List Gn} {z L : Nat} (h : z + (es.length + Gns.tot es) ≤ L) (hL : L ≤ 1048576) : es.length ≤ 1048576 ∧ ∀ e ∈ es, e.S := ⟨by omega, fun e he => by have := tot_le (fun e : Gn => e.sz) _ e he; unfold Gn.S; unfold Gn.sz at this; unfold Gns.tot Gn.sz at h; omega⟩
theorem Gns.same_S {es fs : List Gn} (h : es.map Gn.pl = fs.map Gn.pl) (hs : ∀ e ∈ fs, e.S) : ∀ e ∈ es, e.S := fun e he => by
  have : e.pl ∈ fs.map Gn.pl := by rw [← h]; exact List.mem_map_of_mem he
  obtain ⟨f, hf, hp⟩ := List.mem_map.1 this
  have := hs f hf
  unfold Gn.S at *
  simp only [Gn.pl, Prod.mk.injEq] at hp
  rw [← hp.1, ← hp.2]; exact this
theorem Gns.same_len {es fs : List Gn} (h : es.map Gn.pl = fs.map Gn.pl) : es.length = fs.length := by have := congrArg List.length h; simpa using this
end Go.Proofs.YtmbjflhhffcjdaaDoor


/- The places of a list of structs, whose fields are numbers, texts and lists: where each lies, that none is there twice. No function of the program is named here. -/
namespace Go.Proofs.YtmbjflhhffcjdaaDoor
open Go.RowKit Pl
set_option linter.unusedVariables false
set_option linter.unusedSimpArgs false

/-- a field: the cell c of a row (of the kind d), or a list s whose elements have the kinds ds. -/
structure Fd where
  c : Nat
  d : Nat
  s : Option Sv
  ds : List Nat
def svB (s : Sv) : Nat := (s.a.map (·.block)).getD 0
def svO (s : Sv) : Nat := (s.a.map (·.off)).getD 0
def sps (ds : List Nat) (s : Sv) : List Spot := (List.range (s.n * ds.length)).map fun t => (svB s, svO s + t, ds.getD (t % ds.length) 0)
def Fd.sp (g o : Nat) (f : Fd) : List Spot := match f.s with | none => [(g, o + f.c, f.d)] | some s => sps f.ds s
def pc (g o : Nat) (fs : List Fd) : List Spot := fs.flatMap (Fd.sp g o)
/-- the block of a list that has something. -/
def Fd.ow (f : Fd) (x : Nat) : Prop := ∃ s, f.s = some s ∧ 0 < s.n ∧ svB s = x
/-- a list that lies there. -/
def LvS (w : World) (s : Sv) (k : Nat) : Prop := 0 < s.n → s.a = some ⟨svB s, svO s, none⟩ ∧ svB s < w.heap.size ∧ (∀ t, t < s.n * k → ∃ u, w.cell? ⟨svB s, svO s + t, none⟩ = some u) ∧ ∀ t, w.frozen? ⟨svB s, t, none⟩ = false
abbrev Ne2 (a b : Spot) : Prop := ¬ (a.1 = b.1 ∧ a.2.1 = b.2.1)
/-- the places of a list of structs. -/
def tls (g off size : Nat) (F : Nat → List Fd) (len : Nat) : List Spot := (List.range len).flatMap fun j => pc g (off + j * size) (F j)
def tlN (g off size : Nat) (F : Nat → List Fd) (j : Nat) : Nat := (tls g off size F j).length
section
variable {g off size len : Nat} {F : Nat → List Fd}
/-- what is asked of the fields of each row. -/
structure FdOk (w : World) (g size len : Nat) (F : Nat → List Fd) : Prop where
  row : ∀ j, j < len → ∀ f ∈ F j, f.s = none → f.c < size
  off : ∀ j, j < len → ∀ f ∈ F j, ¬ f.ow g
  one : ∀ j, j < len → (F j).Pairwise fun f f' => (f.s = none → f'.s = none → f.c ≠ f'.c) ∧ ∀ x, f.ow x → ¬ f'.ow x
  two : ∀ i j, i < j → j < len → ∀ f ∈ F i, ∀ f' ∈ F j, ∀ x, f.ow x → ¬ f'.ow x
  lv : ∀ j, j < len → ∀ f ∈ F j, ∀ s, f.s = some s → LvS w s f.ds.length
end
theorem OwnI.lv {w : World} {B : Nat} {s : Sv} {xs : List Int} (h : OwnI w B s.v xs) : LvS w s 1 := fun h0 => by
  have hn := h.slen
  obtain ⟨g, cap, e, _, hl, hc, hf⟩ := h.some (by omega)
  simp only [Sv.v, Value.slice.injEq] at e
  have e1 : svB s = g := by simp [svB, e.1]
  have e2 : svO s = 0 := by simp [svO, e.1]
  rw [e1, e2]
  exact ⟨e.1, hl, fun t ht => ⟨_, by rw [Nat.zero_add]; exact hc t (by omega)⟩, hf⟩
theorem ow_own {s : Sv} (h : 0 < s.n → s.a = some ⟨svB s, svO s, none⟩) (h0 : 0 < s.n) : s.v.ownBlock = some (svB s) := by
  have e := h h0
  obtain ⟨b, hb⟩ : ∃ b, b = svB s := ⟨_, rfl⟩
  rw [← hb] at e ⊢
  simp [Sv.v, Value.ownBlock, e]
end Go.Proofs.YtmbjflhhffcjdaaDoor


/- Lists of groups: marked, and looked at again. Written by gen_gs.py. -/
namespace Go.Proofs.YtmbjflhhffcjdaaDoor
open Go.RowKit Pl
set_option linter.unusedVariables false
set_option linter.unusedSimpArgs false

/-- where the places of one lie. -/
structure GnSeg (w : World) (TL : List Spot) (n g o : Nat) (u : Gn) : Prop where
  gl : g < w.heap.size
  p0 : TL[n]? = some (g, o, 2)
  h1 : w.cell? ⟨g, o + 1, none⟩ = some (.slice u.s.a u.s.n u.s.c)
  q1 : ∀ s ∈ TL, ¬ (s.1 = g ∧ s.2.1 = o + 1)
  s1 : Seg TL (n + 1) u.s.a u.s.n [2]
def GnSeg.len (u : Gn) : Nat := 1 + u.s.n
theorem GnSeg.later {w w' : World} {TL : List Spot} {n g o : Nat} {u : Gn} (h : GnSeg w TL n g o u) (b : Below w.heap.size w w') : GnSeg w' TL n g o u :=
  { h with gl := by have := h.gl; have := b.size; omega, h1 := (cell_block (b.block _ h.gl)).trans h.h1 }
/-- .. and of a list of them. -/
structure GnSegL (w : World) (TL : List Spot) (ao : Option Addr) (len : Nat) (us : Nat → Gn) (N : Nat → Nat) : Prop where
  one : ∀ j, j < len → ∃ g off, ao = some ⟨g, off, none⟩ ∧ GnSeg w TL (N j) g (off + j * 2) (us j)
  nx : ∀ j, j < len → N (j + 1) = N j + GnSeg.len (us j)
theorem GnSegL.later {w w' : World} {TL : List Spot} {ao : Option Addr} {len : Nat} {us : Nat → Gn} {N : Nat → Nat} (h : GnSegL w TL ao len us N) (b : Below w.heap.size w w') : GnSegL w' TL ao len us N := ⟨fun j hj => by obtain ⟨g, off, e, x⟩ := h.one j hj; exact ⟨g, off, e, x.later b⟩, h.nx⟩
end Go.Proofs.YtmbjflhhffcjdaaDoor


/- Lists of groups: marked, and looked at again. Written by gen_gn.py. -/
namespace Go.Proofs.YtmbjflhhffcjdaaDoor
open Go.RowKit Pl
set_option linter.unusedVariables false
set_option linter.unusedSimpArgs false

theorem OwnS.lv {w : World} {B : Nat} {s : Sv} {xs : List ByteArray} (h : OwnS w B s.v xs) : LvS w s 1 := fun h0 => by
  have hn : s.n = xs.length := RT.len (OwnS.texts h)
  obtain ⟨g, cap, e, _, hl, hc, hf⟩ := OwnS.some h (by omega)
  simp only [Sv.v, Value.slice.injEq] at e
  have e1 : svB s = g := by simp [svB, e.1]
  have e2 : svO s = 0 := by simp [svO, e.1]
  rw [e1, e2]
  exact ⟨e.1, hl, fun t ht => ⟨_, by rw [Nat.zero_add]; exact hc t (by omega)⟩, hf⟩
theorem OwnS.slen {w : World} {B : Nat} {s : Sv} {xs : List ByteArray} (h : OwnS w B s.v xs) : s.n = xs.length := RT.len (OwnS.texts h)
def GnsOwn (s : Sv) (bs : List Gn) (y : Nat) : Prop := s.v.ownBlock = some y ∨ ∃ b ∈ bs, b.own y
structure GnsA (s : Sv) (bs : List Gn) : Prop where
  row : ∀ y, s.v.ownBlock = some y → ∀ b ∈ bs, ¬ b.own y
  two : bs.Pairwise fun a b => ∀ x, a.own x → ¬ b.own x
theorem GnsUp.a {s : Sv} {bs : List Gn} (h : GnsUp bs) (hr : ∀ b, s.v.ownBlock = some b → ∀ e ∈ bs, ∀ x, e.own x → b < x) : GnsA s bs :=
  ⟨fun y hy b hb hx => by have := hr y hy b hb y hx; omega, h.2.imp fun h x hx hy => by have := h x x hx hy; omega⟩
def zGn : Gn := ⟨⟨#[]⟩, [], zSv⟩
def fdGn (u : Gn) : List Fd := [⟨0, 2, none, []⟩, ⟨1, 0, some u.s, [2]⟩]
def atGn (es : List Gn) (j : Nat) : Gn := (es[j]?).getD zGn
theorem Gn.lvs {w : World} {B : Nat} {e : Gn} (h : e.O w B) : LvS w e.s 1 := OwnS.lv h
theorem Gn.ow {w : World} {B : Nat} {e : Gn} (h : e.O w B) {f : Fd} (hf : f ∈ fdGn e) {x : Nat} (hx : f.ow x) : e.own x := by
  obtain ⟨s, h1, h2, h3⟩ := hx
  simp only [fdGn, List.mem_cons, List.not_mem_nil, or_false] at hf
  have lv := Gn.lvs h
  rcases hf with rfl | rfl
  · cases h1
  · simp only [Option.some.injEq] at h1
    subst h1
    rw [← h3]
    exact ow_own (fun h0 => (lv h0).1) h2
/-- a list that is marked from K up to M. -/
def HeldGn (w : World) (s : Sv) (es : List Gn) (K M : Nat) : Prop := ∃ (TL : List Spot) (us : Nat → Gn) (N : Nat → Nat), Held w TL K ∧ GnSegL w TL s.a s.n us N ∧ N 0 = 0 ∧ M = K + N s.n ∧ s.n ≤ 1048576 ∧ (∀ x ∈ TL, GnsOwn s es x.1)
theorem HeldGn.keep {w w' : World} {s : Sv} {es : List Gn} {K M : Nat} (h : HeldGn w s es K M) (hz : w.heap.size ≤ w'.heap.size) (hk : ∀ b, GnsOwn s es b → b < w.heap.size → w'.heap[b]? = w.heap[b]?) : HeldGn w' s es K M := by
  obtain ⟨TL, us, N, h1, h2, h3, h4, h6, h5⟩ := h
  refine ⟨TL, us, N, fun i x hx => ?_, ⟨fun j hj => ?_, h2.nx⟩, h3, h4, h6, h5⟩
  · obtain ⟨k1, k2⟩ := h1 i x hx
    exact ⟨by omega, (cell_block (hk x.1 (h5 x (List.mem_of_getElem? hx)) k1)).trans k2⟩
  · obtain ⟨g, off, e, x⟩ := h2.one j hj
    have hb := hk g (.inl (by simp [Sv.v, Value.ownBlock, e])) x.gl
    exact ⟨g, off, e, { x with gl := by have := x.gl; omega, h1 := (cell_block hb).trans x.h1 }⟩
theorem HeldGn.later {w w' : World} {s : Sv} {es : List Gn} {K M : Nat} (h : HeldGn w s es K M) (b : Below w.heap.size w w') : HeldGn w' s es K M := h.keep b.size fun k _ hk => b.block k hk
end Go.Proofs.YtmbjflhhffcjdaaDoor


/- Tables measured, copied, held against each other, marked. Written by gen_tbw.py. -/
namespace Go.Proofs.YtmbjflhhffcjdaaDoor
open Go.RowKit Pl
set_option linter.unusedVariables false
set_option linter.unusedSimpArgs false

set_option maxRecDepth 100000 in
set_option maxHeartbeats 2000000 in
theorem szTable_any (s : Sv) (es : List Gn) (left : Nat) (w : World) (hx : Hid (GnsR w s es)) (hleft : left ≤ 1048576) (hl : es.length ≤ 9223372036854775807) (hs : Hid (∀ e ∈ es, e.L)) :
    Calls Tryd.prog 24 #[.agg #[.slice s.a s.n s.c], .int .i64 left] w fun x w' => (x = .returned (.int .i64 (-1)) ∨ ∃ z : Nat, x = .returned (.int .i64 z) ∧ Hid (z + (es.length + Gns.tot es) ≤ left)) ∧ Below w.heap.size w w' := by
  have LA : Hid (Bx (w.alloc (.cells #[.slice s.a s.n s.c] 44)) w.heap.size 44 [.slice s.a s.n s.c]) := by
    have h := Bx.new w 44 [.slice s.a s.n s.c]
    exact h
  have BW : Hid (Below w.heap.size w (w.alloc (.cells #[.slice s.a s.n s.c] 44))) := ((Below.refl _ _).alloc (by simp) _)
  have c0 := LA.out.cell 0
  simp only [List.getElem?_cons_zero] at c0
  go_enter Tryd.func24, Tryd.ntmps24
  go_wp2_with fail
  clear c0
  refine (szGroups_any s es left _ (show Hid (GnsR _ s es) from hx.out.stays BW.out) hleft hl hs).mono ?_
  rintro x w1 ⟨rfl | ⟨z, rfl, hz⟩, b⟩
  · go_wp2_with fail
    go_ret
    exact ⟨.inl rfl, bl_next BW.out b⟩
  have hd : decide ((z : Int) < 0) = false := by simp
  have HZ : Hid (z + (es.length + Gns.tot es) ≤ left) := hz
  clear hz
  go_wp2_with fail
  go_ret
  exact ⟨.inr ⟨z, rfl, HZ⟩, bl_next BW.out b⟩
set_option maxRecDepth 100000 in
set_option maxHeartbeats 4000000 in
theorem toTable_any (s : Sv) (es : List Gn) (w : World) (hx : Hid (GnsR w s es)) (hl : es.length ≤ 1048576) (hs : Hid (∀ e ∈ es, e.S)) :
    Calls Tryd.prog 26 #[.agg #[.slice s.a s.n s.c]] w fun x w' => ∃ (u : Sv) (cs : List Gn), x = .returned (.agg #[.slice u.a u.n u.c]) ∧ cs.map Gn.pl = es.map Gn.pl ∧ GnsO w' w.heap.size u cs ∧ GnsA u cs ∧ Below w.heap.size w w' := by
  have hn1 : (w.alloc (.cells #[.slice s.a s.n s.c] 44)).heap.size = w.heap.size + 1 := by simp
  have hn2 : ((w.alloc (.cells #[.slice s.a s.n s.c] 44)).alloc (.cells #[.slice none 0 0] 49)).heap.size = w.heap.size + 2 := by simp
  have LA : Hid (Bx (((w.alloc (.cells #[.slice s.a s.n s.c] 44)).alloc (.cells #[.slice none 0 0] 49)).alloc (.cells #[.slice none 0 0] 49)) w.heap.size 44 [.slice s.a s.n s.c]) := by
    have h := Bx.new w 44 [.slice s.a s.n s.c]
    exact ((h).later ((Below.refl _ _).alloc (Nat.le_refl _) _)).later ((Below.refl _ _).alloc (Nat.le_refl _) _)
  have EB : Hid (Bx (((w.alloc (.cells #[.slice s.a s.n s.c] 44)).alloc (.cells #[.slice none 0 0] 49)).alloc (.cells #[.slice none 0 0] 49)) (w.heap.size + 1) 49 [.slice none 0 0]) := by
    have h := Bx.new (w.alloc (.cells #[.slice s.a s.n s.c] 44)) 49 [.slice none 0 0]
    rw [hn1] at h
    exact (h).later ((Below.refl _ _).alloc (Nat.le_refl _) _)
  have VB : Hid (Bx (((w.alloc (.cells #[.slice s.a s.n s.c] 44)).alloc (.cells #[.slice none 0 0] 49)).alloc (.cells #[.slice none 0 0] 49)) (w.heap.size + 2) 49 [.slice none 0 0]) := by
    have h := Bx.new ((w.alloc (.cells #[.slice s.a s.n s.c] 44)).alloc (.cells #[.slice none 0 0] 49)) 49 [.slice none 0 0]
    rw [hn2] at h
    exact h
  have BW : Hid (Below w.heap.size w (((w.alloc (.cells #[.slice s.a s.n s.c] 44)).alloc (.cells #[.slice none 0 0] 49)).alloc (.cells #[.slice none 0 0] 49))) := ((((Below.refl _ _).alloc (by simp) _).alloc (by simp; try omega) _).alloc (by simp; try omega) _)
  clear hn1 hn2
  have c0 := LA.out.cell 0
  simp only [List.getElem?_cons_zero] at c0
  go_enter Tryd.func26, Tryd.ntmps26
  go_wp2_with fail
  clear c0
  generalize (((w.alloc (.cells #[.slice s.a s.n s.c] 44)).alloc (.cells #[.slice none 0 0] 49)).alloc (.cells #[.slice none 0 0] 49)) = W at *
  refine (toGroups_any s es W (show Hid (GnsR W s es) from hx.out.stays BW.out) hl hs).mono ?_
  rintro x w1 ⟨u, cs, rfl, hpl, ho, hup, hrow, b⟩
  have zW : w.heap.size + 2 < W.heap.size := VB.out.lt
  have PL : Hid (cs.map Gn.pl = es.map Gn.pl) := hpl
  have CO : Hid (GnsO w1 W.heap.size u cs) := ho
  have CA : Hid (GnsA u cs) := GnsUp.a hup fun b hb => (hrow b hb).2
  have VB : Hid (Bx w1 (w.heap.size + 2) 49 [.slice none 0 0]) := VB.out.later b
  have EB : Hid (Bx w1 (w.heap.size + 1) 49 [.slice none 0 0]) := EB.out.later b
  have BW : Hid (Below w.heap.size w w1) := bl_next BW.out b
  clear hpl ho hup hrow b
  go_wp2_with (first | (with_reducible refine wpList_haltS 47 _ _ rfl ?_))
  refine Stp.go ?_
  refine wpList_st1 rfl 47 _ _ rfl (w.heap.size + 2) 0 rfl 49 _ VB.out (.slice u.a u.n u.c) rfl (by simp) rfl Tryd.sizeGs [.slice u.a u.n u.c] rfl ?_
  intro w2 OB TB
  have z_w2 : w1.heap.size ≤ w2.heap.size := Nat.le_of_eq TB.size.symm
  have EB : Hid (Bx w2 (w.heap.size + 1) 49 [.slice none 0 0]) := EB.out.turn TB (by omega)
  have BW : Hid (Below w.heap.size w w2) := BW.out.trans (TB.below (by omega))
  have CO : Hid (GnsO w2 W.heap.size u cs) := GnsO.keep CO.out fun b hb _ => (TB).block b (by omega)
  have VB : Hid (Bx w2 (w.heap.size + 2) 49 [.slice u.a u.n u.c]) := OB
  clear OB TB
  go_wp2_with (first | (refine wpList_ldG rfl 49 _ rfl (w.heap.size + 2) 0 rfl 49 _ VB.out [.slice u.a u.n u.c] rfl _ Tryd.underlying49 rfl Tryd.sizeTb ?_) | (with_reducible refine wpList_haltS 49 _ _ rfl ?_))
  refine Stp.go ?_
  refine wpList_stB rfl 49 _ _ rfl (w.heap.size + 1) 0 rfl 49 _ EB.out [.slice u.a u.n u.c] rfl (by simp) Tryd.sizeTb rfl [.slice u.a u.n u.c] rfl ?_
  intro w3 OB TB
  have z_w3 : w2.heap.size ≤ w3.heap.size := Nat.le_of_eq TB.size.symm
  have VB : Hid (Bx w3 (w.heap.size + 2) 49 [.slice u.a u.n u.c]) := VB.out.turn TB (by omega)
  have BW : Hid (Below w.heap.size w w3) := BW.out.trans (TB.below (by omega))
  have CO : Hid (GnsO w3 W.heap.size u cs) := GnsO.keep CO.out fun b hb _ => (TB).block b (by omega)
  have EB : Hid (Bx w3 (w.heap.size + 1) 49 [.slice u.a u.n u.c]) := OB
  clear OB TB
  go_wp2_with fail
  refine bodyPost_ret (results_b Tryd.results26 (w.heap.size + 1) 49 [.slice u.a u.n u.c] _ rfl EB.out Tryd.underlying49 rfl Tryd.sizeTb) rfl ?_
  exact ⟨u, cs, rfl, PL.out, CO.out.down (by omega), CA.out, BW.out⟩
set_option maxRecDepth 100000 in
set_option maxHeartbeats 2000000 in
theorem eqTable_any (s1 s2 : Sv) (es fs : List Gn) (B1 B2 : Nat) (w : World) (h1 : Hid (GnsO w B1 s1 es)) (h2 : Hid (GnsO w B2 s2 fs)) (hpl : Hid (es.map Gn.pl = fs.map Gn.pl)) (hl : es.length ≤ 1048576) (hs : Hid (∀ e ∈ es, e.S)) :
    Calls Tryd.prog 28 #[.agg #[.slice s1.a s1.n s1.c], .agg #[.slice s2.a s2.n s2.c]] w fun x w' => x = .returned (.bool true) ∧ Below w.heap.size w w' := by
  have hn1 : (w.alloc (.cells #[.slice s1.a s1.n s1.c] 49)).heap.size = w.heap.size + 1 := by simp
  have LA : Hid (Bx ((w.alloc (.cells #[.slice s1.a s1.n s1.c] 49)).alloc (.cells #[.slice s2.a s2.n s2.c] 49)) w.heap.size 49 [.slice s1.a s1.n s1.c]) := by
    have h := Bx.new w 49 [.slice s1.a s1.n s1.c]
    exact (h).later ((Below.refl _ _).alloc (Nat.le_refl _) _)
  have LB : Hid (Bx ((w.alloc (.cells #[.slice s1.a s1.n s1.c] 49)).alloc (.cells #[.slice s2.a s2.n s2.c] 49)) (w.heap.size + 1) 49 [.slice s2.a s2.n s2.c]) := by
    have h := Bx.new (w.alloc (.cells #[.slice s1.a s1.n s1.c] 49)) 49 [.slice s2.a s2.n s2.c]
    rw [hn1] at h
    exact h
  have BW : Hid (Below w.heap.size w ((w.alloc (.cells #[.slice s1.a s1.n s1.c] 49)).alloc (.cells #[.slice s2.a s2.n s2.c] 49))) := (((Below.refl _ _).alloc (by simp) _).alloc (by simp; try omega) _)
  clear hn1
  have c0 := LA.out.cell 0
  have d0 := LB.out.cell 0
  simp only [List.getElem?_cons_zero] at c0 d0
  go_enter Tryd.func28, Tryd.ntmps28
  go_wp2_with fail
  clear c0 d0
  refine (eqGns_any s1 s2 es fs B1 B2 _ (show Hid (GnsO _ B1 s1 es) from h1.out.below BW.out) (show Hid (GnsO _ B2 s2 fs) from h2.out.below BW.out) hpl hl hs).mono ?_
  rintro x w1 ⟨rfl, b⟩
  go_wp2_with fail
  go_ret
  exact ⟨rfl, bl_next BW.out b⟩
end Go.Proofs.YtmbjflhhffcjdaaDoor


/- Words that a law measures and copies. Written by gen_wd.py. -/
namespace Go.Proofs.YtmbjflhhffcjdaaDoor
open Go.RowKit Pl
set_option linter.unusedVariables false
set_option linter.unusedSimpArgs false

/-- a word, and where its list lies. -/
structure Wd where
  k : Int
  who : ByteArray
  gs : List ByteArray
  t : ByteArray
  s : Sv
def Wd.pl (r : Wd) : Int × ByteArray × List ByteArray × ByteArray := (r.k, r.who, r.gs, r.t)
def Wd.row (e : Wd) : List Value := [.int .i64 e.k, .string e.who, .slice e.s.a e.s.n e.s.c, .string e.t]
def Wd.R (w : World) (r : Wd) : Prop := RT w r.s.v r.gs
theorem Wd.R.stays {w w' : World} {b : Wd} (h : b.R w) (hb : Below w.heap.size w w') : b.R w' := RT.stays h hb
def Wd.S (b : Wd) : Prop := b.who.size ≤ 1048576 ∧ totS b.gs ≤ 1048576 ∧ b.t.size ≤ 1048576
def Wd.L (b : Wd) : Prop := b.who.size ≤ 9223372036854775807 ∧ b.gs.length ≤ 9223372036854775807 ∧ (∀ t ∈ b.gs, t.size ≤ 9223372036854775807) ∧ b.t.size ≤ 9223372036854775807
def Wd.sz (b : Wd) : Nat := b.who.size + totS b.gs + b.t.size
def Wd.O (w : World) (B : Nat) (b : Wd) : Prop := OwnS w B b.s.v b.gs
theorem Wd.O.r {w : World} {B : Nat} {b : Wd} (h : b.O w B) : b.R w := OwnS.texts h
theorem Wd.O.keep {w w' : World} {B : Nat} {e : Wd} (h : e.O w B) (hk : ∀ b, B ≤ b → b < w.heap.size → w'.heap[b]? = w.heap[b]?) : e.O w' B := OwnS.keep' h fun b hb hl => hk b (OwnS.lt h b hb).1 hl
theorem Wd.O.below {w w' : World} {B : Nat} {e : Wd} (h : e.O w B) (b : Below w.heap.size w w') : e.O w' B := h.keep fun k _ hk => b.block k hk
theorem Wd.O.down {w : World} {B B' : Nat} {e : Wd} (h : e.O w B) (hB : B' ≤ B) : e.O w B' := OwnS.down h hB
def Wd.own (e : Wd) (x : Nat) : Prop := e.s.v.ownBlock = some x
theorem Wd.O.lt {w : World} {B : Nat} {e : Wd} (h : e.O w B) (x : Nat) (hx : e.own x) : B ≤ x ∧ x < w.heap.size := OwnS.lt h x hx
def Wd.Up (e : Wd) : Prop := True
end Go.Proofs.YtmbjflhhffcjdaaDoor


