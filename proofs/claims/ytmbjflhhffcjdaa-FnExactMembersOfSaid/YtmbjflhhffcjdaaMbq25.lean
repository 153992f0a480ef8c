/- Joined texts: CHf CShr CSla CLem14 CLs CGns CKrr CGnq CGeg CEv CEvs CBus CGee CGeb CEqw CDm CEqg CGp CGnm CGnl CTbw CWds. -/
import Derived.Test.YtmbjflhhffcjdaaMbq24
import Derived.Test.YtmbjflhhffcjdaaMbq23
import Derived.Test.YtmbjflhhffcjdaaMbq22
import Derived.Test.YtmbjflhhffcjdaaMbq14
import Derived.Test.YtmbjflhhffcjdaaMbq16
import Derived.Laws.MakeOwn
import Derived.Test.YtmbjflhhffcjdaaMbq21
import Derived.Test.YtmbjflhhffcjdaaMbq12
/- Hear. -/
namespace Go.Proofs.Ytmbjflhhffcjdaa
open Go.RowKit Pl
set_option linter.unusedVariables false
set_option linter.unusedSimpArgs false

/-- the member behind it. -/
def Mt.hadH (m : Mt) : Mt := m.setH (m.he + m.hear.length)

end Go.Proofs.Ytmbjflhhffcjdaa


/- What a member hears: the specification's Hear, where the member is right. Written by gen_shr.py. -/
namespace Go.Proofs.Ytmbjflhhffcjdaa
open Go.RowKit Pl
set_option linter.unusedVariables false
set_option linter.unusedSimpArgs false
end Go.Proofs.Ytmbjflhhffcjdaa


/- What a token wants yet: the specification's Lacks. Written by gen_sla.py. -/
namespace Go.Proofs.Ytmbjflhhffcjdaa
open Go.RowKit Pl
set_option linter.unusedVariables false
set_option linter.unusedSimpArgs false

/-- whether a number is wanted yet. -/
def slB (ws lk : List Int) (its : List It) (n : Int) : Bool := (!hasP its n && inB ws n) || inB lk n
def slGo (ws lk : List Int) (its : List It) : Nat → Nat → List Int → List Int
  | 0, _, acc => acc
  | f + 1, n, acc => if acc.length < 20 then slGo ws lk its f (n + 1) (if slB ws lk its (n : Int) = true then acc ++ [(n : Int)] else acc) else acc
def slackP (ws : List Int) (its : List It) (q : Int) : List Int := slGo ws (missP its q) its 60 1 []
end Go.Proofs.Ytmbjflhhffcjdaa


/- Small lemmas of round 14: rows that are read in drawn regions, lists cut, lengths of slices. -/
namespace Go.Proofs.Ytmbjflhhffcjdaa
open Go.RowKit Pl
set_option linter.unusedVariables false
set_option linter.unusedSimpArgs false

theorem ldN_yield {P : Program} {ops : Array Oper} {o : Oper} {a : Act} {S : World → Prop} (hw : Region.wanted o (yielded ops a.tmps) = true) (ty : TypeId) (x : Operand) (ho : o.op = .load ty x) (g off : Nat) (hx : a.eval x = .pointer (some ⟨g, off, none⟩)) (cs : List Value) (hS : ∀ w, S w → w.rangeAt g off cs)
    (d : TypeDesc) (hu : P.underlying ty = some d) (hd : d.isRow = true) (hi : (P.info? ty).map (·.size) = some cs.length) : YieldsIf P ops S o (.agg cs.toArray) a :=
  yieldsIf_load_mid hw ty x ho g off hx cs d hS hu hd hi
theorem range_later {w w' : World} {g off : Nat} {cs : List Value} (h : w.rangeAt g off cs) (hg : g < w.heap.size) (b : Below w.heap.size w w') : w'.rangeAt g off cs := fun j v hv => (b.cell (p := ⟨g, off + j, none⟩) hg).trans (h j v hv)
theorem Pl.OwnI.slen {w : World} {B : Nat} {s : Sv} {ts : List Int} (h : OwnI w B s.v ts) : s.n = ts.length := by obtain ⟨a, c, h1⟩ := h.form; simp only [Sv.v, Value.slice.injEq] at h1; exact h1.2.1
theorem Pl.OwnS.slen {w : World} {B : Nat} {s : Sv} {ts : List ByteArray} (h : OwnS w B s.v ts) : s.n = ts.length := by obtain ⟨a, c, h1⟩ := h.form; simp only [Sv.v, Value.slice.injEq] at h1; exact h1.2.1
end Go.Proofs.Ytmbjflhhffcjdaa


/- Lists of structs: rows that are read, rows that were made. No function of the program is named here. -/
namespace Go.Proofs.Ytmbjflhhffcjdaa
open Go.RowKit Pl
set_option linter.unusedVariables false
set_option linter.unusedSimpArgs false

/-- rows that are read. -/
def RwA (w : World) (a : Option Addr) (size : Nat) (rows : List (List Value)) : Prop :=
  ∀ i (h : i < rows.length), ∃ g off, a = some ⟨g, off, none⟩ ∧ g < w.heap.size ∧ rows[i].length = size ∧ w.rangeAt g (off + i * size) rows[i]
section
variable {w w' : World} {a : Option Addr} {size T B : Nat} {rows : List (List Value)}
theorem RwA.stays (h : RwA w a size rows) (b : Below w.heap.size w w') : RwA w' a size rows := fun i hi => by
  obtain ⟨g, off, h1, h2, h3, h4⟩ := h i hi
  exact ⟨g, off, h1, Nat.lt_of_lt_of_le h2 b.size, h3, range_later h4 h2 b⟩
theorem RwA.nil (w : World) (a : Option Addr) (size : Nat) : RwA w a size [] := fun i hi => absurd hi (Nat.not_lt_zero _)
theorem SlN.rwa {s : Sv} (h : SlN w T size B s.v rows) : RwA w s.a size rows := fun i hi => by
  obtain ⟨g, off, cap, h1, h2, h3, h4⟩ := h.read hi
  simp only [Sv.v, Value.slice.injEq] at h1
  exact ⟨g, off, h1.1, h3, h.lens _ (List.getElem_mem hi), h4⟩
theorem SlN.slen {s : Sv} (h : SlN w T size B s.v rows) : s.n = rows.length := by
  obtain ⟨s', e, hn⟩ := h.form
  simp only [Sv.v, Value.slice.injEq] at e
  omega
end
theorem made_flat (zr : List Value) (h0 : 0 < zr.length) (n : Nat) : (madeCells zr.toArray (n * zr.length)).toList = (List.replicate n zr).flatten := by
  apply List.ext_getElem?
  intro j
  have hl : ((List.replicate n zr).flatten).length = n * zr.length := by simp
  by_cases hj : j < n * zr.length
  · have hm : j % zr.length < zr.length := Nat.mod_lt _ h0
    have hd : j / zr.length < n := Nat.div_lt_of_lt_mul (by rw [Nat.mul_comm]; exact hj)
    have e : j = (j / zr.length) * zr.length + j % zr.length := by rw [Nat.mul_comm]; exact (Nat.div_add_mod j zr.length).symm
    have h1 : (madeCells zr.toArray (n * zr.length)).toList[j]? = some (zr[j % zr.length]'hm) := by simp [madeCells, hj, hm]
    rw [h1]
    have h2 : ∀ (m i r : Nat) (hr : r < zr.length), i < m → ((List.replicate m zr).flatten)[i * zr.length + r]? = zr[r]? := by
      intro m
      induction m with
      | zero => intro i r hr hi; omega
      | succ m ih =>
        intro i r hr hi
        rw [List.replicate_succ, List.flatten_cons]
        cases i with
        | zero => rw [List.getElem?_append_left (by simpa using hr)]; simp
        | succ i =>
          rw [List.getElem?_append_right (by rw [Nat.succ_mul]; omega), show (i + 1) * zr.length + r - zr.length = i * zr.length + r by rw [Nat.succ_mul]; omega]
          exact ih i r hr (by omega)
    have h3 := h2 n (j / zr.length) (j % zr.length) hm hd
    rw [← e] at h3
    rw [h3, List.getElem?_eq_getElem hm]
  · rw [List.getElem?_eq_none (by simp [madeCells]; omega), List.getElem?_eq_none (by rw [hl]; omega)]
/-- a list that was just made. -/
theorem SlN.zeros (w : World) (T : TypeId) (zr : List Value) (h0 : 0 < zr.length) (h1 : zr.all (·.oneCell') = true) (n B : Nat) (hB : B ≤ w.heap.size) (hn : n ≤ 1048576) : SlN (w.alloc (.cells (madeCells zr.toArray (n * zr.length)) T)) T zr.length B (.slice (some ⟨w.heap.size, 0, none⟩) n n) (List.replicate n zr) := by
  refine ⟨?_, fun r hr => ?_⟩
  · rw [List.length_replicate]
    refine ⟨by simp, .inr ⟨w.heap.size, 0, n, _, rfl, hB, heap_alloc_new w _, Nat.le_refl _, by unfold maxLen; omega, by rw [size_madeCells]; omega, fun j hj => ?_⟩⟩
    rw [← made_flat zr h0 n, Nat.zero_add, Array.getElem?_toList]
  · rw [(List.mem_replicate.1 hr).2]
    exact ⟨rfl, List.all_eq_true.1 h1⟩
theorem set_snoc {α : Type} (xs : List α) (z x : α) (n : Nat) : (xs ++ List.replicate (n + 1) z).set xs.length x = (xs ++ [x]) ++ List.replicate n z := by
  rw [List.set_append_right _ _ (Nat.le_refl _), Nat.sub_self, List.replicate_succ, List.set_cons_zero, List.append_assoc]
  rfl
end Go.Proofs.Ytmbjflhhffcjdaa


/- Lists of groups that a law measures and copies. Written by gen_gn.py. -/
namespace Go.Proofs.Ytmbjflhhffcjdaa
open Go.RowKit Pl
set_option linter.unusedVariables false
set_option linter.unusedSimpArgs false

/-- a group, and where its list lies. -/
structure Gn where
  nm : ByteArray
  ms : List ByteArray
  s : Sv
def Gn.pl (r : Gn) : ByteArray × List ByteArray := (r.nm, r.ms)
def Gn.row (r : Gn) : List Value := [.string r.nm, .slice r.s.a r.s.n r.s.c]
def Gn.R (w : World) (r : Gn) : Prop := RT w r.s.v r.ms
theorem Gn.R.stays {w w' : World} {b : Gn} (h : b.R w) (hb : Below w.heap.size w w') : b.R w' := RT.stays h hb
def Gn.S (b : Gn) : Prop := b.nm.size ≤ 1048576 ∧ totS b.ms ≤ 1048576
def Gn.M (b : Gn) : Prop := b.ms.length ≤ 1048576
theorem Gn.S.m {b : Gn} (h : b.S) : b.M := by have := h.2; unfold totS at this; unfold Gn.M; omega
def Gn.L (b : Gn) : Prop := b.nm.size ≤ 9223372036854775807 ∧ b.ms.length ≤ 9223372036854775807 ∧ ∀ t ∈ b.ms, t.size ≤ 9223372036854775807
def Gn.sz (b : Gn) : Nat := b.nm.size + totS b.ms
def Gn.O (w : World) (B : Nat) (b : Gn) : Prop := OwnS w B b.s.v b.ms
theorem Gn.O.r {w : World} {B : Nat} {b : Gn} (h : b.O w B) : b.R w := OwnS.texts h
theorem Gn.O.keep {w w' : World} {B : Nat} {e : Gn} (h : e.O w B) (hk : ∀ b, B ≤ b → b < w.heap.size → w'.heap[b]? = w.heap[b]?) : e.O w' B := OwnS.keep' h fun b hb hl => hk b (OwnS.lt h b hb).1 hl
theorem Gn.O.below {w w' : World} {B : Nat} {e : Gn} (h : e.O w B) (b : Below w.heap.size w w') : e.O w' B := h.keep fun k _ hk => b.block k hk
theorem Gn.O.down {w : World} {B B' : Nat} {e : Gn} (h : e.O w B) (hB : B' ≤ B) : e.O w B' := OwnS.down h hB
def Gn.own (e : Gn) (x : Nat) : Prop := e.s.v.ownBlock = some x
theorem Gn.O.lt {w : World} {B : Nat} {e : Gn} (h : e.O w B) (x : Nat) (hx : e.own x) : B ≤ x ∧ x < w.heap.size := OwnS.lt h x hx
def Gn.Up (e : Gn) : Prop := True
theorem Try.sizeLGn : (Try.prog.info? 46).map (·.size) = some 2 := by kernel_rfl
theorem Try.sizeGn : (Try.prog.info? 39).map (·.size) = some 2 := by kernel_rfl
theorem Try.sizeStr : (Try.prog.info? 9).map (·.size) = some 1 := by kernel_rfl
theorem Try.sizeStrs : (Try.prog.info? 26).map (·.size) = some 1 := by kernel_rfl
set_option maxRecDepth 100000 in
set_option maxHeartbeats 4000000 in
theorem szGn_any (e : Gn) (L : Nat) (w : World) (h : Hid (e.R w)) (hl : Hid e.L) (hL : L ≤ 1048576) :
    Calls Try.prog 19 #[.agg #[.string e.nm, .slice e.s.a e.s.n e.s.c], .int .i64 L] w fun x w' => (x = .returned (.int .i64 (-1)) ∨ ∃ r : Nat, x = .returned (.int .i64 r) ∧ r + e.sz ≤ L) ∧ Below w.heap.size w w' := by
  have LA : Hid (Bx (w.alloc (.cells #[.string e.nm, .slice e.s.a e.s.n e.s.c] 46)) w.heap.size 46 [.string e.nm, .slice e.s.a e.s.n e.s.c]) := by
    have h := Bx.new w 46 [.string e.nm, .slice e.s.a e.s.n e.s.c]
    exact h
  have BW : Hid (Below w.heap.size w (w.alloc (.cells #[.string e.nm, .slice e.s.a e.s.n e.s.c] 46))) := ((Below.refl _ _).alloc (by simp) _)
  have HR : Hid (e.R (w.alloc (.cells #[.string e.nm, .slice e.s.a e.s.n e.s.c] 46))) := h.out.stays BW.out
  clear h
  have hnm : e.nm.size ≤ 9223372036854775807 := hl.out.1
  have c0 := LA.out.cell 0
  simp only [List.getElem?_cons_zero] at c0
  have c1 := LA.out.cell 1
  simp only [List.getElem?_cons_succ, List.getElem?_cons_zero] at c1
  by_cases h1 : L < e.nm.size
  · have hd : decide ((L : Int) - (e.nm.size : Int) < 0) = true := by simp; omega
    go_enter Try.func19, Try.ntmps19
    go_wp2_with fail
    go_ret
    exact ⟨.inl rfl, BW.out⟩
  have hd : decide ((L : Int) - (e.nm.size : Int) < 0) = false := by simp; omega
  obtain ⟨z, hz⟩ : ∃ z : Nat, z = L - e.nm.size := ⟨_, rfl⟩
  have hze : (L : Int) - (e.nm.size : Int) = (z : Int) := by omega
  have HZ : Hid (z + e.nm.size = L) := (by omega : z + e.nm.size = L)
  have hzl : z ≤ 1048576 := by omega
  clear hz
  go_enter Try.func19, Try.ntmps19
  go_wp2_with fail
  try rw [hze]
  clear c0 c1 hd hze
  refine (szT_tot e.s e.ms z _ (show Hid (RT _ e.s.v e.ms) from HR.out) hzl hl.out.2.1 (show Hid (∀ x ∈ e.ms, x.size ≤ 9223372036854775807) from hl.out.2.2)).mono ?_
  rintro x w1 ⟨rfl | ⟨r, rfl, hr⟩, rfl⟩
  · go_wp2_with fail
    go_ret
    exact ⟨.inl rfl, BW.out⟩
  have HRR : Hid (r + totS e.ms ≤ z) := hr
  have hd : decide ((r : Int) < 0) = false := by simp
  clear hr
  go_wp2_with fail
  go_ret
  exact ⟨.inr ⟨r, rfl, by have := HZ.out; have := HRR.out; unfold Gn.sz; omega⟩, BW.out⟩
set_option maxRecDepth 100000 in
set_option maxHeartbeats 4000000 in
theorem toGn_any (e : Gn) (w : World) (h : Hid (e.R w)) (hs : e.S) :
    Calls Try.prog 20 #[.agg #[.string e.nm, .slice e.s.a e.s.n e.s.c]] w fun x w' => ∃ u : Sv, x = .returned (.agg #[.string e.nm, .slice u.a u.n u.c]) ∧ OwnS w' w.heap.size u.v e.ms ∧ Below w.heap.size w w' := by
  have hn1 : (w.alloc (.cells #[.string e.nm, .slice e.s.a e.s.n e.s.c] 46)).heap.size = w.heap.size + 1 := by simp
  have hn2 : ((w.alloc (.cells #[.string e.nm, .slice e.s.a e.s.n e.s.c] 46)).alloc (.cells #[.string ⟨#[]⟩, .slice none 0 0] 39)).heap.size = w.heap.size + 2 := by simp
  have LA : Hid (Bx (((w.alloc (.cells #[.string e.nm, .slice e.s.a e.s.n e.s.c] 46)).alloc (.cells #[.string ⟨#[]⟩, .slice none 0 0] 39)).alloc (.cells #[.string ⟨#[]⟩, .slice none 0 0] 39)) w.heap.size 46 [.string e.nm, .slice e.s.a e.s.n e.s.c]) := by
    have h := Bx.new w 46 [.string e.nm, .slice e.s.a e.s.n e.s.c]
    exact ((h).later ((Below.refl _ _).alloc (Nat.le_refl _) _)).later ((Below.refl _ _).alloc (Nat.le_refl _) _)
  have EB : Hid (Bx (((w.alloc (.cells #[.string e.nm, .slice e.s.a e.s.n e.s.c] 46)).alloc (.cells #[.string ⟨#[]⟩, .slice none 0 0] 39)).alloc (.cells #[.string ⟨#[]⟩, .slice none 0 0] 39)) (w.heap.size + 1) 39 [.string ⟨#[]⟩, .slice none 0 0]) := by
    have h := Bx.new (w.alloc (.cells #[.string e.nm, .slice e.s.a e.s.n e.s.c] 46)) 39 [.string ⟨#[]⟩, .slice none 0 0]
    rw [hn1] at h
    exact (h).later ((Below.refl _ _).alloc (Nat.le_refl _) _)
  have VB : Hid (Bx (((w.alloc (.cells #[.string e.nm, .slice e.s.a e.s.n e.s.c] 46)).alloc (.cells #[.string ⟨#[]⟩, .slice none 0 0] 39)).alloc (.cells #[.string ⟨#[]⟩, .slice none 0 0] 39)) (w.heap.size + 2) 39 [.string ⟨#[]⟩, .slice none 0 0]) := by
    have h := Bx.new ((w.alloc (.cells #[.string e.nm, .slice e.s.a e.s.n e.s.c] 46)).alloc (.cells #[.string ⟨#[]⟩, .slice none 0 0] 39)) 39 [.string ⟨#[]⟩, .slice none 0 0]
    rw [hn2] at h
    exact h
  have BW : Hid (Below w.heap.size w (((w.alloc (.cells #[.string e.nm, .slice e.s.a e.s.n e.s.c] 46)).alloc (.cells #[.string ⟨#[]⟩, .slice none 0 0] 39)).alloc (.cells #[.string ⟨#[]⟩, .slice none 0 0] 39))) := ((((Below.refl _ _).alloc (by simp) _).alloc (by simp; try omega) _).alloc (by simp; try omega) _)
  clear hn1 hn2
  have h0 := h
  clear h
  have hl : e.ms.length ≤ 1048576 := by have := hs.2; unfold totS at this; omega
  go_enter Try.func20, Try.ntmps20
  have c0 := LA.out.cell 0
  simp only [List.getElem?_cons_zero] at c0
  go_wp2_with (first | (with_reducible refine wpList_haltS 9 _ _ rfl ?_))
  refine Stp.go ?_
  generalize (((w.alloc (.cells #[.string e.nm, .slice e.s.a e.s.n e.s.c] 46)).alloc (.cells #[.string ⟨#[]⟩, .slice none 0 0] 39)).alloc (.cells #[.string ⟨#[]⟩, .slice none 0 0] 39)) = W at *
  have zW : w.heap.size + 2 < W.heap.size := VB.out.lt
  clear c0
  refine wpList_st1 rfl 9 _ _ rfl (w.heap.size + 2) 0 rfl 39 _ VB.out (.string e.nm) rfl (by simp) rfl Try.sizeStr [.string e.nm, .slice none 0 0] rfl ?_
  intro w1 OB TB
  have z_w1 : W.heap.size ≤ w1.heap.size := Nat.le_of_eq TB.size.symm
  have LA : Hid (Bx w1 w.heap.size 46 [.string e.nm, .slice e.s.a e.s.n e.s.c]) := LA.out.turn TB (by omega)
  have EB : Hid (Bx w1 (w.heap.size + 1) 39 [.string ⟨#[]⟩, .slice none 0 0]) := EB.out.turn TB (by omega)
  have BW : Hid (Below w.heap.size w w1) := BW.out.trans (TB.below (by omega))
  have VB : Hid (Bx w1 (w.heap.size + 2) 39 [.string e.nm, .slice none 0 0]) := OB
  clear OB TB
  have HR : Hid (RT w1 e.s.v e.ms) := h0.out.stays BW.out
  have c1 := LA.out.cell 1
  simp only [List.getElem?_cons_succ, List.getElem?_cons_zero] at c1
  go_wp2_with fail
  clear c1
  refine (toT_r e.s e.ms _ HR hl).mono ?_
  rintro e w2 ⟨u1, rfl, o1, b⟩
  have zo1 : w.heap.size ≤ w1.heap.size := BW.out.size
  have O1 : Hid (OwnS w2 w.heap.size u1.v e.ms) := o1.down zo1
  clear o1
  have z_w2 : w1.heap.size ≤ w2.heap.size := b.size
  have LA : Hid (Bx w2 w.heap.size 46 [.string e.nm, .slice e.s.a e.s.n e.s.c]) := LA.out.later b
  have EB : Hid (Bx w2 (w.heap.size + 1) 39 [.string ⟨#[]⟩, .slice none 0 0]) := EB.out.later b
  have VB : Hid (Bx w2 (w.heap.size + 2) 39 [.string e.nm, .slice none 0 0]) := VB.out.later b
  have BW : Hid (Below w.heap.size w w2) := bl_next BW.out b
  have HR : Hid (RT w2 (e.s.v) (e.ms)) := HR.out.stays b
  clear b
  clear HR
  go_wp2_with (first | (with_reducible refine wpList_haltS 26 _ _ rfl ?_))
  refine Stp.go ?_
  refine wpList_st1 rfl 26 _ _ rfl (w.heap.size + 2) 1 rfl 39 _ VB.out (.slice u1.a u1.n u1.c) rfl (by simp) rfl Try.sizeStrs [.string e.nm, .slice u1.a u1.n u1.c] rfl ?_
  intro w3 OB TB
  have z_w3 : w2.heap.size ≤ w3.heap.size := Nat.le_of_eq TB.size.symm
  have LA : Hid (Bx w3 w.heap.size 46 [.string e.nm, .slice e.s.a e.s.n e.s.c]) := LA.out.turn TB (by omega)
  have EB : Hid (Bx w3 (w.heap.size + 1) 39 [.string ⟨#[]⟩, .slice none 0 0]) := EB.out.turn TB (by omega)
  have BW : Hid (Below w.heap.size w w3) := BW.out.trans (TB.below (by omega))
  have O1 : Hid (OwnS w3 w.heap.size (u1.v) (e.ms)) := O1.out.past VB.out TB (by decide)
  have VB : Hid (Bx w3 (w.heap.size + 2) 39 [.string e.nm, .slice u1.a u1.n u1.c]) := OB
  clear OB TB
  go_wp2_with (first | (refine wpList_ldG rfl 39 _ rfl (w.heap.size + 2) 0 rfl 39 _ VB.out [.string e.nm, .slice u1.a u1.n u1.c] rfl _ Try.underlying39 rfl Try.sizeGn ?_) | (with_reducible refine wpList_haltS 39 _ _ rfl ?_))
  refine Stp.go ?_
  refine wpList_stB rfl 39 _ _ rfl (w.heap.size + 1) 0 rfl 39 _ EB.out [.string e.nm, .slice u1.a u1.n u1.c] rfl (by simp) Try.sizeGn rfl [.string e.nm, .slice u1.a u1.n u1.c] rfl ?_
  intro w4 OB TB
  have z_w4 : w3.heap.size ≤ w4.heap.size := Nat.le_of_eq TB.size.symm
  have LA : Hid (Bx w4 w.heap.size 46 [.string e.nm, .slice e.s.a e.s.n e.s.c]) := LA.out.turn TB (by omega)
  have VB : Hid (Bx w4 (w.heap.size + 2) 39 [.string e.nm, .slice u1.a u1.n u1.c]) := VB.out.turn TB (by omega)
  have BW : Hid (Below w.heap.size w w4) := BW.out.trans (TB.below (by omega))
  have O1 : Hid (OwnS w4 w.heap.size (u1.v) (e.ms)) := O1.out.past EB.out TB (by decide)
  have EB : Hid (Bx w4 (w.heap.size + 1) 39 [.string e.nm, .slice u1.a u1.n u1.c]) := OB
  clear OB TB
  go_wp2_with fail
  refine bodyPost_ret (results_b Try.results20 (w.heap.size + 1) 39 [.string e.nm, .slice u1.a u1.n u1.c] _ rfl EB.out Try.underlying39 rfl Try.sizeGn) rfl ?_
  exact ⟨u1, rfl, O1.out, BW.out⟩
/-- a list of them that is read. -/
def GnsR (w : World) (s : Sv) (es : List Gn) : Prop := s.n = es.length ∧ RwA w s.a 2 (es.map Gn.row) ∧ ∀ e ∈ es, e.R w
theorem GnsR.stays {w w' : World} {s : Sv} {es : List Gn} (h : GnsR w s es) (b : Below w.heap.size w w') : GnsR w' s es := ⟨h.1, h.2.1.stays b, fun e he => (h.2.2 e he).stays b⟩
/-- a list of the call's own. -/
def GnsO (w : World) (B : Nat) (s : Sv) (es : List Gn) : Prop := SlN w 39 2 B s.v (es.map Gn.row) ∧ ∀ e ∈ es, e.O w B
theorem GnsO.r {w : World} {B : Nat} {s : Sv} {es : List Gn} (h : GnsO w B s es) : GnsR w s es := ⟨by have := h.1.slen; simpa using this, h.1.rwa, fun e he => (h.2 e he).r⟩
theorem GnsO.keep {w w' : World} {B : Nat} {s : Sv} {es : List Gn} (h : GnsO w B s es) (hk : ∀ b, B ≤ b → b < w.heap.size → w'.heap[b]? = w.heap[b]?) : GnsO w' B s es := ⟨h.1.keep fun b hb hl => hk b (h.1.lt b hb).1 hl, fun e he => (h.2 e he).keep hk⟩
theorem GnsO.below {w w' : World} {B : Nat} {s : Sv} {es : List Gn} (h : GnsO w B s es) (b : Below w.heap.size w w') : GnsO w' B s es := h.keep fun k _ hk => b.block k hk
theorem GnsO.down {w : World} {B B' : Nat} {s : Sv} {es : List Gn} (h : GnsO w B s es) (hB : B' ≤ B) : GnsO w B' s es := ⟨h.1.down hB, fun e he => (h.2 e he).down hB⟩
theorem GnsO.nil (w : World) (B : Nat) : GnsO w B zSv [] := ⟨SlN.nil _ _ _ _, fun e he => by cases he⟩
/-- each one's lists lie behind those of the ones ahead. -/
def GnsUp (es : List Gn) : Prop := (∀ e ∈ es, e.Up) ∧ es.Pairwise fun a b => ∀ x y, a.own x → b.own y → x < y
def Gns.tot (es : List Gn) : Nat := (es.map fun e => e.sz).sum
theorem Gns.tot_take (es : List Gn) (k : Nat) (hk : k < es.length) : Gns.tot (es.take (k + 1)) = Gns.tot (es.take k) + es[k].sz := by
  unfold Gns.tot
  rw [List.take_succ_eq_append_getElem hk, List.map_append, List.sum_append]
  simp

set_option maxRecDepth 100000 in
set_option maxHeartbeats 4000000 in
theorem szGroups_any (s : Sv) (es : List Gn) (left : Nat) (w : World) (hx : Hid (GnsR w s es)) (hleft : left ≤ 1048576) (hl : es.length ≤ 9223372036854775807) (hs : Hid (∀ e ∈ es, e.L)) :
    Calls Try.prog 13 #[.slice s.a s.n s.c, .int .i64 left] w fun x w' => (x = .returned (.int .i64 (-1)) ∨ ∃ z : Nat, x = .returned (.int .i64 z) ∧ Hid (z + (es.length + Gns.tot es) ≤ left)) ∧ Below w.heap.size w w' := by
  obtain ⟨a, n, c⟩ := s
  dsimp only
  have HN : Hid (n = es.length) := hx.out.1
  have hn : n ≤ 9223372036854775807 := by have := HN.out; omega
  clear hl
  by_cases h1 : left < n
  · have hd : decide ((left : Int) - (n : Int) < 0) = true := by simp; omega
    go_enter Try.func13, Try.ntmps13
    go_wp2_with fail
    go_ret
    exact ⟨.inl rfl, Below.refl _ _⟩
  have hd : decide ((left : Int) - (n : Int) < 0) = false := by simp; omega
  go_enter Try.func13, Try.ntmps13
  go_wp2_with fail
  clear hd
  go_loopw [1, 5] (fun lf i wr => ∃ (k z : Nat), k ≤ n ∧ z ≤ 1048576 ∧ lf = .int .i64 z ∧ i = .int .i64 k ∧ Hid (z + (es.length + Gns.tot (es.take k)) ≤ left) ∧ Hid (Below w.heap.size w wr)) (fun _ i _ => n - (intOf i).toNat)
  case atStart => exact ⟨0, left - n, Nat.zero_le _, by omega, by congr 1; omega, rfl, (by have := HN.out; simp [Gns.tot]; omega : left - n + (es.length + Gns.tot (es.take 0)) ≤ left), Below.refl _ _⟩
  case round =>
    obtain ⟨k, z, hk, hz, rfl, rfl, hsm, hb⟩ := hrel
    by_cases hlt : k < n
    · have hlt2 : k < es.length := by have := HN.out; omega
      obtain ⟨g, off, ha, hg, _, hr⟩ := (hx.out.stays hb.out).2.1 k (by simpa using hlt2)
      obtain ⟨e, he⟩ : ∃ e, e = es[k] := ⟨_, rfl⟩
      have hr2 : wr.rangeAt g (off + k * 2) e.row := by rw [he]; simpa using hr
      have HR : Hid (wr.rangeAt g (off + k * 2) e.row) := hr2
      have HE : Hid (e = es[k]) := he
      have RR : Hid (e.R wr) := by rw [he]; exact (hx.out.stays hb.out).2.2 _ (List.getElem_mem hlt2)
      have LL : Hid e.L := by rw [he]; exact hs.out _ (List.getElem_mem hlt2)
      have ha : a = some ⟨g, off, none⟩ := ha
      subst ha
      have i0 : (0 : Int) ≤ (k : Int) := by omega
      have i1 : (k : Int) < (n : Int) := by omega
      clear hr hr2 he hg
      go_wp2_with (first | (refine wpList_ldN rfl 46 _ rfl g (off + k * 2) (by rfl) e.row HR.out _ Try.underlying46 rfl Try.sizeLGn ?_))
      refine (szGn_any e z _ RR LL (by omega)).mono ?_
      rintro x w1 ⟨rfl | ⟨r, rfl, hr1⟩, hb1⟩
      · go_wp2_with fail
        go_ret
        exact ⟨.inl rfl, bl_nxt hb.out hb1⟩
      · have B1 : Hid (Below w.heap.size w w1) := bl_nxt hb.out hb1
        have HR1 : Hid (r + e.sz ≤ z) := (by omega : r + e.sz ≤ z)
        have hrz : r ≤ 1048576 := by omega
        have hd : decide ((r : Int) < 0) = false := by simp
        have HS2 : Hid (r + (es.length + Gns.tot (es.take (k + 1))) ≤ left) := by
          have h1 := hsm.out
          have h2 := HR1.out
          have h3 := Gns.tot_take es k hlt2
          rw [← HE.out] at h3
          show _ ≤ _
          omega
        clear hb1 hr1 HR
        go_wp2_with fail
        go_roundw
        case rel => exact ⟨k + 1, r, by omega, hrz, rfl, by go_num, HS2, B1⟩
        case measure => simp [intOf]; omega
    · obtain rfl : k = n := by omega
      go_wp2_with fail
      go_ret
      exact ⟨.inr ⟨z, rfl, by have := hsm.out; rwa [HN.out, List.take_of_length_le (Nat.le_refl _)] at this⟩, hb.out⟩
theorem Try.infoGn : (Try.prog.info? 39).map (fun i => (i.zero, i.size, i.bytes)) = some (some (.agg #[.string ⟨#[]⟩, .slice none 0 0]), 2, 40) := by kernel_rfl
set_option maxRecDepth 100000 in
set_option maxHeartbeats 8000000 in
theorem toGroups_any (s : Sv) (es : List Gn) (w : World) (hx : Hid (GnsR w s es)) (hl : es.length ≤ 1048576) (hs : Hid (∀ e ∈ es, e.S)) :
    Calls Try.prog 14 #[.slice s.a s.n s.c] w fun x w' => ∃ (u : Sv) (cs : List Gn), x = .returned (.slice u.a u.n u.c) ∧ cs.map Gn.pl = es.map Gn.pl ∧ GnsO w' w.heap.size u cs ∧ GnsUp cs ∧ (∀ b, u.v.ownBlock = some b → b = w.heap.size ∧ ∀ e ∈ cs, ∀ x, e.own x → b < x) ∧ Below w.heap.size w w' := by
  obtain ⟨a, n, c⟩ := s
  dsimp only
  have HN : Hid (n = es.length) := hx.out.1
  have hn : n ≤ 1048576 := by have := HN.out; omega
  clear hl
  obtain ⟨i0, hi, hz0, hz1, hz2⟩ := info_parts Try.infoGn
  obtain ⟨A, hA⟩ : ∃ A : Array Value, A = madeCells (Value.agg #[.string ⟨#[]⟩, .slice none 0 0]).cells (n * 2) := ⟨_, rfl⟩
  have hmk : ∀ W : World, (Instr.makeSlice 28 (.int .i64 (n : Int)) (.int .i64 (n : Int))).run Try.prog W = .ok (.slice (some ⟨W.heap.size, 0, none⟩) n n) (W.alloc (.cells A 39)) := fun W => by
    have h := run_make (P := Try.prog) W 28 39 i0 _ Try.underlying28 hi hz0 .i64 .i64 (n : Int) (n : Int) (by omega) (by omega) (by rw [hz2]; omega) (by omega)
    rw [hz1, Int.toNat_natCast, ← hA] at h
    simpa using h
  have H0 : Hid (SlN (w.alloc (.cells A 39)) 39 2 w.heap.size (.slice (some ⟨w.heap.size, 0, none⟩) n n) (List.replicate n [.string ⟨#[]⟩, .slice none 0 0])) := by rw [hA]; exact SlN.zeros w 39 [.string ⟨#[]⟩, .slice none 0 0] (by simp) rfl n w.heap.size (Nat.le_refl _) hn
  clear hA
  have HB0 : Hid (Below w.heap.size w (w.alloc (.cells A 39))) := (Below.refl _ _).alloc (Nat.le_refl _) _
  have HZ0 : Hid (w.heap.size < (w.alloc (.cells A 39)).heap.size) := (by simp : _ < _)
  go_enter Try.func14, Try.ntmps14
  go_wp2_with fail
  generalize w.alloc (.cells A 39) = W at *
  clear hmk hi hz0 hz1 hz2
  go_loopw [4] (fun i wr => ∃ (k : Nat) (cs : List Gn), k ≤ n ∧ i = .int .i64 k ∧ Hid (cs.length = k) ∧ Hid (cs.map Gn.pl = (es.take k).map Gn.pl) ∧ Hid (SlN wr 39 2 w.heap.size (.slice (some ⟨w.heap.size, 0, none⟩) n n) (cs.map Gn.row ++ List.replicate (n - k) ([.string ⟨#[]⟩, .slice none 0 0] : List Value))) ∧ Hid (∀ c ∈ cs, c.O wr (w.heap.size + 1)) ∧ Hid (GnsUp cs) ∧ Hid (w.heap.size < wr.heap.size) ∧ Hid (Below w.heap.size w wr)) (fun i _ => n - (intOf i).toNat)
  case atStart => exact ⟨0, [], Nat.zero_le _, rfl, rfl, rfl, (by have h := H0.out; simpa using h : SlN _ _ _ _ _ _), (fun c hc => (by cases hc) : ∀ c ∈ ([] : List Gn), _), ⟨fun e he => (by cases he), List.Pairwise.nil⟩, HZ0, HB0⟩
  case round =>
    obtain ⟨k, cs, hk, rfl, hcl, hpl, hrow, hown, hup, hzl, hb⟩ := hrel
    clear H0 HB0 HZ0
    by_cases hlt : k < n
    · have hlt2 : k < es.length := by have := HN.out; omega
      obtain ⟨g, off, ha, hg, _, hr⟩ := (hx.out.stays hb.out).2.1 k (by simpa using hlt2)
      obtain ⟨e, he⟩ : ∃ e, e = es[k] := ⟨_, rfl⟩
      have hr2 : wr.rangeAt g (off + k * 2) e.row := by rw [he]; simpa using hr
      have HR : Hid (wr.rangeAt g (off + k * 2) e.row) := hr2
      have HE : Hid (e = es[k]) := he
      have RR : Hid (e.R wr) := by rw [he]; exact (hx.out.stays hb.out).2.2 _ (List.getElem_mem hlt2)
      have SS : Hid e.S := by rw [he]; exact hs.out _ (List.getElem_mem hlt2)
      have ha : a = some ⟨g, off, none⟩ := ha
      subst ha
      have i0 : (0 : Int) ≤ (k : Int) := by omega
      have i1 : (k : Int) < (n : Int) := by omega
      clear hr hr2 he hg
      go_wp2_with (first | (refine wpList_ldN rfl 46 _ rfl g (off + k * 2) (by rfl) e.row HR.out _ Try.underlying46 rfl Try.sizeLGn ?_))
      refine (toGn_any e _ RR SS.out).mono ?_
      rintro x w1 ⟨u1, rfl, o1, b1⟩
      obtain ⟨c1, hc⟩ : ∃ c : Gn, c = { e with s := u1 } := ⟨_, rfl⟩
      have CO : Hid (c1.O w1 wr.heap.size) := by rw [hc]; exact o1
      have CU : Hid c1.Up := by rw [hc]; exact trivial
      have CP : Hid (c1.pl = e.pl) := by rw [hc]; exact rfl
      have CR : Hid (([.string e.nm, .slice u1.a u1.n u1.c] : List Value) = c1.row) := by rw [hc]; rfl
      have B1 : Hid (Below w.heap.size w w1) := bl_nxt hb.out b1
      have R1 : Hid (SlN w1 39 2 w.heap.size (.slice (some ⟨w.heap.size, 0, none⟩) n n) (cs.map Gn.row ++ List.replicate (n - k) ([.string ⟨#[]⟩, .slice none 0 0] : List Value))) := hrow.out.below b1
      have O1 : Hid (∀ c ∈ cs, c.O w1 (w.heap.size + 1)) := fun c hc => (hown.out c hc).below b1
      have LT : Hid (∀ c ∈ cs, ∀ x, c.own x → x < wr.heap.size) := fun c hc x hx => ((hown.out c hc).lt x hx).2
      have ZL : Hid (w.heap.size + 1 ≤ wr.heap.size) := hzl.out
      have ZL1 : Hid (w.heap.size < w1.heap.size) := Nat.lt_of_lt_of_le hzl.out b1.size
      clear HR b1 hrow hown hb hc hzl
      go_wp2_with (first | (with_reducible refine wpList_haltS 39 _ _ rfl ?_))
      refine Stp.go ?_
      have HL : n = (cs.map Gn.row ++ List.replicate (n - k) ([.string ⟨#[]⟩, .slice none 0 0] : List Value)).length := by have := hcl.out; simp; omega
      have R2 : SlN w1 39 2 w.heap.size (.slice (some ⟨w.heap.size, 0, none⟩) (cs.map Gn.row ++ List.replicate (n - k) ([.string ⟨#[]⟩, .slice none 0 0] : List Value)).length n) (cs.map Gn.row ++ List.replicate (n - k) ([.string ⟨#[]⟩, .slice none 0 0] : List Value)) := by rw [← HL]; exact R1.out
      refine wpList_stN (i := k) rfl 39 _ _ rfl R2 (by rw [← HL]; exact hlt) (by rw [Nat.zero_add]; rfl) ([.string e.nm, .slice u1.a u1.n u1.c]) rfl rfl rfl Try.sizeGn ?_
      intro w2 R3 T3
      rw [← HL, CR.out] at R3
      have e3 : (cs.map Gn.row ++ List.replicate (n - k) ([.string ⟨#[]⟩, .slice none 0 0] : List Value)).set k c1.row = (cs ++ [c1]).map Gn.row ++ List.replicate (n - (k + 1)) ([.string ⟨#[]⟩, .slice none 0 0] : List Value) := by
        have h := set_snoc (cs.map Gn.row) [.string ⟨#[]⟩, .slice none 0 0] c1.row (n - (k + 1))
        rw [show n - (k + 1) + 1 = n - k by omega, List.length_map, hcl.out] at h
        rw [h, List.map_append]
        rfl
      rw [e3] at R3
      have R4 : Hid (SlN w2 39 2 w.heap.size (.slice (some ⟨w.heap.size, 0, none⟩) n n) ((cs ++ [c1]).map Gn.row ++ List.replicate (n - (k + 1)) ([.string ⟨#[]⟩, .slice none 0 0] : List Value))) := R3
      have T4 : Hid (TurnAt w.heap.size w1 w2) := T3
      clear R1 R2 R3 T3 HL e3 CR
      go_wp2_with fail
      go_roundw
      case rel =>
        have kp : ∀ c : Gn, c.O w1 (w.heap.size + 1) → c.O w2 (w.heap.size + 1) := fun c h => h.keep fun b hb _ => T4.out.block b (by omega)
        refine ⟨k + 1, cs ++ [c1], by omega, by go_num, (by have := hcl.out; simp; omega : _ = _), ?_, R4, fun x hx => ?_, ⟨fun x hx => ?_, ?_⟩, (by have h := T4.out.size; have := ZL1.out; omega : _ < _), B1.out.trans (T4.out.below (Nat.le_refl _))⟩
        · show _ = _
          rw [List.map_append, hpl.out, List.take_succ_eq_append_getElem hlt2, List.map_append, ← HE.out]
          simp [CP.out]
        · rcases List.mem_append.1 hx with h | h
          · exact kp _ (O1.out x h)
          · rw [List.mem_singleton.1 h]; exact kp _ (CO.out.down ZL.out)
        · rcases List.mem_append.1 hx with h | h
          · exact hup.out.1 x h
          · rw [List.mem_singleton.1 h]; exact CU.out
        · refine List.pairwise_append.2 ⟨hup.out.2, List.pairwise_singleton _ _, fun a ha b hb x y hx hy => ?_⟩
          rw [List.mem_singleton.1 hb] at hy
          have h1 := LT.out a ha x hx
          have h2 := (CO.out.lt y hy).1
          omega
      case measure => simp [intOf]; omega
    · obtain rfl : k = n := by omega
      go_wp2_with fail
      go_ret
      have hr := hrow.out
      rw [Nat.sub_self, List.replicate_zero, List.append_nil] at hr
      refine ⟨⟨some ⟨w.heap.size, 0, none⟩, _, _⟩, cs, rfl, ?_, ⟨hr, fun e he => (hown.out e he).down (Nat.le_succ _)⟩, hup.out, fun b hb => ?_, hb.out⟩
      · have h := hpl.out
        rwa [HN.out, List.take_of_length_le (Nat.le_refl _)] at h
      · simp [Sv.v, Value.ownBlock] at hb
        subst hb
        exact ⟨rfl, fun e he x hx => by have := ((hown.out e he).lt x hx).1; omega⟩
end Go.Proofs.Ytmbjflhhffcjdaa


/- A list that is appended to in a box, inside a drawn region; what stays then. Out of stage 14's texts, under names of its own. -/
namespace Go.Proofs.Ytmbjflhhffcjdaa
open Go.RowKit Pl
set_option linter.unusedVariables false
set_option linter.unusedSimpArgs false

section
variable {P : Program} {w : World} {o : Oper} {a : Act} {K : Act → World → Prop} {Q : Exit → Act → World → Prop}
end
/-- but for the box g and what lies from N on all is as it was. -/
structure KepR (g N : Nat) (w w' : World) : Prop where
  os : w'.os = w.os
  tape : w'.tape = w.tape
  output : w'.output = w.output
  size : w.heap.size ≤ w'.heap.size
  blk : ∀ k, k < N → k ≠ g → w'.heap[k]? = w.heap[k]?
  news : True
section
variable {g N : Nat} {w w' w'' : World}
theorem KepR.refl (g N : Nat) (w : World) : KepR g N w w := ⟨rfl, rfl, rfl, Nat.le_refl _, fun _ _ _ => rfl, trivial⟩
theorem KepR.trans (h : KepR g N w w') (k : KepR g N w' w'') : KepR g N w w'' := ⟨k.os.trans h.os, k.tape.trans h.tape, k.output.trans h.output, Nat.le_trans h.size k.size, fun i hi hn => (k.blk i hi hn).trans (h.blk i hi hn), trivial⟩
theorem KepR.below {B : Nat} (h : KepR g N w w') (h1 : B ≤ g) (h2 : B ≤ N) : Below B w w' := ⟨h.os, h.tape, h.output, h.size, fun k hk => h.blk k (by omega) (by omega)⟩
theorem KepR.turn (h : KepR g N w w') (t : TurnAt g w' w'') : KepR g N w w'' := ⟨t.os.trans h.os, t.tape.trans h.tape, t.output.trans h.output, Nat.le_trans h.size (Nat.le_of_eq t.size.symm), fun i hi hn => (t.block i hn).trans (h.blk i hi hn), trivial⟩
end
/-- a row of the call's own, of groups whose members are read. -/
def GnsP (w : World) (B : Nat) (s : Sv) (es : List Gn) : Prop := SlN w 39 2 B s.v (es.map Gn.row) ∧ ∀ e ∈ es, e.R w
theorem GnsP.r {w : World} {B : Nat} {s : Sv} {es : List Gn} (h : GnsP w B s es) : GnsR w s es := ⟨by have := h.1.slen; simpa using this, h.1.rwa, h.2⟩
theorem Try.sizeTb : (Try.prog.info? 30).map (·.size) = some 1 := by kernel_rfl
theorem Try.sizeGs : (Try.prog.info? 28).map (·.size) = some 1 := by kernel_rfl
end Go.Proofs.Ytmbjflhhffcjdaa


/- Groups held against each other. Written by gen_gn.py. -/
namespace Go.Proofs.Ytmbjflhhffcjdaa
open Go.RowKit Pl
set_option linter.unusedVariables false
set_option linter.unusedSimpArgs false

set_option maxRecDepth 100000 in
set_option maxHeartbeats 4000000 in
theorem eqGn_same (e : Gn) (a b : Sv) (B1 B2 : Nat) (w : World) (hs : Hid e.S) (h1 : Hid (OwnS w B1 a.v e.ms)) (h2 : Hid (OwnS w B2 b.v e.ms)) :
    Calls Try.prog 22 #[.agg #[.string e.nm, .slice a.a a.n a.c], .agg #[.string e.nm, .slice b.a b.n b.c]] w fun x w' => x = .returned (.bool true) ∧ Below w.heap.size w w' := by
  have hn1 : (w.alloc (.cells #[.string e.nm, .slice a.a a.n a.c] 39)).heap.size = w.heap.size + 1 := by simp
  have LA : Hid (Bx ((w.alloc (.cells #[.string e.nm, .slice a.a a.n a.c] 39)).alloc (.cells #[.string e.nm, .slice b.a b.n b.c] 39)) w.heap.size 39 [.string e.nm, .slice a.a a.n a.c]) := by
    have h := Bx.new w 39 [.string e.nm, .slice a.a a.n a.c]
    exact (h).later ((Below.refl _ _).alloc (Nat.le_refl _) _)
  have LB : Hid (Bx ((w.alloc (.cells #[.string e.nm, .slice a.a a.n a.c] 39)).alloc (.cells #[.string e.nm, .slice b.a b.n b.c] 39)) (w.heap.size + 1) 39 [.string e.nm, .slice b.a b.n b.c]) := by
    have h := Bx.new (w.alloc (.cells #[.string e.nm, .slice a.a a.n a.c] 39)) 39 [.string e.nm, .slice b.a b.n b.c]
    rw [hn1] at h
    exact h
  have BW : Hid (Below w.heap.size w ((w.alloc (.cells #[.string e.nm, .slice a.a a.n a.c] 39)).alloc (.cells #[.string e.nm, .slice b.a b.n b.c] 39))) := (((Below.refl _ _).alloc (by simp) _).alloc (by simp; try omega) _)
  clear hn1
  have H1 : Hid (OwnS ((w.alloc (.cells #[.string e.nm, .slice a.a a.n a.c] 39)).alloc (.cells #[.string e.nm, .slice b.a b.n b.c] 39)) B1 a.v e.ms) := h1.out.keep' fun _ _ hk => BW.out.block _ hk
  have H2 : Hid (OwnS ((w.alloc (.cells #[.string e.nm, .slice a.a a.n a.c] 39)).alloc (.cells #[.string e.nm, .slice b.a b.n b.c] 39)) B2 b.v e.ms) := h2.out.keep' fun _ _ hk => BW.out.block _ hk
  clear h1 h2
  have hl : e.ms.length ≤ 1048577 := by have := hs.out.2; unfold totS at this; omega
  have d0 : (e.nm.toList == e.nm.toList) = true := by simp
  have a0 := LA.out.cell 0
  have b0 := LB.out.cell 0
  have a1 := LA.out.cell 1
  have b1 := LB.out.cell 1
  simp only [List.getElem?_cons_succ, List.getElem?_cons_zero] at a0 b0 a1 b1
  go_enter Try.func22, Try.ntmps22
  go_wp2_with fail
  generalize ((w.alloc (.cells #[.string e.nm, .slice a.a a.n a.c] 39)).alloc (.cells #[.string e.nm, .slice b.a b.n b.c] 39)) = W at *
  clear a0 b0 a1 b1 d0
  refine (eqS_same a.v b.v e.ms _ _ _ H1.out H2.out hl).mono ?_
  rintro x w1 ⟨rfl, c⟩
  go_wp2_with fail
  go_ret
  exact ⟨rfl, bl_next BW.out c⟩
end Go.Proofs.Ytmbjflhhffcjdaa


/- Lists of groups, held against each other. Written by gen_gs.py. -/
namespace Go.Proofs.Ytmbjflhhffcjdaa
open Go.RowKit Pl
set_option linter.unusedVariables false
set_option linter.unusedSimpArgs false

set_option maxRecDepth 100000 in
set_option maxHeartbeats 4000000 in
theorem eqgroups_sp (ao bo : Option Addr) (len c1 c2 : Nat) (r1 r2 : Nat → List Value) (w : World) (h1 : Hid (∀ j, j < len → ∃ g off, ao = some ⟨g, off, none⟩ ∧ g < w.heap.size ∧ (r1 j).length = 2 ∧ w.rangeAt g (off + j * 2) (r1 j))) (h2 : Hid (∀ j, j < len → ∃ g off, bo = some ⟨g, off, none⟩ ∧ g < w.heap.size ∧ (r2 j).length = 2 ∧ w.rangeAt g (off + j * 2) (r2 j))) (hE : Hid (∀ j, j < len → ∀ W, Below w.heap.size w W → Calls Try.prog 22 #[.agg (r1 j).toArray, .agg (r2 j).toArray] W fun e w' => e = .returned (.bool true) ∧ Below W.heap.size W w')) (hl : len ≤ 39999990) :
    Calls Try.prog 16 #[.slice ao len c1, .slice bo len c2] w fun e w' => e = .returned (.bool true) ∧ Below w.heap.size w w' := by
  go_enter Try.func16, Try.ntmps16
  go_wp2_with fail
  go_loopw [5] (fun i wr => ∃ (j : Nat), j ≤ len ∧ i = .int .i64 (j : Int) ∧ Hid (Below w.heap.size w wr)) (fun i _ => len - (intOf i).toNat)
  case atStart => exact ⟨0, by omega, rfl, Below.refl _ _⟩
  case round =>
    obtain ⟨j, hj, rfl, HB⟩ := hrel
    by_cases hlt : j < len
    · obtain ⟨g1, o1, rfl, l1, n1, x1⟩ := h1.out j hlt
      obtain ⟨g2, o2, rfl, l2, n2, x2⟩ := h2.out j hlt
      have X1 : Hid (w.rangeAt g1 (o1 + j * 2) (r1 j)) := x1
      have X2 : Hid (w.rangeAt g2 (o2 + j * 2) (r2 j)) := x2
      have N1 : Hid ((Try.prog.info? 39).map (·.size) = some (r1 j).length) := (by rw [n1]; exact Try.sizeGn : _ = _)
      have N2 : Hid ((Try.prog.info? 39).map (·.size) = some (r2 j).length) := (by rw [n2]; exact Try.sizeGn : _ = _)
      clear x1 x2 n1 n2
      have EJ : Hid _ := hE.out j hlt
      have i0 : (0 : Int) ≤ (j : Int) := by omega
      have i1 : (j : Int) < (len : Int) := by omega
      go_wp2_with fail
      have c : Below w.heap.size w wr.drew := HB.out.drew
      refine wp_region_held_drew (S := fun w' => Below w.heap.size w w') (by kernel_rfl) c (fun hHeld => ?_)
      refine wpAnyH_take (i := 0) (v := ?v0b1) rfl (by kernel_rfl) (by kernel_rfl) (by kernel_rfl) (fun _ _ _ h => h) (Or.inl ⟨by rfl, ?hy0b1⟩) (by assumption) ?_
      case hy0b1 => (intro w hSw; (try dsimp only at hSw); simp only [List.getElem_toArray, List.getElem_cons_zero, List.getElem_cons_succ]; go_simp; try with_reducible rfl)
      try simp only [Act.put, List.getElem_toArray, List.getElem_cons_zero, List.getElem_cons_succ, List.setIfInBounds_toArray, List.set_cons_zero, List.set_cons_succ]
      refine wpAnyH_take (i := 1) (v := ?v1b2) rfl (by kernel_rfl) (by kernel_rfl) (by kernel_rfl) (fun _ _ _ h => h) (Or.inl ⟨by rfl, ?hy1b2⟩) (by assumption) ?_
      case hy1b2 => (intro w hSw; (try dsimp only at hSw); simp only [List.getElem_toArray, List.getElem_cons_zero, List.getElem_cons_succ]; go_simp; try with_reducible rfl)
      try simp only [Act.put, List.getElem_toArray, List.getElem_cons_zero, List.getElem_cons_succ, List.setIfInBounds_toArray, List.set_cons_zero, List.set_cons_succ]
      refine wpAnyH_take (i := 2) (v := ?v2b3) rfl (by kernel_rfl) (by kernel_rfl) (by kernel_rfl) (fun _ _ _ h => h) (Or.inl ⟨by rfl, ?hy2b3⟩) (by assumption) ?_
      case hy2b3 => (intro w hSw; (try dsimp only at hSw); simp only [List.getElem_toArray, List.getElem_cons_zero, List.getElem_cons_succ]; go_simp; try with_reducible rfl)
      try simp only [Act.put, List.getElem_toArray, List.getElem_cons_zero, List.getElem_cons_succ, List.setIfInBounds_toArray, List.set_cons_zero, List.set_cons_succ]
      refine wpAnyH_take (i := 3) (v := _) rfl (by kernel_rfl) (by kernel_rfl) (by kernel_rfl) (fun _ _ _ h => h) (ldN_yield (by rfl) 39 _ rfl g1 (o1 + j * 2) (by rfl) (r1 j) (fun w hS => range_later X1.out l1 hS) _ Try.underlying39 rfl N1.out) (by assumption) ?_
      try simp only [Act.put, List.setIfInBounds_toArray, List.set_cons_zero, List.set_cons_succ]
      refine wpAnyH_take (i := 4) (v := ?v4b5) rfl (by kernel_rfl) (by kernel_rfl) (by kernel_rfl) (fun _ _ _ h => h) (Or.inl ⟨by rfl, ?hy4b5⟩) (by assumption) ?_
      case hy4b5 => (intro w hSw; (try dsimp only at hSw); simp only [List.getElem_toArray, List.getElem_cons_zero, List.getElem_cons_succ]; go_simp; try with_reducible rfl)
      try simp only [Act.put, List.getElem_toArray, List.getElem_cons_zero, List.getElem_cons_succ, List.setIfInBounds_toArray, List.set_cons_zero, List.set_cons_succ]
      refine wpAnyH_take (i := 5) (v := ?v5b6) rfl (by kernel_rfl) (by kernel_rfl) (by kernel_rfl) (fun _ _ _ h => h) (Or.inl ⟨by rfl, ?hy5b6⟩) (by assumption) ?_
      case hy5b6 => (intro w hSw; (try dsimp only at hSw); simp only [List.getElem_toArray, List.getElem_cons_zero, List.getElem_cons_succ]; go_simp; try with_reducible rfl)
      try simp only [Act.put, List.getElem_toArray, List.getElem_cons_zero, List.getElem_cons_succ, List.setIfInBounds_toArray, List.set_cons_zero, List.set_cons_succ]
      refine wpAnyH_take (i := 6) (v := ?v6b7) rfl (by kernel_rfl) (by kernel_rfl) (by kernel_rfl) (fun _ _ _ h => h) (Or.inl ⟨by rfl, ?hy6b7⟩) (by assumption) ?_
      case hy6b7 => (intro w hSw; (try dsimp only at hSw); simp only [List.getElem_toArray, List.getElem_cons_zero, List.getElem_cons_succ]; go_simp; try with_reducible rfl)
      try simp only [Act.put, List.getElem_toArray, List.getElem_cons_zero, List.getElem_cons_succ, List.setIfInBounds_toArray, List.set_cons_zero, List.set_cons_succ]
      refine wpAnyH_take (i := 7) (v := _) rfl (by kernel_rfl) (by kernel_rfl) (by kernel_rfl) (fun _ _ _ h => h) (ldN_yield (by rfl) 39 _ rfl g2 (o2 + j * 2) (by rfl) (r2 j) (fun w hS => range_later X2.out l2 hS) _ Try.underlying39 rfl N2.out) (by assumption) ?_
      try simp only [Act.put, List.setIfInBounds_toArray, List.set_cons_zero, List.set_cons_succ]
      refine wpAnyH_ready (rs := [8]) (by kernel_rfl) (by simp) ?_
      refine AllReadyH.cons (i := 8) rfl (fun K hK => ?_) AllReadyH.nil
      rw [if_pos (by rfl)]
      simp only [List.getElem_toArray, List.getElem_cons_zero, List.getElem_cons_succ]
      go_simp
      refine (EJ.out _ c).mono ?_
      rintro e y1 ⟨rfl, d1⟩
      have c1 : Below w.heap.size w y1 := bl_next c d1
      refine hK.out _ _ (c1) (fun hHeld => ?_)
      clear hK K
      try simp only [Act.put, List.getElem_toArray, List.getElem_cons_zero, List.getElem_cons_succ, List.setIfInBounds_toArray, List.set_cons_zero, List.set_cons_succ]
      clear d1
      refine wpAnyH_take (i := 9) (v := ?v9b9) rfl (by kernel_rfl) (by kernel_rfl) (by kernel_rfl) (fun _ _ _ h => h) (Or.inl ⟨by rfl, ?hy9b9⟩) (by assumption) ?_
      case hy9b9 => (intro w hSw; (try dsimp only at hSw); simp only [List.getElem_toArray, List.getElem_cons_zero, List.getElem_cons_succ]; go_simp; try with_reducible rfl)
      try simp only [Act.put, List.getElem_toArray, List.getElem_cons_zero, List.getElem_cons_succ, List.setIfInBounds_toArray, List.set_cons_zero, List.set_cons_succ]
      refine wpAnyH_done (by kernel_rfl) ?_ _
      have HB1 : Hid (Below w.heap.size w y1) := c1
      clear c c1 hHeld HB EJ X1 X2
      go_wp2_with fail
      go_roundw
      case rel => exact ⟨j + 1, by omega, by go_num, HB1⟩
      case measure => simp [intOf]; omega
    · obtain rfl : j = len := by omega
      go_wp2_with fail
      go_ret
      exact ⟨rfl, HB.out⟩
end Go.Proofs.Ytmbjflhhffcjdaa


/- Events in plain words and in memory; one event measured, copied, held against another. Written by gen_ev.py. -/
namespace Go.Proofs.Ytmbjflhhffcjdaa
open Go.RowKit Pl
set_option linter.unusedVariables false
set_option linter.unusedSimpArgs false

/-- an event, and where its lists lie. -/
structure Ev where
  k : Int
  rid : Int
  ms : List Int
  q : Int
  f : Int
  l : Int
  t : ByteArray
  wi : List Int
  sm : Sv
  sw : Sv
def Ev.row (e : Ev) : List Value := [.int .i64 e.k, .int .i64 e.rid, .slice e.sm.a e.sm.n e.sm.c, .int .i64 e.q, .int .i64 e.f, .int .i64 e.l, .string e.t, .slice e.sw.a e.sw.n e.sw.c]
/-- what an event says. -/
def Ev.pl (e : Ev) : Int × Int × List Int × It × List Int := (e.k, e.rid, e.ms, (e.q, e.f, e.l, e.t), e.wi)
/-- its lists are read. -/
def Ev.R (w : World) (e : Ev) : Prop := RI w e.sm.v e.ms ∧ RI w e.sw.v e.wi
theorem Ev.R.stays {w w' : World} {e : Ev} (h : e.R w) (b : Below w.heap.size w w') : e.R w' := ⟨h.1.stays b, h.2.stays b⟩
def Ev.S (e : Ev) : Prop := e.ms.length ≤ 1048576 ∧ e.wi.length ≤ 1048576 ∧ e.t.size ≤ 1048576
def Ev.L (e : Ev) : Prop := e.ms.length ≤ 9223372036854775807 ∧ e.wi.length ≤ 9223372036854775807 ∧ e.t.size ≤ 9223372036854775807
def Ev.sz (e : Ev) : Nat := e.ms.length + e.t.size + e.wi.length
/-- its lists are of a call's own. -/
def Ev.O (w : World) (B : Nat) (e : Ev) : Prop := OwnI w B e.sm.v e.ms ∧ OwnI w B e.sw.v e.wi
theorem Ev.O.r {w : World} {B : Nat} {e : Ev} (h : e.O w B) : e.R w := ⟨h.1.ri, h.2.ri⟩
end Go.Proofs.Ytmbjflhhffcjdaa


/- Lists of events that a law measures and copies. Written by gen_ls.py. -/
namespace Go.Proofs.Ytmbjflhhffcjdaa
open Go.RowKit Pl
set_option linter.unusedVariables false
set_option linter.unusedSimpArgs false

theorem Ev.O.keep {w w' : World} {B : Nat} {e : Ev} (h : e.O w B) (hk : ∀ b, B ≤ b → b < w.heap.size → w'.heap[b]? = w.heap[b]?) : e.O w' B := ⟨h.1.keep fun b hb hl => hk b (h.1.lt b hb).1 hl, h.2.keep fun b hb hl => hk b (h.2.lt b hb).1 hl⟩
theorem Ev.O.below {w w' : World} {B : Nat} {e : Ev} (h : e.O w B) (b : Below w.heap.size w w') : e.O w' B := h.keep fun k _ hk => b.block k hk
theorem Ev.O.down {w : World} {B B' : Nat} {e : Ev} (h : e.O w B) (hB : B' ≤ B) : e.O w B' := ⟨h.1.down hB, h.2.down hB⟩
def Ev.own (e : Ev) (x : Nat) : Prop := e.sm.v.ownBlock = some x ∨ e.sw.v.ownBlock = some x
theorem Ev.O.lt {w : World} {B : Nat} {e : Ev} (h : e.O w B) (x : Nat) (hx : e.own x) : B ≤ x ∧ x < w.heap.size := by
  rcases hx with hx | hx
  · exact h.1.lt x hx
  · exact h.2.lt x hx
def Ev.Up (e : Ev) : Prop := ∀ a c, e.sm.v.ownBlock = some a → e.sw.v.ownBlock = some c → a < c
/-- a list of them that is read. -/
def EvsR (w : World) (s : Sv) (es : List Ev) : Prop := s.n = es.length ∧ RwA w s.a 8 (es.map Ev.row) ∧ ∀ e ∈ es, e.R w
theorem EvsR.stays {w w' : World} {s : Sv} {es : List Ev} (h : EvsR w s es) (b : Below w.heap.size w w') : EvsR w' s es := ⟨h.1, h.2.1.stays b, fun e he => (h.2.2 e he).stays b⟩
/-- each one's lists lie behind those of the ones ahead. -/
def EvsUp (es : List Ev) : Prop := (∀ e ∈ es, e.Up) ∧ es.Pairwise fun a b => ∀ x y, a.own x → b.own y → x < y
def Evs.tot (es : List Ev) : Nat := (es.map fun e => e.sz).sum
theorem Evs.tot_take (es : List Ev) (k : Nat) (hk : k < es.length) : Evs.tot (es.take (k + 1)) = Evs.tot (es.take k) + es[k].sz := by
  unfold Evs.tot
  rw [List.take_succ_eq_append_getElem hk, List.map_append, List.sum_append]
  simp

end Go.Proofs.Ytmbjflhhffcjdaa


/- Lists of bundles that a law measures and copies. Written by gen_ls.py. -/
namespace Go.Proofs.Ytmbjflhhffcjdaa
open Go.RowKit Pl
set_option linter.unusedVariables false
set_option linter.unusedSimpArgs false

/-- a bundle, and where its list lies. -/
structure Bu where
  f : Int
  n : Int
  o : Int
  ts : List It
  s : Sv
def Bu.ok (b : Bu) : Bool := bunB b.f b.n b.o b.ts
/-- what a bundle says. -/
def Bu.pl (b : Bu) : Int × Int × Int × List It := (b.f, b.n, b.o, b.ts)
def Bu.row (b : Bu) : List Value := [.int .i64 b.f, .int .i64 b.n, .int .i64 b.o, .slice b.s.a b.s.n b.s.c]
def Bu.R (w : World) (b : Bu) : Prop := RSt w b.s b.ts
theorem Bu.R.stays {w w' : World} {b : Bu} (h : b.R w) (hb : Below w.heap.size w w') : b.R w' := RSt.stays h hb
def Bu.S (b : Bu) : Prop := b.ts.length ≤ 1048576
def Bu.L (b : Bu) : Prop := b.ts.length ≤ 9223372036854775807 ∧ ∀ x ∈ b.ts, x.2.2.2.size ≤ 9223372036854775807
def Bu.sz (b : Bu) : Nat := b.ts.length
def Bu.own (e : Bu) (x : Nat) : Prop := e.s.v.ownBlock = some x
def Bu.Up (e : Bu) : Prop := True
/-- a list of them that is read. -/
def BusR (w : World) (s : Sv) (es : List Bu) : Prop := s.n = es.length ∧ RwA w s.a 4 (es.map Bu.row) ∧ ∀ e ∈ es, e.R w
theorem BusR.stays {w w' : World} {s : Sv} {es : List Bu} (h : BusR w s es) (b : Below w.heap.size w w') : BusR w' s es := ⟨h.1, h.2.1.stays b, fun e he => (h.2.2 e he).stays b⟩
/-- each one's lists lie behind those of the ones ahead. -/
def BusUp (es : List Bu) : Prop := (∀ e ∈ es, e.Up) ∧ es.Pairwise fun a b => ∀ x y, a.own x → b.own y → x < y
def Bus.tot (es : List Bu) : Nat := (es.map fun e => e.sz).sum
theorem Bus.tot_take (es : List Bu) (k : Nat) (hk : k < es.length) : Bus.tot (es.take (k + 1)) = Bus.tot (es.take k) + es[k].sz := by
  unfold Bus.tot
  rw [List.take_succ_eq_append_getElem hk, List.map_append, List.sum_append]
  simp

end Go.Proofs.Ytmbjflhhffcjdaa


/- Lists of events, held against each other. Written by gen_gs.py. -/
namespace Go.Proofs.Ytmbjflhhffcjdaa
open Go.RowKit Pl
set_option linter.unusedVariables false
set_option linter.unusedSimpArgs false
end Go.Proofs.Ytmbjflhhffcjdaa


/- Lists of bundles, held against each other. Written by gen_gs.py. -/
namespace Go.Proofs.Ytmbjflhhffcjdaa
open Go.RowKit Pl
set_option linter.unusedVariables false
set_option linter.unusedSimpArgs false
end Go.Proofs.Ytmbjflhhffcjdaa


/- Lists of events, lists of bundles: held against each other. -/
namespace Go.Proofs.Ytmbjflhhffcjdaa
open Go.RowKit Pl
set_option linter.unusedVariables false
set_option linter.unusedSimpArgs false

theorem rowsAt {w : World} {T size B : Nat} {s : Sv} {rows : List (List Value)} (h : SlN w T size B s.v rows) (j : Nat) (hj : j < rows.length) : ∃ g off, s.a = some ⟨g, off, none⟩ ∧ g < w.heap.size ∧ ((rows[j]?).getD []).length = size ∧ w.rangeAt g (off + j * size) ((rows[j]?).getD []) := by
  obtain ⟨g, off, c, h1, h2, h3, h4⟩ := h.read hj
  simp only [Sv.v, Value.slice.injEq] at h1
  rw [List.getElem?_eq_getElem hj]
  exact ⟨g, off, h1.1, h3, h.lens _ (List.getElem_mem hj), h4⟩
end Go.Proofs.Ytmbjflhhffcjdaa


/- Daemons in plain words and in memory; a daemon measured, copied, held against another. Written by gen_dm.py. -/
namespace Go.Proofs.Ytmbjflhhffcjdaa
open Go.RowKit Pl
set_option linter.unusedVariables false
set_option linter.unusedSimpArgs false

/-- a daemon, and where its lists lie. -/
structure Dm where
  id : Int
  dead : Bool
  m : Mt
  mv : Mv
  most : Int
  old : Int
  jid : Int
  jms : List Int
  js : Sv
  bu : List Bu
  bs : Sv
  lo : List Ev
  ls : Sv
/-- its lists are read. -/
structure DmR (w : World) (d : Dm) : Prop where
  mt : MtR w d.m d.mv
  jo : RI w d.js.v d.jms
  bu : BusR w d.bs d.bu
  lo : EvsR w d.ls d.lo
theorem DmR.stays {w w' : World} {d : Dm} (h : DmR w d) (b : Below w.heap.size w w') : DmR w' d := ⟨h.mt.stays b, h.jo.stays b, h.bu.stays b, h.lo.stays b⟩
/-- no longer than can be. -/
structure DmL (d : Dm) : Prop where
  mt : MtL d.m
  jo : d.jms.length ≤ 9223372036854775807
  bu : d.bu.length ≤ 9223372036854775807 ∧ ∀ b ∈ d.bu, b.L
  lo : d.lo.length ≤ 9223372036854775807 ∧ ∀ e ∈ d.lo, e.L
/-- not too long. -/
structure DmS (d : Dm) : Prop where
  mt : MtS d.m
  jo : d.jms.length ≤ 1048576
  bu : d.bu.length + Bus.tot d.bu ≤ 1048576
  lo : d.lo.length + Evs.tot d.lo ≤ 1048576
theorem tot_le {α : Type} (f : α → Nat) : ∀ (l : List α) (x : α), x ∈ l → f x ≤ (l.map f).sum
  | a :: l, x, h => by
    rw [List.map_cons, List.sum_cons]
    rcases List.mem_cons.1 h with rfl | h
    · omega
    · have := tot_le f l x h; omega
/-- the same, in plain words. -/
structure Dm.Same (a b : Dm) : Prop where
  id : a.id = b.id
  dead : a.dead = b.dead
  m : a.m = b.m
  most : a.most = b.most
  old : a.old = b.old
  jid : a.jid = b.jid
  jms : a.jms = b.jms
  bu : a.bu.map Bu.pl = b.bu.map Bu.pl
  lo : a.lo.map Ev.pl = b.lo.map Ev.pl
theorem Dm.Same.symm {a b : Dm} (h : a.Same b) : b.Same a := ⟨h.id.symm, h.dead.symm, h.m.symm, h.most.symm, h.old.symm, h.jid.symm, h.jms.symm, h.bu.symm, h.lo.symm⟩
theorem Dm.Same.trans {a b c : Dm} (h : a.Same b) (k : b.Same c) : a.Same c := ⟨h.id.trans k.id, h.dead.trans k.dead, h.m.trans k.m, h.most.trans k.most, h.old.trans k.old, h.jid.trans k.jid, h.jms.trans k.jms, h.bu.trans k.bu, h.lo.trans k.lo⟩
theorem sz_of_pl {a b : List Bu} (h : a.map Bu.pl = b.map Bu.pl) : Bus.tot a = Bus.tot b := by
  have e : ∀ l : List Bu, l.map (fun e => e.sz) = (l.map Bu.pl).map (fun p => p.2.2.2.length) := fun l => by rw [List.map_map]; rfl
  unfold Bus.tot; rw [e, e, h]
theorem sz_of_ple {a b : List Ev} (h : a.map Ev.pl = b.map Ev.pl) : Evs.tot a = Evs.tot b := by
  have e : ∀ l : List Ev, l.map (fun e => e.sz) = (l.map Ev.pl).map (fun p => p.2.2.1.length + p.2.2.2.1.2.2.2.size + p.2.2.2.2.length) := fun l => by rw [List.map_map]; rfl
  unfold Evs.tot; rw [e, e, h]
theorem Dm.Same.small {a b : Dm} (h : a.Same b) (k : DmS b) : DmS a := by
  have l1 : a.bu.length = b.bu.length := by have := congrArg List.length h.bu; simpa using this
  have l2 : a.lo.length = b.lo.length := by have := congrArg List.length h.lo; simpa using this
  exact ⟨h.m ▸ k.mt, h.jms ▸ k.jo, by rw [l1, sz_of_pl h.bu]; exact k.bu, by rw [l2, sz_of_ple h.lo]; exact k.lo⟩
/-- the blocks of a list of bundles, of a list of events. -/
def BusOwn (s : Sv) (bs : List Bu) (y : Nat) : Prop := s.v.ownBlock = some y ∨ ∃ b ∈ bs, b.own y
def EvsOwn (s : Sv) (es : List Ev) (y : Nat) : Prop := s.v.ownBlock = some y ∨ ∃ e ∈ es, e.own y
/-- each of its lists lies apart. -/
structure BusA (s : Sv) (bs : List Bu) : Prop where
  row : ∀ y, s.v.ownBlock = some y → ∀ b ∈ bs, ¬ b.own y
  two : bs.Pairwise fun a b => ∀ x, a.own x → ¬ b.own x
structure EvsA (s : Sv) (es : List Ev) : Prop where
  row : ∀ y, s.v.ownBlock = some y → ∀ e ∈ es, ¬ e.own y
  one : ∀ e ∈ es, ∀ x, e.sm.v.ownBlock = some x → e.sw.v.ownBlock ≠ some x
  two : es.Pairwise fun a b => ∀ x, a.own x → ¬ b.own x
structure DmA (d : Dm) : Prop where
  mj : ∀ x, d.mv.own x → d.js.v.ownBlock ≠ some x
  mb : ∀ x, d.mv.own x → ¬ BusOwn d.bs d.bu x
  ml : ∀ x, d.mv.own x → ¬ EvsOwn d.ls d.lo x
  jb : ∀ x, d.js.v.ownBlock = some x → ¬ BusOwn d.bs d.bu x
  jl : ∀ x, d.js.v.ownBlock = some x → ¬ EvsOwn d.ls d.lo x
  bl : ∀ x, BusOwn d.bs d.bu x → ¬ EvsOwn d.ls d.lo x
  bu : BusA d.bs d.bu
  lo : EvsA d.ls d.lo
theorem BusUp.a {s : Sv} {bs : List Bu} (h : BusUp bs) (hr : ∀ b, s.v.ownBlock = some b → ∀ e ∈ bs, ∀ x, e.own x → b < x) : BusA s bs :=
  ⟨fun y hy b hb hx => by have := hr y hy b hb y hx; omega, h.2.imp fun h x hx hy => by have := h x x hx hy; omega⟩
theorem EvsUp.a {s : Sv} {es : List Ev} (h : EvsUp es) (hr : ∀ b, s.v.ownBlock = some b → ∀ e ∈ es, ∀ x, e.own x → b < x) : EvsA s es :=
  ⟨fun y hy b hb hx => by have := hr y hy b hb y hx; omega, fun e he x h1 h2 => by have := h.1 e he x x h1 h2; omega, h.2.imp fun h x hx hy => by have := h x x hx hy; omega⟩
end Go.Proofs.Ytmbjflhhffcjdaa


/- Lists of groups held against each other. Written by gen_gn.py. -/
namespace Go.Proofs.Ytmbjflhhffcjdaa
open Go.RowKit Pl
set_option linter.unusedVariables false
set_option linter.unusedSimpArgs false

theorem eqGns_any (s1 s2 : Sv) (es fs : List Gn) (B1 B2 : Nat) (w : World) (h1 : Hid (GnsO w B1 s1 es)) (h2 : Hid (GnsO w B2 s2 fs)) (hpl : Hid (es.map Gn.pl = fs.map Gn.pl)) (hl : es.length ≤ 1048576) (hs : Hid (∀ e ∈ es, e.S)) :
    Calls Try.prog 16 #[.slice s1.a s1.n s1.c, .slice s2.a s2.n s2.c] w fun x w' => x = .returned (.bool true) ∧ Below w.heap.size w w' := by
  have n1 : s1.n = es.length := by have := h1.out.1.slen; simpa using this
  have hfl : fs.length = es.length := by have := congrArg List.length hpl.out; simp at this; omega
  have n2 : s2.n = es.length := by have := h2.out.1.slen; simp at this; omega
  rw [n1, n2]
  refine eqgroups_sp s1.a s2.a es.length s1.c s2.c (fun j => ((es.map Gn.row)[j]?).getD []) (fun j => ((fs.map Gn.row)[j]?).getD []) w (fun j hj => rowsAt h1.out.1 j (by simpa using hj)) (fun j hj => rowsAt h2.out.1 j (by simpa [hfl] using hj)) ?_ (by omega)
  intro j hj W b
  have hj2 : j < fs.length := by omega
  have e1 : ((es.map Gn.row)[j]?).getD [] = es[j].row := by simp [hj]
  have e2 : ((fs.map Gn.row)[j]?).getD [] = fs[j].row := by simp [hj2]
  have hp : es[j].pl = fs[j].pl := by
    have h := congrArg (fun l => l[j]?) hpl.out
    simpa [hj, hj2] using h
  try dsimp only
  rw [e1, e2]
  have o1 := (h1.out.2 _ (List.getElem_mem hj)).below b
  have o2 := (h2.out.2 _ (List.getElem_mem hj2)).below b
  obtain ⟨e, he⟩ : ∃ e, e = es[j] := ⟨_, rfl⟩
  obtain ⟨f, hf⟩ : ∃ f, f = fs[j] := ⟨_, rfl⟩
  have hS := hs.out _ (List.getElem_mem hj)
  rw [← he] at o1 hS hp
  rw [← hf] at o2 hp
  rw [← he, ← hf]
  obtain ⟨nm, ms, sm⟩ := f
  simp only [Gn.pl, Prod.mk.injEq] at hp
  obtain ⟨rfl, rfl⟩ := hp
  exact eqGn_same e e.s sm B1 B2 W hS o1 o2
/-- what a law's budget leaves room for. -/
theorem Gns.small {es : List Gn} {z L : Nat} (h : z + (es.length + Gns.tot es) ≤ L) (hL : L ≤ 1048576) : es.length ≤ 1048576 ∧ ∀ e ∈ es, e.S := ⟨by omega, fun e he => by have := tot_le (fun e : Gn => e.sz) _ e he; unfold Gn.S; unfold Gn.sz at this; unfold Gns.tot Gn.sz at h; omega⟩
theorem Gns.same_S {es fs : List Gn} (h : es.map Gn.pl = fs.map Gn.pl) (hs : ∀ e ∈ fs, e.S) : ∀ e ∈ es, e.S := fun e he => by
  have : e.pl ∈ fs.map Gn.pl := by rw [← h]; exact List.mem_map_of_mem he
  obtain ⟨f, hf, hp⟩ := List.mem_map.1 this
  have := hs f hf
  unfold Gn.S at *
  simp only [Gn.pl, Prod.mk.injEq] at hp
  rw [← hp.1, ← hp.2]; exact this
theorem Gns.same_len {es fs : List Gn} (h : es.map Gn.pl = fs.map Gn.pl) : es.length = fs.length := by have := congrArg List.length h; simpa using this
end Go.Proofs.Ytmbjflhhffcjdaa


/- The places of a list of structs, whose fields are numbers, texts and lists: where each lies, that none is there twice. No function of the program is named here. -/
namespace Go.Proofs.Ytmbjflhhffcjdaa
open Go.RowKit Pl
set_option linter.unusedVariables false
set_option linter.unusedSimpArgs false

/-- a field: the cell c of a row (of the kind d), or a list s whose elements have the kinds ds. -/
structure Fd where
  c : Nat
  d : Nat
  s : Option Sv
  ds : List Nat
def svB (s : Sv) : Nat := (s.a.map (·.block)).getD 0
def svO (s : Sv) : Nat := (s.a.map (·.off)).getD 0
def sps (ds : List Nat) (s : Sv) : List Spot := (List.range (s.n * ds.length)).map fun t => (svB s, svO s + t, ds.getD (t % ds.length) 0)
def Fd.sp (g o : Nat) (f : Fd) : List Spot := match f.s with | none => [(g, o + f.c, f.d)] | some s => sps f.ds s
def pc (g o : Nat) (fs : List Fd) : List Spot := fs.flatMap (Fd.sp g o)
/-- the block of a list that has something. -/
def Fd.ow (f : Fd) (x : Nat) : Prop := ∃ s, f.s = some s ∧ 0 < s.n ∧ svB s = x
/-- a list that lies there. -/
def LvS (w : World) (s : Sv) (k : Nat) : Prop := 0 < s.n → s.a = some ⟨svB s, svO s, none⟩ ∧ svB s < w.heap.size ∧ (∀ t, t < s.n * k → ∃ u, w.cell? ⟨svB s, svO s + t, none⟩ = some u) ∧ ∀ t, w.frozen? ⟨svB s, t, none⟩ = false
abbrev Ne2 (a b : Spot) : Prop := ¬ (a.1 = b.1 ∧ a.2.1 = b.2.1)
theorem sps_len (ds : List Nat) (s : Sv) : (sps ds s).length = s.n * ds.length := by simp [sps]
theorem sps_at {ds : List Nat} {s : Sv} {t : Nat} (h : t < s.n * ds.length) : (sps ds s)[t]? = some (svB s, svO s + t, ds.getD (t % ds.length) 0) := by simp [sps, h]
theorem sps_mem {ds : List Nat} {s : Sv} {x : Spot} (h : x ∈ sps ds s) : x.1 = svB s ∧ ∃ t, t < s.n * ds.length ∧ x.2.1 = svO s + t := by
  unfold sps at h
  obtain ⟨t, ht, rfl⟩ := List.mem_map.1 h
  exact ⟨rfl, t, List.mem_range.1 ht, rfl⟩
theorem sps_pos {ds : List Nat} {s : Sv} {x : Spot} (h : x ∈ sps ds s) : 0 < s.n := by
  obtain ⟨_, t, ht, _⟩ := sps_mem h
  rcases Nat.eq_zero_or_pos s.n with h0 | h0
  · rw [h0, Nat.zero_mul] at ht; omega
  · exact h0
theorem sps_nd (ds : List Nat) (s : Sv) : (sps ds s).Pairwise Ne2 := by
  unfold sps
  rw [List.pairwise_map]
  exact List.Pairwise.imp (fun h => fun e => by have := e.2; simp at this; omega) List.pairwise_lt_range
theorem Fd.sp_mem {g o : Nat} {f : Fd} {x : Spot} (h : x ∈ f.sp g o) : (f.s = none ∧ x.1 = g ∧ x.2.1 = o + f.c) ∨ (∃ s, f.s = some s ∧ x ∈ sps f.ds s) := by
  unfold Fd.sp at h
  cases hs : f.s with
  | none => rw [hs] at h; simp at h; subst h; exact .inl ⟨rfl, rfl, rfl⟩
  | some s => rw [hs] at h; exact .inr ⟨s, rfl, h⟩
theorem Fd.sp_nd (g o : Nat) (f : Fd) : (f.sp g o).Pairwise Ne2 := by
  unfold Fd.sp
  cases f.s with
  | none => exact List.pairwise_singleton _ _
  | some s => exact sps_nd _ _
theorem ow_of {f : Fd} {s : Sv} {x : Spot} (hs : f.s = some s) (h : x ∈ sps f.ds s) : f.ow x.1 := ⟨s, hs, sps_pos h, (sps_mem h).1.symm⟩
/-- one row's places: none twice. -/
theorem pc_nd {g o : Nat} {fs : List Fd} (hg : ∀ f ∈ fs, ¬ f.ow g) (hp : fs.Pairwise fun f f' => (f.s = none → f'.s = none → f.c ≠ f'.c) ∧ ∀ x, f.ow x → ¬ f'.ow x) : (pc g o fs).Pairwise Ne2 := by
  unfold pc
  rw [List.pairwise_flatMap]
  refine ⟨fun f _ => f.sp_nd g o, List.Pairwise.imp_of_mem (fun {a b} ha hb hab x hx y hy e => ?_) hp⟩
  rcases Fd.sp_mem hx with ⟨h1, h2, h3⟩ | ⟨s, h1, h2⟩ <;> rcases Fd.sp_mem hy with ⟨k1, k2, k3⟩ | ⟨s', k1, k2⟩
  · exact hab.1 h1 k1 (by have := e.2; omega)
  · exact hg b hb (by have := ow_of k1 k2; rw [← e.1, h2] at this; exact this)
  · exact hg a ha (by have := ow_of h1 h2; rw [e.1, k2] at this; exact this)
  · exact hab.2 x.1 (ow_of h1 h2) (by have := ow_of k1 k2; rw [← e.1] at this; exact this)
theorem pc_mem {g o : Nat} {fs : List Fd} {x : Spot} (h : x ∈ pc g o fs) : ∃ f ∈ fs, x ∈ f.sp g o := by
  unfold pc at h
  exact List.mem_flatMap.1 h
/-- the places of a list of structs. -/
def tls (g off size : Nat) (F : Nat → List Fd) (len : Nat) : List Spot := (List.range len).flatMap fun j => pc g (off + j * size) (F j)
def tlN (g off size : Nat) (F : Nat → List Fd) (j : Nat) : Nat := (tls g off size F j).length
section
variable {g off size len : Nat} {F : Nat → List Fd}
theorem tls_succ : tls g off size F (len + 1) = tls g off size F len ++ pc g (off + len * size) (F len) := by
  unfold tls
  rw [List.range_succ, List.flatMap_append]
  simp
theorem tls_at : ∀ {len j r : Nat}, j < len → r < (pc g (off + j * size) (F j)).length → (tls g off size F len)[tlN g off size F j + r]? = (pc g (off + j * size) (F j))[r]?
  | 0, j, r, hj, _ => absurd hj (Nat.not_lt_zero _)
  | len + 1, j, r, hj, hr => by
    rw [tls_succ]
    by_cases h : j < len
    · have h1 := tls_at h hr
      have h2 : tlN g off size F j + r < (tls g off size F len).length := by
        rcases Nat.lt_or_ge (tlN g off size F j + r) (tls g off size F len).length with h2 | h2
        · exact h2
        · rw [List.getElem?_eq_none h2, List.getElem?_eq_getElem hr] at h1; cases h1
      rw [List.getElem?_append_left h2, h1]
    · obtain rfl : j = len := by omega
      unfold tlN
      rw [List.getElem?_append_right (by omega), Nat.add_sub_cancel_left]
theorem tlN_succ (j : Nat) : tlN g off size F (j + 1) = tlN g off size F j + (pc g (off + j * size) (F j)).length := by
  unfold tlN
  rw [tls_succ, List.length_append]
theorem tls_mem {x : Spot} (h : x ∈ tls g off size F len) : ∃ j, j < len ∧ x ∈ pc g (off + j * size) (F j) := by
  unfold tls at h
  obtain ⟨j, hj, hx⟩ := List.mem_flatMap.1 h
  exact ⟨j, List.mem_range.1 hj, hx⟩
/-- what is asked of the fields of each row. -/
structure FdOk (w : World) (g size len : Nat) (F : Nat → List Fd) : Prop where
  row : ∀ j, j < len → ∀ f ∈ F j, f.s = none → f.c < size
  off : ∀ j, j < len → ∀ f ∈ F j, ¬ f.ow g
  one : ∀ j, j < len → (F j).Pairwise fun f f' => (f.s = none → f'.s = none → f.c ≠ f'.c) ∧ ∀ x, f.ow x → ¬ f'.ow x
  two : ∀ i j, i < j → j < len → ∀ f ∈ F i, ∀ f' ∈ F j, ∀ x, f.ow x → ¬ f'.ow x
  lv : ∀ j, j < len → ∀ f ∈ F j, ∀ s, f.s = some s → LvS w s f.ds.length
theorem tls_nd {w : World} (h : FdOk w g size len F) : (tls g off size F len).Pairwise Ne2 := by
  unfold tls
  rw [List.pairwise_flatMap]
  refine ⟨fun j hj => pc_nd (h.off j (List.mem_range.1 hj)) (h.one j (List.mem_range.1 hj)), List.Pairwise.imp_of_mem (fun {a b} ha hb hab x hx y hy e => ?_) List.pairwise_lt_range⟩
  have ha := List.mem_range.1 ha
  have hb := List.mem_range.1 hb
  obtain ⟨f, hf, hx⟩ := pc_mem hx
  obtain ⟨f', hf', hy⟩ := pc_mem hy
  rcases Fd.sp_mem hx with ⟨h1, h2, h3⟩ | ⟨s, h1, h2⟩ <;> rcases Fd.sp_mem hy with ⟨k1, k2, k3⟩ | ⟨s', k1, k2⟩
  · have e1 := h.row a ha f hf h1
    have e2 : (a + 1) * size ≤ b * size := Nat.mul_le_mul_right _ hab
    rw [Nat.succ_mul] at e2
    have := e.2
    omega
  · exact h.off b hb f' hf' (by have := ow_of k1 k2; rw [← e.1, h2] at this; exact this)
  · exact h.off a ha f hf (by have := ow_of h1 h2; rw [e.1, k2] at this; exact this)
  · exact h.two a b hab hb f hf f' hf' x.1 (ow_of h1 h2) (by have := ow_of k1 k2; rw [← e.1] at this; exact this)
end
/-- a list of rows, cell by cell. -/
theorem rowCells {w : World} {T size B : Nat} {s : Sv} {rows : List (List Value)} (h : SlN w T size B s.v rows) (h0 : 0 < rows.length) : s.a = some ⟨svB s, svO s, none⟩ ∧ svB s < w.heap.size ∧ (∀ j r u, j < rows.length → ((rows[j]?).getD [])[r]? = some u → w.cell? ⟨svB s, svO s + j * size + r, none⟩ = some u) ∧ ∀ o, w.frozen? ⟨svB s, o, none⟩ = false := by
  obtain ⟨g, off, cap, hv, hb, hlt, hc, hf⟩ := h.1.read h0
  simp only [Sv.v, Value.slice.injEq] at hv
  have e1 : svB s = g := by simp [svB, hv.1]
  have e2 : svO s = off := by simp [svO, hv.1]
  rw [e1, e2]
  refine ⟨hv.1, hlt, fun j r u hj hu => ?_, hf⟩
  rw [List.getElem?_eq_getElem hj] at hu
  simp only [Option.getD_some] at hu
  have hr : r < size := by rw [← h.lens _ (List.getElem_mem hj)]; exact (List.getElem?_eq_some_iff.1 hu).1
  have h2 := flat_row h.lens hj
  rw [← h2, List.getElem?_take, if_pos hr, List.getElem?_drop] at hu
  have := hc (j * size + r) u hu
  rw [Nat.add_assoc]
  exact this
theorem tls_ok {w : World} {T size B : Nat} {s : Sv} {rows : List (List Value)} {F : Nat → List Fd} (h : SlN w T size B s.v rows) (hF : FdOk w (svB s) size rows.length F) : TLok w (tls (svB s) (svO s) size F rows.length) := by
  have key : ∀ x ∈ tls (svB s) (svO s) size F rows.length, x.1 < w.heap.size ∧ (∃ u, w.cell? ⟨x.1, x.2.1, none⟩ = some u) ∧ w.frozen? ⟨x.1, x.2.1, none⟩ = false := fun x hx => by
    obtain ⟨j, hj, hx⟩ := tls_mem hx
    obtain ⟨f, hf, hx⟩ := pc_mem hx
    rcases Fd.sp_mem hx with ⟨h1, h2, h3⟩ | ⟨s', h1, h2⟩
    · obtain ⟨_, k2, k3, k4⟩ := rowCells h (by omega)
      have hl : ((rows[j]?).getD []).length = size := by rw [List.getElem?_eq_getElem hj]; exact h.lens _ (List.getElem_mem hj)
      have hc := hF.row j hj f hf h1
      rw [h2, h3]
      exact ⟨k2, ⟨_, k3 j f.c _ hj (List.getElem?_eq_getElem (by rw [hl]; exact hc))⟩, k4 _⟩
    · obtain ⟨e1, t, ht, e2⟩ := sps_mem h2
      obtain ⟨_, k2, k3, k4⟩ := hF.lv j hj f hf s' h1 (sps_pos h2)
      rw [e1, e2]
      exact ⟨k2, k3 t ht, k4 _⟩
  exact ⟨tls_nd hF, fun x hx => (key x hx).1, fun x hx => (key x hx).2.1, fun x hx => (key x hx).2.2⟩
/-- in which blocks they lie. -/
theorem tls_in {g off size len : Nat} {F : Nat → List Fd} {x : Spot} (h : x ∈ tls g off size F len) : x.1 = g ∨ ∃ j, j < len ∧ ∃ f ∈ F j, f.ow x.1 := by
  obtain ⟨j, hj, hx⟩ := tls_mem h
  obtain ⟨f, hf, hx⟩ := pc_mem hx
  rcases Fd.sp_mem hx with ⟨h1, h2, h3⟩ | ⟨s', h1, h2⟩
  · exact .inl h2
  · exact .inr ⟨j, hj, f, hf, ow_of h1 h2⟩
/-- a cell of a row that is no place. -/
theorem tls_not {w : World} {g off size len : Nat} {F : Nat → List Fd} (h : FdOk w g size len F) {j c : Nat} (hj : j < len) (hc : c < size) (hn : ∀ i, i < len → ∀ f ∈ F i, f.s = none → f.c ≠ c) : ∀ x ∈ tls g off size F len, ¬ (x.1 = g ∧ x.2.1 = off + j * size + c) := fun x hx e => by
  obtain ⟨i, hi, hx⟩ := tls_mem hx
  obtain ⟨f, hf, hx⟩ := pc_mem hx
  rcases Fd.sp_mem hx with ⟨h1, h2, h3⟩ | ⟨s', h1, h2⟩
  · have e1 := h.row i hi f hf h1
    have e2 := hn i hi f hf h1
    have e3 := e.2
    rcases Nat.lt_trichotomy i j with hij | hij | hij
    · have e4 : (i + 1) * size ≤ j * size := Nat.mul_le_mul_right _ hij
      rw [Nat.succ_mul] at e4
      omega
    · subst hij; omega
    · have e4 : (j + 1) * size ≤ i * size := Nat.mul_le_mul_right _ hij
      rw [Nat.succ_mul] at e4
      omega
  · exact h.off i hi f hf (by have := ow_of h1 h2; rw [e.1] at this; exact this)
theorem seg_of {TL : List Spot} {n : Nat} {ds : List Nat} {s : Sv} (ha : 0 < s.n → s.a = some ⟨svB s, svO s, none⟩) (h : ∀ t, t < s.n * ds.length → TL[n + t]? = some (svB s, svO s + t, ds.getD (t % ds.length) 0)) : Seg TL n s.a s.n ds := fun i hi => by
  refine ⟨svB s, svO s, ha (by omega), fun r d hr => ?_⟩
  have hrl : r < ds.length := (List.getElem?_eq_some_iff.1 hr).1
  have hlt : i * ds.length + r < s.n * ds.length := by
    have : (i + 1) * ds.length ≤ s.n * ds.length := Nat.mul_le_mul_right _ hi
    rw [Nat.succ_mul] at this
    omega
  have e : (i * ds.length + r) % ds.length = r := by rw [Nat.mul_comm, Nat.mul_add_mod]; exact Nat.mod_eq_of_lt hrl
  have h1 := h (i * ds.length + r) hlt
  rw [e] at h1
  rw [Nat.add_assoc, h1]
  have e2 : ds.getD r 0 = d := by simp [List.getD, hr]
  rw [e2, Nat.add_assoc]
/-- a field's places within its row's. -/
theorem pc_at {g o : Nat} (A : List Fd) (f : Fd) (B : List Fd) {r : Nat} (hr : r < (f.sp g o).length) : (pc g o (A ++ f :: B))[(pc g o A).length + r]? = (f.sp g o)[r]? := by
  unfold pc
  rw [List.flatMap_append, List.flatMap_cons, List.getElem?_append_right (by omega), Nat.add_sub_cancel_left, List.getElem?_append_left hr]
theorem pc_len_lt {g o : Nat} (A : List Fd) (f : Fd) (B : List Fd) {r : Nat} (hr : r < (f.sp g o).length) : (pc g o A).length + r < (pc g o (A ++ f :: B)).length := by
  unfold pc
  rw [List.flatMap_append, List.flatMap_cons, List.length_append, List.length_append]
  omega
theorem OwnI.lv {w : World} {B : Nat} {s : Sv} {xs : List Int} (h : OwnI w B s.v xs) : LvS w s 1 := fun h0 => by
  have hn := h.slen
  obtain ⟨g, cap, e, _, hl, hc, hf⟩ := h.some (by omega)
  simp only [Sv.v, Value.slice.injEq] at e
  have e1 : svB s = g := by simp [svB, e.1]
  have e2 : svO s = 0 := by simp [svO, e.1]
  rw [e1, e2]
  exact ⟨e.1, hl, fun t ht => ⟨_, by rw [Nat.zero_add]; exact hc t (by omega)⟩, hf⟩
theorem ow_own {s : Sv} (h : 0 < s.n → s.a = some ⟨svB s, svO s, none⟩) (h0 : 0 < s.n) : s.v.ownBlock = some (svB s) := by
  have e := h h0
  obtain ⟨b, hb⟩ : ∃ b, b = svB s := ⟨_, rfl⟩
  rw [← hb] at e ⊢
  simp [Sv.v, Value.ownBlock, e]
end Go.Proofs.Ytmbjflhhffcjdaa


/- Lists of groups: marked, and looked at again. Written by gen_gs.py. -/
namespace Go.Proofs.Ytmbjflhhffcjdaa
open Go.RowKit Pl
set_option linter.unusedVariables false
set_option linter.unusedSimpArgs false

/-- where the places of one lie. -/
structure GnSeg (w : World) (TL : List Spot) (n g o : Nat) (u : Gn) : Prop where
  gl : g < w.heap.size
  p0 : TL[n]? = some (g, o, 2)
  h1 : w.cell? ⟨g, o + 1, none⟩ = some (.slice u.s.a u.s.n u.s.c)
  q1 : ∀ s ∈ TL, ¬ (s.1 = g ∧ s.2.1 = o + 1)
  s1 : Seg TL (n + 1) u.s.a u.s.n [2]
def GnSeg.len (u : Gn) : Nat := 1 + u.s.n
theorem GnSeg.marked {w0 ws w : World} {TL : List Spot} {n g o K m : Nat} {u : Gn} (h : GnSeg w0 TL n g o u) (k : MkI w0 ws TL K m w) : GnSeg w TL n g o u :=
  { h with gl := by have := h.gl; have := k.size; omega, h1 := k.cell h.gl h.q1 h.h1 }
theorem GnSeg.later {w w' : World} {TL : List Spot} {n g o : Nat} {u : Gn} (h : GnSeg w TL n g o u) (b : Below w.heap.size w w') : GnSeg w' TL n g o u :=
  { h with gl := by have := h.gl; have := b.size; omega, h1 := (cell_block (b.block _ h.gl)).trans h.h1 }
/-- .. and of a list of them. -/
structure GnSegL (w : World) (TL : List Spot) (ao : Option Addr) (len : Nat) (us : Nat → Gn) (N : Nat → Nat) : Prop where
  one : ∀ j, j < len → ∃ g off, ao = some ⟨g, off, none⟩ ∧ GnSeg w TL (N j) g (off + j * 2) (us j)
  nx : ∀ j, j < len → N (j + 1) = N j + GnSeg.len (us j)
theorem GnSegL.marked {w0 ws w : World} {TL : List Spot} {ao : Option Addr} {len K m : Nat} {us : Nat → Gn} {N : Nat → Nat} (h : GnSegL w0 TL ao len us N) (k : MkI w0 ws TL K m w) : GnSegL w TL ao len us N := ⟨fun j hj => by obtain ⟨g, off, e, x⟩ := h.one j hj; exact ⟨g, off, e, x.marked k⟩, h.nx⟩
theorem GnSegL.later {w w' : World} {TL : List Spot} {ao : Option Addr} {len : Nat} {us : Nat → Gn} {N : Nat → Nat} (h : GnSegL w TL ao len us N) (b : Below w.heap.size w w') : GnSegL w' TL ao len us N := ⟨fun j hj => by obtain ⟨g, off, e, x⟩ := h.one j hj; exact ⟨g, off, e, x.later b⟩, h.nx⟩
theorem GnSegL.le {w : World} {TL : List Spot} {ao : Option Addr} {len : Nat} {us : Nat → Gn} {N : Nat → Nat} (h : GnSegL w TL ao len us N) : ∀ (d j : Nat), j + d = len → N j ≤ N len
  | 0, j, e => by rw [show j = len by omega]; exact Nat.le_refl _
  | d + 1, j, e => by
    have h1 := h.nx j (by omega)
    have h2 := h.le d (j + 1) (by omega)
    omega
set_option maxRecDepth 100000 in
set_option maxHeartbeats 16000000 in
theorem markgroups_sp (w0 : World) (TL : List Spot) (K : Nat) (ao : Option Addr) (len cap : Nat) (us : Nat → Gn) (N : Nat → Nat) (z : Int) (w : World) (hT : Hid (TLok w0 TL)) (hI : Hid (MkI w0 w TL K (N 0) w)) (hs : Hid (GnSegL w0 TL ao len us N)) (hz : Hid (z = ((K + N 0 : Nat) : Int))) (hl : K + N len ≤ 39999990) (hll : len ≤ 39999990) (hK : 0 < K) :
    Calls Try.prog 17 #[.slice ao len cap, .int .i64 z] w fun e w' => ∃ M : Nat, e = .returned (.int .i64 (M : Int)) ∧ M = K + N len ∧ MkI w0 w TL K (N len) w' := by
  obtain ⟨M0, hM0⟩ : ∃ M : Nat, M = K + N 0 := ⟨_, rfl⟩
  have e0 : z = (M0 : Int) := by have := hz.out; omega
  subst e0
  have HM0 : Hid (M0 = K + N 0) := hM0
  clear hM0 hz
  go_enter Try.func17, Try.ntmps17
  go_wp2_with fail
  go_loopw [1, 5] (fun kk i wr => ∃ (j : Nat), j ≤ len ∧ i = .int .i64 (j : Int) ∧ kk = .int .i64 ((K + N j : Nat) : Int) ∧ Hid (MkI w0 w TL K (N j) wr)) (fun _ i _ => len - (intOf i).toNat)
  case atStart => exact ⟨0, by omega, rfl, by have := HM0.out; congr 1; omega, hI⟩
  case round =>
    obtain ⟨j, hj, rfl, rfl, HI⟩ := hrel
    obtain ⟨M, hM⟩ : ∃ M : Nat, M = K + N j := ⟨_, rfl⟩
    rw [← hM]
    have HM : Hid (M = K + N j) := hM
    clear hM
    by_cases hlt : j < len
    · obtain ⟨g, off, rfl, sg⟩ := hs.out.one j hlt
      have HNX : Hid _ := hs.out.nx j hlt
      have hle := hs.out.le (len - (j + 1)) (j + 1) (by omega)
      obtain ⟨u, hu⟩ : ∃ u, us j = u := ⟨_, rfl⟩
      rw [hu] at sg HNX
      have hle2 : N j + (1 + u.s.n) ≤ N len := by have := HNX.out; unfold GnSeg.len at this; omega
      obtain ⟨n, hn⟩ : ∃ n, n = N j := ⟨_, rfl⟩
      rw [← hn] at sg HM HNX hle2 HI
      have HN : Hid (n = N j) := hn
      obtain ⟨o, ho⟩ : ∃ o, o = off + j * 2 := ⟨_, rfl⟩
      rw [← ho] at sg
      have HO : Hid (o = off + j * 2) := ho
      have SG : Hid (GnSeg w0 TL n g o u) := sg
      clear sg hu hn ho hle
      have hMl : M ≤ 39999990 := by have := HM.out; omega
      have i0 : (0 : Int) ≤ (j : Int) := by omega
      have i1 : (j : Int) < (len : Int) := by omega
      go_wp2_with fail
      refine (mark_at ((M : Int)) wr (by have := HM.out; omega) (by omega)).mono ?_
      rintro e w1 ⟨rfl, b⟩
      have HI : Hid (MkI w0 w TL K (n) w1) := HI.out.later hT.out b
      clear b
      have sp : TL[n]? = some (g, off + j * 2, 2) := by have h := SG.out.p0; rw [HO.out] at h; exact h
      have SP : Hid _ := sp
      clear sp
      go_wp2_with (first | (refine wpList_haltS 9 _ _ rfl ?_))
      refine Stp.go ?_
      refine wpList_stK rfl 9 _ _ rfl rfl _ rfl Try.sizeK9 hT.out HI.out SP.out (by show Value.string _ = _; rw [vk2]; congr 2 <;> (have := HM.out; omega)) ?_
      intro x1 hi
      have HI : Hid (MkI w0 w TL K (n + 1) x1) := hi
      clear hi SP
      have hc : x1.cell? ⟨g, off + j * 2 + 1, none⟩ = some (.slice u.s.a u.s.n u.s.c) := by have h := HI.out.cell SG.out.gl SG.out.q1 SG.out.h1; rw [HO.out] at h; exact h
      go_wp2_with fail
      clear hc
      refine (markSt_z w0 TL K (n + 1) u.s.a u.s.n u.s.c ((M : Int) + 1) _ hT HI.out.anchor SG.out.s1 (by have := HM.out; omega) (by omega) hK).mono ?_
      rintro e w2 ⟨M2, rfl, hm, hi⟩
      have HM : Hid (M2 = K + (n + 1 + u.s.n)) := hm
      have HI : Hid (MkI w0 w TL K (n + 1 + u.s.n) w2) := HI.out.back hi
      have hMl : M2 ≤ 39999990 := by omega
      clear hm hi
      go_wp2_with fail
      go_roundw
      case rel =>
        have e : K + N (j + 1) = K + (n + (1 + u.s.n)) := by have h1 := HNX.out; unfold GnSeg.len at h1; omega
        refine ⟨j + 1, by omega, by go_num, by have := HM.out; congr 1; omega, ?_⟩
        have h := HI.out
        rw [show N (j + 1) = n + 1 + u.s.n by omega]
        exact h
      case measure => simp [intOf]; omega
    · obtain rfl : j = len := by omega
      go_wp2_with fail
      go_ret
      exact ⟨M, rfl, HM.out, HI.out⟩
end Go.Proofs.Ytmbjflhhffcjdaa


/- Lists of groups: marked, and looked at again. Written by gen_gn.py. -/
namespace Go.Proofs.Ytmbjflhhffcjdaa
open Go.RowKit Pl
set_option linter.unusedVariables false
set_option linter.unusedSimpArgs false

theorem OwnS.lv {w : World} {B : Nat} {s : Sv} {xs : List ByteArray} (h : OwnS w B s.v xs) : LvS w s 1 := fun h0 => by
  have hn : s.n = xs.length := RT.len (OwnS.texts h)
  obtain ⟨g, cap, e, _, hl, hc, hf⟩ := OwnS.some h (by omega)
  simp only [Sv.v, Value.slice.injEq] at e
  have e1 : svB s = g := by simp [svB, e.1]
  have e2 : svO s = 0 := by simp [svO, e.1]
  rw [e1, e2]
  exact ⟨e.1, hl, fun t ht => ⟨_, by rw [Nat.zero_add]; exact hc t (by omega)⟩, hf⟩
theorem OwnS.slen {w : World} {B : Nat} {s : Sv} {xs : List ByteArray} (h : OwnS w B s.v xs) : s.n = xs.length := RT.len (OwnS.texts h)
def GnsOwn (s : Sv) (bs : List Gn) (y : Nat) : Prop := s.v.ownBlock = some y ∨ ∃ b ∈ bs, b.own y
structure GnsA (s : Sv) (bs : List Gn) : Prop where
  row : ∀ y, s.v.ownBlock = some y → ∀ b ∈ bs, ¬ b.own y
  two : bs.Pairwise fun a b => ∀ x, a.own x → ¬ b.own x
theorem GnsO.olt {w : World} {B : Nat} {s : Sv} {bs : List Gn} (h : GnsO w B s bs) {y : Nat} (hy : GnsOwn s bs y) : B ≤ y ∧ y < w.heap.size := by
  rcases hy with hy | ⟨b, hb, hy⟩
  · exact h.1.lt y hy
  · exact (h.2 b hb).lt y hy
theorem GnsUp.a {s : Sv} {bs : List Gn} (h : GnsUp bs) (hr : ∀ b, s.v.ownBlock = some b → ∀ e ∈ bs, ∀ x, e.own x → b < x) : GnsA s bs :=
  ⟨fun y hy b hb hx => by have := hr y hy b hb y hx; omega, h.2.imp fun h x hx hy => by have := h x x hx hy; omega⟩
def zGn : Gn := ⟨⟨#[]⟩, [], zSv⟩
def fdGn (u : Gn) : List Fd := [⟨0, 2, none, []⟩, ⟨1, 0, some u.s, [2]⟩]
def atGn (es : List Gn) (j : Nat) : Gn := (es[j]?).getD zGn
theorem atGn_is {es : List Gn} {j : Nat} (h : j < es.length) : atGn es j = es[j] := by simp [atGn, h]
theorem Gn.lvs {w : World} {B : Nat} {e : Gn} (h : e.O w B) : LvS w e.s 1 := OwnS.lv h
theorem Gn.ow {w : World} {B : Nat} {e : Gn} (h : e.O w B) {f : Fd} (hf : f ∈ fdGn e) {x : Nat} (hx : f.ow x) : e.own x := by
  obtain ⟨s, h1, h2, h3⟩ := hx
  simp only [fdGn, List.mem_cons, List.not_mem_nil, or_false] at hf
  have lv := Gn.lvs h
  rcases hf with rfl | rfl
  · cases h1
  · simp only [Option.some.injEq] at h1
    subst h1
    rw [← h3]
    exact ow_own (fun h0 => (lv h0).1) h2
theorem fdGn_ok {w : World} {B : Nat} {s : Sv} {es : List Gn} (h : GnsO w B s es) (a : GnsA s es) : FdOk w (svB s) 2 es.length (fun j => fdGn (atGn es j)) := by
  refine ⟨fun j hj f hf hs => ?_, fun j hj f hf hx => ?_, fun j hj => ?_, fun i j hij hj f hf f' hf' x hx hy => ?_, fun j hj f hf s' hs => ?_⟩
  · simp only [fdGn, List.mem_cons, List.not_mem_nil, or_false] at hf
    rcases hf with rfl | rfl <;> first | (simp; done) | cases hs
  · have ho := h.2 _ (List.getElem_mem hj)
    try dsimp only at hf
    rw [atGn_is hj] at hf
    obtain ⟨ha, _⟩ := rowCells h.1 (by simpa using (by omega : 0 < es.length))
    exact a.row (svB s) (by simp [Sv.v, Value.ownBlock, ha]) _ (List.getElem_mem hj) (Gn.ow ho hf hx)
  · try dsimp only
    rw [atGn_is hj]
    have lv := Gn.lvs (h.2 _ (List.getElem_mem hj))
    obtain ⟨u, hu⟩ : ∃ u, u = es[j] := ⟨_, rfl⟩
    have hm : u ∈ es := by rw [hu]; exact List.getElem_mem hj
    rw [← hu] at lv ⊢
    simp only [fdGn, List.pairwise_cons, List.mem_cons, List.not_mem_nil, or_false, forall_eq_or_imp, forall_eq, List.Pairwise.nil, and_true, Fd.ow]
    simp
  · have ho := h.2 _ (List.getElem_mem hj)
    have hi : i < es.length := by omega
    have hoi := h.2 _ (List.getElem_mem hi)
    try dsimp only at hf hf'
    rw [atGn_is hi] at hf
    rw [atGn_is hj] at hf'
    exact List.pairwise_iff_getElem.1 a.two i j hi hj hij x (Gn.ow hoi hf hx) (Gn.ow ho hf' hy)
  · have lv := Gn.lvs (h.2 _ (List.getElem_mem hj))
    try dsimp only at hf
    rw [atGn_is hj] at hf
    simp only [fdGn, List.mem_cons, List.not_mem_nil, or_false] at hf
    rcases hf with rfl | rfl
    · cases hs
    · simp only [Option.some.injEq] at hs
      subst hs
      exact lv
theorem pcGn_len (g o : Nat) (u : Gn) : (pc g o (fdGn u)).length = GnSeg.len u := by
  simp [pc, fdGn, Fd.sp, sps_len, GnSeg.len]
  omega
theorem segGn {w : World} {B : Nat} {s : Sv} {es : List Gn} (h : GnsO w B s es) (a : GnsA s es) : GnSegL w (tls (svB s) (svO s) 2 (fun j => fdGn (atGn es j)) es.length) s.a s.n (atGn es) (tlN (svB s) (svO s) 2 (fun j => fdGn (atGn es j))) := by
  have hF := fdGn_ok h a
  have hn : s.n = es.length := by have := h.1.slen; simpa using this
  rw [hn]
  refine ⟨fun j hj => ?_, fun j hj => ?_⟩
  · obtain ⟨ha, hlt, hc, hfz⟩ := rowCells h.1 (by simpa using (by omega : 0 < es.length))
    have ho := h.2 _ (List.getElem_mem hj)
    have lv := Gn.lvs ho
    refine ⟨svB s, svO s, ha, ?_⟩
    have hat : ∀ r, r < (pc (svB s) (svO s + j * 2) (fdGn (atGn es j))).length → (tls (svB s) (svO s) 2 (fun j => fdGn (atGn es j)) es.length)[tlN (svB s) (svO s) 2 (fun j => fdGn (atGn es j)) j + r]? = (pc (svB s) (svO s + j * 2) (fdGn (atGn es j)))[r]? := fun r hr => tls_at (F := fun j => fdGn (atGn es j)) hj hr
    have hrow : ∀ r u, (es[j].row)[r]? = some u → w.cell? ⟨svB s, svO s + j * 2 + r, none⟩ = some u := fun r u hu => hc j r u (by simpa using hj) (by simpa [hj] using hu)
    have hnot : ∀ c, c < 2 → (∀ i, i < es.length → ∀ f ∈ fdGn (atGn es i), f.s = none → f.c ≠ c) → ∀ x ∈ tls (svB s) (svO s) 2 (fun j => fdGn (atGn es j)) es.length, ¬ (x.1 = svB s ∧ x.2.1 = svO s + j * 2 + c) := fun c hc1 hc2 => tls_not hF hj hc1 hc2
    rw [atGn_is hj] at hat ⊢
    obtain ⟨u, hu⟩ : ∃ u, u = es[j] := ⟨_, rfl⟩
    rw [← hu] at hat hrow lv ⊢
    generalize tlN (svB s) (svO s) 2 (fun j => fdGn (atGn es j)) j = n at *
    generalize tls (svB s) (svO s) 2 (fun j => fdGn (atGn es j)) es.length = TL at *
    generalize svO s + j * 2 = o at *
    generalize svB s = g at *
    have fat : ∀ (A : List Fd) (f : Fd) (C : List Fd) (r : Nat), fdGn u = A ++ f :: C → r < (f.sp g o).length → TL[n + ((pc g o A).length + r)]? = (f.sp g o)[r]? := fun A f C r e hr => by
      rw [hat _ (by rw [e]; exact pc_len_lt A f C hr), e]
      exact pc_at A f C hr
    exact { gl := hlt, p0 := by have h := fat [] ⟨0, 2, none, []⟩ [⟨1, 0, some u.s, [2]⟩] 0 rfl (by simp [Fd.sp]); simp [pc, Fd.sp, sps_len] at h; first | exact h | (rw [← h]; congr 1; omega), h1 := hrow 1 _ rfl, q1 := hnot 1 (by omega) (fun i hi f hf hs => by simp only [fdGn, List.mem_cons, List.not_mem_nil, or_false] at hf; rcases hf with rfl | rfl <;> first | (simp; done) | cases hs), s1 := seg_of (fun h0 => (lv h0).1) (fun t ht => by have h := fat [⟨0, 2, none, []⟩] ⟨1, 0, some u.s, [2]⟩ [] t rfl (by simpa [Fd.sp, sps_len] using ht); have h2 := sps_at (ds := [2]) (s := u.s) ht; refine (congrArg (fun i => TL[i]?) (?_ : _ = n + ((pc g o [⟨0, 2, none, []⟩]).length + t))).trans (h.trans h2); simp [pc, Fd.sp, sps_len]; try omega) }
  · rw [tlN_succ, pcGn_len]
/-- a list that is marked from K up to M. -/
def HeldGn (w : World) (s : Sv) (es : List Gn) (K M : Nat) : Prop := ∃ (TL : List Spot) (us : Nat → Gn) (N : Nat → Nat), Held w TL K ∧ GnSegL w TL s.a s.n us N ∧ N 0 = 0 ∧ M = K + N s.n ∧ s.n ≤ 1048576 ∧ (∀ x ∈ TL, GnsOwn s es x.1)
theorem HeldGn.keep {w w' : World} {s : Sv} {es : List Gn} {K M : Nat} (h : HeldGn w s es K M) (hz : w.heap.size ≤ w'.heap.size) (hk : ∀ b, GnsOwn s es b → b < w.heap.size → w'.heap[b]? = w.heap[b]?) : HeldGn w' s es K M := by
  obtain ⟨TL, us, N, h1, h2, h3, h4, h6, h5⟩ := h
  refine ⟨TL, us, N, fun i x hx => ?_, ⟨fun j hj => ?_, h2.nx⟩, h3, h4, h6, h5⟩
  · obtain ⟨k1, k2⟩ := h1 i x hx
    exact ⟨by omega, (cell_block (hk x.1 (h5 x (List.mem_of_getElem? hx)) k1)).trans k2⟩
  · obtain ⟨g, off, e, x⟩ := h2.one j hj
    have hb := hk g (.inl (by simp [Sv.v, Value.ownBlock, e])) x.gl
    exact ⟨g, off, e, { x with gl := by have := x.gl; omega, h1 := (cell_block hb).trans x.h1 }⟩
theorem HeldGn.later {w w' : World} {s : Sv} {es : List Gn} {K M : Nat} (h : HeldGn w s es K M) (b : Below w.heap.size w w') : HeldGn w' s es K M := h.keep b.size fun k _ hk => b.block k hk
theorem tlN_Gn {w : World} {B : Nat} {s : Sv} {es : List Gn} (h : GnsO w B s es) : ∀ k, k ≤ es.length → tlN (svB s) (svO s) 2 (fun j => fdGn (atGn es j)) k ≤ 1 * k + 1 * Gns.tot (es.take k)
  | 0, _ => by simp [tlN, tls]
  | k + 1, hk => by
    have ih := tlN_Gn h k (by omega)
    have ho := h.2 _ (List.getElem_mem (show k < es.length by omega))
    rw [tlN_succ, pcGn_len, Gns.tot_take es k (by omega), atGn_is (by omega)]
    have := OwnS.slen ho
    unfold GnSeg.len Gn.sz totS
    omega
theorem markGns_o (s : Sv) (es : List Gn) (B K : Nat) (w : World) (h : Hid (GnsO w B s es)) (a : Hid (GnsA s es)) (hK : 0 < K) (hn : es.length ≤ 1048576) (hl : K + (1 * es.length + 1 * Gns.tot es) ≤ 39999990) :
    Calls Try.prog 17 #[.slice s.a s.n s.c, .int .i64 K] w fun e w' => ∃ M : Nat, e = .returned (.int .i64 (M : Int)) ∧ K ≤ M ∧ M ≤ K + (1 * es.length + 1 * Gns.tot es) ∧ HeldGn w' s es K M ∧ Gr (GnsOwn s es) w w' := by
  have hN := h.out.1.slen
  rw [List.length_map] at hN
  have tok := tls_ok (F := fun j => fdGn (atGn es j)) h.out.1 (by simpa using fdGn_ok h.out a.out)
  rw [List.length_map] at tok
  have sg := segGn h.out a.out
  have hb := tlN_Gn h.out es.length (Nat.le_refl _)
  rw [List.take_of_length_le (Nat.le_refl _)] at hb
  have hle : K + tlN (svB s) (svO s) 2 (fun j => fdGn (atGn es j)) s.n ≤ 39999990 := by rw [hN]; omega
  have hin : ∀ x ∈ tls (svB s) (svO s) 2 (fun j => fdGn (atGn es j)) es.length, GnsOwn s es x.1 := fun x hx => by
    rcases tls_in hx with h1 | ⟨j, hj, f, hf, h1⟩
    · obtain ⟨j, hj, _⟩ := tls_mem hx
      obtain ⟨ha, _⟩ := rowCells h.out.1 (by simpa using (by omega : 0 < es.length))
      rw [h1]
      exact .inl (by simp [Sv.v, Value.ownBlock, ha])
    · rw [atGn_is hj] at hf
      exact .inr ⟨_, List.getElem_mem hj, Gn.ow (h.out.2 _ (List.getElem_mem hj)) hf h1⟩
  have hz0 : tlN (svB s) (svO s) 2 (fun j => fdGn (atGn es j)) 0 = 0 := by simp [tlN, tls]
  have mst : MkI w w (tls (svB s) (svO s) 2 (fun j => fdGn (atGn es j)) es.length) K (tlN (svB s) (svO s) 2 (fun j => fdGn (atGn es j)) 0) w := by rw [hz0]; exact MkI.start w _ K
  refine (markgroups_sp w _ K s.a s.n s.c (atGn es) (tlN (svB s) (svO s) 2 (fun j => fdGn (atGn es j))) (K : Int) w tok mst sg (by rw [hz0]; rfl : (K : Int) = ((K + tlN (svB s) (svO s) 2 (fun j => fdGn (atGn es j)) 0 : Nat) : Int)) hle (by rw [hN]; omega) hK).mono ?_
  rintro e w' ⟨M, rfl, hM, mk⟩
  have hTL : tlN (svB s) (svO s) 2 (fun j => fdGn (atGn es j)) s.n = (tls (svB s) (svO s) 2 (fun j => fdGn (atGn es j)) es.length).length := by rw [hN]; rfl
  have b0 := mk.below 0 (fun _ _ => Nat.zero_le _) (Nat.zero_le _)
  refine ⟨M, rfl, by omega, by rw [hM, hN]; omega, ⟨_, _, _, (show Held w' _ K from (by rw [hTL] at mk; exact mk.held tok)), sg.marked mk, by simp [tlN, tls], hM, by rw [hN]; omega, hin⟩, ⟨b0.os, b0.tape, b0.output, mk.size, fun b hb hn => mk.blk b hb (fun x hx e => hn (e ▸ hin x hx))⟩⟩
end Go.Proofs.Ytmbjflhhffcjdaa


/- Tables measured, copied, held against each other, marked. Written by gen_tbw.py. -/
namespace Go.Proofs.Ytmbjflhhffcjdaa
open Go.RowKit Pl
set_option linter.unusedVariables false
set_option linter.unusedSimpArgs false

set_option maxRecDepth 100000 in
set_option maxHeartbeats 2000000 in
theorem szTable_any (s : Sv) (es : List Gn) (left : Nat) (w : World) (hx : Hid (GnsR w s es)) (hleft : left ≤ 1048576) (hl : es.length ≤ 9223372036854775807) (hs : Hid (∀ e ∈ es, e.L)) :
    Calls Try.prog 4 #[.agg #[.slice s.a s.n s.c], .int .i64 left] w fun x w' => (x = .returned (.int .i64 (-1)) ∨ ∃ z : Nat, x = .returned (.int .i64 z) ∧ Hid (z + (es.length + Gns.tot es) ≤ left)) ∧ Below w.heap.size w w' := by
  have LA : Hid (Bx (w.alloc (.cells #[.slice s.a s.n s.c] 24)) w.heap.size 24 [.slice s.a s.n s.c]) := by
    have h := Bx.new w 24 [.slice s.a s.n s.c]
    exact h
  have BW : Hid (Below w.heap.size w (w.alloc (.cells #[.slice s.a s.n s.c] 24))) := ((Below.refl _ _).alloc (by simp) _)
  have c0 := LA.out.cell 0
  simp only [List.getElem?_cons_zero] at c0
  go_enter Try.func4, Try.ntmps4
  go_wp2_with fail
  clear c0
  refine (szGroups_any s es left _ (show Hid (GnsR _ s es) from hx.out.stays BW.out) hleft hl hs).mono ?_
  rintro x w1 ⟨rfl | ⟨z, rfl, hz⟩, b⟩
  · go_wp2_with fail
    go_ret
    exact ⟨.inl rfl, bl_next BW.out b⟩
  have hd : decide ((z : Int) < 0) = false := by simp
  have HZ : Hid (z + (es.length + Gns.tot es) ≤ left) := hz
  clear hz
  go_wp2_with fail
  go_ret
  exact ⟨.inr ⟨z, rfl, HZ⟩, bl_next BW.out b⟩
set_option maxRecDepth 100000 in
set_option maxHeartbeats 4000000 in
theorem toTable_any (s : Sv) (es : List Gn) (w : World) (hx : Hid (GnsR w s es)) (hl : es.length ≤ 1048576) (hs : Hid (∀ e ∈ es, e.S)) :
    Calls Try.prog 6 #[.agg #[.slice s.a s.n s.c]] w fun x w' => ∃ (u : Sv) (cs : List Gn), x = .returned (.agg #[.slice u.a u.n u.c]) ∧ cs.map Gn.pl = es.map Gn.pl ∧ GnsO w' w.heap.size u cs ∧ GnsA u cs ∧ Below w.heap.size w w' := by
  have hn1 : (w.alloc (.cells #[.slice s.a s.n s.c] 24)).heap.size = w.heap.size + 1 := by simp
  have hn2 : ((w.alloc (.cells #[.slice s.a s.n s.c] 24)).alloc (.cells #[.slice none 0 0] 30)).heap.size = w.heap.size + 2 := by simp
  have LA : Hid (Bx (((w.alloc (.cells #[.slice s.a s.n s.c] 24)).alloc (.cells #[.slice none 0 0] 30)).alloc (.cells #[.slice none 0 0] 30)) w.heap.size 24 [.slice s.a s.n s.c]) := by
    have h := Bx.new w 24 [.slice s.a s.n s.c]
    exact ((h).later ((Below.refl _ _).alloc (Nat.le_refl _) _)).later ((Below.refl _ _).alloc (Nat.le_refl _) _)
  have EB : Hid (Bx (((w.alloc (.cells #[.slice s.a s.n s.c] 24)).alloc (.cells #[.slice none 0 0] 30)).alloc (.cells #[.slice none 0 0] 30)) (w.heap.size + 1) 30 [.slice none 0 0]) := by
    have h := Bx.new (w.alloc (.cells #[.slice s.a s.n s.c] 24)) 30 [.slice none 0 0]
    rw [hn1] at h
    exact (h).later ((Below.refl _ _).alloc (Nat.le_refl _) _)
  have VB : Hid (Bx (((w.alloc (.cells #[.slice s.a s.n s.c] 24)).alloc (.cells #[.slice none 0 0] 30)).alloc (.cells #[.slice none 0 0] 30)) (w.heap.size + 2) 30 [.slice none 0 0]) := by
    have h := Bx.new ((w.alloc (.cells #[.slice s.a s.n s.c] 24)).alloc (.cells #[.slice none 0 0] 30)) 30 [.slice none 0 0]
    rw [hn2] at h
    exact h
  have BW : Hid (Below w.heap.size w (((w.alloc (.cells #[.slice s.a s.n s.c] 24)).alloc (.cells #[.slice none 0 0] 30)).alloc (.cells #[.slice none 0 0] 30))) := ((((Below.refl _ _).alloc (by simp) _).alloc (by simp; try omega) _).alloc (by simp; try omega) _)
  clear hn1 hn2
  have c0 := LA.out.cell 0
  simp only [List.getElem?_cons_zero] at c0
  go_enter Try.func6, Try.ntmps6
  go_wp2_with fail
  clear c0
  generalize (((w.alloc (.cells #[.slice s.a s.n s.c] 24)).alloc (.cells #[.slice none 0 0] 30)).alloc (.cells #[.slice none 0 0] 30)) = W at *
  refine (toGroups_any s es W (show Hid (GnsR W s es) from hx.out.stays BW.out) hl hs).mono ?_
  rintro x w1 ⟨u, cs, rfl, hpl, ho, hup, hrow, b⟩
  have zW : w.heap.size + 2 < W.heap.size := VB.out.lt
  have PL : Hid (cs.map Gn.pl = es.map Gn.pl) := hpl
  have CO : Hid (GnsO w1 W.heap.size u cs) := ho
  have CA : Hid (GnsA u cs) := GnsUp.a hup fun b hb => (hrow b hb).2
  have VB : Hid (Bx w1 (w.heap.size + 2) 30 [.slice none 0 0]) := VB.out.later b
  have EB : Hid (Bx w1 (w.heap.size + 1) 30 [.slice none 0 0]) := EB.out.later b
  have BW : Hid (Below w.heap.size w w1) := bl_next BW.out b
  clear hpl ho hup hrow b
  go_wp2_with (first | (with_reducible refine wpList_haltS 28 _ _ rfl ?_))
  refine Stp.go ?_
  refine wpList_st1 rfl 28 _ _ rfl (w.heap.size + 2) 0 rfl 30 _ VB.out (.slice u.a u.n u.c) rfl (by simp) rfl Try.sizeGs [.slice u.a u.n u.c] rfl ?_
  intro w2 OB TB
  have z_w2 : w1.heap.size ≤ w2.heap.size := Nat.le_of_eq TB.size.symm
  have EB : Hid (Bx w2 (w.heap.size + 1) 30 [.slice none 0 0]) := EB.out.turn TB (by omega)
  have BW : Hid (Below w.heap.size w w2) := BW.out.trans (TB.below (by omega))
  have CO : Hid (GnsO w2 W.heap.size u cs) := GnsO.keep CO.out fun b hb _ => (TB).block b (by omega)
  have VB : Hid (Bx w2 (w.heap.size + 2) 30 [.slice u.a u.n u.c]) := OB
  clear OB TB
  go_wp2_with (first | (refine wpList_ldG rfl 30 _ rfl (w.heap.size + 2) 0 rfl 30 _ VB.out [.slice u.a u.n u.c] rfl _ Try.underlying30 rfl Try.sizeTb ?_) | (with_reducible refine wpList_haltS 30 _ _ rfl ?_))
  refine Stp.go ?_
  refine wpList_stB rfl 30 _ _ rfl (w.heap.size + 1) 0 rfl 30 _ EB.out [.slice u.a u.n u.c] rfl (by simp) Try.sizeTb rfl [.slice u.a u.n u.c] rfl ?_
  intro w3 OB TB
  have z_w3 : w2.heap.size ≤ w3.heap.size := Nat.le_of_eq TB.size.symm
  have VB : Hid (Bx w3 (w.heap.size + 2) 30 [.slice u.a u.n u.c]) := VB.out.turn TB (by omega)
  have BW : Hid (Below w.heap.size w w3) := BW.out.trans (TB.below (by omega))
  have CO : Hid (GnsO w3 W.heap.size u cs) := GnsO.keep CO.out fun b hb _ => (TB).block b (by omega)
  have EB : Hid (Bx w3 (w.heap.size + 1) 30 [.slice u.a u.n u.c]) := OB
  clear OB TB
  go_wp2_with fail
  refine bodyPost_ret (results_b Try.results6 (w.heap.size + 1) 30 [.slice u.a u.n u.c] _ rfl EB.out Try.underlying30 rfl Try.sizeTb) rfl ?_
  exact ⟨u, cs, rfl, PL.out, CO.out.down (by omega), CA.out, BW.out⟩
set_option maxRecDepth 100000 in
set_option maxHeartbeats 2000000 in
theorem eqTable_any (s1 s2 : Sv) (es fs : List Gn) (B1 B2 : Nat) (w : World) (h1 : Hid (GnsO w B1 s1 es)) (h2 : Hid (GnsO w B2 s2 fs)) (hpl : Hid (es.map Gn.pl = fs.map Gn.pl)) (hl : es.length ≤ 1048576) (hs : Hid (∀ e ∈ es, e.S)) :
    Calls Try.prog 9 #[.agg #[.slice s1.a s1.n s1.c], .agg #[.slice s2.a s2.n s2.c]] w fun x w' => x = .returned (.bool true) ∧ Below w.heap.size w w' := by
  have hn1 : (w.alloc (.cells #[.slice s1.a s1.n s1.c] 30)).heap.size = w.heap.size + 1 := by simp
  have LA : Hid (Bx ((w.alloc (.cells #[.slice s1.a s1.n s1.c] 30)).alloc (.cells #[.slice s2.a s2.n s2.c] 30)) w.heap.size 30 [.slice s1.a s1.n s1.c]) := by
    have h := Bx.new w 30 [.slice s1.a s1.n s1.c]
    exact (h).later ((Below.refl _ _).alloc (Nat.le_refl _) _)
  have LB : Hid (Bx ((w.alloc (.cells #[.slice s1.a s1.n s1.c] 30)).alloc (.cells #[.slice s2.a s2.n s2.c] 30)) (w.heap.size + 1) 30 [.slice s2.a s2.n s2.c]) := by
    have h := Bx.new (w.alloc (.cells #[.slice s1.a s1.n s1.c] 30)) 30 [.slice s2.a s2.n s2.c]
    rw [hn1] at h
    exact h
  have BW : Hid (Below w.heap.size w ((w.alloc (.cells #[.slice s1.a s1.n s1.c] 30)).alloc (.cells #[.slice s2.a s2.n s2.c] 30))) := (((Below.refl _ _).alloc (by simp) _).alloc (by simp; try omega) _)
  clear hn1
  have c0 := LA.out.cell 0
  have d0 := LB.out.cell 0
  simp only [List.getElem?_cons_zero] at c0 d0
  go_enter Try.func9, Try.ntmps9
  go_wp2_with fail
  clear c0 d0
  refine (eqGns_any s1 s2 es fs B1 B2 _ (show Hid (GnsO _ B1 s1 es) from h1.out.below BW.out) (show Hid (GnsO _ B2 s2 fs) from h2.out.below BW.out) hpl hl hs).mono ?_
  rintro x w1 ⟨rfl, b⟩
  go_wp2_with fail
  go_ret
  exact ⟨rfl, bl_next BW.out b⟩
set_option maxRecDepth 100000 in
set_option maxHeartbeats 2000000 in
theorem markTable_o (s : Sv) (es : List Gn) (B K : Nat) (w : World) (h : Hid (GnsO w B s es)) (a : Hid (GnsA s es)) (hK : 0 < K) (hn : es.length ≤ 1048576) (hl : K + (1 * es.length + 1 * Gns.tot es) ≤ 39999990) :
    Calls Try.prog 10 #[.agg #[.slice s.a s.n s.c], .int .i64 K] w fun x w' => ∃ M : Nat, x = .returned (.int .i64 (M : Int)) ∧ K ≤ M ∧ M ≤ K + (1 * es.length + 1 * Gns.tot es) ∧ HeldGn w' s es K M ∧ Gr (GnsOwn s es) w w' := by
  have LA : Hid (Bx (w.alloc (.cells #[.slice s.a s.n s.c] 30)) w.heap.size 30 [.slice s.a s.n s.c]) := by
    have h := Bx.new w 30 [.slice s.a s.n s.c]
    exact h
  have BW : Hid (Below w.heap.size w (w.alloc (.cells #[.slice s.a s.n s.c] 30))) := ((Below.refl _ _).alloc (by simp) _)
  have c0 := LA.out.cell 0
  simp only [List.getElem?_cons_zero] at c0
  go_enter Try.func10, Try.ntmps10
  go_wp2_with fail
  clear c0
  refine (markGns_o s es B K _ (show Hid (GnsO _ B s es) from h.out.below BW.out) a hK hn hl).mono ?_
  rintro x w1 ⟨M, rfl, h1, h2, h3, h4⟩
  have H3 : Hid (HeldGn w1 s es K M) := h3
  have H4 : Hid (Gr (GnsOwn s es) w w1) := (gr_below BW.out).trans h4
  have H12 : Hid (K ≤ M ∧ M ≤ K + (1 * es.length + 1 * Gns.tot es)) := ⟨h1, h2⟩
  clear h1 h2 h3 h4
  go_wp2_with fail
  go_ret
  exact ⟨M, rfl, H12.out.1, H12.out.2, H3.out, H4.out⟩
end Go.Proofs.Ytmbjflhhffcjdaa


/- Words that a law measures and copies. Written by gen_wd.py. -/
namespace Go.Proofs.Ytmbjflhhffcjdaa
open Go.RowKit Pl
set_option linter.unusedVariables false
set_option linter.unusedSimpArgs false

/-- a word, and where its list lies. -/
structure Wd where
  k : Int
  who : ByteArray
  gs : List ByteArray
  t : ByteArray
  s : Sv
def Wd.pl (r : Wd) : Int × ByteArray × List ByteArray × ByteArray := (r.k, r.who, r.gs, r.t)
def Wd.row (e : Wd) : List Value := [.int .i64 e.k, .string e.who, .slice e.s.a e.s.n e.s.c, .string e.t]
def Wd.R (w : World) (r : Wd) : Prop := RT w r.s.v r.gs
theorem Wd.R.stays {w w' : World} {b : Wd} (h : b.R w) (hb : Below w.heap.size w w') : b.R w' := RT.stays h hb
def Wd.S (b : Wd) : Prop := b.who.size ≤ 1048576 ∧ totS b.gs ≤ 1048576 ∧ b.t.size ≤ 1048576
def Wd.L (b : Wd) : Prop := b.who.size ≤ 9223372036854775807 ∧ b.gs.length ≤ 9223372036854775807 ∧ (∀ t ∈ b.gs, t.size ≤ 9223372036854775807) ∧ b.t.size ≤ 9223372036854775807
def Wd.sz (b : Wd) : Nat := b.who.size + totS b.gs + b.t.size
def Wd.O (w : World) (B : Nat) (b : Wd) : Prop := OwnS w B b.s.v b.gs
theorem Wd.O.r {w : World} {B : Nat} {b : Wd} (h : b.O w B) : b.R w := OwnS.texts h
theorem Wd.O.keep {w w' : World} {B : Nat} {e : Wd} (h : e.O w B) (hk : ∀ b, B ≤ b → b < w.heap.size → w'.heap[b]? = w.heap[b]?) : e.O w' B := OwnS.keep' h fun b hb hl => hk b (OwnS.lt h b hb).1 hl
theorem Wd.O.below {w w' : World} {B : Nat} {e : Wd} (h : e.O w B) (b : Below w.heap.size w w') : e.O w' B := h.keep fun k _ hk => b.block k hk
theorem Wd.O.down {w : World} {B B' : Nat} {e : Wd} (h : e.O w B) (hB : B' ≤ B) : e.O w B' := OwnS.down h hB
def Wd.own (e : Wd) (x : Nat) : Prop := e.s.v.ownBlock = some x
theorem Wd.O.lt {w : World} {B : Nat} {e : Wd} (h : e.O w B) (x : Nat) (hx : e.own x) : B ≤ x ∧ x < w.heap.size := OwnS.lt h x hx
def Wd.Up (e : Wd) : Prop := True
end Go.Proofs.Ytmbjflhhffcjdaa


