/- Joined texts: CHf CShr CSla CLem14 CLs CRgs CGp CGrm CEv CEvs CBus CGee CGeb CEqw CDm CGpr CCd CGbm CGem2 CGpl CDmk CCdm CLrs CRok CGrd CLnd14 CDns CWns CWni CGrq CEqr. -/
import Derived.Test.YtoahljkifikbaaaQw16
import Derived.Test.YtoahljkifikbaaaQw15
import Derived.Test.YtoahljkifikbaaaQw14
import Derived.Test.YtoahljkifikbaaaQw8
import Derived.Test.YtoahljkifikbaaaQw11
import Derived.Laws.MakeOwn
import Derived.Test.YtoahljkifikbaaaQw13
import Derived.Test.YtoahljkifikbaaaQw5
/- Hear. -/
namespace Go.Proofs.Ytoahljkifikbaaa
open Go.RowKit Pl
set_option linter.unusedVariables false
set_option linter.unusedSimpArgs false

/-- the member behind it. -/
def Mt.hadH (m : Mt) : Mt := m.setH (m.he + m.hear.length)

end Go.Proofs.Ytoahljkifikbaaa


/- What a member hears: the specification's Hear, where the member is right. Written by gen_shr.py. -/
namespace Go.Proofs.Ytoahljkifikbaaa
open Go.RowKit Pl
set_option linter.unusedVariables false
set_option linter.unusedSimpArgs false
end Go.Proofs.Ytoahljkifikbaaa


/- What a token wants yet: the specification's Lacks. Written by gen_sla.py. -/
namespace Go.Proofs.Ytoahljkifikbaaa
open Go.RowKit Pl
set_option linter.unusedVariables false
set_option linter.unusedSimpArgs false

/-- whether a number is wanted yet. -/
def slB (ws lk : List Int) (its : List It) (n : Int) : Bool := (!hasP its n && inB ws n) || inB lk n
def slGo (ws lk : List Int) (its : List It) : Nat → Nat → List Int → List Int
  | 0, _, acc => acc
  | f + 1, n, acc => if acc.length < 20 then slGo ws lk its f (n + 1) (if slB ws lk its (n : Int) = true then acc ++ [(n : Int)] else acc) else acc
def slackP (ws : List Int) (its : List It) (q : Int) : List Int := slGo ws (missP its q) its 60 1 []
end Go.Proofs.Ytoahljkifikbaaa


/- Small lemmas of round 14: rows that are read in drawn regions, lists cut, lengths of slices. -/
namespace Go.Proofs.Ytoahljkifikbaaa
open Go.RowKit Pl
set_option linter.unusedVariables false
set_option linter.unusedSimpArgs false

theorem ldN_yield {P : Program} {ops : Array Oper} {o : Oper} {a : Act} {S : World → Prop} (hw : Region.wanted o (yielded ops a.tmps) = true) (ty : TypeId) (x : Operand) (ho : o.op = .load ty x) (g off : Nat) (hx : a.eval x = .pointer (some ⟨g, off, none⟩)) (cs : List Value) (hS : ∀ w, S w → w.rangeAt g off cs)
    (d : TypeDesc) (hu : P.underlying ty = some d) (hd : d.isRow = true) (hi : (P.info? ty).map (·.size) = some cs.length) : YieldsIf P ops S o (.agg cs.toArray) a :=
  yieldsIf_load_mid hw ty x ho g off hx cs d hS hu hd hi
theorem range_later {w w' : World} {g off : Nat} {cs : List Value} (h : w.rangeAt g off cs) (hg : g < w.heap.size) (b : Below w.heap.size w w') : w'.rangeAt g off cs := fun j v hv => (b.cell (p := ⟨g, off + j, none⟩) hg).trans (h j v hv)
theorem SlI.len {w : World} {B : Nat} {s : Sv} {ts : List It} (h : SlI w B s.v ts) : s.n = ts.length := by obtain ⟨a, c, h1⟩ := Sl.form h; simp only [Sv.v, Value.slice.injEq] at h1; exact h1.2.1
theorem Pl.OwnI.slen {w : World} {B : Nat} {s : Sv} {ts : List Int} (h : OwnI w B s.v ts) : s.n = ts.length := by obtain ⟨a, c, h1⟩ := h.form; simp only [Sv.v, Value.slice.injEq] at h1; exact h1.2.1
theorem Pl.OwnS.slen {w : World} {B : Nat} {s : Sv} {ts : List ByteArray} (h : OwnS w B s.v ts) : s.n = ts.length := by obtain ⟨a, c, h1⟩ := h.form; simp only [Sv.v, Value.slice.injEq] at h1; exact h1.2.1
theorem SlI.at {w : World} {B : Nat} {s : Sv} {ts : List It} (h : SlI w B s.v ts) {k : Nat} (hk : k < ts.length) : ∃ g off, s.a = some ⟨g, off, none⟩ ∧ B ≤ g ∧ g < w.heap.size ∧ w.rangeAt g (off + k * 4) [.int .i64 ts[k].1, .int .i64 ts[k].2.1, .int .i64 ts[k].2.2.1, .string ts[k].2.2.2] := by
  obtain ⟨ao, cap, h1, h2⟩ := h.rit
  have hh := h
  obtain ⟨g, off, e, hlt, c0, c1, c2, c3⟩ := h2 k hk
  simp only [Sv.v, Value.slice.injEq] at h1
  refine ⟨g, off, by rw [h1.1, e], ?_, hlt, ?_⟩
  · exact (h.lt g (by simp [Sv.v, Value.ownBlock, h1.1, e])).1
  · intro j v hv
    match j, hv with
    | 0, hv => simp at hv; subst hv; simpa using c0
    | 1, hv => simp at hv; subst hv; simpa using c1
    | 2, hv => simp at hv; subst hv; simpa using c2
    | 3, hv => simp at hv; subst hv; simpa using c3
end Go.Proofs.Ytoahljkifikbaaa


/- Lists of structs: rows that are read, rows that were made. No function of the program is named here. -/
namespace Go.Proofs.Ytoahljkifikbaaa
open Go.RowKit Pl
set_option linter.unusedVariables false
set_option linter.unusedSimpArgs false

/-- rows that are read. -/
def RwA (w : World) (a : Option Addr) (size : Nat) (rows : List (List Value)) : Prop :=
  ∀ i (h : i < rows.length), ∃ g off, a = some ⟨g, off, none⟩ ∧ g < w.heap.size ∧ rows[i].length = size ∧ w.rangeAt g (off + i * size) rows[i]
section
variable {w w' : World} {a : Option Addr} {size T B : Nat} {rows : List (List Value)}
theorem RwA.stays (h : RwA w a size rows) (b : Below w.heap.size w w') : RwA w' a size rows := fun i hi => by
  obtain ⟨g, off, h1, h2, h3, h4⟩ := h i hi
  exact ⟨g, off, h1, Nat.lt_of_lt_of_le h2 b.size, h3, range_later h4 h2 b⟩
theorem RwA.nil (w : World) (a : Option Addr) (size : Nat) : RwA w a size [] := fun i hi => absurd hi (Nat.not_lt_zero _)
theorem SlN.rwa {s : Sv} (h : SlN w T size B s.v rows) : RwA w s.a size rows := fun i hi => by
  obtain ⟨g, off, cap, h1, h2, h3, h4⟩ := h.read hi
  simp only [Sv.v, Value.slice.injEq] at h1
  exact ⟨g, off, h1.1, h3, h.lens _ (List.getElem_mem hi), h4⟩
theorem SlN.slen {s : Sv} (h : SlN w T size B s.v rows) : s.n = rows.length := by
  obtain ⟨s', e, hn⟩ := h.form
  simp only [Sv.v, Value.slice.injEq] at e
  omega
end
theorem made_flat (zr : List Value) (h0 : 0 < zr.length) (n : Nat) : (madeCells zr.toArray (n * zr.length)).toList = (List.replicate n zr).flatten := by
  apply List.ext_getElem?
  intro j
  have hl : ((List.replicate n zr).flatten).length = n * zr.length := by simp
  by_cases hj : j < n * zr.length
  · have hm : j % zr.length < zr.length := Nat.mod_lt _ h0
    have hd : j / zr.length < n := Nat.div_lt_of_lt_mul (by rw [Nat.mul_comm]; exact hj)
    have e : j = (j / zr.length) * zr.length + j % zr.length := by rw [Nat.mul_comm]; exact (Nat.div_add_mod j zr.length).symm
    have h1 : (madeCells zr.toArray (n * zr.length)).toList[j]? = some (zr[j % zr.length]'hm) := by simp [madeCells, hj, hm]
    rw [h1]
    have h2 : ∀ (m i r : Nat) (hr : r < zr.length), i < m → ((List.replicate m zr).flatten)[i * zr.length + r]? = zr[r]? := by
      intro m
      induction m with
      | zero => intro i r hr hi; omega
      | succ m ih =>
        intro i r hr hi
        rw [List.replicate_succ, List.flatten_cons]
        cases i with
        | zero => rw [List.getElem?_append_left (by simpa using hr)]; simp
        | succ i =>
          rw [List.getElem?_append_right (by rw [Nat.succ_mul]; omega), show (i + 1) * zr.length + r - zr.length = i * zr.length + r by rw [Nat.succ_mul]; omega]
          exact ih i r hr (by omega)
    have h3 := h2 n (j / zr.length) (j % zr.length) hm hd
    rw [← e] at h3
    rw [h3, List.getElem?_eq_getElem hm]
  · rw [List.getElem?_eq_none (by simp [madeCells]; omega), List.getElem?_eq_none (by rw [hl]; omega)]
/-- a list that was just made. -/
theorem SlN.zeros (w : World) (T : TypeId) (zr : List Value) (h0 : 0 < zr.length) (h1 : zr.all (·.oneCell') = true) (n B : Nat) (hB : B ≤ w.heap.size) (hn : n ≤ 1048576) : SlN (w.alloc (.cells (madeCells zr.toArray (n * zr.length)) T)) T zr.length B (.slice (some ⟨w.heap.size, 0, none⟩) n n) (List.replicate n zr) := by
  refine ⟨?_, fun r hr => ?_⟩
  · rw [List.length_replicate]
    refine ⟨by simp, .inr ⟨w.heap.size, 0, n, _, rfl, hB, heap_alloc_new w _, Nat.le_refl _, by unfold maxLen; omega, by rw [size_madeCells]; omega, fun j hj => ?_⟩⟩
    rw [← made_flat zr h0 n, Nat.zero_add, Array.getElem?_toList]
  · rw [(List.mem_replicate.1 hr).2]
    exact ⟨rfl, List.all_eq_true.1 h1⟩
theorem set_snoc {α : Type} (xs : List α) (z x : α) (n : Nat) : (xs ++ List.replicate (n + 1) z).set xs.length x = (xs ++ [x]) ++ List.replicate n z := by
  rw [List.set_append_right _ _ (Nat.le_refl _), Nat.sub_self, List.replicate_succ, List.set_cons_zero, List.append_assoc]
  rfl
end Go.Proofs.Ytoahljkifikbaaa


/- Lists of rings that a law measures and copies. Written by gen_rg.py. -/
namespace Go.Proofs.Ytoahljkifikbaaa
open Go.RowKit Pl
set_option linter.unusedVariables false
set_option linter.unusedSimpArgs false

/-- a ring, and where its list lies. -/
structure Rn where
  id : Int
  ms : List Int
  s : Sv
def Rn.pl (r : Rn) : Int × List Int := (r.id, r.ms)
def Rn.row (r : Rn) : List Value := [.int .i64 r.id, .slice r.s.a r.s.n r.s.c]
def Rn.R (w : World) (r : Rn) : Prop := RI w r.s.v r.ms
theorem Rn.R.stays {w w' : World} {b : Rn} (h : b.R w) (hb : Below w.heap.size w w') : b.R w' := RI.stays h hb
def Rn.S (b : Rn) : Prop := b.ms.length ≤ 1048576
def Rn.L (b : Rn) : Prop := b.ms.length ≤ 9223372036854775807
def Rn.sz (b : Rn) : Nat := b.ms.length
def Rn.O (w : World) (B : Nat) (b : Rn) : Prop := OwnI w B b.s.v b.ms
theorem Rn.O.r {w : World} {B : Nat} {b : Rn} (h : b.O w B) : b.R w := OwnI.ri h
theorem Rn.O.keep {w w' : World} {B : Nat} {e : Rn} (h : e.O w B) (hk : ∀ b, B ≤ b → b < w.heap.size → w'.heap[b]? = w.heap[b]?) : e.O w' B := OwnI.keep h fun b hb hl => hk b (OwnI.lt h b hb).1 hl
theorem Rn.O.below {w w' : World} {B : Nat} {e : Rn} (h : e.O w B) (b : Below w.heap.size w w') : e.O w' B := h.keep fun k _ hk => b.block k hk
theorem Rn.O.down {w : World} {B B' : Nat} {e : Rn} (h : e.O w B) (hB : B' ≤ B) : e.O w B' := OwnI.down h hB
def Rn.own (e : Rn) (x : Nat) : Prop := e.s.v.ownBlock = some x
theorem Rn.O.lt {w : World} {B : Nat} {e : Rn} (h : e.O w B) (x : Nat) (hx : e.own x) : B ≤ x ∧ x < w.heap.size := OwnI.lt h x hx
def Rn.Up (e : Rn) : Prop := True
theorem szRn_any (e : Rn) (L : Nat) (w : World) (h : Hid (e.R w)) (hl : Hid e.L) (hL : L ≤ 1048576) :
    Calls Try.prog 21 #[.agg #[.int .i64 e.id, .slice e.s.a e.s.n e.s.c], .int .i64 L] w fun x w' => (x = .returned (.int .i64 (-1)) ∨ ∃ r : Nat, x = .returned (.int .i64 r) ∧ r + e.sz ≤ L) ∧ Below w.heap.size w w' := by
  have hn : e.s.n = e.ms.length := RI.len h.out
  refine (szRing_left e.id e.s.a e.s.n e.s.c L w hL (by rw [hn]; exact hl.out)).mono fun x w' ⟨a, b⟩ => ⟨a.imp id fun ⟨r, h1, h2⟩ => ⟨r, h1, by unfold Rn.sz; omega⟩, b⟩
theorem Try.sizeLRn : (Try.prog.info? 49).map (·.size) = some 2 := by kernel_rfl
theorem Try.sizeRn : (Try.prog.info? 51).map (·.size) = some 2 := by kernel_rfl
theorem toRn_any (e : Rn) (w : World) (h : Hid (e.R w)) (hs : e.S) :
    Calls Try.prog 24 #[.agg #[.int .i64 e.id, .slice e.s.a e.s.n e.s.c]] w fun x w' => ∃ u : Sv, x = .returned (.agg #[.int .i64 e.id, .slice u.a u.n u.c]) ∧ OwnI w' w.heap.size u.v e.ms ∧ Below w.heap.size w w' := by
  refine (toRing_r e.id e.s e.ms w h hs).mono ?_
  rintro x w' ⟨u, rfl, h1, h2⟩
  exact ⟨u, rfl, h1, h2⟩
/-- a list of them that is read. -/
def RnsR (w : World) (s : Sv) (es : List Rn) : Prop := s.n = es.length ∧ RwA w s.a 2 (es.map Rn.row) ∧ ∀ e ∈ es, e.R w
theorem RnsR.stays {w w' : World} {s : Sv} {es : List Rn} (h : RnsR w s es) (b : Below w.heap.size w w') : RnsR w' s es := ⟨h.1, h.2.1.stays b, fun e he => (h.2.2 e he).stays b⟩
/-- a list of the call's own. -/
def RnsO (w : World) (B : Nat) (s : Sv) (es : List Rn) : Prop := SlN w 51 2 B s.v (es.map Rn.row) ∧ ∀ e ∈ es, e.O w B
theorem RnsO.r {w : World} {B : Nat} {s : Sv} {es : List Rn} (h : RnsO w B s es) : RnsR w s es := ⟨by have := h.1.slen; simpa using this, h.1.rwa, fun e he => (h.2 e he).r⟩
theorem RnsO.keep {w w' : World} {B : Nat} {s : Sv} {es : List Rn} (h : RnsO w B s es) (hk : ∀ b, B ≤ b → b < w.heap.size → w'.heap[b]? = w.heap[b]?) : RnsO w' B s es := ⟨h.1.keep fun b hb hl => hk b (h.1.lt b hb).1 hl, fun e he => (h.2 e he).keep hk⟩
theorem RnsO.below {w w' : World} {B : Nat} {s : Sv} {es : List Rn} (h : RnsO w B s es) (b : Below w.heap.size w w') : RnsO w' B s es := h.keep fun k _ hk => b.block k hk
theorem RnsO.down {w : World} {B B' : Nat} {s : Sv} {es : List Rn} (h : RnsO w B s es) (hB : B' ≤ B) : RnsO w B' s es := ⟨h.1.down hB, fun e he => (h.2 e he).down hB⟩
theorem RnsO.nil (w : World) (B : Nat) : RnsO w B zSv [] := ⟨SlN.nil _ _ _ _, fun e he => by cases he⟩
/-- each one's lists lie behind those of the ones ahead. -/
def RnsUp (es : List Rn) : Prop := (∀ e ∈ es, e.Up) ∧ es.Pairwise fun a b => ∀ x y, a.own x → b.own y → x < y
def Rns.tot (es : List Rn) : Nat := (es.map fun e => e.sz).sum
theorem Rns.tot_take (es : List Rn) (k : Nat) (hk : k < es.length) : Rns.tot (es.take (k + 1)) = Rns.tot (es.take k) + es[k].sz := by
  unfold Rns.tot
  rw [List.take_succ_eq_append_getElem hk, List.map_append, List.sum_append]
  simp

set_option maxRecDepth 100000 in
set_option maxHeartbeats 4000000 in
theorem szRings_any (s : Sv) (es : List Rn) (left : Nat) (w : World) (hx : Hid (RnsR w s es)) (hleft : left ≤ 1048576) (hl : es.length ≤ 9223372036854775807) (hs : Hid (∀ e ∈ es, e.L)) :
    Calls Try.prog 6 #[.slice s.a s.n s.c, .int .i64 left] w fun x w' => (x = .returned (.int .i64 (-1)) ∨ ∃ z : Nat, x = .returned (.int .i64 z) ∧ Hid (z + (es.length + Rns.tot es) ≤ left)) ∧ Below w.heap.size w w' := by
  obtain ⟨a, n, c⟩ := s
  dsimp only
  have HN : Hid (n = es.length) := hx.out.1
  have hn : n ≤ 9223372036854775807 := by have := HN.out; omega
  clear hl
  by_cases h1 : left < n
  · have hd : decide ((left : Int) - (n : Int) < 0) = true := by simp; omega
    go_enter Try.func6, Try.ntmps6
    go_wp2_with fail
    go_ret
    exact ⟨.inl rfl, Below.refl _ _⟩
  have hd : decide ((left : Int) - (n : Int) < 0) = false := by simp; omega
  go_enter Try.func6, Try.ntmps6
  go_wp2_with fail
  clear hd
  go_loopw [1, 5] (fun lf i wr => ∃ (k z : Nat), k ≤ n ∧ z ≤ 1048576 ∧ lf = .int .i64 z ∧ i = .int .i64 k ∧ Hid (z + (es.length + Rns.tot (es.take k)) ≤ left) ∧ Hid (Below w.heap.size w wr)) (fun _ i _ => n - (intOf i).toNat)
  case atStart => exact ⟨0, left - n, Nat.zero_le _, by omega, by congr 1; omega, rfl, (by have := HN.out; simp [Rns.tot]; omega : left - n + (es.length + Rns.tot (es.take 0)) ≤ left), Below.refl _ _⟩
  case round =>
    obtain ⟨k, z, hk, hz, rfl, rfl, hsm, hb⟩ := hrel
    by_cases hlt : k < n
    · have hlt2 : k < es.length := by have := HN.out; omega
      obtain ⟨g, off, ha, hg, _, hr⟩ := (hx.out.stays hb.out).2.1 k (by simpa using hlt2)
      obtain ⟨e, he⟩ : ∃ e, e = es[k] := ⟨_, rfl⟩
      have hr2 : wr.rangeAt g (off + k * 2) e.row := by rw [he]; simpa using hr
      have HR : Hid (wr.rangeAt g (off + k * 2) e.row) := hr2
      have HE : Hid (e = es[k]) := he
      have RR : Hid (e.R wr) := by rw [he]; exact (hx.out.stays hb.out).2.2 _ (List.getElem_mem hlt2)
      have LL : Hid e.L := by rw [he]; exact hs.out _ (List.getElem_mem hlt2)
      have ha : a = some ⟨g, off, none⟩ := ha
      subst ha
      have i0 : (0 : Int) ≤ (k : Int) := by omega
      have i1 : (k : Int) < (n : Int) := by omega
      clear hr hr2 he hg
      go_wp2_with (first | (refine wpList_ldN rfl 49 _ rfl g (off + k * 2) (by rfl) e.row HR.out _ Try.underlying49 rfl Try.sizeLRn ?_))
      refine (szRn_any e z _ RR LL (by omega)).mono ?_
      rintro x w1 ⟨rfl | ⟨r, rfl, hr1⟩, hb1⟩
      · go_wp2_with fail
        go_ret
        exact ⟨.inl rfl, bl_nxt hb.out hb1⟩
      · have B1 : Hid (Below w.heap.size w w1) := bl_nxt hb.out hb1
        have HR1 : Hid (r + e.sz ≤ z) := (by omega : r + e.sz ≤ z)
        have hrz : r ≤ 1048576 := by omega
        have hd : decide ((r : Int) < 0) = false := by simp
        have HS2 : Hid (r + (es.length + Rns.tot (es.take (k + 1))) ≤ left) := by
          have h1 := hsm.out
          have h2 := HR1.out
          have h3 := Rns.tot_take es k hlt2
          rw [← HE.out] at h3
          show _ ≤ _
          omega
        clear hb1 hr1 HR
        go_wp2_with fail
        go_roundw
        case rel => exact ⟨k + 1, r, by omega, hrz, rfl, by go_num, HS2, B1⟩
        case measure => simp [intOf]; omega
    · obtain rfl : k = n := by omega
      go_wp2_with fail
      go_ret
      exact ⟨.inr ⟨z, rfl, by have := hsm.out; rwa [HN.out, List.take_of_length_le (Nat.le_refl _)] at this⟩, hb.out⟩
theorem Try.infoRn : (Try.prog.info? 51).map (fun i => (i.zero, i.size, i.bytes)) = some (some (.agg #[.int .i64 0, .slice none 0 0]), 2, 32) := by kernel_rfl
set_option maxRecDepth 100000 in
set_option maxHeartbeats 8000000 in
theorem toRings_any (s : Sv) (es : List Rn) (w : World) (hx : Hid (RnsR w s es)) (hl : es.length ≤ 1048576) (hs : Hid (∀ e ∈ es, e.S)) :
    Calls Try.prog 8 #[.slice s.a s.n s.c] w fun x w' => ∃ (u : Sv) (cs : List Rn), x = .returned (.slice u.a u.n u.c) ∧ cs.map Rn.pl = es.map Rn.pl ∧ RnsO w' w.heap.size u cs ∧ RnsUp cs ∧ (∀ b, u.v.ownBlock = some b → b = w.heap.size ∧ ∀ e ∈ cs, ∀ x, e.own x → b < x) ∧ Below w.heap.size w w' := by
  obtain ⟨a, n, c⟩ := s
  dsimp only
  have HN : Hid (n = es.length) := hx.out.1
  have hn : n ≤ 1048576 := by have := HN.out; omega
  clear hl
  obtain ⟨i0, hi, hz0, hz1, hz2⟩ := info_parts Try.infoRn
  obtain ⟨A, hA⟩ : ∃ A : Array Value, A = madeCells (Value.agg #[.int .i64 0, .slice none 0 0]).cells (n * 2) := ⟨_, rfl⟩
  have hmk : ∀ W : World, (Instr.makeSlice 25 (.int .i64 (n : Int)) (.int .i64 (n : Int))).run Try.prog W = .ok (.slice (some ⟨W.heap.size, 0, none⟩) n n) (W.alloc (.cells A 51)) := fun W => by
    have h := run_make (P := Try.prog) W 25 51 i0 _ Try.underlying25 hi hz0 .i64 .i64 (n : Int) (n : Int) (by omega) (by omega) (by rw [hz2]; omega) (by omega)
    rw [hz1, Int.toNat_natCast, ← hA] at h
    simpa using h
  have H0 : Hid (SlN (w.alloc (.cells A 51)) 51 2 w.heap.size (.slice (some ⟨w.heap.size, 0, none⟩) n n) (List.replicate n [.int .i64 0, .slice none 0 0])) := by rw [hA]; exact SlN.zeros w 51 [.int .i64 0, .slice none 0 0] (by simp) rfl n w.heap.size (Nat.le_refl _) hn
  clear hA
  have HB0 : Hid (Below w.heap.size w (w.alloc (.cells A 51))) := (Below.refl _ _).alloc (Nat.le_refl _) _
  have HZ0 : Hid (w.heap.size < (w.alloc (.cells A 51)).heap.size) := (by simp : _ < _)
  go_enter Try.func8, Try.ntmps8
  go_wp2_with fail
  generalize w.alloc (.cells A 51) = W at *
  clear hmk hi hz0 hz1 hz2
  go_loopw [4] (fun i wr => ∃ (k : Nat) (cs : List Rn), k ≤ n ∧ i = .int .i64 k ∧ Hid (cs.length = k) ∧ Hid (cs.map Rn.pl = (es.take k).map Rn.pl) ∧ Hid (SlN wr 51 2 w.heap.size (.slice (some ⟨w.heap.size, 0, none⟩) n n) (cs.map Rn.row ++ List.replicate (n - k) ([.int .i64 0, .slice none 0 0] : List Value))) ∧ Hid (∀ c ∈ cs, c.O wr (w.heap.size + 1)) ∧ Hid (RnsUp cs) ∧ Hid (w.heap.size < wr.heap.size) ∧ Hid (Below w.heap.size w wr)) (fun i _ => n - (intOf i).toNat)
  case atStart => exact ⟨0, [], Nat.zero_le _, rfl, rfl, rfl, (by have h := H0.out; simpa using h : SlN _ _ _ _ _ _), (fun c hc => (by cases hc) : ∀ c ∈ ([] : List Rn), _), ⟨fun e he => (by cases he), List.Pairwise.nil⟩, HZ0, HB0⟩
  case round =>
    obtain ⟨k, cs, hk, rfl, hcl, hpl, hrow, hown, hup, hzl, hb⟩ := hrel
    clear H0 HB0 HZ0
    by_cases hlt : k < n
    · have hlt2 : k < es.length := by have := HN.out; omega
      obtain ⟨g, off, ha, hg, _, hr⟩ := (hx.out.stays hb.out).2.1 k (by simpa using hlt2)
      obtain ⟨e, he⟩ : ∃ e, e = es[k] := ⟨_, rfl⟩
      have hr2 : wr.rangeAt g (off + k * 2) e.row := by rw [he]; simpa using hr
      have HR : Hid (wr.rangeAt g (off + k * 2) e.row) := hr2
      have HE : Hid (e = es[k]) := he
      have RR : Hid (e.R wr) := by rw [he]; exact (hx.out.stays hb.out).2.2 _ (List.getElem_mem hlt2)
      have SS : Hid e.S := by rw [he]; exact hs.out _ (List.getElem_mem hlt2)
      have ha : a = some ⟨g, off, none⟩ := ha
      subst ha
      have i0 : (0 : Int) ≤ (k : Int) := by omega
      have i1 : (k : Int) < (n : Int) := by omega
      clear hr hr2 he hg
      go_wp2_with (first | (refine wpList_ldN rfl 49 _ rfl g (off + k * 2) (by rfl) e.row HR.out _ Try.underlying49 rfl Try.sizeLRn ?_))
      refine (toRn_any e _ RR SS.out).mono ?_
      rintro x w1 ⟨u1, rfl, o1, b1⟩
      obtain ⟨c1, hc⟩ : ∃ c : Rn, c = { e with s := u1 } := ⟨_, rfl⟩
      have CO : Hid (c1.O w1 wr.heap.size) := by rw [hc]; exact o1
      have CU : Hid c1.Up := by rw [hc]; exact trivial
      have CP : Hid (c1.pl = e.pl) := by rw [hc]; exact rfl
      have CR : Hid (([.int .i64 e.id, .slice u1.a u1.n u1.c] : List Value) = c1.row) := by rw [hc]; rfl
      have B1 : Hid (Below w.heap.size w w1) := bl_nxt hb.out b1
      have R1 : Hid (SlN w1 51 2 w.heap.size (.slice (some ⟨w.heap.size, 0, none⟩) n n) (cs.map Rn.row ++ List.replicate (n - k) ([.int .i64 0, .slice none 0 0] : List Value))) := hrow.out.below b1
      have O1 : Hid (∀ c ∈ cs, c.O w1 (w.heap.size + 1)) := fun c hc => (hown.out c hc).below b1
      have LT : Hid (∀ c ∈ cs, ∀ x, c.own x → x < wr.heap.size) := fun c hc x hx => ((hown.out c hc).lt x hx).2
      have ZL : Hid (w.heap.size + 1 ≤ wr.heap.size) := hzl.out
      have ZL1 : Hid (w.heap.size < w1.heap.size) := Nat.lt_of_lt_of_le hzl.out b1.size
      clear HR b1 hrow hown hb hc hzl
      go_wp2_with (first | (with_reducible refine wpList_haltS 51 _ _ rfl ?_))
      refine Stp.go ?_
      have HL : n = (cs.map Rn.row ++ List.replicate (n - k) ([.int .i64 0, .slice none 0 0] : List Value)).length := by have := hcl.out; simp; omega
      have R2 : SlN w1 51 2 w.heap.size (.slice (some ⟨w.heap.size, 0, none⟩) (cs.map Rn.row ++ List.replicate (n - k) ([.int .i64 0, .slice none 0 0] : List Value)).length n) (cs.map Rn.row ++ List.replicate (n - k) ([.int .i64 0, .slice none 0 0] : List Value)) := by rw [← HL]; exact R1.out
      refine wpList_stN (i := k) rfl 51 _ _ rfl R2 (by rw [← HL]; exact hlt) (by rw [Nat.zero_add]; rfl) ([.int .i64 e.id, .slice u1.a u1.n u1.c]) rfl rfl rfl Try.sizeRn ?_
      intro w2 R3 T3
      rw [← HL, CR.out] at R3
      have e3 : (cs.map Rn.row ++ List.replicate (n - k) ([.int .i64 0, .slice none 0 0] : List Value)).set k c1.row = (cs ++ [c1]).map Rn.row ++ List.replicate (n - (k + 1)) ([.int .i64 0, .slice none 0 0] : List Value) := by
        have h := set_snoc (cs.map Rn.row) [.int .i64 0, .slice none 0 0] c1.row (n - (k + 1))
        rw [show n - (k + 1) + 1 = n - k by omega, List.length_map, hcl.out] at h
        rw [h, List.map_append]
        rfl
      rw [e3] at R3
      have R4 : Hid (SlN w2 51 2 w.heap.size (.slice (some ⟨w.heap.size, 0, none⟩) n n) ((cs ++ [c1]).map Rn.row ++ List.replicate (n - (k + 1)) ([.int .i64 0, .slice none 0 0] : List Value))) := R3
      have T4 : Hid (TurnAt w.heap.size w1 w2) := T3
      clear R1 R2 R3 T3 HL e3 CR
      go_wp2_with fail
      go_roundw
      case rel =>
        have kp : ∀ c : Rn, c.O w1 (w.heap.size + 1) → c.O w2 (w.heap.size + 1) := fun c h => h.keep fun b hb _ => T4.out.block b (by omega)
        refine ⟨k + 1, cs ++ [c1], by omega, by go_num, (by have := hcl.out; simp; omega : _ = _), ?_, R4, fun x hx => ?_, ⟨fun x hx => ?_, ?_⟩, (by have h := T4.out.size; have := ZL1.out; omega : _ < _), B1.out.trans (T4.out.below (Nat.le_refl _))⟩
        · show _ = _
          rw [List.map_append, hpl.out, List.take_succ_eq_append_getElem hlt2, List.map_append, ← HE.out]
          simp [CP.out]
        · rcases List.mem_append.1 hx with h | h
          · exact kp _ (O1.out x h)
          · rw [List.mem_singleton.1 h]; exact kp _ (CO.out.down ZL.out)
        · rcases List.mem_append.1 hx with h | h
          · exact hup.out.1 x h
          · rw [List.mem_singleton.1 h]; exact CU.out
        · refine List.pairwise_append.2 ⟨hup.out.2, List.pairwise_singleton _ _, fun a ha b hb x y hx hy => ?_⟩
          rw [List.mem_singleton.1 hb] at hy
          have h1 := LT.out a ha x hx
          have h2 := (CO.out.lt y hy).1
          omega
      case measure => simp [intOf]; omega
    · obtain rfl : k = n := by omega
      go_wp2_with fail
      go_ret
      have hr := hrow.out
      rw [Nat.sub_self, List.replicate_zero, List.append_nil] at hr
      refine ⟨⟨some ⟨w.heap.size, 0, none⟩, _, _⟩, cs, rfl, ?_, ⟨hr, fun e he => (hown.out e he).down (Nat.le_succ _)⟩, hup.out, fun b hb => ?_, hb.out⟩
      · have h := hpl.out
        rwa [HN.out, List.take_of_length_le (Nat.le_refl _)] at h
      · simp [Sv.v, Value.ownBlock] at hb
        subst hb
        exact ⟨rfl, fun e he x hx => by have := ((hown.out e he).lt x hx).1; omega⟩
end Go.Proofs.Ytoahljkifikbaaa


/- The places of a list of structs, whose fields are numbers, texts and lists: where each lies, that none is there twice. No function of the program is named here. -/
namespace Go.Proofs.Ytoahljkifikbaaa
open Go.RowKit Pl
set_option linter.unusedVariables false
set_option linter.unusedSimpArgs false

/-- a field: the cell c of a row (of the kind d), or a list s whose elements have the kinds ds. -/
structure Fd where
  c : Nat
  d : Nat
  s : Option Sv
  ds : List Nat
def svB (s : Sv) : Nat := (s.a.map (·.block)).getD 0
def svO (s : Sv) : Nat := (s.a.map (·.off)).getD 0
def sps (ds : List Nat) (s : Sv) : List Spot := (List.range (s.n * ds.length)).map fun t => (svB s, svO s + t, ds.getD (t % ds.length) 0)
def Fd.sp (g o : Nat) (f : Fd) : List Spot := match f.s with | none => [(g, o + f.c, f.d)] | some s => sps f.ds s
def pc (g o : Nat) (fs : List Fd) : List Spot := fs.flatMap (Fd.sp g o)
/-- the block of a list that has something. -/
def Fd.ow (f : Fd) (x : Nat) : Prop := ∃ s, f.s = some s ∧ 0 < s.n ∧ svB s = x
/-- a list that lies there. -/
def LvS (w : World) (s : Sv) (k : Nat) : Prop := 0 < s.n → s.a = some ⟨svB s, svO s, none⟩ ∧ svB s < w.heap.size ∧ (∀ t, t < s.n * k → ∃ u, w.cell? ⟨svB s, svO s + t, none⟩ = some u) ∧ ∀ t, w.frozen? ⟨svB s, t, none⟩ = false
abbrev Ne2 (a b : Spot) : Prop := ¬ (a.1 = b.1 ∧ a.2.1 = b.2.1)
theorem sps_len (ds : List Nat) (s : Sv) : (sps ds s).length = s.n * ds.length := by simp [sps]
theorem sps_at {ds : List Nat} {s : Sv} {t : Nat} (h : t < s.n * ds.length) : (sps ds s)[t]? = some (svB s, svO s + t, ds.getD (t % ds.length) 0) := by simp [sps, h]
theorem sps_mem {ds : List Nat} {s : Sv} {x : Spot} (h : x ∈ sps ds s) : x.1 = svB s ∧ ∃ t, t < s.n * ds.length ∧ x.2.1 = svO s + t := by
  unfold sps at h
  obtain ⟨t, ht, rfl⟩ := List.mem_map.1 h
  exact ⟨rfl, t, List.mem_range.1 ht, rfl⟩
theorem sps_pos {ds : List Nat} {s : Sv} {x : Spot} (h : x ∈ sps ds s) : 0 < s.n := by
  obtain ⟨_, t, ht, _⟩ := sps_mem h
  rcases Nat.eq_zero_or_pos s.n with h0 | h0
  · rw [h0, Nat.zero_mul] at ht; omega
  · exact h0
theorem sps_nd (ds : List Nat) (s : Sv) : (sps ds s).Pairwise Ne2 := by
  unfold sps
  rw [List.pairwise_map]
  exact List.Pairwise.imp (fun h => fun e => by have := e.2; simp at this; omega) List.pairwise_lt_range
theorem Fd.sp_mem {g o : Nat} {f : Fd} {x : Spot} (h : x ∈ f.sp g o) : (f.s = none ∧ x.1 = g ∧ x.2.1 = o + f.c) ∨ (∃ s, f.s = some s ∧ x ∈ sps f.ds s) := by
  unfold Fd.sp at h
  cases hs : f.s with
  | none => rw [hs] at h; simp at h; subst h; exact .inl ⟨rfl, rfl, rfl⟩
  | some s => rw [hs] at h; exact .inr ⟨s, rfl, h⟩
theorem Fd.sp_nd (g o : Nat) (f : Fd) : (f.sp g o).Pairwise Ne2 := by
  unfold Fd.sp
  cases f.s with
  | none => exact List.pairwise_singleton _ _
  | some s => exact sps_nd _ _
theorem ow_of {f : Fd} {s : Sv} {x : Spot} (hs : f.s = some s) (h : x ∈ sps f.ds s) : f.ow x.1 := ⟨s, hs, sps_pos h, (sps_mem h).1.symm⟩
/-- one row's places: none twice. -/
theorem pc_nd {g o : Nat} {fs : List Fd} (hg : ∀ f ∈ fs, ¬ f.ow g) (hp : fs.Pairwise fun f f' => (f.s = none → f'.s = none → f.c ≠ f'.c) ∧ ∀ x, f.ow x → ¬ f'.ow x) : (pc g o fs).Pairwise Ne2 := by
  unfold pc
  rw [List.pairwise_flatMap]
  refine ⟨fun f _ => f.sp_nd g o, List.Pairwise.imp_of_mem (fun {a b} ha hb hab x hx y hy e => ?_) hp⟩
  rcases Fd.sp_mem hx with ⟨h1, h2, h3⟩ | ⟨s, h1, h2⟩ <;> rcases Fd.sp_mem hy with ⟨k1, k2, k3⟩ | ⟨s', k1, k2⟩
  · exact hab.1 h1 k1 (by have := e.2; omega)
  · exact hg b hb (by have := ow_of k1 k2; rw [← e.1, h2] at this; exact this)
  · exact hg a ha (by have := ow_of h1 h2; rw [e.1, k2] at this; exact this)
  · exact hab.2 x.1 (ow_of h1 h2) (by have := ow_of k1 k2; rw [← e.1] at this; exact this)
theorem pc_mem {g o : Nat} {fs : List Fd} {x : Spot} (h : x ∈ pc g o fs) : ∃ f ∈ fs, x ∈ f.sp g o := by
  unfold pc at h
  exact List.mem_flatMap.1 h
/-- the places of a list of structs. -/
def tls (g off size : Nat) (F : Nat → List Fd) (len : Nat) : List Spot := (List.range len).flatMap fun j => pc g (off + j * size) (F j)
def tlN (g off size : Nat) (F : Nat → List Fd) (j : Nat) : Nat := (tls g off size F j).length
section
variable {g off size len : Nat} {F : Nat → List Fd}
theorem tls_succ : tls g off size F (len + 1) = tls g off size F len ++ pc g (off + len * size) (F len) := by
  unfold tls
  rw [List.range_succ, List.flatMap_append]
  simp
theorem tls_at : ∀ {len j r : Nat}, j < len → r < (pc g (off + j * size) (F j)).length → (tls g off size F len)[tlN g off size F j + r]? = (pc g (off + j * size) (F j))[r]?
  | 0, j, r, hj, _ => absurd hj (Nat.not_lt_zero _)
  | len + 1, j, r, hj, hr => by
    rw [tls_succ]
    by_cases h : j < len
    · have h1 := tls_at h hr
      have h2 : tlN g off size F j + r < (tls g off size F len).length := by
        rcases Nat.lt_or_ge (tlN g off size F j + r) (tls g off size F len).length with h2 | h2
        · exact h2
        · rw [List.getElem?_eq_none h2, List.getElem?_eq_getElem hr] at h1; cases h1
      rw [List.getElem?_append_left h2, h1]
    · obtain rfl : j = len := by omega
      unfold tlN
      rw [List.getElem?_append_right (by omega), Nat.add_sub_cancel_left]
theorem tlN_succ (j : Nat) : tlN g off size F (j + 1) = tlN g off size F j + (pc g (off + j * size) (F j)).length := by
  unfold tlN
  rw [tls_succ, List.length_append]
theorem tls_mem {x : Spot} (h : x ∈ tls g off size F len) : ∃ j, j < len ∧ x ∈ pc g (off + j * size) (F j) := by
  unfold tls at h
  obtain ⟨j, hj, hx⟩ := List.mem_flatMap.1 h
  exact ⟨j, List.mem_range.1 hj, hx⟩
/-- what is asked of the fields of each row. -/
structure FdOk (w : World) (g size len : Nat) (F : Nat → List Fd) : Prop where
  row : ∀ j, j < len → ∀ f ∈ F j, f.s = none → f.c < size
  off : ∀ j, j < len → ∀ f ∈ F j, ¬ f.ow g
  one : ∀ j, j < len → (F j).Pairwise fun f f' => (f.s = none → f'.s = none → f.c ≠ f'.c) ∧ ∀ x, f.ow x → ¬ f'.ow x
  two : ∀ i j, i < j → j < len → ∀ f ∈ F i, ∀ f' ∈ F j, ∀ x, f.ow x → ¬ f'.ow x
  lv : ∀ j, j < len → ∀ f ∈ F j, ∀ s, f.s = some s → LvS w s f.ds.length
theorem tls_nd {w : World} (h : FdOk w g size len F) : (tls g off size F len).Pairwise Ne2 := by
  unfold tls
  rw [List.pairwise_flatMap]
  refine ⟨fun j hj => pc_nd (h.off j (List.mem_range.1 hj)) (h.one j (List.mem_range.1 hj)), List.Pairwise.imp_of_mem (fun {a b} ha hb hab x hx y hy e => ?_) List.pairwise_lt_range⟩
  have ha := List.mem_range.1 ha
  have hb := List.mem_range.1 hb
  obtain ⟨f, hf, hx⟩ := pc_mem hx
  obtain ⟨f', hf', hy⟩ := pc_mem hy
  rcases Fd.sp_mem hx with ⟨h1, h2, h3⟩ | ⟨s, h1, h2⟩ <;> rcases Fd.sp_mem hy with ⟨k1, k2, k3⟩ | ⟨s', k1, k2⟩
  · have e1 := h.row a ha f hf h1
    have e2 : (a + 1) * size ≤ b * size := Nat.mul_le_mul_right _ hab
    rw [Nat.succ_mul] at e2
    have := e.2
    omega
  · exact h.off b hb f' hf' (by have := ow_of k1 k2; rw [← e.1, h2] at this; exact this)
  · exact h.off a ha f hf (by have := ow_of h1 h2; rw [e.1, k2] at this; exact this)
  · exact h.two a b hab hb f hf f' hf' x.1 (ow_of h1 h2) (by have := ow_of k1 k2; rw [← e.1] at this; exact this)
end
/-- a list of rows, cell by cell. -/
theorem rowCells {w : World} {T size B : Nat} {s : Sv} {rows : List (List Value)} (h : SlN w T size B s.v rows) (h0 : 0 < rows.length) : s.a = some ⟨svB s, svO s, none⟩ ∧ svB s < w.heap.size ∧ (∀ j r u, j < rows.length → ((rows[j]?).getD [])[r]? = some u → w.cell? ⟨svB s, svO s + j * size + r, none⟩ = some u) ∧ ∀ o, w.frozen? ⟨svB s, o, none⟩ = false := by
  obtain ⟨g, off, cap, hv, hb, hlt, hc, hf⟩ := h.1.read h0
  simp only [Sv.v, Value.slice.injEq] at hv
  have e1 : svB s = g := by simp [svB, hv.1]
  have e2 : svO s = off := by simp [svO, hv.1]
  rw [e1, e2]
  refine ⟨hv.1, hlt, fun j r u hj hu => ?_, hf⟩
  rw [List.getElem?_eq_getElem hj] at hu
  simp only [Option.getD_some] at hu
  have hr : r < size := by rw [← h.lens _ (List.getElem_mem hj)]; exact (List.getElem?_eq_some_iff.1 hu).1
  have h2 := flat_row h.lens hj
  rw [← h2, List.getElem?_take, if_pos hr, List.getElem?_drop] at hu
  have := hc (j * size + r) u hu
  rw [Nat.add_assoc]
  exact this
theorem tls_ok {w : World} {T size B : Nat} {s : Sv} {rows : List (List Value)} {F : Nat → List Fd} (h : SlN w T size B s.v rows) (hF : FdOk w (svB s) size rows.length F) : TLok w (tls (svB s) (svO s) size F rows.length) := by
  have key : ∀ x ∈ tls (svB s) (svO s) size F rows.length, x.1 < w.heap.size ∧ (∃ u, w.cell? ⟨x.1, x.2.1, none⟩ = some u) ∧ w.frozen? ⟨x.1, x.2.1, none⟩ = false := fun x hx => by
    obtain ⟨j, hj, hx⟩ := tls_mem hx
    obtain ⟨f, hf, hx⟩ := pc_mem hx
    rcases Fd.sp_mem hx with ⟨h1, h2, h3⟩ | ⟨s', h1, h2⟩
    · obtain ⟨_, k2, k3, k4⟩ := rowCells h (by omega)
      have hl : ((rows[j]?).getD []).length = size := by rw [List.getElem?_eq_getElem hj]; exact h.lens _ (List.getElem_mem hj)
      have hc := hF.row j hj f hf h1
      rw [h2, h3]
      exact ⟨k2, ⟨_, k3 j f.c _ hj (List.getElem?_eq_getElem (by rw [hl]; exact hc))⟩, k4 _⟩
    · obtain ⟨e1, t, ht, e2⟩ := sps_mem h2
      obtain ⟨_, k2, k3, k4⟩ := hF.lv j hj f hf s' h1 (sps_pos h2)
      rw [e1, e2]
      exact ⟨k2, k3 t ht, k4 _⟩
  exact ⟨tls_nd hF, fun x hx => (key x hx).1, fun x hx => (key x hx).2.1, fun x hx => (key x hx).2.2⟩
/-- in which blocks they lie. -/
theorem tls_in {g off size len : Nat} {F : Nat → List Fd} {x : Spot} (h : x ∈ tls g off size F len) : x.1 = g ∨ ∃ j, j < len ∧ ∃ f ∈ F j, f.ow x.1 := by
  obtain ⟨j, hj, hx⟩ := tls_mem h
  obtain ⟨f, hf, hx⟩ := pc_mem hx
  rcases Fd.sp_mem hx with ⟨h1, h2, h3⟩ | ⟨s', h1, h2⟩
  · exact .inl h2
  · exact .inr ⟨j, hj, f, hf, ow_of h1 h2⟩
/-- a cell of a row that is no place. -/
theorem tls_not {w : World} {g off size len : Nat} {F : Nat → List Fd} (h : FdOk w g size len F) {j c : Nat} (hj : j < len) (hc : c < size) (hn : ∀ i, i < len → ∀ f ∈ F i, f.s = none → f.c ≠ c) : ∀ x ∈ tls g off size F len, ¬ (x.1 = g ∧ x.2.1 = off + j * size + c) := fun x hx e => by
  obtain ⟨i, hi, hx⟩ := tls_mem hx
  obtain ⟨f, hf, hx⟩ := pc_mem hx
  rcases Fd.sp_mem hx with ⟨h1, h2, h3⟩ | ⟨s', h1, h2⟩
  · have e1 := h.row i hi f hf h1
    have e2 := hn i hi f hf h1
    have e3 := e.2
    rcases Nat.lt_trichotomy i j with hij | hij | hij
    · have e4 : (i + 1) * size ≤ j * size := Nat.mul_le_mul_right _ hij
      rw [Nat.succ_mul] at e4
      omega
    · subst hij; omega
    · have e4 : (j + 1) * size ≤ i * size := Nat.mul_le_mul_right _ hij
      rw [Nat.succ_mul] at e4
      omega
  · exact h.off i hi f hf (by have := ow_of h1 h2; rw [e.1] at this; exact this)
theorem seg_of {TL : List Spot} {n : Nat} {ds : List Nat} {s : Sv} (ha : 0 < s.n → s.a = some ⟨svB s, svO s, none⟩) (h : ∀ t, t < s.n * ds.length → TL[n + t]? = some (svB s, svO s + t, ds.getD (t % ds.length) 0)) : Seg TL n s.a s.n ds := fun i hi => by
  refine ⟨svB s, svO s, ha (by omega), fun r d hr => ?_⟩
  have hrl : r < ds.length := (List.getElem?_eq_some_iff.1 hr).1
  have hlt : i * ds.length + r < s.n * ds.length := by
    have : (i + 1) * ds.length ≤ s.n * ds.length := Nat.mul_le_mul_right _ hi
    rw [Nat.succ_mul] at this
    omega
  have e : (i * ds.length + r) % ds.length = r := by rw [Nat.mul_comm, Nat.mul_add_mod]; exact Nat.mod_eq_of_lt hrl
  have h1 := h (i * ds.length + r) hlt
  rw [e] at h1
  rw [Nat.add_assoc, h1]
  have e2 : ds.getD r 0 = d := by simp [List.getD, hr]
  rw [e2, Nat.add_assoc]
/-- a field's places within its row's. -/
theorem pc_at {g o : Nat} (A : List Fd) (f : Fd) (B : List Fd) {r : Nat} (hr : r < (f.sp g o).length) : (pc g o (A ++ f :: B))[(pc g o A).length + r]? = (f.sp g o)[r]? := by
  unfold pc
  rw [List.flatMap_append, List.flatMap_cons, List.getElem?_append_right (by omega), Nat.add_sub_cancel_left, List.getElem?_append_left hr]
theorem pc_len_lt {g o : Nat} (A : List Fd) (f : Fd) (B : List Fd) {r : Nat} (hr : r < (f.sp g o).length) : (pc g o A).length + r < (pc g o (A ++ f :: B)).length := by
  unfold pc
  rw [List.flatMap_append, List.flatMap_cons, List.length_append, List.length_append]
  omega
theorem OwnI.lv {w : World} {B : Nat} {s : Sv} {xs : List Int} (h : OwnI w B s.v xs) : LvS w s 1 := fun h0 => by
  have hn := h.slen
  obtain ⟨g, cap, e, _, hl, hc, hf⟩ := h.some (by omega)
  simp only [Sv.v, Value.slice.injEq] at e
  have e1 : svB s = g := by simp [svB, e.1]
  have e2 : svO s = 0 := by simp [svO, e.1]
  rw [e1, e2]
  exact ⟨e.1, hl, fun t ht => ⟨_, by rw [Nat.zero_add]; exact hc t (by omega)⟩, hf⟩
theorem SlI.lv {w : World} {B : Nat} {s : Sv} {xs : List It} (h : SlI w B s.v xs) : LvS w s 4 := fun h0 => by
  have hn := SlI.len h
  obtain ⟨g, off, cap, e, _, hl, hc, hf⟩ := Sl.read h (by omega)
  simp only [Sv.v, Value.slice.injEq] at e
  have e1 : svB s = g := by simp [svB, e.1]
  have e2 : svO s = off := by simp [svO, e.1]
  rw [e1, e2]
  refine ⟨e.1, hl, fun t ht => ?_, hf⟩
  have hl2 := h.1
  exact ⟨_, hc t _ (List.getElem?_eq_getElem (by rw [hl2]; omega))⟩
theorem ow_own {s : Sv} (h : 0 < s.n → s.a = some ⟨svB s, svO s, none⟩) (h0 : 0 < s.n) : s.v.ownBlock = some (svB s) := by
  have e := h h0
  obtain ⟨b, hb⟩ : ∃ b, b = svB s := ⟨_, rfl⟩
  rw [← hb] at e ⊢
  simp [Sv.v, Value.ownBlock, e]
end Go.Proofs.Ytoahljkifikbaaa


/- Lists of rings: marked, and looked at again. Written by gen_gs.py. -/
namespace Go.Proofs.Ytoahljkifikbaaa
open Go.RowKit Pl
set_option linter.unusedVariables false
set_option linter.unusedSimpArgs false

/-- where the places of one lie. -/
structure RnSeg (w : World) (TL : List Spot) (n g o : Nat) (u : Rn) : Prop where
  gl : g < w.heap.size
  p0 : TL[n]? = some (g, o, 0)
  h1 : w.cell? ⟨g, o + 1, none⟩ = some (.slice u.s.a u.s.n u.s.c)
  q1 : ∀ s ∈ TL, ¬ (s.1 = g ∧ s.2.1 = o + 1)
  s1 : Seg TL (n + 1) u.s.a u.s.n [0]
def RnSeg.len (u : Rn) : Nat := 1 + u.s.n
theorem RnSeg.marked {w0 ws w : World} {TL : List Spot} {n g o K m : Nat} {u : Rn} (h : RnSeg w0 TL n g o u) (k : MkI w0 ws TL K m w) : RnSeg w TL n g o u :=
  { h with gl := by have := h.gl; have := k.size; omega, h1 := k.cell h.gl h.q1 h.h1 }
theorem RnSeg.later {w w' : World} {TL : List Spot} {n g o : Nat} {u : Rn} (h : RnSeg w TL n g o u) (b : Below w.heap.size w w') : RnSeg w' TL n g o u :=
  { h with gl := by have := h.gl; have := b.size; omega, h1 := (cell_block (b.block _ h.gl)).trans h.h1 }
/-- .. and of a list of them. -/
structure RnSegL (w : World) (TL : List Spot) (ao : Option Addr) (len : Nat) (us : Nat → Rn) (N : Nat → Nat) : Prop where
  one : ∀ j, j < len → ∃ g off, ao = some ⟨g, off, none⟩ ∧ RnSeg w TL (N j) g (off + j * 2) (us j)
  nx : ∀ j, j < len → N (j + 1) = N j + RnSeg.len (us j)
theorem RnSegL.marked {w0 ws w : World} {TL : List Spot} {ao : Option Addr} {len K m : Nat} {us : Nat → Rn} {N : Nat → Nat} (h : RnSegL w0 TL ao len us N) (k : MkI w0 ws TL K m w) : RnSegL w TL ao len us N := ⟨fun j hj => by obtain ⟨g, off, e, x⟩ := h.one j hj; exact ⟨g, off, e, x.marked k⟩, h.nx⟩
theorem RnSegL.later {w w' : World} {TL : List Spot} {ao : Option Addr} {len : Nat} {us : Nat → Rn} {N : Nat → Nat} (h : RnSegL w TL ao len us N) (b : Below w.heap.size w w') : RnSegL w' TL ao len us N := ⟨fun j hj => by obtain ⟨g, off, e, x⟩ := h.one j hj; exact ⟨g, off, e, x.later b⟩, h.nx⟩
theorem RnSegL.le {w : World} {TL : List Spot} {ao : Option Addr} {len : Nat} {us : Nat → Rn} {N : Nat → Nat} (h : RnSegL w TL ao len us N) : ∀ (d j : Nat), j + d = len → N j ≤ N len
  | 0, j, e => by rw [show j = len by omega]; exact Nat.le_refl _
  | d + 1, j, e => by
    have h1 := h.nx j (by omega)
    have h2 := h.le d (j + 1) (by omega)
    omega
set_option maxRecDepth 100000 in
set_option maxHeartbeats 16000000 in
theorem markrings_sp (w0 : World) (TL : List Spot) (K : Nat) (ao : Option Addr) (len cap : Nat) (us : Nat → Rn) (N : Nat → Nat) (z : Int) (w : World) (hT : Hid (TLok w0 TL)) (hI : Hid (MkI w0 w TL K (N 0) w)) (hs : Hid (RnSegL w0 TL ao len us N)) (hz : Hid (z = ((K + N 0 : Nat) : Int))) (hl : K + N len ≤ 39999990) (hll : len ≤ 39999990) (hK : 0 < K) :
    Calls Try.prog 18 #[.slice ao len cap, .int .i64 z] w fun e w' => ∃ M : Nat, e = .returned (.int .i64 (M : Int)) ∧ M = K + N len ∧ MkI w0 w TL K (N len) w' := by
  obtain ⟨M0, hM0⟩ : ∃ M : Nat, M = K + N 0 := ⟨_, rfl⟩
  have e0 : z = (M0 : Int) := by have := hz.out; omega
  subst e0
  have HM0 : Hid (M0 = K + N 0) := hM0
  clear hM0 hz
  go_enter Try.func18, Try.ntmps18
  go_wp2_with fail
  go_loopw [1, 5] (fun kk i wr => ∃ (j : Nat), j ≤ len ∧ i = .int .i64 (j : Int) ∧ kk = .int .i64 ((K + N j : Nat) : Int) ∧ Hid (MkI w0 w TL K (N j) wr)) (fun _ i _ => len - (intOf i).toNat)
  case atStart => exact ⟨0, by omega, rfl, by have := HM0.out; congr 1; omega, hI⟩
  case round =>
    obtain ⟨j, hj, rfl, rfl, HI⟩ := hrel
    obtain ⟨M, hM⟩ : ∃ M : Nat, M = K + N j := ⟨_, rfl⟩
    rw [← hM]
    have HM : Hid (M = K + N j) := hM
    clear hM
    by_cases hlt : j < len
    · obtain ⟨g, off, rfl, sg⟩ := hs.out.one j hlt
      have HNX : Hid _ := hs.out.nx j hlt
      have hle := hs.out.le (len - (j + 1)) (j + 1) (by omega)
      obtain ⟨u, hu⟩ : ∃ u, us j = u := ⟨_, rfl⟩
      rw [hu] at sg HNX
      have hle2 : N j + (1 + u.s.n) ≤ N len := by have := HNX.out; unfold RnSeg.len at this; omega
      obtain ⟨n, hn⟩ : ∃ n, n = N j := ⟨_, rfl⟩
      rw [← hn] at sg HM HNX hle2 HI
      have HN : Hid (n = N j) := hn
      obtain ⟨o, ho⟩ : ∃ o, o = off + j * 2 := ⟨_, rfl⟩
      rw [← ho] at sg
      have HO : Hid (o = off + j * 2) := ho
      have SG : Hid (RnSeg w0 TL n g o u) := sg
      clear sg hu hn ho hle
      have hMl : M ≤ 39999990 := by have := HM.out; omega
      have i0 : (0 : Int) ≤ (j : Int) := by omega
      have i1 : (j : Int) < (len : Int) := by omega
      have sp : TL[n]? = some (g, off + j * 2, 0) := by have h := SG.out.p0; rw [HO.out] at h; exact h
      have SP : Hid _ := sp
      clear sp
      go_wp2_with (first | (refine wpList_haltS 3 _ _ rfl ?_))
      refine Stp.go ?_
      refine wpList_stK rfl 3 _ _ rfl rfl _ rfl Try.sizeK3 hT.out HI.out SP.out (vkI (by have := HM.out; omega)) ?_
      intro w1 hi
      have HI : Hid (MkI w0 w TL K (n + 1) w1) := hi
      clear hi SP
      have hc : w1.cell? ⟨g, off + j * 2 + 1, none⟩ = some (.slice u.s.a u.s.n u.s.c) := by have h := HI.out.cell SG.out.gl SG.out.q1 SG.out.h1; rw [HO.out] at h; exact h
      go_wp2_with fail
      clear hc
      refine (markI_z w0 TL K (n + 1) u.s.a u.s.n u.s.c ((M : Int) + 1) _ hT HI.out.anchor SG.out.s1 (by have := HM.out; omega) (by omega)).mono ?_
      rintro e w2 ⟨M2, rfl, hm, hi⟩
      have HM : Hid (M2 = K + (n + 1 + u.s.n)) := hm
      have HI : Hid (MkI w0 w TL K (n + 1 + u.s.n) w2) := HI.out.back hi
      have hMl : M2 ≤ 39999990 := by omega
      clear hm hi
      go_wp2_with fail
      go_roundw
      case rel =>
        have e : K + N (j + 1) = K + (n + (1 + u.s.n)) := by have h1 := HNX.out; unfold RnSeg.len at h1; omega
        refine ⟨j + 1, by omega, by go_num, by have := HM.out; congr 1; omega, ?_⟩
        have h := HI.out
        rw [show N (j + 1) = n + 1 + u.s.n by omega]
        exact h
      case measure => simp [intOf]; omega
    · obtain rfl : j = len := by omega
      go_wp2_with fail
      go_ret
      exact ⟨M, rfl, HM.out, HI.out⟩
set_option maxRecDepth 100000 in
set_option maxHeartbeats 16000000 in
theorem heldrings_sp (TL : List Spot) (K : Nat) (ao : Option Addr) (len cap : Nat) (us : Nat → Rn) (N : Nat → Nat) (z : Int) (w : World) (hH : Hid (Held w TL K)) (hs : Hid (RnSegL w TL ao len us N)) (hz : Hid (z = ((K + N 0 : Nat) : Int))) (hl : K + N len ≤ 39999990) (hll : len ≤ 39999990) (hK : 0 < K) :
    Calls Try.prog 40 #[.slice ao len cap, .int .i64 z] w fun e w' => ∃ M : Nat, e = .returned (.int .i64 (M : Int)) ∧ M = K + N len ∧ Below w.heap.size w w' := by
  obtain ⟨M0, hM0⟩ : ∃ M : Nat, M = K + N 0 := ⟨_, rfl⟩
  have e0 : z = (M0 : Int) := by have := hz.out; omega
  subst e0
  have HM0 : Hid (M0 = K + N 0) := hM0
  clear hM0 hz
  go_enter Try.func40, Try.ntmps40
  go_wp2_with fail
  go_loopw [1, 5] (fun kk i wr => ∃ (j : Nat), j ≤ len ∧ i = .int .i64 (j : Int) ∧ kk = .int .i64 ((K + N j : Nat) : Int) ∧ Hid (Below w.heap.size w wr)) (fun _ i _ => len - (intOf i).toNat)
  case atStart => exact ⟨0, by omega, rfl, by have := HM0.out; congr 1; omega, Below.refl _ _⟩
  case round =>
    obtain ⟨j, hj, rfl, rfl, HI⟩ := hrel
    obtain ⟨M, hM⟩ : ∃ M : Nat, M = K + N j := ⟨_, rfl⟩
    rw [← hM]
    have HM : Hid (M = K + N j) := hM
    clear hM
    by_cases hlt : j < len
    · obtain ⟨g, off, rfl, sg⟩ := hs.out.one j hlt
      have HNX : Hid _ := hs.out.nx j hlt
      have hle := hs.out.le (len - (j + 1)) (j + 1) (by omega)
      obtain ⟨u, hu⟩ : ∃ u, us j = u := ⟨_, rfl⟩
      rw [hu] at sg HNX
      have hle2 : N j + (1 + u.s.n) ≤ N len := by have := HNX.out; unfold RnSeg.len at this; omega
      obtain ⟨n, hn⟩ : ∃ n, n = N j := ⟨_, rfl⟩
      rw [← hn] at sg HM HNX hle2
      have HN : Hid (n = N j) := hn
      obtain ⟨o, ho⟩ : ∃ o, o = off + j * 2 := ⟨_, rfl⟩
      rw [← ho] at sg
      have HO : Hid (o = off + j * 2) := ho
      have SG : Hid (RnSeg w TL n g o u) := sg
      have SG : Hid (RnSeg wr TL n g o u) := SG.out.later HI.out
      have HH : Hid (Held wr TL K) := hH.out.later HI.out
      clear sg hu hn ho hle
      have hMl : M ≤ 39999990 := by have := HM.out; omega
      have i0 : (0 : Int) ≤ (j : Int) := by omega
      have i1 : (j : Int) < (len : Int) := by omega
      have hc0 : wr.cell? ⟨g, off + j * 2, none⟩ = some (.int .i64 ((M : Int))) := by have h := HH.out.int SG.out.p0 (z := (M : Int)) (by have := HM.out; omega); rw [HO.out] at h; exact h
      have hc : wr.cell? ⟨g, off + j * 2 + 1, none⟩ = some (.slice u.s.a u.s.n u.s.c) := by have h := SG.out.h1; rw [HO.out] at h; exact h
      go_wp2_with fail
      clear hc hc0
      refine (heldI_z TL K (n + 1) u.s.a u.s.n u.s.c ((M : Int) + 1) _ HH SG.out.s1 (by have := HM.out; omega) (by omega)).mono ?_
      rintro e w2 ⟨M2, rfl, hm, b⟩
      have HM : Hid (M2 = K + (n + 1 + u.s.n)) := hm
      have HH : Hid (Held w2 TL K) := HH.out.later b
      have SG : Hid (RnSeg w2 TL n g o u) := SG.out.later b
      have HI : Hid (Below w.heap.size w w2) := bl_next HI.out b
      have hMl : M2 ≤ 39999990 := by omega
      have hM0 : decide ((M2 : Int) < 0) = false := by simp
      clear hm b
      go_wp2_with fail
      go_roundw
      case rel =>
        have e : K + N (j + 1) = K + (n + (1 + u.s.n)) := by have h1 := HNX.out; unfold RnSeg.len at h1; omega
        exact ⟨j + 1, by omega, by go_num, by have := HM.out; congr 1; omega, HI⟩
      case measure => simp [intOf]; omega
    · obtain rfl : j = len := by omega
      go_wp2_with fail
      go_ret
      exact ⟨M, rfl, HM.out, HI.out⟩
end Go.Proofs.Ytoahljkifikbaaa


/- Events in plain words and in memory; one event measured, copied, held against another. Written by gen_ev.py. -/
namespace Go.Proofs.Ytoahljkifikbaaa
open Go.RowKit Pl
set_option linter.unusedVariables false
set_option linter.unusedSimpArgs false

/-- an event, and where its lists lie. -/
structure Ev where
  k : Int
  rid : Int
  ms : List Int
  q : Int
  f : Int
  l : Int
  t : ByteArray
  wi : List Int
  sm : Sv
  sw : Sv
def Ev.row (e : Ev) : List Value := [.int .i64 e.k, .int .i64 e.rid, .slice e.sm.a e.sm.n e.sm.c, .int .i64 e.q, .int .i64 e.f, .int .i64 e.l, .string e.t, .slice e.sw.a e.sw.n e.sw.c]
/-- what an event says. -/
def Ev.pl (e : Ev) : Int × Int × List Int × It × List Int := (e.k, e.rid, e.ms, (e.q, e.f, e.l, e.t), e.wi)
/-- its lists are read. -/
def Ev.R (w : World) (e : Ev) : Prop := RI w e.sm.v e.ms ∧ RI w e.sw.v e.wi
theorem Ev.R.stays {w w' : World} {e : Ev} (h : e.R w) (b : Below w.heap.size w w') : e.R w' := ⟨h.1.stays b, h.2.stays b⟩
def Ev.S (e : Ev) : Prop := e.ms.length ≤ 1048576 ∧ e.wi.length ≤ 1048576 ∧ e.t.size ≤ 1048576
def Ev.L (e : Ev) : Prop := e.ms.length ≤ 9223372036854775807 ∧ e.wi.length ≤ 9223372036854775807 ∧ e.t.size ≤ 9223372036854775807
def Ev.sz (e : Ev) : Nat := e.ms.length + e.t.size + e.wi.length
/-- its lists are of a call's own. -/
def Ev.O (w : World) (B : Nat) (e : Ev) : Prop := OwnI w B e.sm.v e.ms ∧ OwnI w B e.sw.v e.wi
theorem Ev.O.r {w : World} {B : Nat} {e : Ev} (h : e.O w B) : e.R w := ⟨h.1.ri, h.2.ri⟩
set_option maxRecDepth 100000 in
set_option maxHeartbeats 8000000 in
theorem eqEvent_any (e : Ev) (a1 a2 b1 b2 : Sv) (w : World) (hs : Hid e.S) (h1 : Hid (OwnI w 0 a1.v e.ms)) (h2 : Hid (OwnI w 0 a2.v e.wi)) (h3 : Hid (OwnI w 0 b1.v e.ms)) (h4 : Hid (OwnI w 0 b2.v e.wi)) :
    Calls Try.prog 52 #[.agg #[.int .i64 e.k, .int .i64 e.rid, .slice a1.a a1.n a1.c, .int .i64 e.q, .int .i64 e.f, .int .i64 e.l, .string e.t, .slice a2.a a2.n a2.c], .agg #[.int .i64 e.k, .int .i64 e.rid, .slice b1.a b1.n b1.c, .int .i64 e.q, .int .i64 e.f, .int .i64 e.l, .string e.t, .slice b2.a b2.n b2.c]] w fun x w' => x = .returned (.bool true) ∧ Below w.heap.size w w' := by
  have hn1 : (w.alloc (.cells #[.int .i64 e.k, .int .i64 e.rid, .slice a1.a a1.n a1.c, .int .i64 e.q, .int .i64 e.f, .int .i64 e.l, .string e.t, .slice a2.a a2.n a2.c] 90)).heap.size = w.heap.size + 1 := by simp
  have LA : Hid (Bx ((w.alloc (.cells #[.int .i64 e.k, .int .i64 e.rid, .slice a1.a a1.n a1.c, .int .i64 e.q, .int .i64 e.f, .int .i64 e.l, .string e.t, .slice a2.a a2.n a2.c] 90)).alloc (.cells #[.int .i64 e.k, .int .i64 e.rid, .slice b1.a b1.n b1.c, .int .i64 e.q, .int .i64 e.f, .int .i64 e.l, .string e.t, .slice b2.a b2.n b2.c] 90)) w.heap.size 90 [.int .i64 e.k, .int .i64 e.rid, .slice a1.a a1.n a1.c, .int .i64 e.q, .int .i64 e.f, .int .i64 e.l, .string e.t, .slice a2.a a2.n a2.c]) := by
    have h := Bx.new w 90 [.int .i64 e.k, .int .i64 e.rid, .slice a1.a a1.n a1.c, .int .i64 e.q, .int .i64 e.f, .int .i64 e.l, .string e.t, .slice a2.a a2.n a2.c]
    exact (h).later ((Below.refl _ _).alloc (Nat.le_refl _) _)
  have LB : Hid (Bx ((w.alloc (.cells #[.int .i64 e.k, .int .i64 e.rid, .slice a1.a a1.n a1.c, .int .i64 e.q, .int .i64 e.f, .int .i64 e.l, .string e.t, .slice a2.a a2.n a2.c] 90)).alloc (.cells #[.int .i64 e.k, .int .i64 e.rid, .slice b1.a b1.n b1.c, .int .i64 e.q, .int .i64 e.f, .int .i64 e.l, .string e.t, .slice b2.a b2.n b2.c] 90)) (w.heap.size + 1) 90 [.int .i64 e.k, .int .i64 e.rid, .slice b1.a b1.n b1.c, .int .i64 e.q, .int .i64 e.f, .int .i64 e.l, .string e.t, .slice b2.a b2.n b2.c]) := by
    have h := Bx.new (w.alloc (.cells #[.int .i64 e.k, .int .i64 e.rid, .slice a1.a a1.n a1.c, .int .i64 e.q, .int .i64 e.f, .int .i64 e.l, .string e.t, .slice a2.a a2.n a2.c] 90)) 90 [.int .i64 e.k, .int .i64 e.rid, .slice b1.a b1.n b1.c, .int .i64 e.q, .int .i64 e.f, .int .i64 e.l, .string e.t, .slice b2.a b2.n b2.c]
    rw [hn1] at h
    exact h
  have BW : Hid (Below w.heap.size w ((w.alloc (.cells #[.int .i64 e.k, .int .i64 e.rid, .slice a1.a a1.n a1.c, .int .i64 e.q, .int .i64 e.f, .int .i64 e.l, .string e.t, .slice a2.a a2.n a2.c] 90)).alloc (.cells #[.int .i64 e.k, .int .i64 e.rid, .slice b1.a b1.n b1.c, .int .i64 e.q, .int .i64 e.f, .int .i64 e.l, .string e.t, .slice b2.a b2.n b2.c] 90))) := (((Below.refl _ _).alloc (by simp) _).alloc (by simp; try omega) _)
  clear hn1
  have H1 : Hid (OwnI ((w.alloc (.cells #[.int .i64 e.k, .int .i64 e.rid, .slice a1.a a1.n a1.c, .int .i64 e.q, .int .i64 e.f, .int .i64 e.l, .string e.t, .slice a2.a a2.n a2.c] 90)).alloc (.cells #[.int .i64 e.k, .int .i64 e.rid, .slice b1.a b1.n b1.c, .int .i64 e.q, .int .i64 e.f, .int .i64 e.l, .string e.t, .slice b2.a b2.n b2.c] 90)) 0 a1.v e.ms) := h1.out.keep fun _ _ hk => BW.out.block _ hk
  have H2 : Hid (OwnI ((w.alloc (.cells #[.int .i64 e.k, .int .i64 e.rid, .slice a1.a a1.n a1.c, .int .i64 e.q, .int .i64 e.f, .int .i64 e.l, .string e.t, .slice a2.a a2.n a2.c] 90)).alloc (.cells #[.int .i64 e.k, .int .i64 e.rid, .slice b1.a b1.n b1.c, .int .i64 e.q, .int .i64 e.f, .int .i64 e.l, .string e.t, .slice b2.a b2.n b2.c] 90)) 0 a2.v e.wi) := h2.out.keep fun _ _ hk => BW.out.block _ hk
  have H3 : Hid (OwnI ((w.alloc (.cells #[.int .i64 e.k, .int .i64 e.rid, .slice a1.a a1.n a1.c, .int .i64 e.q, .int .i64 e.f, .int .i64 e.l, .string e.t, .slice a2.a a2.n a2.c] 90)).alloc (.cells #[.int .i64 e.k, .int .i64 e.rid, .slice b1.a b1.n b1.c, .int .i64 e.q, .int .i64 e.f, .int .i64 e.l, .string e.t, .slice b2.a b2.n b2.c] 90)) 0 b1.v e.ms) := h3.out.keep fun _ _ hk => BW.out.block _ hk
  have H4 : Hid (OwnI ((w.alloc (.cells #[.int .i64 e.k, .int .i64 e.rid, .slice a1.a a1.n a1.c, .int .i64 e.q, .int .i64 e.f, .int .i64 e.l, .string e.t, .slice a2.a a2.n a2.c] 90)).alloc (.cells #[.int .i64 e.k, .int .i64 e.rid, .slice b1.a b1.n b1.c, .int .i64 e.q, .int .i64 e.f, .int .i64 e.l, .string e.t, .slice b2.a b2.n b2.c] 90)) 0 b2.v e.wi) := h4.out.keep fun _ _ hk => BW.out.block _ hk
  clear h1 h2 h3 h4
  have d0 : (e.k != e.k) = false := by simp
  have a0 := LA.out.cell 0
  have b0 := LB.out.cell 0
  simp only [List.getElem?_cons_zero] at a0 b0
  go_enter Try.func52, Try.ntmps52
  go_wp2_with (first | (refine wpList_ldG rfl 51 _ rfl w.heap.size 1 rfl 90 _ LA.out [.int .i64 e.rid, .slice a1.a a1.n a1.c] rfl _ Try.underlying51 rfl Try.sizeR ?_) | (refine wpList_ldG rfl 51 _ rfl (w.heap.size + 1) 1 rfl 90 _ LB.out [.int .i64 e.rid, .slice b1.a b1.n b1.c] rfl _ Try.underlying51 rfl Try.sizeR ?_))
  generalize ((w.alloc (.cells #[.int .i64 e.k, .int .i64 e.rid, .slice a1.a a1.n a1.c, .int .i64 e.q, .int .i64 e.f, .int .i64 e.l, .string e.t, .slice a2.a a2.n a2.c] 90)).alloc (.cells #[.int .i64 e.k, .int .i64 e.rid, .slice b1.a b1.n b1.c, .int .i64 e.q, .int .i64 e.f, .int .i64 e.l, .string e.t, .slice b2.a b2.n b2.c] 90)) = W at *
  clear a0 b0 d0
  refine (eqRing_same e.rid a1.v b1.v e.ms 0 0 _ H1 H3 hs.out.1).mono ?_
  rintro e w1 ⟨rfl, b⟩
  have z_w1 : W.heap.size ≤ w1.heap.size := b.size
  have H1 : Hid (OwnI w1 0 (a1.v) (e.ms)) := H1.out.keep fun _ _ hk => (b).block _ hk
  have H2 : Hid (OwnI w1 0 (a2.v) (e.wi)) := H2.out.keep fun _ _ hk => (b).block _ hk
  have H3 : Hid (OwnI w1 0 (b1.v) (e.ms)) := H3.out.keep fun _ _ hk => (b).block _ hk
  have H4 : Hid (OwnI w1 0 (b2.v) (e.wi)) := H4.out.keep fun _ _ hk => (b).block _ hk
  have LA : Hid (Bx w1 w.heap.size 90 [.int .i64 e.k, .int .i64 e.rid, .slice a1.a a1.n a1.c, .int .i64 e.q, .int .i64 e.f, .int .i64 e.l, .string e.t, .slice a2.a a2.n a2.c]) := LA.out.later b
  have LB : Hid (Bx w1 (w.heap.size + 1) 90 [.int .i64 e.k, .int .i64 e.rid, .slice b1.a b1.n b1.c, .int .i64 e.q, .int .i64 e.f, .int .i64 e.l, .string e.t, .slice b2.a b2.n b2.c]) := LB.out.later b
  have BW : Hid (Below w.heap.size w w1) := bl_next BW.out b
  clear b
  go_wp2_with (first | (refine wpList_ldG rfl 83 _ rfl w.heap.size 3 rfl 90 _ LA.out [.int .i64 e.q, .int .i64 e.f, .int .i64 e.l, .string e.t] rfl _ Try.underlying83 rfl Try.sizeI ?_) | (refine wpList_ldG rfl 83 _ rfl (w.heap.size + 1) 3 rfl 90 _ LB.out [.int .i64 e.q, .int .i64 e.f, .int .i64 e.l, .string e.t] rfl _ Try.underlying83 rfl Try.sizeI ?_))
  refine (eqItem_same e.q e.f e.l e.t _).mono ?_
  rintro e w2 ⟨rfl, b⟩
  have z_w2 : w1.heap.size ≤ w2.heap.size := b.size
  have H1 : Hid (OwnI w2 0 (a1.v) (e.ms)) := H1.out.keep fun _ _ hk => (b).block _ hk
  have H2 : Hid (OwnI w2 0 (a2.v) (e.wi)) := H2.out.keep fun _ _ hk => (b).block _ hk
  have H3 : Hid (OwnI w2 0 (b1.v) (e.ms)) := H3.out.keep fun _ _ hk => (b).block _ hk
  have H4 : Hid (OwnI w2 0 (b2.v) (e.wi)) := H4.out.keep fun _ _ hk => (b).block _ hk
  have LA : Hid (Bx w2 w.heap.size 90 [.int .i64 e.k, .int .i64 e.rid, .slice a1.a a1.n a1.c, .int .i64 e.q, .int .i64 e.f, .int .i64 e.l, .string e.t, .slice a2.a a2.n a2.c]) := LA.out.later b
  have LB : Hid (Bx w2 (w.heap.size + 1) 90 [.int .i64 e.k, .int .i64 e.rid, .slice b1.a b1.n b1.c, .int .i64 e.q, .int .i64 e.f, .int .i64 e.l, .string e.t, .slice b2.a b2.n b2.c]) := LB.out.later b
  have BW : Hid (Below w.heap.size w w2) := bl_next BW.out b
  clear b
  have a7 := LA.out.cell 7
  have b7 := LB.out.cell 7
  simp only [List.getElem?_cons_succ, List.getElem?_cons_zero] at a7 b7
  go_wp2_with fail
  clear a7 b7
  refine (eqI_same a2.v b2.v e.wi 0 0 _ H2.out H4.out hs.out.2.1).mono ?_
  rintro e w3 ⟨rfl, b⟩
  have z_w3 : w2.heap.size ≤ w3.heap.size := b.size
  have H1 : Hid (OwnI w3 0 (a1.v) (e.ms)) := H1.out.keep fun _ _ hk => (b).block _ hk
  have H2 : Hid (OwnI w3 0 (a2.v) (e.wi)) := H2.out.keep fun _ _ hk => (b).block _ hk
  have H3 : Hid (OwnI w3 0 (b1.v) (e.ms)) := H3.out.keep fun _ _ hk => (b).block _ hk
  have H4 : Hid (OwnI w3 0 (b2.v) (e.wi)) := H4.out.keep fun _ _ hk => (b).block _ hk
  have LA : Hid (Bx w3 w.heap.size 90 [.int .i64 e.k, .int .i64 e.rid, .slice a1.a a1.n a1.c, .int .i64 e.q, .int .i64 e.f, .int .i64 e.l, .string e.t, .slice a2.a a2.n a2.c]) := LA.out.later b
  have LB : Hid (Bx w3 (w.heap.size + 1) 90 [.int .i64 e.k, .int .i64 e.rid, .slice b1.a b1.n b1.c, .int .i64 e.q, .int .i64 e.f, .int .i64 e.l, .string e.t, .slice b2.a b2.n b2.c]) := LB.out.later b
  have BW : Hid (Below w.heap.size w w3) := bl_next BW.out b
  clear b
  go_wp2_with fail
  go_ret
  exact ⟨rfl, BW.out⟩
end Go.Proofs.Ytoahljkifikbaaa


/- Lists of events that a law measures and copies. Written by gen_ls.py. -/
namespace Go.Proofs.Ytoahljkifikbaaa
open Go.RowKit Pl
set_option linter.unusedVariables false
set_option linter.unusedSimpArgs false

theorem Ev.O.keep {w w' : World} {B : Nat} {e : Ev} (h : e.O w B) (hk : ∀ b, B ≤ b → b < w.heap.size → w'.heap[b]? = w.heap[b]?) : e.O w' B := ⟨h.1.keep fun b hb hl => hk b (h.1.lt b hb).1 hl, h.2.keep fun b hb hl => hk b (h.2.lt b hb).1 hl⟩
theorem Ev.O.below {w w' : World} {B : Nat} {e : Ev} (h : e.O w B) (b : Below w.heap.size w w') : e.O w' B := h.keep fun k _ hk => b.block k hk
theorem Ev.O.down {w : World} {B B' : Nat} {e : Ev} (h : e.O w B) (hB : B' ≤ B) : e.O w B' := ⟨h.1.down hB, h.2.down hB⟩
def Ev.own (e : Ev) (x : Nat) : Prop := e.sm.v.ownBlock = some x ∨ e.sw.v.ownBlock = some x
theorem Ev.O.lt {w : World} {B : Nat} {e : Ev} (h : e.O w B) (x : Nat) (hx : e.own x) : B ≤ x ∧ x < w.heap.size := by
  rcases hx with hx | hx
  · exact h.1.lt x hx
  · exact h.2.lt x hx
def Ev.Up (e : Ev) : Prop := ∀ a c, e.sm.v.ownBlock = some a → e.sw.v.ownBlock = some c → a < c
/-- a list of them that is read. -/
def EvsR (w : World) (s : Sv) (es : List Ev) : Prop := s.n = es.length ∧ RwA w s.a 8 (es.map Ev.row) ∧ ∀ e ∈ es, e.R w
theorem EvsR.stays {w w' : World} {s : Sv} {es : List Ev} (h : EvsR w s es) (b : Below w.heap.size w w') : EvsR w' s es := ⟨h.1, h.2.1.stays b, fun e he => (h.2.2 e he).stays b⟩
/-- a list of the call's own. -/
def EvsO (w : World) (B : Nat) (s : Sv) (es : List Ev) : Prop := SlN w 90 8 B s.v (es.map Ev.row) ∧ ∀ e ∈ es, e.O w B
theorem EvsO.r {w : World} {B : Nat} {s : Sv} {es : List Ev} (h : EvsO w B s es) : EvsR w s es := ⟨by have := h.1.slen; simpa using this, h.1.rwa, fun e he => (h.2 e he).r⟩
theorem EvsO.keep {w w' : World} {B : Nat} {s : Sv} {es : List Ev} (h : EvsO w B s es) (hk : ∀ b, B ≤ b → b < w.heap.size → w'.heap[b]? = w.heap[b]?) : EvsO w' B s es := ⟨h.1.keep fun b hb hl => hk b (h.1.lt b hb).1 hl, fun e he => (h.2 e he).keep hk⟩
theorem EvsO.below {w w' : World} {B : Nat} {s : Sv} {es : List Ev} (h : EvsO w B s es) (b : Below w.heap.size w w') : EvsO w' B s es := h.keep fun k _ hk => b.block k hk
theorem EvsO.down {w : World} {B B' : Nat} {s : Sv} {es : List Ev} (h : EvsO w B s es) (hB : B' ≤ B) : EvsO w B' s es := ⟨h.1.down hB, fun e he => (h.2 e he).down hB⟩
theorem EvsO.nil (w : World) (B : Nat) : EvsO w B zSv [] := ⟨SlN.nil _ _ _ _, fun e he => by cases he⟩
/-- each one's lists lie behind those of the ones ahead. -/
def EvsUp (es : List Ev) : Prop := (∀ e ∈ es, e.Up) ∧ es.Pairwise fun a b => ∀ x y, a.own x → b.own y → x < y
def Evs.tot (es : List Ev) : Nat := (es.map fun e => e.sz).sum
theorem Evs.tot_take (es : List Ev) (k : Nat) (hk : k < es.length) : Evs.tot (es.take (k + 1)) = Evs.tot (es.take k) + es[k].sz := by
  unfold Evs.tot
  rw [List.take_succ_eq_append_getElem hk, List.map_append, List.sum_append]
  simp

end Go.Proofs.Ytoahljkifikbaaa


/- Lists of bundles that a law measures and copies. Written by gen_ls.py. -/
namespace Go.Proofs.Ytoahljkifikbaaa
open Go.RowKit Pl
set_option linter.unusedVariables false
set_option linter.unusedSimpArgs false

/-- a bundle, and where its list lies. -/
structure Bu where
  f : Int
  n : Int
  o : Int
  ts : List It
  s : Sv
def Bu.ok (b : Bu) : Bool := bunB b.f b.n b.o b.ts
/-- what a bundle says. -/
def Bu.pl (b : Bu) : Int × Int × Int × List It := (b.f, b.n, b.o, b.ts)
def Bu.row (b : Bu) : List Value := [.int .i64 b.f, .int .i64 b.n, .int .i64 b.o, .slice b.s.a b.s.n b.s.c]
def Bu.R (w : World) (b : Bu) : Prop := RSt w b.s b.ts
theorem Bu.R.stays {w w' : World} {b : Bu} (h : b.R w) (hb : Below w.heap.size w w') : b.R w' := RSt.stays h hb
def Bu.S (b : Bu) : Prop := b.ts.length ≤ 1048576
def Bu.L (b : Bu) : Prop := b.ts.length ≤ 9223372036854775807 ∧ ∀ x ∈ b.ts, x.2.2.2.size ≤ 9223372036854775807
def Bu.sz (b : Bu) : Nat := b.ts.length
def Bu.O (w : World) (B : Nat) (b : Bu) : Prop := SlI w B b.s.v b.ts
theorem Bu.O.r {w : World} {B : Nat} {b : Bu} (h : b.O w B) : b.R w := SlI.rst h
theorem Bu.O.keep {w w' : World} {B : Nat} {e : Bu} (h : e.O w B) (hk : ∀ b, B ≤ b → b < w.heap.size → w'.heap[b]? = w.heap[b]?) : e.O w' B := Sl.keep h fun b hb hl => hk b (Sl.lt h b hb).1 hl
theorem Bu.O.below {w w' : World} {B : Nat} {e : Bu} (h : e.O w B) (b : Below w.heap.size w w') : e.O w' B := h.keep fun k _ hk => b.block k hk
theorem Bu.O.down {w : World} {B B' : Nat} {e : Bu} (h : e.O w B) (hB : B' ≤ B) : e.O w B' := Sl.down h hB
def Bu.own (e : Bu) (x : Nat) : Prop := e.s.v.ownBlock = some x
theorem Bu.O.lt {w : World} {B : Nat} {e : Bu} (h : e.O w B) (x : Nat) (hx : e.own x) : B ≤ x ∧ x < w.heap.size := Sl.lt h x hx
def Bu.Up (e : Bu) : Prop := True
/-- a list of them that is read. -/
def BusR (w : World) (s : Sv) (es : List Bu) : Prop := s.n = es.length ∧ RwA w s.a 4 (es.map Bu.row) ∧ ∀ e ∈ es, e.R w
theorem BusR.stays {w w' : World} {s : Sv} {es : List Bu} (h : BusR w s es) (b : Below w.heap.size w w') : BusR w' s es := ⟨h.1, h.2.1.stays b, fun e he => (h.2.2 e he).stays b⟩
/-- a list of the call's own. -/
def BusO (w : World) (B : Nat) (s : Sv) (es : List Bu) : Prop := SlN w 85 4 B s.v (es.map Bu.row) ∧ ∀ e ∈ es, e.O w B
theorem BusO.r {w : World} {B : Nat} {s : Sv} {es : List Bu} (h : BusO w B s es) : BusR w s es := ⟨by have := h.1.slen; simpa using this, h.1.rwa, fun e he => (h.2 e he).r⟩
theorem BusO.keep {w w' : World} {B : Nat} {s : Sv} {es : List Bu} (h : BusO w B s es) (hk : ∀ b, B ≤ b → b < w.heap.size → w'.heap[b]? = w.heap[b]?) : BusO w' B s es := ⟨h.1.keep fun b hb hl => hk b (h.1.lt b hb).1 hl, fun e he => (h.2 e he).keep hk⟩
theorem BusO.below {w w' : World} {B : Nat} {s : Sv} {es : List Bu} (h : BusO w B s es) (b : Below w.heap.size w w') : BusO w' B s es := h.keep fun k _ hk => b.block k hk
theorem BusO.down {w : World} {B B' : Nat} {s : Sv} {es : List Bu} (h : BusO w B s es) (hB : B' ≤ B) : BusO w B' s es := ⟨h.1.down hB, fun e he => (h.2 e he).down hB⟩
theorem BusO.nil (w : World) (B : Nat) : BusO w B zSv [] := ⟨SlN.nil _ _ _ _, fun e he => by cases he⟩
/-- each one's lists lie behind those of the ones ahead. -/
def BusUp (es : List Bu) : Prop := (∀ e ∈ es, e.Up) ∧ es.Pairwise fun a b => ∀ x y, a.own x → b.own y → x < y
def Bus.tot (es : List Bu) : Nat := (es.map fun e => e.sz).sum
theorem Bus.tot_take (es : List Bu) (k : Nat) (hk : k < es.length) : Bus.tot (es.take (k + 1)) = Bus.tot (es.take k) + es[k].sz := by
  unfold Bus.tot
  rw [List.take_succ_eq_append_getElem hk, List.map_append, List.sum_append]
  simp

end Go.Proofs.Ytoahljkifikbaaa


/- Lists of events, held against each other. Written by gen_gs.py. -/
namespace Go.Proofs.Ytoahljkifikbaaa
open Go.RowKit Pl
set_option linter.unusedVariables false
set_option linter.unusedSimpArgs false

set_option maxRecDepth 100000 in
set_option maxHeartbeats 4000000 in
theorem eqevents_sp (ao bo : Option Addr) (len c1 c2 : Nat) (r1 r2 : Nat → List Value) (w : World) (h1 : Hid (∀ j, j < len → ∃ g off, ao = some ⟨g, off, none⟩ ∧ g < w.heap.size ∧ (r1 j).length = 8 ∧ w.rangeAt g (off + j * 8) (r1 j))) (h2 : Hid (∀ j, j < len → ∃ g off, bo = some ⟨g, off, none⟩ ∧ g < w.heap.size ∧ (r2 j).length = 8 ∧ w.rangeAt g (off + j * 8) (r2 j))) (hE : Hid (∀ j, j < len → ∀ W, Below w.heap.size w W → Calls Try.prog 52 #[.agg (r1 j).toArray, .agg (r2 j).toArray] W fun e w' => e = .returned (.bool true) ∧ Below W.heap.size W w')) (hl : len ≤ 39999990) :
    Calls Try.prog 35 #[.slice ao len c1, .slice bo len c2] w fun e w' => e = .returned (.bool true) ∧ Below w.heap.size w w' := by
  go_enter Try.func35, Try.ntmps35
  go_wp2_with fail
  go_loopw [5] (fun i wr => ∃ (j : Nat), j ≤ len ∧ i = .int .i64 (j : Int) ∧ Hid (Below w.heap.size w wr)) (fun i _ => len - (intOf i).toNat)
  case atStart => exact ⟨0, by omega, rfl, Below.refl _ _⟩
  case round =>
    obtain ⟨j, hj, rfl, HB⟩ := hrel
    by_cases hlt : j < len
    · obtain ⟨g1, o1, rfl, l1, n1, x1⟩ := h1.out j hlt
      obtain ⟨g2, o2, rfl, l2, n2, x2⟩ := h2.out j hlt
      have X1 : Hid (w.rangeAt g1 (o1 + j * 8) (r1 j)) := x1
      have X2 : Hid (w.rangeAt g2 (o2 + j * 8) (r2 j)) := x2
      have N1 : Hid ((Try.prog.info? 90).map (·.size) = some (r1 j).length) := (by rw [n1]; exact Try.sizeEv : _ = _)
      have N2 : Hid ((Try.prog.info? 90).map (·.size) = some (r2 j).length) := (by rw [n2]; exact Try.sizeEv : _ = _)
      clear x1 x2 n1 n2
      have EJ : Hid _ := hE.out j hlt
      have i0 : (0 : Int) ≤ (j : Int) := by omega
      have i1 : (j : Int) < (len : Int) := by omega
      go_wp2_with fail
      have c : Below w.heap.size w wr.drew := HB.out.drew
      refine wp_region_held_drew (S := fun w' => Below w.heap.size w w') (by kernel_rfl) c (fun hHeld => ?_)
      refine wpAnyH_take (i := 0) (v := ?v0b1) rfl (by kernel_rfl) (by kernel_rfl) (by kernel_rfl) (fun _ _ _ h => h) (Or.inl ⟨by rfl, ?hy0b1⟩) (by assumption) ?_
      case hy0b1 => (intro w hSw; (try dsimp only at hSw); simp only [List.getElem_toArray, List.getElem_cons_zero, List.getElem_cons_succ]; go_simp; try with_reducible rfl)
      try simp only [Act.put, List.getElem_toArray, List.getElem_cons_zero, List.getElem_cons_succ, List.setIfInBounds_toArray, List.set_cons_zero, List.set_cons_succ]
      refine wpAnyH_take (i := 1) (v := ?v1b2) rfl (by kernel_rfl) (by kernel_rfl) (by kernel_rfl) (fun _ _ _ h => h) (Or.inl ⟨by rfl, ?hy1b2⟩) (by assumption) ?_
      case hy1b2 => (intro w hSw; (try dsimp only at hSw); simp only [List.getElem_toArray, List.getElem_cons_zero, List.getElem_cons_succ]; go_simp; try with_reducible rfl)
      try simp only [Act.put, List.getElem_toArray, List.getElem_cons_zero, List.getElem_cons_succ, List.setIfInBounds_toArray, List.set_cons_zero, List.set_cons_succ]
      refine wpAnyH_take (i := 2) (v := ?v2b3) rfl (by kernel_rfl) (by kernel_rfl) (by kernel_rfl) (fun _ _ _ h => h) (Or.inl ⟨by rfl, ?hy2b3⟩) (by assumption) ?_
      case hy2b3 => (intro w hSw; (try dsimp only at hSw); simp only [List.getElem_toArray, List.getElem_cons_zero, List.getElem_cons_succ]; go_simp; try with_reducible rfl)
      try simp only [Act.put, List.getElem_toArray, List.getElem_cons_zero, List.getElem_cons_succ, List.setIfInBounds_toArray, List.set_cons_zero, List.set_cons_succ]
      refine wpAnyH_take (i := 3) (v := _) rfl (by kernel_rfl) (by kernel_rfl) (by kernel_rfl) (fun _ _ _ h => h) (ldN_yield (by rfl) 90 _ rfl g1 (o1 + j * 8) (by rfl) (r1 j) (fun w hS => range_later X1.out l1 hS) _ Try.underlying90 rfl N1.out) (by assumption) ?_
      try simp only [Act.put, List.setIfInBounds_toArray, List.set_cons_zero, List.set_cons_succ]
      refine wpAnyH_take (i := 4) (v := ?v4b5) rfl (by kernel_rfl) (by kernel_rfl) (by kernel_rfl) (fun _ _ _ h => h) (Or.inl ⟨by rfl, ?hy4b5⟩) (by assumption) ?_
      case hy4b5 => (intro w hSw; (try dsimp only at hSw); simp only [List.getElem_toArray, List.getElem_cons_zero, List.getElem_cons_succ]; go_simp; try with_reducible rfl)
      try simp only [Act.put, List.getElem_toArray, List.getElem_cons_zero, List.getElem_cons_succ, List.setIfInBounds_toArray, List.set_cons_zero, List.set_cons_succ]
      refine wpAnyH_take (i := 5) (v := ?v5b6) rfl (by kernel_rfl) (by kernel_rfl) (by kernel_rfl) (fun _ _ _ h => h) (Or.inl ⟨by rfl, ?hy5b6⟩) (by assumption) ?_
      case hy5b6 => (intro w hSw; (try dsimp only at hSw); simp only [List.getElem_toArray, List.getElem_cons_zero, List.getElem_cons_succ]; go_simp; try with_reducible rfl)
      try simp only [Act.put, List.getElem_toArray, List.getElem_cons_zero, List.getElem_cons_succ, List.setIfInBounds_toArray, List.set_cons_zero, List.set_cons_succ]
      refine wpAnyH_take (i := 6) (v := ?v6b7) rfl (by kernel_rfl) (by kernel_rfl) (by kernel_rfl) (fun _ _ _ h => h) (Or.inl ⟨by rfl, ?hy6b7⟩) (by assumption) ?_
      case hy6b7 => (intro w hSw; (try dsimp only at hSw); simp only [List.getElem_toArray, List.getElem_cons_zero, List.getElem_cons_succ]; go_simp; try with_reducible rfl)
      try simp only [Act.put, List.getElem_toArray, List.getElem_cons_zero, List.getElem_cons_succ, List.setIfInBounds_toArray, List.set_cons_zero, List.set_cons_succ]
      refine wpAnyH_take (i := 7) (v := _) rfl (by kernel_rfl) (by kernel_rfl) (by kernel_rfl) (fun _ _ _ h => h) (ldN_yield (by rfl) 90 _ rfl g2 (o2 + j * 8) (by rfl) (r2 j) (fun w hS => range_later X2.out l2 hS) _ Try.underlying90 rfl N2.out) (by assumption) ?_
      try simp only [Act.put, List.setIfInBounds_toArray, List.set_cons_zero, List.set_cons_succ]
      refine wpAnyH_ready (rs := [8]) (by kernel_rfl) (by simp) ?_
      refine AllReadyH.cons (i := 8) rfl (fun K hK => ?_) AllReadyH.nil
      rw [if_pos (by rfl)]
      simp only [List.getElem_toArray, List.getElem_cons_zero, List.getElem_cons_succ]
      go_simp
      refine (EJ.out _ c).mono ?_
      rintro e y1 ⟨rfl, d1⟩
      have c1 : Below w.heap.size w y1 := bl_next c d1
      refine hK.out _ _ (c1) (fun hHeld => ?_)
      clear hK K
      try simp only [Act.put, List.getElem_toArray, List.getElem_cons_zero, List.getElem_cons_succ, List.setIfInBounds_toArray, List.set_cons_zero, List.set_cons_succ]
      clear d1
      refine wpAnyH_take (i := 9) (v := ?v9b9) rfl (by kernel_rfl) (by kernel_rfl) (by kernel_rfl) (fun _ _ _ h => h) (Or.inl ⟨by rfl, ?hy9b9⟩) (by assumption) ?_
      case hy9b9 => (intro w hSw; (try dsimp only at hSw); simp only [List.getElem_toArray, List.getElem_cons_zero, List.getElem_cons_succ]; go_simp; try with_reducible rfl)
      try simp only [Act.put, List.getElem_toArray, List.getElem_cons_zero, List.getElem_cons_succ, List.setIfInBounds_toArray, List.set_cons_zero, List.set_cons_succ]
      refine wpAnyH_done (by kernel_rfl) ?_ _
      have HB1 : Hid (Below w.heap.size w y1) := c1
      clear c c1 hHeld HB EJ X1 X2
      go_wp2_with fail
      go_roundw
      case rel => exact ⟨j + 1, by omega, by go_num, HB1⟩
      case measure => simp [intOf]; omega
    · obtain rfl : j = len := by omega
      go_wp2_with fail
      go_ret
      exact ⟨rfl, HB.out⟩
end Go.Proofs.Ytoahljkifikbaaa


/- Lists of bundles, held against each other. Written by gen_gs.py. -/
namespace Go.Proofs.Ytoahljkifikbaaa
open Go.RowKit Pl
set_option linter.unusedVariables false
set_option linter.unusedSimpArgs false

set_option maxRecDepth 100000 in
set_option maxHeartbeats 4000000 in
theorem eqbundles_sp (ao bo : Option Addr) (len c1 c2 : Nat) (r1 r2 : Nat → List Value) (w : World) (h1 : Hid (∀ j, j < len → ∃ g off, ao = some ⟨g, off, none⟩ ∧ g < w.heap.size ∧ (r1 j).length = 4 ∧ w.rangeAt g (off + j * 4) (r1 j))) (h2 : Hid (∀ j, j < len → ∃ g off, bo = some ⟨g, off, none⟩ ∧ g < w.heap.size ∧ (r2 j).length = 4 ∧ w.rangeAt g (off + j * 4) (r2 j))) (hE : Hid (∀ j, j < len → ∀ W, Below w.heap.size w W → Calls Try.prog 65 #[.agg (r1 j).toArray, .agg (r2 j).toArray] W fun e w' => e = .returned (.bool true) ∧ Below W.heap.size W w')) (hl : len ≤ 39999990) :
    Calls Try.prog 62 #[.slice ao len c1, .slice bo len c2] w fun e w' => e = .returned (.bool true) ∧ Below w.heap.size w w' := by
  go_enter Try.func62, Try.ntmps62
  go_wp2_with fail
  go_loopw [5] (fun i wr => ∃ (j : Nat), j ≤ len ∧ i = .int .i64 (j : Int) ∧ Hid (Below w.heap.size w wr)) (fun i _ => len - (intOf i).toNat)
  case atStart => exact ⟨0, by omega, rfl, Below.refl _ _⟩
  case round =>
    obtain ⟨j, hj, rfl, HB⟩ := hrel
    by_cases hlt : j < len
    · obtain ⟨g1, o1, rfl, l1, n1, x1⟩ := h1.out j hlt
      obtain ⟨g2, o2, rfl, l2, n2, x2⟩ := h2.out j hlt
      have X1 : Hid (w.rangeAt g1 (o1 + j * 4) (r1 j)) := x1
      have X2 : Hid (w.rangeAt g2 (o2 + j * 4) (r2 j)) := x2
      have N1 : Hid ((Try.prog.info? 85).map (·.size) = some (r1 j).length) := (by rw [n1]; exact Try.sizeBu : _ = _)
      have N2 : Hid ((Try.prog.info? 85).map (·.size) = some (r2 j).length) := (by rw [n2]; exact Try.sizeBu : _ = _)
      clear x1 x2 n1 n2
      have EJ : Hid _ := hE.out j hlt
      have i0 : (0 : Int) ≤ (j : Int) := by omega
      have i1 : (j : Int) < (len : Int) := by omega
      go_wp2_with fail
      have c : Below w.heap.size w wr.drew := HB.out.drew
      refine wp_region_held_drew (S := fun w' => Below w.heap.size w w') (by kernel_rfl) c (fun hHeld => ?_)
      refine wpAnyH_take (i := 0) (v := ?v0b10) rfl (by kernel_rfl) (by kernel_rfl) (by kernel_rfl) (fun _ _ _ h => h) (Or.inl ⟨by rfl, ?hy0b10⟩) (by assumption) ?_
      case hy0b10 => (intro w hSw; (try dsimp only at hSw); simp only [List.getElem_toArray, List.getElem_cons_zero, List.getElem_cons_succ]; go_simp; try with_reducible rfl)
      try simp only [Act.put, List.getElem_toArray, List.getElem_cons_zero, List.getElem_cons_succ, List.setIfInBounds_toArray, List.set_cons_zero, List.set_cons_succ]
      refine wpAnyH_take (i := 1) (v := ?v1b11) rfl (by kernel_rfl) (by kernel_rfl) (by kernel_rfl) (fun _ _ _ h => h) (Or.inl ⟨by rfl, ?hy1b11⟩) (by assumption) ?_
      case hy1b11 => (intro w hSw; (try dsimp only at hSw); simp only [List.getElem_toArray, List.getElem_cons_zero, List.getElem_cons_succ]; go_simp; try with_reducible rfl)
      try simp only [Act.put, List.getElem_toArray, List.getElem_cons_zero, List.getElem_cons_succ, List.setIfInBounds_toArray, List.set_cons_zero, List.set_cons_succ]
      refine wpAnyH_take (i := 2) (v := ?v2b12) rfl (by kernel_rfl) (by kernel_rfl) (by kernel_rfl) (fun _ _ _ h => h) (Or.inl ⟨by rfl, ?hy2b12⟩) (by assumption) ?_
      case hy2b12 => (intro w hSw; (try dsimp only at hSw); simp only [List.getElem_toArray, List.getElem_cons_zero, List.getElem_cons_succ]; go_simp; try with_reducible rfl)
      try simp only [Act.put, List.getElem_toArray, List.getElem_cons_zero, List.getElem_cons_succ, List.setIfInBounds_toArray, List.set_cons_zero, List.set_cons_succ]
      refine wpAnyH_take (i := 3) (v := _) rfl (by kernel_rfl) (by kernel_rfl) (by kernel_rfl) (fun _ _ _ h => h) (ldN_yield (by rfl) 85 _ rfl g1 (o1 + j * 4) (by rfl) (r1 j) (fun w hS => range_later X1.out l1 hS) _ Try.underlying85 rfl N1.out) (by assumption) ?_
      try simp only [Act.put, List.setIfInBounds_toArray, List.set_cons_zero, List.set_cons_succ]
      refine wpAnyH_take (i := 4) (v := ?v4b14) rfl (by kernel_rfl) (by kernel_rfl) (by kernel_rfl) (fun _ _ _ h => h) (Or.inl ⟨by rfl, ?hy4b14⟩) (by assumption) ?_
      case hy4b14 => (intro w hSw; (try dsimp only at hSw); simp only [List.getElem_toArray, List.getElem_cons_zero, List.getElem_cons_succ]; go_simp; try with_reducible rfl)
      try simp only [Act.put, List.getElem_toArray, List.getElem_cons_zero, List.getElem_cons_succ, List.setIfInBounds_toArray, List.set_cons_zero, List.set_cons_succ]
      refine wpAnyH_take (i := 5) (v := ?v5b15) rfl (by kernel_rfl) (by kernel_rfl) (by kernel_rfl) (fun _ _ _ h => h) (Or.inl ⟨by rfl, ?hy5b15⟩) (by assumption) ?_
      case hy5b15 => (intro w hSw; (try dsimp only at hSw); simp only [List.getElem_toArray, List.getElem_cons_zero, List.getElem_cons_succ]; go_simp; try with_reducible rfl)
      try simp only [Act.put, List.getElem_toArray, List.getElem_cons_zero, List.getElem_cons_succ, List.setIfInBounds_toArray, List.set_cons_zero, List.set_cons_succ]
      refine wpAnyH_take (i := 6) (v := ?v6b16) rfl (by kernel_rfl) (by kernel_rfl) (by kernel_rfl) (fun _ _ _ h => h) (Or.inl ⟨by rfl, ?hy6b16⟩) (by assumption) ?_
      case hy6b16 => (intro w hSw; (try dsimp only at hSw); simp only [List.getElem_toArray, List.getElem_cons_zero, List.getElem_cons_succ]; go_simp; try with_reducible rfl)
      try simp only [Act.put, List.getElem_toArray, List.getElem_cons_zero, List.getElem_cons_succ, List.setIfInBounds_toArray, List.set_cons_zero, List.set_cons_succ]
      refine wpAnyH_take (i := 7) (v := _) rfl (by kernel_rfl) (by kernel_rfl) (by kernel_rfl) (fun _ _ _ h => h) (ldN_yield (by rfl) 85 _ rfl g2 (o2 + j * 4) (by rfl) (r2 j) (fun w hS => range_later X2.out l2 hS) _ Try.underlying85 rfl N2.out) (by assumption) ?_
      try simp only [Act.put, List.setIfInBounds_toArray, List.set_cons_zero, List.set_cons_succ]
      refine wpAnyH_ready (rs := [8]) (by kernel_rfl) (by simp) ?_
      refine AllReadyH.cons (i := 8) rfl (fun K hK => ?_) AllReadyH.nil
      rw [if_pos (by rfl)]
      simp only [List.getElem_toArray, List.getElem_cons_zero, List.getElem_cons_succ]
      go_simp
      refine (EJ.out _ c).mono ?_
      rintro e y1 ⟨rfl, d1⟩
      have c1 : Below w.heap.size w y1 := bl_next c d1
      refine hK.out _ _ (c1) (fun hHeld => ?_)
      clear hK K
      try simp only [Act.put, List.getElem_toArray, List.getElem_cons_zero, List.getElem_cons_succ, List.setIfInBounds_toArray, List.set_cons_zero, List.set_cons_succ]
      clear d1
      refine wpAnyH_take (i := 9) (v := ?v9b18) rfl (by kernel_rfl) (by kernel_rfl) (by kernel_rfl) (fun _ _ _ h => h) (Or.inl ⟨by rfl, ?hy9b18⟩) (by assumption) ?_
      case hy9b18 => (intro w hSw; (try dsimp only at hSw); simp only [List.getElem_toArray, List.getElem_cons_zero, List.getElem_cons_succ]; go_simp; try with_reducible rfl)
      try simp only [Act.put, List.getElem_toArray, List.getElem_cons_zero, List.getElem_cons_succ, List.setIfInBounds_toArray, List.set_cons_zero, List.set_cons_succ]
      refine wpAnyH_done (by kernel_rfl) ?_ _
      have HB1 : Hid (Below w.heap.size w y1) := c1
      clear c c1 hHeld HB EJ X1 X2
      go_wp2_with fail
      go_roundw
      case rel => exact ⟨j + 1, by omega, by go_num, HB1⟩
      case measure => simp [intOf]; omega
    · obtain rfl : j = len := by omega
      go_wp2_with fail
      go_ret
      exact ⟨rfl, HB.out⟩
end Go.Proofs.Ytoahljkifikbaaa


/- Lists of events, lists of bundles: held against each other. -/
namespace Go.Proofs.Ytoahljkifikbaaa
open Go.RowKit Pl
set_option linter.unusedVariables false
set_option linter.unusedSimpArgs false

theorem rowsAt {w : World} {T size B : Nat} {s : Sv} {rows : List (List Value)} (h : SlN w T size B s.v rows) (j : Nat) (hj : j < rows.length) : ∃ g off, s.a = some ⟨g, off, none⟩ ∧ g < w.heap.size ∧ ((rows[j]?).getD []).length = size ∧ w.rangeAt g (off + j * size) ((rows[j]?).getD []) := by
  obtain ⟨g, off, c, h1, h2, h3, h4⟩ := h.read hj
  simp only [Sv.v, Value.slice.injEq] at h1
  rw [List.getElem?_eq_getElem hj]
  exact ⟨g, off, h1.1, h3, h.lens _ (List.getElem_mem hj), h4⟩
theorem eqEvs_any (s1 s2 : Sv) (es fs : List Ev) (B1 B2 : Nat) (w : World) (h1 : Hid (EvsO w B1 s1 es)) (h2 : Hid (EvsO w B2 s2 fs)) (hpl : Hid (es.map Ev.pl = fs.map Ev.pl)) (hl : es.length ≤ 1048576) (hs : Hid (∀ e ∈ es, e.S)) :
    Calls Try.prog 35 #[.slice s1.a s1.n s1.c, .slice s2.a s2.n s2.c] w fun x w' => x = .returned (.bool true) ∧ Below w.heap.size w w' := by
  have n1 : s1.n = es.length := by have := h1.out.1.slen; simpa using this
  have hfl : fs.length = es.length := by have := congrArg List.length hpl.out; simp at this; omega
  have n2 : s2.n = es.length := by have := h2.out.1.slen; simp at this; omega
  rw [n1, n2]
  refine eqevents_sp s1.a s2.a es.length s1.c s2.c (fun j => ((es.map Ev.row)[j]?).getD []) (fun j => ((fs.map Ev.row)[j]?).getD []) w (fun j hj => rowsAt h1.out.1 j (by simpa using hj)) (fun j hj => rowsAt h2.out.1 j (by simpa [hfl] using hj)) ?_ (by omega)
  intro j hj W b
  have hj2 : j < fs.length := by omega
  have e1 : ((es.map Ev.row)[j]?).getD [] = es[j].row := by simp [hj]
  have e2 : ((fs.map Ev.row)[j]?).getD [] = fs[j].row := by simp [hj2]
  have hp : es[j].pl = fs[j].pl := by
    have h := congrArg (fun l => l[j]?) hpl.out
    simpa [hj, hj2] using h
  try dsimp only
  rw [e1, e2]
  have o1 := (h1.out.2 _ (List.getElem_mem hj)).below b
  have o2 := (h2.out.2 _ (List.getElem_mem hj2)).below b
  obtain ⟨e, he⟩ : ∃ e, e = es[j] := ⟨_, rfl⟩
  obtain ⟨f, hf⟩ : ∃ f, f = fs[j] := ⟨_, rfl⟩
  have hS := hs.out _ (List.getElem_mem hj)
  rw [← he] at o1 hS hp
  rw [← hf] at o2 hp
  rw [← he, ← hf]
  obtain ⟨k, rid, ms, q, ff, l, t, wi, sm, sw⟩ := f
  simp only [Ev.pl, Prod.mk.injEq] at hp
  obtain ⟨rfl, rfl, rfl, ⟨rfl, rfl, rfl, rfl⟩, rfl⟩ := hp
  exact eqEvent_any e e.sm e.sw sm sw W hS (o1.1.down (Nat.zero_le _)) (o1.2.down (Nat.zero_le _)) (o2.1.down (Nat.zero_le _)) (o2.2.down (Nat.zero_le _))
theorem eqBus_any (s1 s2 : Sv) (es fs : List Bu) (B1 B2 : Nat) (w : World) (h1 : Hid (BusO w B1 s1 es)) (h2 : Hid (BusO w B2 s2 fs)) (hpl : Hid (es.map Bu.pl = fs.map Bu.pl)) (hl : es.length ≤ 1048576) (hs : Hid (∀ e ∈ es, e.S)) :
    Calls Try.prog 62 #[.slice s1.a s1.n s1.c, .slice s2.a s2.n s2.c] w fun x w' => x = .returned (.bool true) ∧ Below w.heap.size w w' := by
  have n1 : s1.n = es.length := by have := h1.out.1.slen; simpa using this
  have hfl : fs.length = es.length := by have := congrArg List.length hpl.out; simp at this; omega
  have n2 : s2.n = es.length := by have := h2.out.1.slen; simp at this; omega
  rw [n1, n2]
  refine eqbundles_sp s1.a s2.a es.length s1.c s2.c (fun j => ((es.map Bu.row)[j]?).getD []) (fun j => ((fs.map Bu.row)[j]?).getD []) w (fun j hj => rowsAt h1.out.1 j (by simpa using hj)) (fun j hj => rowsAt h2.out.1 j (by simpa [hfl] using hj)) ?_ (by omega)
  intro j hj W b
  have hj2 : j < fs.length := by omega
  have e1 : ((es.map Bu.row)[j]?).getD [] = es[j].row := by simp [hj]
  have e2 : ((fs.map Bu.row)[j]?).getD [] = fs[j].row := by simp [hj2]
  have hp : es[j].pl = fs[j].pl := by
    have h := congrArg (fun l => l[j]?) hpl.out
    simpa [hj, hj2] using h
  try dsimp only
  rw [e1, e2]
  have o1 := (h1.out.2 _ (List.getElem_mem hj)).below b
  have o2 := (h2.out.2 _ (List.getElem_mem hj2)).below b
  obtain ⟨e, he⟩ : ∃ e, e = es[j] := ⟨_, rfl⟩
  obtain ⟨f, hf⟩ : ∃ f, f = fs[j] := ⟨_, rfl⟩
  have hS := hs.out _ (List.getElem_mem hj)
  rw [← he] at o1 hS hp
  rw [← hf] at o2 hp
  rw [← he, ← hf]
  obtain ⟨f1, n1, o1', ts, s⟩ := f
  simp only [Bu.pl, Prod.mk.injEq] at hp
  obtain ⟨rfl, rfl, rfl, rfl⟩ := hp
  exact eqBundle_same e.f e.n e.o e.s s e.ts B1 B2 W o1 o2 hS
end Go.Proofs.Ytoahljkifikbaaa


/- Daemons in plain words and in memory; a daemon measured, copied, held against another. Written by gen_dm.py. -/
namespace Go.Proofs.Ytoahljkifikbaaa
open Go.RowKit Pl
set_option linter.unusedVariables false
set_option linter.unusedSimpArgs false

/-- a daemon, and where its lists lie. -/
structure Dm where
  id : Int
  dead : Bool
  m : Mt
  mv : Mv
  most : Int
  old : Int
  jid : Int
  jms : List Int
  js : Sv
  bu : List Bu
  bs : Sv
  lo : List Ev
  ls : Sv
/-- its lists are read. -/
structure DmR (w : World) (d : Dm) : Prop where
  mt : MtR w d.m d.mv
  jo : RI w d.js.v d.jms
  bu : BusR w d.bs d.bu
  lo : EvsR w d.ls d.lo
theorem DmR.stays {w w' : World} {d : Dm} (h : DmR w d) (b : Below w.heap.size w w') : DmR w' d := ⟨h.mt.stays b, h.jo.stays b, h.bu.stays b, h.lo.stays b⟩
/-- its lists are of a call's own. -/
structure DmO (w : World) (B : Nat) (d : Dm) : Prop where
  mt : MtO w B d.m d.mv
  jo : OwnI w B d.js.v d.jms
  bu : BusO w B d.bs d.bu
  lo : EvsO w B d.ls d.lo
theorem DmO.r {w : World} {B : Nat} {d : Dm} (h : DmO w B d) : DmR w d := ⟨h.mt.r, h.jo.ri, h.bu.r, h.lo.r⟩
theorem DmO.keep {w w' : World} {B : Nat} {d : Dm} (h : DmO w B d) (hk : ∀ b, B ≤ b → b < w.heap.size → w'.heap[b]? = w.heap[b]?) : DmO w' B d :=
  ⟨h.mt.keep fun b hb hl => hk b (h.mt.lt hb).1 hl, h.jo.keep fun b hb hl => hk b (h.jo.lt b hb).1 hl, h.bu.keep hk, h.lo.keep hk⟩
theorem DmO.below {w w' : World} {B : Nat} {d : Dm} (h : DmO w B d) (b : Below w.heap.size w w') : DmO w' B d := h.keep fun k _ hk => b.block k hk
theorem DmO.down {w : World} {B B' : Nat} {d : Dm} (h : DmO w B d) (hB : B' ≤ B) : DmO w B' d := ⟨h.mt.down hB, h.jo.down hB, h.bu.down hB, h.lo.down hB⟩
/-- no longer than can be. -/
structure DmL (d : Dm) : Prop where
  mt : MtL d.m
  jo : d.jms.length ≤ 9223372036854775807
  bu : d.bu.length ≤ 9223372036854775807 ∧ ∀ b ∈ d.bu, b.L
  lo : d.lo.length ≤ 9223372036854775807 ∧ ∀ e ∈ d.lo, e.L
/-- not too long. -/
structure DmS (d : Dm) : Prop where
  mt : MtS d.m
  jo : d.jms.length ≤ 1048576
  bu : d.bu.length + Bus.tot d.bu ≤ 1048576
  lo : d.lo.length + Evs.tot d.lo ≤ 1048576
theorem tot_le {α : Type} (f : α → Nat) : ∀ (l : List α) (x : α), x ∈ l → f x ≤ (l.map f).sum
  | a :: l, x, h => by
    rw [List.map_cons, List.sum_cons]
    rcases List.mem_cons.1 h with rfl | h
    · omega
    · have := tot_le f l x h; omega
theorem DmS.bus {d : Dm} (h : DmS d) : d.bu.length ≤ 1048576 ∧ ∀ b ∈ d.bu, b.S := ⟨by have := h.bu; omega, fun b hb => by have h1 := tot_le (fun e : Bu => e.sz) _ b hb; have h2 := h.bu; unfold Bus.tot at h2; unfold Bu.S; unfold Bu.sz at h1 h2; omega⟩
theorem DmS.los {d : Dm} (h : DmS d) : d.lo.length ≤ 1048576 ∧ ∀ e ∈ d.lo, e.S := ⟨by have := h.lo; omega, fun e he => by have h1 := tot_le (fun e : Ev => e.sz) _ e he; have h2 := h.lo; unfold Evs.tot at h2; unfold Ev.S; unfold Ev.sz at h1 h2; omega⟩
/-- the same, in plain words. -/
structure Dm.Same (a b : Dm) : Prop where
  id : a.id = b.id
  dead : a.dead = b.dead
  m : a.m = b.m
  most : a.most = b.most
  old : a.old = b.old
  jid : a.jid = b.jid
  jms : a.jms = b.jms
  bu : a.bu.map Bu.pl = b.bu.map Bu.pl
  lo : a.lo.map Ev.pl = b.lo.map Ev.pl
theorem Dm.Same.symm {a b : Dm} (h : a.Same b) : b.Same a := ⟨h.id.symm, h.dead.symm, h.m.symm, h.most.symm, h.old.symm, h.jid.symm, h.jms.symm, h.bu.symm, h.lo.symm⟩
theorem Dm.Same.trans {a b c : Dm} (h : a.Same b) (k : b.Same c) : a.Same c := ⟨h.id.trans k.id, h.dead.trans k.dead, h.m.trans k.m, h.most.trans k.most, h.old.trans k.old, h.jid.trans k.jid, h.jms.trans k.jms, h.bu.trans k.bu, h.lo.trans k.lo⟩
theorem sz_of_pl {a b : List Bu} (h : a.map Bu.pl = b.map Bu.pl) : Bus.tot a = Bus.tot b := by
  have e : ∀ l : List Bu, l.map (fun e => e.sz) = (l.map Bu.pl).map (fun p => p.2.2.2.length) := fun l => by rw [List.map_map]; rfl
  unfold Bus.tot; rw [e, e, h]
theorem sz_of_ple {a b : List Ev} (h : a.map Ev.pl = b.map Ev.pl) : Evs.tot a = Evs.tot b := by
  have e : ∀ l : List Ev, l.map (fun e => e.sz) = (l.map Ev.pl).map (fun p => p.2.2.1.length + p.2.2.2.1.2.2.2.size + p.2.2.2.2.length) := fun l => by rw [List.map_map]; rfl
  unfold Evs.tot; rw [e, e, h]
theorem Dm.Same.small {a b : Dm} (h : a.Same b) (k : DmS b) : DmS a := by
  have l1 : a.bu.length = b.bu.length := by have := congrArg List.length h.bu; simpa using this
  have l2 : a.lo.length = b.lo.length := by have := congrArg List.length h.lo; simpa using this
  exact ⟨h.m ▸ k.mt, h.jms ▸ k.jo, by rw [l1, sz_of_pl h.bu]; exact k.bu, by rw [l2, sz_of_ple h.lo]; exact k.lo⟩
/-- the blocks of a list of bundles, of a list of events. -/
def BusOwn (s : Sv) (bs : List Bu) (y : Nat) : Prop := s.v.ownBlock = some y ∨ ∃ b ∈ bs, b.own y
def EvsOwn (s : Sv) (es : List Ev) (y : Nat) : Prop := s.v.ownBlock = some y ∨ ∃ e ∈ es, e.own y
/-- each of its lists lies apart. -/
structure BusA (s : Sv) (bs : List Bu) : Prop where
  row : ∀ y, s.v.ownBlock = some y → ∀ b ∈ bs, ¬ b.own y
  two : bs.Pairwise fun a b => ∀ x, a.own x → ¬ b.own x
structure EvsA (s : Sv) (es : List Ev) : Prop where
  row : ∀ y, s.v.ownBlock = some y → ∀ e ∈ es, ¬ e.own y
  one : ∀ e ∈ es, ∀ x, e.sm.v.ownBlock = some x → e.sw.v.ownBlock ≠ some x
  two : es.Pairwise fun a b => ∀ x, a.own x → ¬ b.own x
structure DmA (d : Dm) : Prop where
  mj : ∀ x, d.mv.own x → d.js.v.ownBlock ≠ some x
  mb : ∀ x, d.mv.own x → ¬ BusOwn d.bs d.bu x
  ml : ∀ x, d.mv.own x → ¬ EvsOwn d.ls d.lo x
  jb : ∀ x, d.js.v.ownBlock = some x → ¬ BusOwn d.bs d.bu x
  jl : ∀ x, d.js.v.ownBlock = some x → ¬ EvsOwn d.ls d.lo x
  bl : ∀ x, BusOwn d.bs d.bu x → ¬ EvsOwn d.ls d.lo x
  bu : BusA d.bs d.bu
  lo : EvsA d.ls d.lo
theorem BusO.olt {w : World} {B : Nat} {s : Sv} {bs : List Bu} (h : BusO w B s bs) {y : Nat} (hy : BusOwn s bs y) : B ≤ y ∧ y < w.heap.size := by
  rcases hy with hy | ⟨b, hb, hy⟩
  · exact h.1.lt y hy
  · exact (h.2 b hb).lt y hy
theorem EvsO.olt {w : World} {B : Nat} {s : Sv} {es : List Ev} (h : EvsO w B s es) {y : Nat} (hy : EvsOwn s es y) : B ≤ y ∧ y < w.heap.size := by
  rcases hy with hy | ⟨b, hb, hy⟩
  · exact h.1.lt y hy
  · exact (h.2 b hb).lt y hy
theorem BusUp.a {s : Sv} {bs : List Bu} (h : BusUp bs) (hr : ∀ b, s.v.ownBlock = some b → ∀ e ∈ bs, ∀ x, e.own x → b < x) : BusA s bs :=
  ⟨fun y hy b hb hx => by have := hr y hy b hb y hx; omega, h.2.imp fun h x hx hy => by have := h x x hx hy; omega⟩
theorem EvsUp.a {s : Sv} {es : List Ev} (h : EvsUp es) (hr : ∀ b, s.v.ownBlock = some b → ∀ e ∈ es, ∀ x, e.own x → b < x) : EvsA s es :=
  ⟨fun y hy b hb hx => by have := hr y hy b hb y hx; omega, fun e he x h1 h2 => by have := h.1 e he x x h1 h2; omega, h.2.imp fun h x hx hy => by have := h x x hx hy; omega⟩
set_option maxRecDepth 100000 in
set_option maxHeartbeats 16000000 in
theorem eqDaemon_0 (d : Dm) (mv : Mv) (js bs ls : Sv) (bu : List Bu) (lo : List Ev) (B1 B2 : Nat) (w : World) (h1 : Hid (DmO w B1 d)) (h2 : Hid (DmO w B2 { d with mv := mv, js := js, bs := bs, ls := ls, bu := bu, lo := lo })) (hb : Hid (d.bu.map Bu.pl = bu.map Bu.pl)) (hl : Hid (d.lo.map Ev.pl = lo.map Ev.pl)) (hs : Hid (DmS d)) :
    Calls Try.prog 50 #[.agg #[.int .i64 d.id, .bool d.dead, .int .i64 d.m.id, .int .i64 d.m.rid, .slice d.mv.ms.a d.mv.ms.n d.mv.ms.c, .slice d.mv.its.a d.mv.its.n d.mv.its.c, .slice d.mv.lv.a d.mv.lv.n d.mv.lv.c, .slice d.mv.tx.a d.mv.tx.n d.mv.tx.c, .int .i64 d.m.rd, .int .i64 d.m.se, .int .i64 d.m.li, .int .i64 d.m.he, .int .i64 d.m.la.c, .int .i64 d.m.la.r, .int .i64 d.m.la.q, .int .i64 d.m.la.a, .int .i64 d.m.la.b, .slice d.mv.ws.a d.mv.ws.n d.mv.ws.c, .int .i64 d.most, .int .i64 d.old, .int .i64 d.jid, .slice d.js.a d.js.n d.js.c, .slice d.bs.a d.bs.n d.bs.c, .slice d.ls.a d.ls.n d.ls.c], .agg #[.int .i64 d.id, .bool d.dead, .int .i64 d.m.id, .int .i64 d.m.rid, .slice mv.ms.a mv.ms.n mv.ms.c, .slice mv.its.a mv.its.n mv.its.c, .slice mv.lv.a mv.lv.n mv.lv.c, .slice mv.tx.a mv.tx.n mv.tx.c, .int .i64 d.m.rd, .int .i64 d.m.se, .int .i64 d.m.li, .int .i64 d.m.he, .int .i64 d.m.la.c, .int .i64 d.m.la.r, .int .i64 d.m.la.q, .int .i64 d.m.la.a, .int .i64 d.m.la.b, .slice mv.ws.a mv.ws.n mv.ws.c, .int .i64 d.most, .int .i64 d.old, .int .i64 d.jid, .slice js.a js.n js.c, .slice bs.a bs.n bs.c, .slice ls.a ls.n ls.c]] w fun x w' => x = .returned (.bool true) ∧ Below w.heap.size w w' := by
  have hn1 : (w.alloc (.cells #[.int .i64 d.id, .bool d.dead, .int .i64 d.m.id, .int .i64 d.m.rid, .slice d.mv.ms.a d.mv.ms.n d.mv.ms.c, .slice d.mv.its.a d.mv.its.n d.mv.its.c, .slice d.mv.lv.a d.mv.lv.n d.mv.lv.c, .slice d.mv.tx.a d.mv.tx.n d.mv.tx.c, .int .i64 d.m.rd, .int .i64 d.m.se, .int .i64 d.m.li, .int .i64 d.m.he, .int .i64 d.m.la.c, .int .i64 d.m.la.r, .int .i64 d.m.la.q, .int .i64 d.m.la.a, .int .i64 d.m.la.b, .slice d.mv.ws.a d.mv.ws.n d.mv.ws.c, .int .i64 d.most, .int .i64 d.old, .int .i64 d.jid, .slice d.js.a d.js.n d.js.c, .slice d.bs.a d.bs.n d.bs.c, .slice d.ls.a d.ls.n d.ls.c] 65)).heap.size = w.heap.size + 1 := by simp
  have LA : Hid (Bx ((w.alloc (.cells #[.int .i64 d.id, .bool d.dead, .int .i64 d.m.id, .int .i64 d.m.rid, .slice d.mv.ms.a d.mv.ms.n d.mv.ms.c, .slice d.mv.its.a d.mv.its.n d.mv.its.c, .slice d.mv.lv.a d.mv.lv.n d.mv.lv.c, .slice d.mv.tx.a d.mv.tx.n d.mv.tx.c, .int .i64 d.m.rd, .int .i64 d.m.se, .int .i64 d.m.li, .int .i64 d.m.he, .int .i64 d.m.la.c, .int .i64 d.m.la.r, .int .i64 d.m.la.q, .int .i64 d.m.la.a, .int .i64 d.m.la.b, .slice d.mv.ws.a d.mv.ws.n d.mv.ws.c, .int .i64 d.most, .int .i64 d.old, .int .i64 d.jid, .slice d.js.a d.js.n d.js.c, .slice d.bs.a d.bs.n d.bs.c, .slice d.ls.a d.ls.n d.ls.c] 65)).alloc (.cells #[.int .i64 d.id, .bool d.dead, .int .i64 d.m.id, .int .i64 d.m.rid, .slice mv.ms.a mv.ms.n mv.ms.c, .slice mv.its.a mv.its.n mv.its.c, .slice mv.lv.a mv.lv.n mv.lv.c, .slice mv.tx.a mv.tx.n mv.tx.c, .int .i64 d.m.rd, .int .i64 d.m.se, .int .i64 d.m.li, .int .i64 d.m.he, .int .i64 d.m.la.c, .int .i64 d.m.la.r, .int .i64 d.m.la.q, .int .i64 d.m.la.a, .int .i64 d.m.la.b, .slice mv.ws.a mv.ws.n mv.ws.c, .int .i64 d.most, .int .i64 d.old, .int .i64 d.jid, .slice js.a js.n js.c, .slice bs.a bs.n bs.c, .slice ls.a ls.n ls.c] 65)) w.heap.size 65 [.int .i64 d.id, .bool d.dead, .int .i64 d.m.id, .int .i64 d.m.rid, .slice d.mv.ms.a d.mv.ms.n d.mv.ms.c, .slice d.mv.its.a d.mv.its.n d.mv.its.c, .slice d.mv.lv.a d.mv.lv.n d.mv.lv.c, .slice d.mv.tx.a d.mv.tx.n d.mv.tx.c, .int .i64 d.m.rd, .int .i64 d.m.se, .int .i64 d.m.li, .int .i64 d.m.he, .int .i64 d.m.la.c, .int .i64 d.m.la.r, .int .i64 d.m.la.q, .int .i64 d.m.la.a, .int .i64 d.m.la.b, .slice d.mv.ws.a d.mv.ws.n d.mv.ws.c, .int .i64 d.most, .int .i64 d.old, .int .i64 d.jid, .slice d.js.a d.js.n d.js.c, .slice d.bs.a d.bs.n d.bs.c, .slice d.ls.a d.ls.n d.ls.c]) := by
    have h := Bx.new w 65 [.int .i64 d.id, .bool d.dead, .int .i64 d.m.id, .int .i64 d.m.rid, .slice d.mv.ms.a d.mv.ms.n d.mv.ms.c, .slice d.mv.its.a d.mv.its.n d.mv.its.c, .slice d.mv.lv.a d.mv.lv.n d.mv.lv.c, .slice d.mv.tx.a d.mv.tx.n d.mv.tx.c, .int .i64 d.m.rd, .int .i64 d.m.se, .int .i64 d.m.li, .int .i64 d.m.he, .int .i64 d.m.la.c, .int .i64 d.m.la.r, .int .i64 d.m.la.q, .int .i64 d.m.la.a, .int .i64 d.m.la.b, .slice d.mv.ws.a d.mv.ws.n d.mv.ws.c, .int .i64 d.most, .int .i64 d.old, .int .i64 d.jid, .slice d.js.a d.js.n d.js.c, .slice d.bs.a d.bs.n d.bs.c, .slice d.ls.a d.ls.n d.ls.c]
    exact (h).later ((Below.refl _ _).alloc (Nat.le_refl _) _)
  have LB : Hid (Bx ((w.alloc (.cells #[.int .i64 d.id, .bool d.dead, .int .i64 d.m.id, .int .i64 d.m.rid, .slice d.mv.ms.a d.mv.ms.n d.mv.ms.c, .slice d.mv.its.a d.mv.its.n d.mv.its.c, .slice d.mv.lv.a d.mv.lv.n d.mv.lv.c, .slice d.mv.tx.a d.mv.tx.n d.mv.tx.c, .int .i64 d.m.rd, .int .i64 d.m.se, .int .i64 d.m.li, .int .i64 d.m.he, .int .i64 d.m.la.c, .int .i64 d.m.la.r, .int .i64 d.m.la.q, .int .i64 d.m.la.a, .int .i64 d.m.la.b, .slice d.mv.ws.a d.mv.ws.n d.mv.ws.c, .int .i64 d.most, .int .i64 d.old, .int .i64 d.jid, .slice d.js.a d.js.n d.js.c, .slice d.bs.a d.bs.n d.bs.c, .slice d.ls.a d.ls.n d.ls.c] 65)).alloc (.cells #[.int .i64 d.id, .bool d.dead, .int .i64 d.m.id, .int .i64 d.m.rid, .slice mv.ms.a mv.ms.n mv.ms.c, .slice mv.its.a mv.its.n mv.its.c, .slice mv.lv.a mv.lv.n mv.lv.c, .slice mv.tx.a mv.tx.n mv.tx.c, .int .i64 d.m.rd, .int .i64 d.m.se, .int .i64 d.m.li, .int .i64 d.m.he, .int .i64 d.m.la.c, .int .i64 d.m.la.r, .int .i64 d.m.la.q, .int .i64 d.m.la.a, .int .i64 d.m.la.b, .slice mv.ws.a mv.ws.n mv.ws.c, .int .i64 d.most, .int .i64 d.old, .int .i64 d.jid, .slice js.a js.n js.c, .slice bs.a bs.n bs.c, .slice ls.a ls.n ls.c] 65)) (w.heap.size + 1) 65 [.int .i64 d.id, .bool d.dead, .int .i64 d.m.id, .int .i64 d.m.rid, .slice mv.ms.a mv.ms.n mv.ms.c, .slice mv.its.a mv.its.n mv.its.c, .slice mv.lv.a mv.lv.n mv.lv.c, .slice mv.tx.a mv.tx.n mv.tx.c, .int .i64 d.m.rd, .int .i64 d.m.se, .int .i64 d.m.li, .int .i64 d.m.he, .int .i64 d.m.la.c, .int .i64 d.m.la.r, .int .i64 d.m.la.q, .int .i64 d.m.la.a, .int .i64 d.m.la.b, .slice mv.ws.a mv.ws.n mv.ws.c, .int .i64 d.most, .int .i64 d.old, .int .i64 d.jid, .slice js.a js.n js.c, .slice bs.a bs.n bs.c, .slice ls.a ls.n ls.c]) := by
    have h := Bx.new (w.alloc (.cells #[.int .i64 d.id, .bool d.dead, .int .i64 d.m.id, .int .i64 d.m.rid, .slice d.mv.ms.a d.mv.ms.n d.mv.ms.c, .slice d.mv.its.a d.mv.its.n d.mv.its.c, .slice d.mv.lv.a d.mv.lv.n d.mv.lv.c, .slice d.mv.tx.a d.mv.tx.n d.mv.tx.c, .int .i64 d.m.rd, .int .i64 d.m.se, .int .i64 d.m.li, .int .i64 d.m.he, .int .i64 d.m.la.c, .int .i64 d.m.la.r, .int .i64 d.m.la.q, .int .i64 d.m.la.a, .int .i64 d.m.la.b, .slice d.mv.ws.a d.mv.ws.n d.mv.ws.c, .int .i64 d.most, .int .i64 d.old, .int .i64 d.jid, .slice d.js.a d.js.n d.js.c, .slice d.bs.a d.bs.n d.bs.c, .slice d.ls.a d.ls.n d.ls.c] 65)) 65 [.int .i64 d.id, .bool d.dead, .int .i64 d.m.id, .int .i64 d.m.rid, .slice mv.ms.a mv.ms.n mv.ms.c, .slice mv.its.a mv.its.n mv.its.c, .slice mv.lv.a mv.lv.n mv.lv.c, .slice mv.tx.a mv.tx.n mv.tx.c, .int .i64 d.m.rd, .int .i64 d.m.se, .int .i64 d.m.li, .int .i64 d.m.he, .int .i64 d.m.la.c, .int .i64 d.m.la.r, .int .i64 d.m.la.q, .int .i64 d.m.la.a, .int .i64 d.m.la.b, .slice mv.ws.a mv.ws.n mv.ws.c, .int .i64 d.most, .int .i64 d.old, .int .i64 d.jid, .slice js.a js.n js.c, .slice bs.a bs.n bs.c, .slice ls.a ls.n ls.c]
    rw [hn1] at h
    exact h
  have BW : Hid (Below w.heap.size w ((w.alloc (.cells #[.int .i64 d.id, .bool d.dead, .int .i64 d.m.id, .int .i64 d.m.rid, .slice d.mv.ms.a d.mv.ms.n d.mv.ms.c, .slice d.mv.its.a d.mv.its.n d.mv.its.c, .slice d.mv.lv.a d.mv.lv.n d.mv.lv.c, .slice d.mv.tx.a d.mv.tx.n d.mv.tx.c, .int .i64 d.m.rd, .int .i64 d.m.se, .int .i64 d.m.li, .int .i64 d.m.he, .int .i64 d.m.la.c, .int .i64 d.m.la.r, .int .i64 d.m.la.q, .int .i64 d.m.la.a, .int .i64 d.m.la.b, .slice d.mv.ws.a d.mv.ws.n d.mv.ws.c, .int .i64 d.most, .int .i64 d.old, .int .i64 d.jid, .slice d.js.a d.js.n d.js.c, .slice d.bs.a d.bs.n d.bs.c, .slice d.ls.a d.ls.n d.ls.c] 65)).alloc (.cells #[.int .i64 d.id, .bool d.dead, .int .i64 d.m.id, .int .i64 d.m.rid, .slice mv.ms.a mv.ms.n mv.ms.c, .slice mv.its.a mv.its.n mv.its.c, .slice mv.lv.a mv.lv.n mv.lv.c, .slice mv.tx.a mv.tx.n mv.tx.c, .int .i64 d.m.rd, .int .i64 d.m.se, .int .i64 d.m.li, .int .i64 d.m.he, .int .i64 d.m.la.c, .int .i64 d.m.la.r, .int .i64 d.m.la.q, .int .i64 d.m.la.a, .int .i64 d.m.la.b, .slice mv.ws.a mv.ws.n mv.ws.c, .int .i64 d.most, .int .i64 d.old, .int .i64 d.jid, .slice js.a js.n js.c, .slice bs.a bs.n bs.c, .slice ls.a ls.n ls.c] 65))) := (((Below.refl _ _).alloc (by simp) _).alloc (by simp; try omega) _)
  clear hn1
  have P1 : Hid (DmO ((w.alloc (.cells #[.int .i64 d.id, .bool d.dead, .int .i64 d.m.id, .int .i64 d.m.rid, .slice d.mv.ms.a d.mv.ms.n d.mv.ms.c, .slice d.mv.its.a d.mv.its.n d.mv.its.c, .slice d.mv.lv.a d.mv.lv.n d.mv.lv.c, .slice d.mv.tx.a d.mv.tx.n d.mv.tx.c, .int .i64 d.m.rd, .int .i64 d.m.se, .int .i64 d.m.li, .int .i64 d.m.he, .int .i64 d.m.la.c, .int .i64 d.m.la.r, .int .i64 d.m.la.q, .int .i64 d.m.la.a, .int .i64 d.m.la.b, .slice d.mv.ws.a d.mv.ws.n d.mv.ws.c, .int .i64 d.most, .int .i64 d.old, .int .i64 d.jid, .slice d.js.a d.js.n d.js.c, .slice d.bs.a d.bs.n d.bs.c, .slice d.ls.a d.ls.n d.ls.c] 65)).alloc (.cells #[.int .i64 d.id, .bool d.dead, .int .i64 d.m.id, .int .i64 d.m.rid, .slice mv.ms.a mv.ms.n mv.ms.c, .slice mv.its.a mv.its.n mv.its.c, .slice mv.lv.a mv.lv.n mv.lv.c, .slice mv.tx.a mv.tx.n mv.tx.c, .int .i64 d.m.rd, .int .i64 d.m.se, .int .i64 d.m.li, .int .i64 d.m.he, .int .i64 d.m.la.c, .int .i64 d.m.la.r, .int .i64 d.m.la.q, .int .i64 d.m.la.a, .int .i64 d.m.la.b, .slice mv.ws.a mv.ws.n mv.ws.c, .int .i64 d.most, .int .i64 d.old, .int .i64 d.jid, .slice js.a js.n js.c, .slice bs.a bs.n bs.c, .slice ls.a ls.n ls.c] 65)) B1 d) := h1.out.below BW.out
  have P2 : Hid (DmO ((w.alloc (.cells #[.int .i64 d.id, .bool d.dead, .int .i64 d.m.id, .int .i64 d.m.rid, .slice d.mv.ms.a d.mv.ms.n d.mv.ms.c, .slice d.mv.its.a d.mv.its.n d.mv.its.c, .slice d.mv.lv.a d.mv.lv.n d.mv.lv.c, .slice d.mv.tx.a d.mv.tx.n d.mv.tx.c, .int .i64 d.m.rd, .int .i64 d.m.se, .int .i64 d.m.li, .int .i64 d.m.he, .int .i64 d.m.la.c, .int .i64 d.m.la.r, .int .i64 d.m.la.q, .int .i64 d.m.la.a, .int .i64 d.m.la.b, .slice d.mv.ws.a d.mv.ws.n d.mv.ws.c, .int .i64 d.most, .int .i64 d.old, .int .i64 d.jid, .slice d.js.a d.js.n d.js.c, .slice d.bs.a d.bs.n d.bs.c, .slice d.ls.a d.ls.n d.ls.c] 65)).alloc (.cells #[.int .i64 d.id, .bool d.dead, .int .i64 d.m.id, .int .i64 d.m.rid, .slice mv.ms.a mv.ms.n mv.ms.c, .slice mv.its.a mv.its.n mv.its.c, .slice mv.lv.a mv.lv.n mv.lv.c, .slice mv.tx.a mv.tx.n mv.tx.c, .int .i64 d.m.rd, .int .i64 d.m.se, .int .i64 d.m.li, .int .i64 d.m.he, .int .i64 d.m.la.c, .int .i64 d.m.la.r, .int .i64 d.m.la.q, .int .i64 d.m.la.a, .int .i64 d.m.la.b, .slice mv.ws.a mv.ws.n mv.ws.c, .int .i64 d.most, .int .i64 d.old, .int .i64 d.jid, .slice js.a js.n js.c, .slice bs.a bs.n bs.c, .slice ls.a ls.n ls.c] 65)) B2 { d with mv := mv, js := js, bs := bs, ls := ls, bu := bu, lo := lo }) := h2.out.below BW.out
  clear h1 h2
  have a0 := LA.out.cell 0
  have b0 := LB.out.cell 0
  have a1 := LA.out.cell 1
  have b1 := LB.out.cell 1
  simp only [List.getElem?_cons_succ, List.getElem?_cons_zero] at a0 b0 a1 b1
  have d0 : (d.id != d.id) = false := by simp
  have d1 : (d.dead != d.dead) = false := by simp
  have d2 : (d.most != d.most) = false := by simp
  have d3 : (d.old != d.old) = false := by simp
  go_enter Try.func50, Try.ntmps50
  go_wp2_with (first | (refine wpList_ldG rfl 62 _ rfl w.heap.size 2 rfl 65 _ LA.out [.int .i64 d.m.id, .int .i64 d.m.rid, .slice d.mv.ms.a d.mv.ms.n d.mv.ms.c, .slice d.mv.its.a d.mv.its.n d.mv.its.c, .slice d.mv.lv.a d.mv.lv.n d.mv.lv.c, .slice d.mv.tx.a d.mv.tx.n d.mv.tx.c, .int .i64 d.m.rd, .int .i64 d.m.se, .int .i64 d.m.li, .int .i64 d.m.he, .int .i64 d.m.la.c, .int .i64 d.m.la.r, .int .i64 d.m.la.q, .int .i64 d.m.la.a, .int .i64 d.m.la.b, .slice d.mv.ws.a d.mv.ws.n d.mv.ws.c] rfl _ Try.underlying62 rfl Try.sizeM ?_) | (refine wpList_ldG rfl 62 _ rfl (w.heap.size + 1) 2 rfl 65 _ LB.out [.int .i64 d.m.id, .int .i64 d.m.rid, .slice mv.ms.a mv.ms.n mv.ms.c, .slice mv.its.a mv.its.n mv.its.c, .slice mv.lv.a mv.lv.n mv.lv.c, .slice mv.tx.a mv.tx.n mv.tx.c, .int .i64 d.m.rd, .int .i64 d.m.se, .int .i64 d.m.li, .int .i64 d.m.he, .int .i64 d.m.la.c, .int .i64 d.m.la.r, .int .i64 d.m.la.q, .int .i64 d.m.la.a, .int .i64 d.m.la.b, .slice mv.ws.a mv.ws.n mv.ws.c] rfl _ Try.underlying62 rfl Try.sizeM ?_))
  generalize ((w.alloc (.cells #[.int .i64 d.id, .bool d.dead, .int .i64 d.m.id, .int .i64 d.m.rid, .slice d.mv.ms.a d.mv.ms.n d.mv.ms.c, .slice d.mv.its.a d.mv.its.n d.mv.its.c, .slice d.mv.lv.a d.mv.lv.n d.mv.lv.c, .slice d.mv.tx.a d.mv.tx.n d.mv.tx.c, .int .i64 d.m.rd, .int .i64 d.m.se, .int .i64 d.m.li, .int .i64 d.m.he, .int .i64 d.m.la.c, .int .i64 d.m.la.r, .int .i64 d.m.la.q, .int .i64 d.m.la.a, .int .i64 d.m.la.b, .slice d.mv.ws.a d.mv.ws.n d.mv.ws.c, .int .i64 d.most, .int .i64 d.old, .int .i64 d.jid, .slice d.js.a d.js.n d.js.c, .slice d.bs.a d.bs.n d.bs.c, .slice d.ls.a d.ls.n d.ls.c] 65)).alloc (.cells #[.int .i64 d.id, .bool d.dead, .int .i64 d.m.id, .int .i64 d.m.rid, .slice mv.ms.a mv.ms.n mv.ms.c, .slice mv.its.a mv.its.n mv.its.c, .slice mv.lv.a mv.lv.n mv.lv.c, .slice mv.tx.a mv.tx.n mv.tx.c, .int .i64 d.m.rd, .int .i64 d.m.se, .int .i64 d.m.li, .int .i64 d.m.he, .int .i64 d.m.la.c, .int .i64 d.m.la.r, .int .i64 d.m.la.q, .int .i64 d.m.la.a, .int .i64 d.m.la.b, .slice mv.ws.a mv.ws.n mv.ws.c, .int .i64 d.most, .int .i64 d.old, .int .i64 d.jid, .slice js.a js.n js.c, .slice bs.a bs.n bs.c, .slice ls.a ls.n ls.c] 65)) = W at *
  clear a0 b0 a1 b1
  refine (eqMate_same d.m d.mv mv B1 B2 _ P1.out.mt (show Hid (MtO W B2 d.m mv) from P2.out.mt) hs.out.mt).mono ?_
  rintro e w1 ⟨rfl, b⟩
  have z_w1 : W.heap.size ≤ w1.heap.size := b.size
  have LA : Hid (Bx w1 w.heap.size 65 [.int .i64 d.id, .bool d.dead, .int .i64 d.m.id, .int .i64 d.m.rid, .slice d.mv.ms.a d.mv.ms.n d.mv.ms.c, .slice d.mv.its.a d.mv.its.n d.mv.its.c, .slice d.mv.lv.a d.mv.lv.n d.mv.lv.c, .slice d.mv.tx.a d.mv.tx.n d.mv.tx.c, .int .i64 d.m.rd, .int .i64 d.m.se, .int .i64 d.m.li, .int .i64 d.m.he, .int .i64 d.m.la.c, .int .i64 d.m.la.r, .int .i64 d.m.la.q, .int .i64 d.m.la.a, .int .i64 d.m.la.b, .slice d.mv.ws.a d.mv.ws.n d.mv.ws.c, .int .i64 d.most, .int .i64 d.old, .int .i64 d.jid, .slice d.js.a d.js.n d.js.c, .slice d.bs.a d.bs.n d.bs.c, .slice d.ls.a d.ls.n d.ls.c]) := LA.out.later b
  have LB : Hid (Bx w1 (w.heap.size + 1) 65 [.int .i64 d.id, .bool d.dead, .int .i64 d.m.id, .int .i64 d.m.rid, .slice mv.ms.a mv.ms.n mv.ms.c, .slice mv.its.a mv.its.n mv.its.c, .slice mv.lv.a mv.lv.n mv.lv.c, .slice mv.tx.a mv.tx.n mv.tx.c, .int .i64 d.m.rd, .int .i64 d.m.se, .int .i64 d.m.li, .int .i64 d.m.he, .int .i64 d.m.la.c, .int .i64 d.m.la.r, .int .i64 d.m.la.q, .int .i64 d.m.la.a, .int .i64 d.m.la.b, .slice mv.ws.a mv.ws.n mv.ws.c, .int .i64 d.most, .int .i64 d.old, .int .i64 d.jid, .slice js.a js.n js.c, .slice bs.a bs.n bs.c, .slice ls.a ls.n ls.c]) := LB.out.later b
  have BW : Hid (Below w.heap.size w w1) := bl_next BW.out b
  have P1 : Hid (DmO w1 B1 d) := P1.out.below b
  have P2 : Hid (DmO w1 B2 { d with mv := mv, js := js, bs := bs, ls := ls, bu := bu, lo := lo }) := P2.out.below b
  clear b
  have a18 := LA.out.cell 18
  have b18 := LB.out.cell 18
  have a19 := LA.out.cell 19
  have b19 := LB.out.cell 19
  simp only [List.getElem?_cons_succ, List.getElem?_cons_zero] at a18 b18 a19 b19
  go_wp2_with (first | (refine wpList_ldG rfl 51 _ rfl w.heap.size 20 rfl 65 _ LA.out [.int .i64 d.jid, .slice d.js.a d.js.n d.js.c] rfl _ Try.underlying51 rfl Try.sizeR ?_) | (refine wpList_ldG rfl 51 _ rfl (w.heap.size + 1) 20 rfl 65 _ LB.out [.int .i64 d.jid, .slice js.a js.n js.c] rfl _ Try.underlying51 rfl Try.sizeR ?_))
  clear a18 b18 a19 b19
  refine (eqRing_same d.jid d.js.v js.v d.jms B1 B2 _ P1.out.jo (show Hid (OwnI w1 B2 js.v d.jms) from P2.out.jo) hs.out.jo).mono ?_
  rintro e w2 ⟨rfl, b⟩
  have z_w2 : w1.heap.size ≤ w2.heap.size := b.size
  have LA : Hid (Bx w2 w.heap.size 65 [.int .i64 d.id, .bool d.dead, .int .i64 d.m.id, .int .i64 d.m.rid, .slice d.mv.ms.a d.mv.ms.n d.mv.ms.c, .slice d.mv.its.a d.mv.its.n d.mv.its.c, .slice d.mv.lv.a d.mv.lv.n d.mv.lv.c, .slice d.mv.tx.a d.mv.tx.n d.mv.tx.c, .int .i64 d.m.rd, .int .i64 d.m.se, .int .i64 d.m.li, .int .i64 d.m.he, .int .i64 d.m.la.c, .int .i64 d.m.la.r, .int .i64 d.m.la.q, .int .i64 d.m.la.a, .int .i64 d.m.la.b, .slice d.mv.ws.a d.mv.ws.n d.mv.ws.c, .int .i64 d.most, .int .i64 d.old, .int .i64 d.jid, .slice d.js.a d.js.n d.js.c, .slice d.bs.a d.bs.n d.bs.c, .slice d.ls.a d.ls.n d.ls.c]) := LA.out.later b
  have LB : Hid (Bx w2 (w.heap.size + 1) 65 [.int .i64 d.id, .bool d.dead, .int .i64 d.m.id, .int .i64 d.m.rid, .slice mv.ms.a mv.ms.n mv.ms.c, .slice mv.its.a mv.its.n mv.its.c, .slice mv.lv.a mv.lv.n mv.lv.c, .slice mv.tx.a mv.tx.n mv.tx.c, .int .i64 d.m.rd, .int .i64 d.m.se, .int .i64 d.m.li, .int .i64 d.m.he, .int .i64 d.m.la.c, .int .i64 d.m.la.r, .int .i64 d.m.la.q, .int .i64 d.m.la.a, .int .i64 d.m.la.b, .slice mv.ws.a mv.ws.n mv.ws.c, .int .i64 d.most, .int .i64 d.old, .int .i64 d.jid, .slice js.a js.n js.c, .slice bs.a bs.n bs.c, .slice ls.a ls.n ls.c]) := LB.out.later b
  have BW : Hid (Below w.heap.size w w2) := bl_next BW.out b
  have P1 : Hid (DmO w2 B1 d) := P1.out.below b
  have P2 : Hid (DmO w2 B2 { d with mv := mv, js := js, bs := bs, ls := ls, bu := bu, lo := lo }) := P2.out.below b
  clear b
  have a22 := LA.out.cell 22
  have b22 := LB.out.cell 22
  simp only [List.getElem?_cons_succ, List.getElem?_cons_zero] at a22 b22
  go_wp2_with fail
  clear a22 b22
  refine (eqBus_any d.bs bs d.bu bu B1 B2 _ P1.out.bu (show Hid (BusO w2 B2 bs bu) from P2.out.bu) hb hs.out.bus.1 hs.out.bus.2).mono ?_
  rintro e w3 ⟨rfl, b⟩
  have z_w3 : w2.heap.size ≤ w3.heap.size := b.size
  have LA : Hid (Bx w3 w.heap.size 65 [.int .i64 d.id, .bool d.dead, .int .i64 d.m.id, .int .i64 d.m.rid, .slice d.mv.ms.a d.mv.ms.n d.mv.ms.c, .slice d.mv.its.a d.mv.its.n d.mv.its.c, .slice d.mv.lv.a d.mv.lv.n d.mv.lv.c, .slice d.mv.tx.a d.mv.tx.n d.mv.tx.c, .int .i64 d.m.rd, .int .i64 d.m.se, .int .i64 d.m.li, .int .i64 d.m.he, .int .i64 d.m.la.c, .int .i64 d.m.la.r, .int .i64 d.m.la.q, .int .i64 d.m.la.a, .int .i64 d.m.la.b, .slice d.mv.ws.a d.mv.ws.n d.mv.ws.c, .int .i64 d.most, .int .i64 d.old, .int .i64 d.jid, .slice d.js.a d.js.n d.js.c, .slice d.bs.a d.bs.n d.bs.c, .slice d.ls.a d.ls.n d.ls.c]) := LA.out.later b
  have LB : Hid (Bx w3 (w.heap.size + 1) 65 [.int .i64 d.id, .bool d.dead, .int .i64 d.m.id, .int .i64 d.m.rid, .slice mv.ms.a mv.ms.n mv.ms.c, .slice mv.its.a mv.its.n mv.its.c, .slice mv.lv.a mv.lv.n mv.lv.c, .slice mv.tx.a mv.tx.n mv.tx.c, .int .i64 d.m.rd, .int .i64 d.m.se, .int .i64 d.m.li, .int .i64 d.m.he, .int .i64 d.m.la.c, .int .i64 d.m.la.r, .int .i64 d.m.la.q, .int .i64 d.m.la.a, .int .i64 d.m.la.b, .slice mv.ws.a mv.ws.n mv.ws.c, .int .i64 d.most, .int .i64 d.old, .int .i64 d.jid, .slice js.a js.n js.c, .slice bs.a bs.n bs.c, .slice ls.a ls.n ls.c]) := LB.out.later b
  have BW : Hid (Below w.heap.size w w3) := bl_next BW.out b
  have P1 : Hid (DmO w3 B1 d) := P1.out.below b
  have P2 : Hid (DmO w3 B2 { d with mv := mv, js := js, bs := bs, ls := ls, bu := bu, lo := lo }) := P2.out.below b
  clear b
  have a23 := LA.out.cell 23
  have b23 := LB.out.cell 23
  simp only [List.getElem?_cons_succ, List.getElem?_cons_zero] at a23 b23
  go_wp2_with fail
  clear a23 b23
  refine (eqEvs_any d.ls ls d.lo lo B1 B2 _ P1.out.lo (show Hid (EvsO w3 B2 ls lo) from P2.out.lo) hl hs.out.los.1 hs.out.los.2).mono ?_
  rintro e w4 ⟨rfl, b⟩
  have z_w4 : w3.heap.size ≤ w4.heap.size := b.size
  have LA : Hid (Bx w4 w.heap.size 65 [.int .i64 d.id, .bool d.dead, .int .i64 d.m.id, .int .i64 d.m.rid, .slice d.mv.ms.a d.mv.ms.n d.mv.ms.c, .slice d.mv.its.a d.mv.its.n d.mv.its.c, .slice d.mv.lv.a d.mv.lv.n d.mv.lv.c, .slice d.mv.tx.a d.mv.tx.n d.mv.tx.c, .int .i64 d.m.rd, .int .i64 d.m.se, .int .i64 d.m.li, .int .i64 d.m.he, .int .i64 d.m.la.c, .int .i64 d.m.la.r, .int .i64 d.m.la.q, .int .i64 d.m.la.a, .int .i64 d.m.la.b, .slice d.mv.ws.a d.mv.ws.n d.mv.ws.c, .int .i64 d.most, .int .i64 d.old, .int .i64 d.jid, .slice d.js.a d.js.n d.js.c, .slice d.bs.a d.bs.n d.bs.c, .slice d.ls.a d.ls.n d.ls.c]) := LA.out.later b
  have LB : Hid (Bx w4 (w.heap.size + 1) 65 [.int .i64 d.id, .bool d.dead, .int .i64 d.m.id, .int .i64 d.m.rid, .slice mv.ms.a mv.ms.n mv.ms.c, .slice mv.its.a mv.its.n mv.its.c, .slice mv.lv.a mv.lv.n mv.lv.c, .slice mv.tx.a mv.tx.n mv.tx.c, .int .i64 d.m.rd, .int .i64 d.m.se, .int .i64 d.m.li, .int .i64 d.m.he, .int .i64 d.m.la.c, .int .i64 d.m.la.r, .int .i64 d.m.la.q, .int .i64 d.m.la.a, .int .i64 d.m.la.b, .slice mv.ws.a mv.ws.n mv.ws.c, .int .i64 d.most, .int .i64 d.old, .int .i64 d.jid, .slice js.a js.n js.c, .slice bs.a bs.n bs.c, .slice ls.a ls.n ls.c]) := LB.out.later b
  have BW : Hid (Below w.heap.size w w4) := bl_next BW.out b
  have P1 : Hid (DmO w4 B1 d) := P1.out.below b
  have P2 : Hid (DmO w4 B2 { d with mv := mv, js := js, bs := bs, ls := ls, bu := bu, lo := lo }) := P2.out.below b
  clear b
  go_wp2_with fail
  go_ret
  exact ⟨rfl, BW.out⟩
theorem eqDaemon_any (a b : Dm) (B1 B2 : Nat) (w : World) (h1 : Hid (DmO w B1 a)) (h2 : Hid (DmO w B2 b)) (he : Hid (a.Same b)) (hs : Hid (DmS a)) :
    Calls Try.prog 50 #[.agg #[.int .i64 a.id, .bool a.dead, .int .i64 a.m.id, .int .i64 a.m.rid, .slice a.mv.ms.a a.mv.ms.n a.mv.ms.c, .slice a.mv.its.a a.mv.its.n a.mv.its.c, .slice a.mv.lv.a a.mv.lv.n a.mv.lv.c, .slice a.mv.tx.a a.mv.tx.n a.mv.tx.c, .int .i64 a.m.rd, .int .i64 a.m.se, .int .i64 a.m.li, .int .i64 a.m.he, .int .i64 a.m.la.c, .int .i64 a.m.la.r, .int .i64 a.m.la.q, .int .i64 a.m.la.a, .int .i64 a.m.la.b, .slice a.mv.ws.a a.mv.ws.n a.mv.ws.c, .int .i64 a.most, .int .i64 a.old, .int .i64 a.jid, .slice a.js.a a.js.n a.js.c, .slice a.bs.a a.bs.n a.bs.c, .slice a.ls.a a.ls.n a.ls.c], .agg #[.int .i64 b.id, .bool b.dead, .int .i64 b.m.id, .int .i64 b.m.rid, .slice b.mv.ms.a b.mv.ms.n b.mv.ms.c, .slice b.mv.its.a b.mv.its.n b.mv.its.c, .slice b.mv.lv.a b.mv.lv.n b.mv.lv.c, .slice b.mv.tx.a b.mv.tx.n b.mv.tx.c, .int .i64 b.m.rd, .int .i64 b.m.se, .int .i64 b.m.li, .int .i64 b.m.he, .int .i64 b.m.la.c, .int .i64 b.m.la.r, .int .i64 b.m.la.q, .int .i64 b.m.la.a, .int .i64 b.m.la.b, .slice b.mv.ws.a b.mv.ws.n b.mv.ws.c, .int .i64 b.most, .int .i64 b.old, .int .i64 b.jid, .slice b.js.a b.js.n b.js.c, .slice b.bs.a b.bs.n b.bs.c, .slice b.ls.a b.ls.n b.ls.c]] w fun x w' => x = .returned (.bool true) ∧ Below w.heap.size w w' := by
  obtain ⟨e1, e2, e3, e4, e5, e6, e7, e8, e9⟩ := he.out
  obtain ⟨id, dead, m, mv, most, old, jid, jms, js, bu, bs, lo, ls⟩ := b
  dsimp only at e1 e2 e3 e4 e5 e6 e7 e8 e9
  subst e1 e2 e3 e4 e5 e6 e7
  exact eqDaemon_0 a mv js bs ls bu lo B1 B2 w h1 h2 e8 e9 hs
end Go.Proofs.Ytoahljkifikbaaa


/- Lists of rings: marked, and looked at again. Written by gen_dn.py. -/
namespace Go.Proofs.Ytoahljkifikbaaa
open Go.RowKit Pl
set_option linter.unusedVariables false
set_option linter.unusedSimpArgs false

def RnsOwn (s : Sv) (bs : List Rn) (y : Nat) : Prop := s.v.ownBlock = some y ∨ ∃ b ∈ bs, b.own y
structure RnsA (s : Sv) (bs : List Rn) : Prop where
  row : ∀ y, s.v.ownBlock = some y → ∀ b ∈ bs, ¬ b.own y
  two : bs.Pairwise fun a b => ∀ x, a.own x → ¬ b.own x
theorem RnsO.olt {w : World} {B : Nat} {s : Sv} {bs : List Rn} (h : RnsO w B s bs) {y : Nat} (hy : RnsOwn s bs y) : B ≤ y ∧ y < w.heap.size := by
  rcases hy with hy | ⟨b, hb, hy⟩
  · exact h.1.lt y hy
  · exact (h.2 b hb).lt y hy
theorem RnsUp.a {s : Sv} {bs : List Rn} (h : RnsUp bs) (hr : ∀ b, s.v.ownBlock = some b → ∀ e ∈ bs, ∀ x, e.own x → b < x) : RnsA s bs :=
  ⟨fun y hy b hb hx => by have := hr y hy b hb y hx; omega, h.2.imp fun h x hx hy => by have := h x x hx hy; omega⟩
theorem RnsO.keepo {w w' : World} {B : Nat} {s : Sv} {bs : List Rn} (h : RnsO w B s bs) (hk : ∀ b, RnsOwn s bs b → b < w.heap.size → w'.heap[b]? = w.heap[b]?) : RnsO w' B s bs := ⟨h.1.keep fun b hb hl => hk b (.inl hb) hl, fun e he => OwnI.keep (h.2 e he) fun b hb hl => hk b (.inr ⟨e, he, hb⟩) hl⟩
def zRn : Rn := ⟨0, [], zSv⟩
def fdRn (u : Rn) : List Fd := [⟨0, 0, none, []⟩, ⟨1, 0, some u.s, [0]⟩]
def atRn (es : List Rn) (j : Nat) : Rn := (es[j]?).getD zRn
theorem atRn_is {es : List Rn} {j : Nat} (h : j < es.length) : atRn es j = es[j] := by simp [atRn, h]
theorem Rn.lvs {w : World} {B : Nat} {e : Rn} (h : e.O w B) : LvS w e.s 1 := OwnI.lv h
theorem Rn.ow {w : World} {B : Nat} {e : Rn} (h : e.O w B) {f : Fd} (hf : f ∈ fdRn e) {x : Nat} (hx : f.ow x) : e.own x := by
  obtain ⟨s, h1, h2, h3⟩ := hx
  simp only [fdRn, List.mem_cons, List.not_mem_nil, or_false] at hf
  have lv := Rn.lvs h
  rcases hf with rfl | rfl
  · cases h1
  · simp only [Option.some.injEq] at h1
    subst h1
    rw [← h3]
    exact ow_own (fun h0 => (lv h0).1) h2
theorem fdRn_ok {w : World} {B : Nat} {s : Sv} {es : List Rn} (h : RnsO w B s es) (a : RnsA s es) : FdOk w (svB s) 2 es.length (fun j => fdRn (atRn es j)) := by
  refine ⟨fun j hj f hf hs => ?_, fun j hj f hf hx => ?_, fun j hj => ?_, fun i j hij hj f hf f' hf' x hx hy => ?_, fun j hj f hf s' hs => ?_⟩
  · simp only [fdRn, List.mem_cons, List.not_mem_nil, or_false] at hf
    rcases hf with rfl | rfl <;> first | (simp; done) | cases hs
  · have ho := h.2 _ (List.getElem_mem hj)
    try dsimp only at hf
    rw [atRn_is hj] at hf
    obtain ⟨ha, _⟩ := rowCells h.1 (by simpa using (by omega : 0 < es.length))
    exact a.row (svB s) (by simp [Sv.v, Value.ownBlock, ha]) _ (List.getElem_mem hj) (Rn.ow ho hf hx)
  · try dsimp only
    rw [atRn_is hj]
    have lv := Rn.lvs (h.2 _ (List.getElem_mem hj))
    obtain ⟨u, hu⟩ : ∃ u, u = es[j] := ⟨_, rfl⟩
    have hm : u ∈ es := by rw [hu]; exact List.getElem_mem hj
    rw [← hu] at lv ⊢
    simp only [fdRn, List.pairwise_cons, List.mem_cons, List.not_mem_nil, or_false, forall_eq_or_imp, forall_eq, List.Pairwise.nil, and_true, Fd.ow]
    simp
  · have ho := h.2 _ (List.getElem_mem hj)
    have hi : i < es.length := by omega
    have hoi := h.2 _ (List.getElem_mem hi)
    try dsimp only at hf hf'
    rw [atRn_is hi] at hf
    rw [atRn_is hj] at hf'
    exact List.pairwise_iff_getElem.1 a.two i j hi hj hij x (Rn.ow hoi hf hx) (Rn.ow ho hf' hy)
  · have lv := Rn.lvs (h.2 _ (List.getElem_mem hj))
    try dsimp only at hf
    rw [atRn_is hj] at hf
    simp only [fdRn, List.mem_cons, List.not_mem_nil, or_false] at hf
    rcases hf with rfl | rfl
    · cases hs
    · simp only [Option.some.injEq] at hs
      subst hs
      exact lv
theorem pcRn_len (g o : Nat) (u : Rn) : (pc g o (fdRn u)).length = RnSeg.len u := by
  simp [pc, fdRn, Fd.sp, sps_len, RnSeg.len]
  omega
theorem segRn {w : World} {B : Nat} {s : Sv} {es : List Rn} (h : RnsO w B s es) (a : RnsA s es) : RnSegL w (tls (svB s) (svO s) 2 (fun j => fdRn (atRn es j)) es.length) s.a s.n (atRn es) (tlN (svB s) (svO s) 2 (fun j => fdRn (atRn es j))) := by
  have hF := fdRn_ok h a
  have hn : s.n = es.length := by have := h.1.slen; simpa using this
  rw [hn]
  refine ⟨fun j hj => ?_, fun j hj => ?_⟩
  · obtain ⟨ha, hlt, hc, hfz⟩ := rowCells h.1 (by simpa using (by omega : 0 < es.length))
    have ho := h.2 _ (List.getElem_mem hj)
    have lv := Rn.lvs ho
    refine ⟨svB s, svO s, ha, ?_⟩
    have hat : ∀ r, r < (pc (svB s) (svO s + j * 2) (fdRn (atRn es j))).length → (tls (svB s) (svO s) 2 (fun j => fdRn (atRn es j)) es.length)[tlN (svB s) (svO s) 2 (fun j => fdRn (atRn es j)) j + r]? = (pc (svB s) (svO s + j * 2) (fdRn (atRn es j)))[r]? := fun r hr => tls_at (F := fun j => fdRn (atRn es j)) hj hr
    have hrow : ∀ r u, (es[j].row)[r]? = some u → w.cell? ⟨svB s, svO s + j * 2 + r, none⟩ = some u := fun r u hu => hc j r u (by simpa using hj) (by simpa [hj] using hu)
    have hnot : ∀ c, c < 2 → (∀ i, i < es.length → ∀ f ∈ fdRn (atRn es i), f.s = none → f.c ≠ c) → ∀ x ∈ tls (svB s) (svO s) 2 (fun j => fdRn (atRn es j)) es.length, ¬ (x.1 = svB s ∧ x.2.1 = svO s + j * 2 + c) := fun c hc1 hc2 => tls_not hF hj hc1 hc2
    rw [atRn_is hj] at hat ⊢
    obtain ⟨u, hu⟩ : ∃ u, u = es[j] := ⟨_, rfl⟩
    rw [← hu] at hat hrow lv ⊢
    generalize tlN (svB s) (svO s) 2 (fun j => fdRn (atRn es j)) j = n at *
    generalize tls (svB s) (svO s) 2 (fun j => fdRn (atRn es j)) es.length = TL at *
    generalize svO s + j * 2 = o at *
    generalize svB s = g at *
    have fat : ∀ (A : List Fd) (f : Fd) (C : List Fd) (r : Nat), fdRn u = A ++ f :: C → r < (f.sp g o).length → TL[n + ((pc g o A).length + r)]? = (f.sp g o)[r]? := fun A f C r e hr => by
      rw [hat _ (by rw [e]; exact pc_len_lt A f C hr), e]
      exact pc_at A f C hr
    exact { gl := hlt, p0 := by have h := fat [] ⟨0, 0, none, []⟩ [⟨1, 0, some u.s, [0]⟩] 0 rfl (by simp [Fd.sp]); simp [pc, Fd.sp, sps_len] at h; first | exact h | (rw [← h]; congr 1; omega), h1 := hrow 1 _ rfl, q1 := hnot 1 (by omega) (fun i hi f hf hs => by simp only [fdRn, List.mem_cons, List.not_mem_nil, or_false] at hf; rcases hf with rfl | rfl <;> first | (simp; done) | cases hs), s1 := seg_of (fun h0 => (lv h0).1) (fun t ht => by have h := fat [⟨0, 0, none, []⟩] ⟨1, 0, some u.s, [0]⟩ [] t rfl (by simpa [Fd.sp, sps_len] using ht); have h2 := sps_at (ds := [0]) (s := u.s) ht; refine (congrArg (fun i => TL[i]?) (?_ : _ = n + ((pc g o [⟨0, 0, none, []⟩]).length + t))).trans (h.trans h2); simp [pc, Fd.sp, sps_len]; try omega) }
  · rw [tlN_succ, pcRn_len]
/-- a list that is marked from K up to M. -/
def HeldRn (w : World) (s : Sv) (es : List Rn) (K M : Nat) : Prop := ∃ (TL : List Spot) (us : Nat → Rn) (N : Nat → Nat), Held w TL K ∧ RnSegL w TL s.a s.n us N ∧ N 0 = 0 ∧ M = K + N s.n ∧ s.n ≤ 1048576 ∧ (∀ x ∈ TL, RnsOwn s es x.1)
theorem HeldRn.keep {w w' : World} {s : Sv} {es : List Rn} {K M : Nat} (h : HeldRn w s es K M) (hz : w.heap.size ≤ w'.heap.size) (hk : ∀ b, RnsOwn s es b → b < w.heap.size → w'.heap[b]? = w.heap[b]?) : HeldRn w' s es K M := by
  obtain ⟨TL, us, N, h1, h2, h3, h4, h6, h5⟩ := h
  refine ⟨TL, us, N, fun i x hx => ?_, ⟨fun j hj => ?_, h2.nx⟩, h3, h4, h6, h5⟩
  · obtain ⟨k1, k2⟩ := h1 i x hx
    exact ⟨by omega, (cell_block (hk x.1 (h5 x (List.mem_of_getElem? hx)) k1)).trans k2⟩
  · obtain ⟨g, off, e, x⟩ := h2.one j hj
    have hb := hk g (.inl (by simp [Sv.v, Value.ownBlock, e])) x.gl
    exact ⟨g, off, e, { x with gl := by have := x.gl; omega, h1 := (cell_block hb).trans x.h1 }⟩
theorem HeldRn.later {w w' : World} {s : Sv} {es : List Rn} {K M : Nat} (h : HeldRn w s es K M) (b : Below w.heap.size w w') : HeldRn w' s es K M := h.keep b.size fun k _ hk => b.block k hk
theorem tlN_Rn {w : World} {B : Nat} {s : Sv} {es : List Rn} (h : RnsO w B s es) : ∀ k, k ≤ es.length → tlN (svB s) (svO s) 2 (fun j => fdRn (atRn es j)) k ≤ 1 * k + 1 * Rns.tot (es.take k)
  | 0, _ => by simp [tlN, tls]
  | k + 1, hk => by
    have ih := tlN_Rn h k (by omega)
    have ho := h.2 _ (List.getElem_mem (show k < es.length by omega))
    rw [tlN_succ, pcRn_len, Rns.tot_take es k (by omega), atRn_is (by omega)]
    have := OwnI.slen ho
    unfold RnSeg.len Rn.sz
    omega
theorem markRns_o (s : Sv) (es : List Rn) (B K : Nat) (w : World) (h : Hid (RnsO w B s es)) (a : Hid (RnsA s es)) (hK : 0 < K) (hn : es.length ≤ 1048576) (hl : K + (1 * es.length + 1 * Rns.tot es) ≤ 39999990) :
    Calls Try.prog 18 #[.slice s.a s.n s.c, .int .i64 K] w fun e w' => ∃ M : Nat, e = .returned (.int .i64 (M : Int)) ∧ K ≤ M ∧ M ≤ K + (1 * es.length + 1 * Rns.tot es) ∧ HeldRn w' s es K M ∧ Gr (RnsOwn s es) w w' := by
  have hN := h.out.1.slen
  rw [List.length_map] at hN
  have tok := tls_ok (F := fun j => fdRn (atRn es j)) h.out.1 (by simpa using fdRn_ok h.out a.out)
  rw [List.length_map] at tok
  have sg := segRn h.out a.out
  have hb := tlN_Rn h.out es.length (Nat.le_refl _)
  rw [List.take_of_length_le (Nat.le_refl _)] at hb
  have hle : K + tlN (svB s) (svO s) 2 (fun j => fdRn (atRn es j)) s.n ≤ 39999990 := by rw [hN]; omega
  have hin : ∀ x ∈ tls (svB s) (svO s) 2 (fun j => fdRn (atRn es j)) es.length, RnsOwn s es x.1 := fun x hx => by
    rcases tls_in hx with h1 | ⟨j, hj, f, hf, h1⟩
    · obtain ⟨j, hj, _⟩ := tls_mem hx
      obtain ⟨ha, _⟩ := rowCells h.out.1 (by simpa using (by omega : 0 < es.length))
      rw [h1]
      exact .inl (by simp [Sv.v, Value.ownBlock, ha])
    · rw [atRn_is hj] at hf
      exact .inr ⟨_, List.getElem_mem hj, Rn.ow (h.out.2 _ (List.getElem_mem hj)) hf h1⟩
  have hz0 : tlN (svB s) (svO s) 2 (fun j => fdRn (atRn es j)) 0 = 0 := by simp [tlN, tls]
  have mst : MkI w w (tls (svB s) (svO s) 2 (fun j => fdRn (atRn es j)) es.length) K (tlN (svB s) (svO s) 2 (fun j => fdRn (atRn es j)) 0) w := by rw [hz0]; exact MkI.start w _ K
  refine (markrings_sp w _ K s.a s.n s.c (atRn es) (tlN (svB s) (svO s) 2 (fun j => fdRn (atRn es j))) (K : Int) w tok mst sg (by rw [hz0]; rfl : (K : Int) = ((K + tlN (svB s) (svO s) 2 (fun j => fdRn (atRn es j)) 0 : Nat) : Int)) hle (by rw [hN]; omega) hK).mono ?_
  rintro e w' ⟨M, rfl, hM, mk⟩
  have hTL : tlN (svB s) (svO s) 2 (fun j => fdRn (atRn es j)) s.n = (tls (svB s) (svO s) 2 (fun j => fdRn (atRn es j)) es.length).length := by rw [hN]; rfl
  have b0 := mk.below 0 (fun _ _ => Nat.zero_le _) (Nat.zero_le _)
  refine ⟨M, rfl, by omega, by rw [hM, hN]; omega, ⟨_, _, _, (show Held w' _ K from (by rw [hTL] at mk; exact mk.held tok)), sg.marked mk, by simp [tlN, tls], hM, by rw [hN]; omega, hin⟩, ⟨b0.os, b0.tape, b0.output, mk.size, fun b hb hn => mk.blk b hb (fun x hx e => hn (e ▸ hin x hx))⟩⟩
theorem heldRns_o (s : Sv) (es : List Rn) (K M : Nat) (w : World) (h : Hid (HeldRn w s es K M)) (hK : 0 < K) (hl : M ≤ 39999990) :
    Calls Try.prog 40 #[.slice s.a s.n s.c, .int .i64 K] w fun e w' => e = .returned (.int .i64 (M : Int)) ∧ Below w.heap.size w w' := by
  obtain ⟨TL, us, N, h1, h2, h3, h4, h6, h5⟩ := h.out
  refine (heldrings_sp TL K s.a s.n s.c us N (K : Int) w h1 h2 (by rw [h3]; rfl : _ = _) (by omega) (by omega) hK).mono ?_
  rintro e w' ⟨M', rfl, hM, b⟩
  exact ⟨by rw [hM, h4], b⟩
end Go.Proofs.Ytoahljkifikbaaa


/- Events that are copied. Written by gen_cd.py. -/
namespace Go.Proofs.Ytoahljkifikbaaa
open Go.RowKit Pl
set_option linter.unusedVariables false
set_option linter.unusedSimpArgs false

/-- the lists of a row apart: by their types. -/
theorem EvsO.rowa {w : World} {B : Nat} {s : Sv} {es : List Ev} (h : EvsO w B s es) : ∀ y, s.v.ownBlock = some y → ∀ e ∈ es, ¬ e.own y := fun y hy e he hx => by
  obtain ⟨c1, h1⟩ := h.1.blk hy
  rcases hx with hx | hx
  · obtain ⟨c2, h2⟩ := own_is_i (h.2 e he).1 hx
    rw [h1] at h2; simp at h2
  · obtain ⟨c2, h2⟩ := own_is_i (h.2 e he).2 hx
    rw [h1] at h2; simp at h2
theorem EvsUp.snoc {es : List Ev} {e : Ev} {N : Nat} (h : EvsUp es) (hu : e.Up) (hlt : ∀ c ∈ es, ∀ x, c.own x → x < N) (hge : ∀ x, e.own x → N ≤ x) : EvsUp (es ++ [e]) :=
  ⟨fun x hx => by
    rcases List.mem_append.1 hx with hx | hx
    · exact h.1 x hx
    · rw [List.mem_singleton.1 hx]; exact hu, List.pairwise_append.2 ⟨h.2, List.pairwise_singleton _ _, fun a ha b hb x y hx hy => by
      rw [List.mem_singleton.1 hb] at hy
      have := hlt a ha x hx
      have := hge y hy
      omega⟩⟩
end Go.Proofs.Ytoahljkifikbaaa


/- Lists of bundles: marked, and looked at again. Written by gen_gs.py. -/
namespace Go.Proofs.Ytoahljkifikbaaa
open Go.RowKit Pl
set_option linter.unusedVariables false
set_option linter.unusedSimpArgs false

/-- where the places of one lie. -/
structure BuSeg (w : World) (TL : List Spot) (n g o : Nat) (u : Bu) : Prop where
  gl : g < w.heap.size
  p0 : TL[n]? = some (g, o, 0)
  p1 : TL[n + 1]? = some (g, o + 1, 0)
  p2 : TL[n + 1 + 1]? = some (g, o + 2, 0)
  h3 : w.cell? ⟨g, o + 3, none⟩ = some (.slice u.s.a u.s.n u.s.c)
  q3 : ∀ s ∈ TL, ¬ (s.1 = g ∧ s.2.1 = o + 3)
  s3 : Seg TL (n + 1 + 1 + 1) u.s.a u.s.n [0, 0, 0, 2]
def BuSeg.len (u : Bu) : Nat := 1 + 1 + 1 + 4 * u.s.n
theorem BuSeg.marked {w0 ws w : World} {TL : List Spot} {n g o K m : Nat} {u : Bu} (h : BuSeg w0 TL n g o u) (k : MkI w0 ws TL K m w) : BuSeg w TL n g o u :=
  { h with gl := by have := h.gl; have := k.size; omega, h3 := k.cell h.gl h.q3 h.h3 }
theorem BuSeg.later {w w' : World} {TL : List Spot} {n g o : Nat} {u : Bu} (h : BuSeg w TL n g o u) (b : Below w.heap.size w w') : BuSeg w' TL n g o u :=
  { h with gl := by have := h.gl; have := b.size; omega, h3 := (cell_block (b.block _ h.gl)).trans h.h3 }
/-- .. and of a list of them. -/
structure BuSegL (w : World) (TL : List Spot) (ao : Option Addr) (len : Nat) (us : Nat → Bu) (N : Nat → Nat) : Prop where
  one : ∀ j, j < len → ∃ g off, ao = some ⟨g, off, none⟩ ∧ BuSeg w TL (N j) g (off + j * 4) (us j)
  nx : ∀ j, j < len → N (j + 1) = N j + BuSeg.len (us j)
theorem BuSegL.marked {w0 ws w : World} {TL : List Spot} {ao : Option Addr} {len K m : Nat} {us : Nat → Bu} {N : Nat → Nat} (h : BuSegL w0 TL ao len us N) (k : MkI w0 ws TL K m w) : BuSegL w TL ao len us N := ⟨fun j hj => by obtain ⟨g, off, e, x⟩ := h.one j hj; exact ⟨g, off, e, x.marked k⟩, h.nx⟩
theorem BuSegL.later {w w' : World} {TL : List Spot} {ao : Option Addr} {len : Nat} {us : Nat → Bu} {N : Nat → Nat} (h : BuSegL w TL ao len us N) (b : Below w.heap.size w w') : BuSegL w' TL ao len us N := ⟨fun j hj => by obtain ⟨g, off, e, x⟩ := h.one j hj; exact ⟨g, off, e, x.later b⟩, h.nx⟩
theorem BuSegL.le {w : World} {TL : List Spot} {ao : Option Addr} {len : Nat} {us : Nat → Bu} {N : Nat → Nat} (h : BuSegL w TL ao len us N) : ∀ (d j : Nat), j + d = len → N j ≤ N len
  | 0, j, e => by rw [show j = len by omega]; exact Nat.le_refl _
  | d + 1, j, e => by
    have h1 := h.nx j (by omega)
    have h2 := h.le d (j + 1) (by omega)
    omega
end Go.Proofs.Ytoahljkifikbaaa


/- Lists of events: marked, and looked at again. Written by gen_gs.py. -/
namespace Go.Proofs.Ytoahljkifikbaaa
open Go.RowKit Pl
set_option linter.unusedVariables false
set_option linter.unusedSimpArgs false

/-- where the places of one lie. -/
structure EvSeg (w : World) (TL : List Spot) (n g o : Nat) (u : Ev) : Prop where
  gl : g < w.heap.size
  p0 : TL[n]? = some (g, o, 0)
  p1 : TL[n + 1]? = some (g, o + 1, 0)
  h2 : w.cell? ⟨g, o + 2, none⟩ = some (.slice u.sm.a u.sm.n u.sm.c)
  q2 : ∀ s ∈ TL, ¬ (s.1 = g ∧ s.2.1 = o + 2)
  s2 : Seg TL (n + 1 + 1) u.sm.a u.sm.n [0]
  p3 : TL[n + 1 + 1 + u.sm.n]? = some (g, o + 3, 0)
  p4 : TL[n + 1 + 1 + u.sm.n + 1]? = some (g, o + 4, 0)
  p5 : TL[n + 1 + 1 + u.sm.n + 1 + 1]? = some (g, o + 5, 0)
  p6 : TL[n + 1 + 1 + u.sm.n + 1 + 1 + 1]? = some (g, o + 6, 2)
  h7 : w.cell? ⟨g, o + 7, none⟩ = some (.slice u.sw.a u.sw.n u.sw.c)
  q7 : ∀ s ∈ TL, ¬ (s.1 = g ∧ s.2.1 = o + 7)
  s7 : Seg TL (n + 1 + 1 + u.sm.n + 1 + 1 + 1 + 1) u.sw.a u.sw.n [0]
def EvSeg.len (u : Ev) : Nat := 1 + 1 + u.sm.n + 1 + 1 + 1 + 1 + u.sw.n
theorem EvSeg.marked {w0 ws w : World} {TL : List Spot} {n g o K m : Nat} {u : Ev} (h : EvSeg w0 TL n g o u) (k : MkI w0 ws TL K m w) : EvSeg w TL n g o u :=
  { h with gl := by have := h.gl; have := k.size; omega, h2 := k.cell h.gl h.q2 h.h2, h7 := k.cell h.gl h.q7 h.h7 }
theorem EvSeg.later {w w' : World} {TL : List Spot} {n g o : Nat} {u : Ev} (h : EvSeg w TL n g o u) (b : Below w.heap.size w w') : EvSeg w' TL n g o u :=
  { h with gl := by have := h.gl; have := b.size; omega, h2 := (cell_block (b.block _ h.gl)).trans h.h2, h7 := (cell_block (b.block _ h.gl)).trans h.h7 }
/-- .. and of a list of them. -/
structure EvSegL (w : World) (TL : List Spot) (ao : Option Addr) (len : Nat) (us : Nat → Ev) (N : Nat → Nat) : Prop where
  one : ∀ j, j < len → ∃ g off, ao = some ⟨g, off, none⟩ ∧ EvSeg w TL (N j) g (off + j * 8) (us j)
  nx : ∀ j, j < len → N (j + 1) = N j + EvSeg.len (us j)
theorem EvSegL.marked {w0 ws w : World} {TL : List Spot} {ao : Option Addr} {len K m : Nat} {us : Nat → Ev} {N : Nat → Nat} (h : EvSegL w0 TL ao len us N) (k : MkI w0 ws TL K m w) : EvSegL w TL ao len us N := ⟨fun j hj => by obtain ⟨g, off, e, x⟩ := h.one j hj; exact ⟨g, off, e, x.marked k⟩, h.nx⟩
theorem EvSegL.later {w w' : World} {TL : List Spot} {ao : Option Addr} {len : Nat} {us : Nat → Ev} {N : Nat → Nat} (h : EvSegL w TL ao len us N) (b : Below w.heap.size w w') : EvSegL w' TL ao len us N := ⟨fun j hj => by obtain ⟨g, off, e, x⟩ := h.one j hj; exact ⟨g, off, e, x.later b⟩, h.nx⟩
theorem EvSegL.le {w : World} {TL : List Spot} {ao : Option Addr} {len : Nat} {us : Nat → Ev} {N : Nat → Nat} (h : EvSegL w TL ao len us N) : ∀ (d j : Nat), j + d = len → N j ≤ N len
  | 0, j, e => by rw [show j = len by omega]; exact Nat.le_refl _
  | d + 1, j, e => by
    have h1 := h.nx j (by omega)
    have h2 := h.le d (j + 1) (by omega)
    omega
end Go.Proofs.Ytoahljkifikbaaa


/- Lists of bundles, lists of events: marked, and looked at again. Written by gen_gpl.py. -/
namespace Go.Proofs.Ytoahljkifikbaaa
open Go.RowKit Pl
set_option linter.unusedVariables false
set_option linter.unusedSimpArgs false

def zBu : Bu := ⟨0, 0, 0, [], zSv⟩
def fdBu (u : Bu) : List Fd := [⟨0, 0, none, []⟩, ⟨1, 0, none, []⟩, ⟨2, 0, none, []⟩, ⟨3, 0, some u.s, [0, 0, 0, 2]⟩]
def atBu (es : List Bu) (j : Nat) : Bu := (es[j]?).getD zBu
theorem Bu.lvs {w : World} {B : Nat} {e : Bu} (h : e.O w B) : LvS w e.s 4 := SlI.lv h
theorem Bu.ow {w : World} {B : Nat} {e : Bu} (h : e.O w B) {f : Fd} (hf : f ∈ fdBu e) {x : Nat} (hx : f.ow x) : e.own x := by
  obtain ⟨s, h1, h2, h3⟩ := hx
  simp only [fdBu, List.mem_cons, List.not_mem_nil, or_false] at hf
  have lv := Bu.lvs h
  rcases hf with rfl | rfl | rfl | rfl
  · cases h1
  · cases h1
  · cases h1
  · simp only [Option.some.injEq] at h1
    subst h1
    rw [← h3]
    exact ow_own (fun h0 => (lv h0).1) h2
/-- a list that is marked from K up to M. -/
def HeldBu (w : World) (s : Sv) (es : List Bu) (K M : Nat) : Prop := ∃ (TL : List Spot) (us : Nat → Bu) (N : Nat → Nat), Held w TL K ∧ BuSegL w TL s.a s.n us N ∧ N 0 = 0 ∧ M = K + N s.n ∧ s.n ≤ 1048576 ∧ (∀ x ∈ TL, BusOwn s es x.1)
theorem HeldBu.keep {w w' : World} {s : Sv} {es : List Bu} {K M : Nat} (h : HeldBu w s es K M) (hz : w.heap.size ≤ w'.heap.size) (hk : ∀ b, BusOwn s es b → b < w.heap.size → w'.heap[b]? = w.heap[b]?) : HeldBu w' s es K M := by
  obtain ⟨TL, us, N, h1, h2, h3, h4, h6, h5⟩ := h
  refine ⟨TL, us, N, fun i x hx => ?_, ⟨fun j hj => ?_, h2.nx⟩, h3, h4, h6, h5⟩
  · obtain ⟨k1, k2⟩ := h1 i x hx
    exact ⟨by omega, (cell_block (hk x.1 (h5 x (List.mem_of_getElem? hx)) k1)).trans k2⟩
  · obtain ⟨g, off, e, x⟩ := h2.one j hj
    have hb := hk g (.inl (by simp [Sv.v, Value.ownBlock, e])) x.gl
    exact ⟨g, off, e, { x with gl := by have := x.gl; omega, h3 := (cell_block hb).trans x.h3 }⟩
theorem HeldBu.later {w w' : World} {s : Sv} {es : List Bu} {K M : Nat} (h : HeldBu w s es K M) (b : Below w.heap.size w w') : HeldBu w' s es K M := h.keep b.size fun k _ hk => b.block k hk
def zEv : Ev := ⟨0, 0, [], 0, 0, 0, ⟨#[]⟩, [], zSv, zSv⟩
def fdEv (u : Ev) : List Fd := [⟨0, 0, none, []⟩, ⟨1, 0, none, []⟩, ⟨2, 0, some u.sm, [0]⟩, ⟨3, 0, none, []⟩, ⟨4, 0, none, []⟩, ⟨5, 0, none, []⟩, ⟨6, 2, none, []⟩, ⟨7, 0, some u.sw, [0]⟩]
def atEv (es : List Ev) (j : Nat) : Ev := (es[j]?).getD zEv
theorem Ev.lvs {w : World} {B : Nat} {e : Ev} (h : e.O w B) : LvS w e.sm 1 ∧ LvS w e.sw 1 := ⟨OwnI.lv h.1, OwnI.lv h.2⟩
theorem Ev.ow {w : World} {B : Nat} {e : Ev} (h : e.O w B) {f : Fd} (hf : f ∈ fdEv e) {x : Nat} (hx : f.ow x) : e.own x := by
  obtain ⟨s, h1, h2, h3⟩ := hx
  simp only [fdEv, List.mem_cons, List.not_mem_nil, or_false] at hf
  have lv := Ev.lvs h
  rcases hf with rfl | rfl | rfl | rfl | rfl | rfl | rfl | rfl
  · cases h1
  · cases h1
  · simp only [Option.some.injEq] at h1
    subst h1
    rw [← h3]
    exact .inl (ow_own (fun h0 => (lv.1 h0).1) h2)
  · cases h1
  · cases h1
  · cases h1
  · cases h1
  · simp only [Option.some.injEq] at h1
    subst h1
    rw [← h3]
    exact .inr (ow_own (fun h0 => (lv.2 h0).1) h2)
/-- a list that is marked from K up to M. -/
def HeldEv (w : World) (s : Sv) (es : List Ev) (K M : Nat) : Prop := ∃ (TL : List Spot) (us : Nat → Ev) (N : Nat → Nat), Held w TL K ∧ EvSegL w TL s.a s.n us N ∧ N 0 = 0 ∧ M = K + N s.n ∧ s.n ≤ 1048576 ∧ (∀ x ∈ TL, EvsOwn s es x.1)
theorem HeldEv.keep {w w' : World} {s : Sv} {es : List Ev} {K M : Nat} (h : HeldEv w s es K M) (hz : w.heap.size ≤ w'.heap.size) (hk : ∀ b, EvsOwn s es b → b < w.heap.size → w'.heap[b]? = w.heap[b]?) : HeldEv w' s es K M := by
  obtain ⟨TL, us, N, h1, h2, h3, h4, h6, h5⟩ := h
  refine ⟨TL, us, N, fun i x hx => ?_, ⟨fun j hj => ?_, h2.nx⟩, h3, h4, h6, h5⟩
  · obtain ⟨k1, k2⟩ := h1 i x hx
    exact ⟨by omega, (cell_block (hk x.1 (h5 x (List.mem_of_getElem? hx)) k1)).trans k2⟩
  · obtain ⟨g, off, e, x⟩ := h2.one j hj
    have hb := hk g (.inl (by simp [Sv.v, Value.ownBlock, e])) x.gl
    exact ⟨g, off, e, { x with gl := by have := x.gl; omega, h2 := (cell_block hb).trans x.h2, h7 := (cell_block hb).trans x.h7 }⟩
theorem HeldEv.later {w w' : World} {s : Sv} {es : List Ev} {K M : Nat} (h : HeldEv w s es K M) (b : Below w.heap.size w w') : HeldEv w' s es K M := h.keep b.size fun k _ hk => b.block k hk
end Go.Proofs.Ytoahljkifikbaaa


/- A daemon: marked, and looked at again. Written by gen_dmk.py. -/
namespace Go.Proofs.Ytoahljkifikbaaa
open Go.RowKit Pl
set_option linter.unusedVariables false
set_option linter.unusedSimpArgs false

/-- the blocks of a daemon's lists. -/
def Dm.own (d : Dm) (x : Nat) : Prop := d.mv.own x ∨ d.js.v.ownBlock = some x ∨ BusOwn d.bs d.bu x ∨ EvsOwn d.ls d.lo x
theorem DmO.olt {w : World} {B : Nat} {d : Dm} (h : DmO w B d) {x : Nat} (hx : d.own x) : B ≤ x ∧ x < w.heap.size := by
  rcases hx with hx | hx | hx | hx
  · exact h.mt.lt hx
  · exact h.jo.lt x hx
  · exact h.bu.olt hx
  · exact h.lo.olt hx
theorem BusO.keepo {w w' : World} {B : Nat} {s : Sv} {es : List Bu} (h : BusO w B s es) (hk : ∀ b, BusOwn s es b → b < w.heap.size → w'.heap[b]? = w.heap[b]?) : BusO w' B s es := ⟨h.1.keep fun b hb hl => hk b (.inl hb) hl, fun e he => Sl.keep (h.2 e he) fun b hb hl => hk b (.inr ⟨e, he, hb⟩) hl⟩
theorem EvsO.keepo {w w' : World} {B : Nat} {s : Sv} {es : List Ev} (h : EvsO w B s es) (hk : ∀ b, EvsOwn s es b → b < w.heap.size → w'.heap[b]? = w.heap[b]?) : EvsO w' B s es := ⟨h.1.keep fun b hb hl => hk b (.inl hb) hl, fun e he => ⟨(h.2 e he).1.keep fun b hb hl => hk b (.inr ⟨e, he, .inl hb⟩) hl, (h.2 e he).2.keep fun b hb hl => hk b (.inr ⟨e, he, .inr hb⟩) hl⟩⟩
theorem DmO.keepo {w w' : World} {B : Nat} {d : Dm} (h : DmO w B d) (hk : ∀ b, d.own b → b < w.heap.size → w'.heap[b]? = w.heap[b]?) : DmO w' B d :=
  ⟨h.mt.keep fun b hb hl => hk b (.inl hb) hl, h.jo.keep fun b hb hl => hk b (.inr (.inl hb)) hl, h.bu.keepo fun b hb hl => hk b (.inr (.inr (.inl hb))) hl, h.lo.keepo fun b hb hl => hk b (.inr (.inr (.inr hb))) hl⟩
theorem Gr.up {S S' : Nat → Prop} {a b : World} (h : Gr S a b) (hs : ∀ k, S k → S' k) : Gr S' a b := ⟨h.os, h.tape, h.output, h.size, fun k hk hn => h.block k hk (fun h1 => hn (hs k h1))⟩
theorem Bx.gr {S : Nat → Prop} {a b : World} {g T : Nat} {cs : List Value} (h : Bx a g T cs) (k : Gr S a b) (hn : ¬ S g) : Bx b g T cs := (k.block g h.lt hn).trans h
/-- a daemon that is marked from K up to M. -/
def HeldD (w : World) (B : Nat) (d : Dm) (K M : Nat) : Prop := ∃ K4 : Nat, MtO w B (markM K d.m) d.mv ∧ OwnI w B d.js.v (marks (endM K d.m) d.jms.length) ∧ HeldBu w d.bs d.bu (endM K d.m + d.jms.length) K4 ∧ HeldEv w d.ls d.lo K4 M ∧ 0 < K ∧ endM K d.m + d.jms.length ≤ K4 ∧ K4 ≤ M ∧ M ≤ 39999990
theorem HeldD.keep {w w' : World} {B : Nat} {d : Dm} {K M : Nat} (h : HeldD w B d K M) (hz : w.heap.size ≤ w'.heap.size) (hk : ∀ b, d.own b → b < w.heap.size → w'.heap[b]? = w.heap[b]?) : HeldD w' B d K M := by
  obtain ⟨K4, h1, h2, h3, h4, h5⟩ := h
  exact ⟨K4, h1.keep fun b hb hl => hk b (.inl hb) hl, h2.keep fun b hb hl => hk b (.inr (.inl hb)) hl, h3.keep hz fun b hb hl => hk b (.inr (.inr (.inl hb))) hl, h4.keep hz fun b hb hl => hk b (.inr (.inr (.inr hb))) hl, h5⟩
theorem HeldD.later {w w' : World} {B : Nat} {d : Dm} {K M : Nat} (h : HeldD w B d K M) (b : Below w.heap.size w w') : HeldD w' B d K M := h.keep b.size fun k _ hk => b.block k hk
end Go.Proofs.Ytoahljkifikbaaa


/- A daemon that is copied; both Crash. Written by gen_cdm.py. -/
namespace Go.Proofs.Ytoahljkifikbaaa
open Go.RowKit Pl
set_option linter.unusedVariables false
set_option linter.unusedSimpArgs false

section
variable {P : Program} {w : World} {o : Oper} {a : Act} {K : Act → World → Prop} {Q : Exit → Act → World → Prop}
theorem wp_catM {T size : Nat} (s x : Operand) (t : TypeId) (ho : o.op = .call { callee := .builtin .append, args := #[s, x], argTypes := #[t, t] })
    (z : Value) (bytes : Nat) (ht : P.underlying t = some (.slice T)) (hinfo : (P.info? T).map (fun i => (i.zero, i.size, i.bytes)) = some (some z, size, bytes)) (hzs : z.cells.size = size) (hby : bytes ≤ 400)
    (B : Nat) (v : Value) (rs : List (List Value)) (hs : a.eval s = v) (hown : SlN w T size B v rs) (B' : Nat) (u : Value) (qs : List (List Value)) (hx : a.eval x = u) (hu : SlN w T size B' u qs)
    (hn : rs.length + qs.length ≤ 1048577) (hB : B ≤ w.heap.size)
    (h : ∀ v' w', SlN w' T size B v' (rs ++ qs) → w.grownBy w' v.ownBlock → Below B w w' → K (a.put o.dst v') w') :
    o.wp P a w K Q := by
  refine wp_appendS s x t ho z bytes ht hinfo hzs hs hown.1 _ qs.length qs.flatten hx (hu.src ht) (by unfold maxLen; omega) (Nat.le_trans (Nat.mul_le_mul hn hby) (by decide)) hB ?_
  intro v' w' h3 h2 h4
  refine h v' w' ⟨by rw [List.length_append, List.flatten_append]; exact h3, fun r hr => ?_⟩ h2 ((Below.refl B w).grown h2 hB (fun k hk => (Sl.lt hown.1 k hk).1))
  rcases List.mem_append.1 hr with hr | hr
  · exact hown.2 r hr
  · exact hu.2 r hr
end
theorem Ev.O.rowkeep {w w' : World} {B : Nat} {r : Option Nat} (hr : ∀ k, r = some k → ∃ cs, w.heap[k]? = some (.cells cs 90 (0, 0))) (g : w.grownBy w' r) {e : Ev} (h : e.O w B) : e.O w' B :=
  ⟨h.1.kept g (fun k hk e => by obtain ⟨_, e1⟩ := own_is_i h.1 hk; obtain ⟨_, e2⟩ := hr k e.symm; rw [e1] at e2; simp at e2), h.2.kept g (fun k hk e => by obtain ⟨_, e1⟩ := own_is_i h.2 hk; obtain ⟨_, e2⟩ := hr k e.symm; rw [e1] at e2; simp at e2)⟩
/-- but for the box g and what lies from N on all is as it was. -/
structure KeepR (g N : Nat) (w w' : World) : Prop where
  os : w'.os = w.os
  tape : w'.tape = w.tape
  output : w'.output = w.output
  size : w.heap.size ≤ w'.heap.size
  blk : ∀ k, k < N → k ≠ g → w'.heap[k]? = w.heap[k]?
  news : True
section
variable {g N : Nat} {w w' w'' : World}
theorem KeepR.refl (g N : Nat) (w : World) : KeepR g N w w := ⟨rfl, rfl, rfl, Nat.le_refl _, fun _ _ _ => rfl, trivial⟩
theorem KeepR.trans (h : KeepR g N w w') (k : KeepR g N w' w'') : KeepR g N w w'' := ⟨k.os.trans h.os, k.tape.trans h.tape, k.output.trans h.output, Nat.le_trans h.size k.size, fun i hi hn => (k.blk i hi hn).trans (h.blk i hi hn), trivial⟩
theorem KeepR.belowN (h : KeepR g N w w') (b : Below N w' w'') : KeepR g N w w'' := ⟨b.os.trans h.os, b.tape.trans h.tape, b.output.trans h.output, Nat.le_trans h.size b.size, fun i hi hn => (b.block i hi).trans (h.blk i hi hn), trivial⟩
theorem KeepR.below {B : Nat} (h : KeepR g N w w') (h1 : B ≤ g) (h2 : B ≤ N) : Below B w w' := ⟨h.os, h.tape, h.output, h.size, fun k hk => h.blk k (by omega) (by omega)⟩
theorem KeepR.turn (h : KeepR g N w w') (t : TurnAt g w' w'') : KeepR g N w w'' := ⟨t.os.trans h.os, t.tape.trans h.tape, t.output.trans h.output, Nat.le_trans h.size (Nat.le_of_eq t.size.symm), fun i hi hn => (t.block i hn).trans (h.blk i hi hn), trivial⟩
theorem Bx.kr {k T : Nat} {cs : List Value} (h : Bx w k T cs) (r : KeepR g N w w') (h1 : k < N) (h2 : k ≠ g) : Bx w' k T cs := (r.blk k h1 h2).trans h
end
end Go.Proofs.Ytoahljkifikbaaa


/- The specification's rings copied. Written by gen_wn15.py. -/
namespace Go.Proofs.Ytoahljkifikbaaa
open Go.RowKit Pl
set_option linter.unusedVariables false
set_option linter.unusedSimpArgs false

set_option maxRecDepth 100000 in
set_option maxHeartbeats 4000000 in
theorem lcopyRing_any (i : Int) (s : Sv) (ms : List Int) (w : World) (h : Hid (RI w s.v ms)) (hl : ms.length ≤ 1048576) :
    Calls Try.prog 49 #[.agg #[.int .i64 i, .slice s.a s.n s.c]] w fun e w' => ∃ u : Sv, e = .returned (.agg #[.int .i64 i, .slice u.a u.n u.c]) ∧ OwnI w' w.heap.size u.v ms ∧ Below w.heap.size w w' := by
  have hn1 : (w.alloc (.cells #[.int .i64 i, .slice s.a s.n s.c] 51)).heap.size = w.heap.size + 1 := by simp
  have LA : Hid (Bx ((w.alloc (.cells #[.int .i64 i, .slice s.a s.n s.c] 51)).alloc (.cells #[.int .i64 0, .slice none 0 0] 51)) w.heap.size 51 [.int .i64 i, .slice s.a s.n s.c]) := by
    have h := Bx.new w 51 [.int .i64 i, .slice s.a s.n s.c]
    exact (h).later ((Below.refl _ _).alloc (Nat.le_refl _) _)
  have EB : Hid (Bx ((w.alloc (.cells #[.int .i64 i, .slice s.a s.n s.c] 51)).alloc (.cells #[.int .i64 0, .slice none 0 0] 51)) (w.heap.size + 1) 51 [.int .i64 0, .slice none 0 0]) := by
    have h := Bx.new (w.alloc (.cells #[.int .i64 i, .slice s.a s.n s.c] 51)) 51 [.int .i64 0, .slice none 0 0]
    rw [hn1] at h
    exact h
  have BW : Hid (Below w.heap.size w ((w.alloc (.cells #[.int .i64 i, .slice s.a s.n s.c] 51)).alloc (.cells #[.int .i64 0, .slice none 0 0] 51))) := (((Below.refl _ _).alloc (by simp) _).alloc (by simp; try omega) _)
  clear hn1
  have HR : Hid (RI ((w.alloc (.cells #[.int .i64 i, .slice s.a s.n s.c] 51)).alloc (.cells #[.int .i64 0, .slice none 0 0] 51)) s.v ms) := h.out.stays BW.out
  go_enter Try.func49, Try.ntmps49
  go_wp2_with fail
  generalize ((w.alloc (.cells #[.int .i64 i, .slice s.a s.n s.c] 51)).alloc (.cells #[.int .i64 0, .slice none 0 0] 51)) = W at *
  have c : Below W.heap.size W W.drew := (Below.refl _ _).drew
  have BD : Hid (Bx W.drew w.heap.size 51 [.int .i64 i, .slice s.a s.n s.c]) := LA.out.later c
  have VD : Hid (Bx W.drew (w.heap.size + 1) 51 [.int .i64 0, .slice none 0 0]) := EB.out.later c
  have zE : w.heap.size + 1 < W.heap.size := EB.out.lt
  refine wp_region_heldLast (S := fun w' => Bx w' w.heap.size 51 [.int .i64 i, .slice s.a s.n s.c] ∧ Bx w' (w.heap.size + 1) 51 [.int .i64 0, .slice none 0 0]) _ (by simp) (by kernel_rfl) (by rfl) (by rfl) (by kernel_rfl) (by kernel_rfl) ⟨BD.out, VD.out⟩ (fun hHeld => ?_)
  simp only [List.dropLast_cons_cons, List.dropLast_singleton, List.getLast_cons_cons, List.getLast_singleton, List.cons_append, List.nil_append, List.length_cons, List.length_nil]
  refine wpAnyH_take (i := 0) (v := ?v0b1) rfl (by kernel_rfl) (by kernel_rfl) (by kernel_rfl) (fun _ _ _ h => h) (Or.inl ⟨by rfl, ?hy0b1⟩) (by assumption) ?_
  case hy0b1 => (intro w hSw; (try dsimp only at hSw); simp only [List.getElem_toArray, List.getElem_cons_zero, List.getElem_cons_succ]; go_simp; try with_reducible rfl)
  try simp only [Act.put, List.getElem_toArray, List.getElem_cons_zero, List.getElem_cons_succ, List.setIfInBounds_toArray, List.set_cons_zero, List.set_cons_succ]
  refine wpAnyH_take (i := 1) (v := _) rfl (by kernel_rfl) (by kernel_rfl) (by kernel_rfl) (fun _ _ _ h => h) (ld1_yield (by rfl) 3 _ rfl w.heap.size 0 rfl 51 _ (fun w hS => hS.1) (.int .i64 i) rfl _ Try.underlying3 rfl) (by assumption) ?_
  try simp only [Act.put, List.getElem_toArray, List.getElem_cons_zero, List.getElem_cons_succ, List.setIfInBounds_toArray, List.set_cons_zero, List.set_cons_succ]
  refine wpAnyH_take (i := 3) (v := ?v3b3) rfl (by kernel_rfl) (by kernel_rfl) (by kernel_rfl) (fun _ _ _ h => h) (Or.inl ⟨by rfl, ?hy3b3⟩) (by assumption) ?_
  case hy3b3 => (intro w hSw; (try dsimp only at hSw); simp only [List.getElem_toArray, List.getElem_cons_zero, List.getElem_cons_succ]; go_simp; try with_reducible rfl)
  try simp only [Act.put, List.getElem_toArray, List.getElem_cons_zero, List.getElem_cons_succ, List.setIfInBounds_toArray, List.set_cons_zero, List.set_cons_succ]
  refine wpAnyH_take (i := 4) (v := _) rfl (by kernel_rfl) (by kernel_rfl) (by kernel_rfl) (fun _ _ _ h => h) (ld1_yield (by rfl) 47 _ rfl w.heap.size 1 rfl 51 _ (fun w hS => hS.1) (.slice s.a s.n s.c) rfl _ Try.underlying47 rfl) (by assumption) ?_
  try simp only [Act.put, List.getElem_toArray, List.getElem_cons_zero, List.getElem_cons_succ, List.setIfInBounds_toArray, List.set_cons_zero, List.set_cons_succ]
  refine wpAnyH_ready (rs := [2]) (by kernel_rfl) (by simp) ?_
  refine AllReadyH.cons (i := 2) rfl (fun K hK => ?_) AllReadyH.nil
  rw [if_pos (by rfl)]
  simp only [List.getElem_toArray, List.getElem_cons_zero, List.getElem_cons_succ]
  go_simp
  have b : Below W.drew.heap.size W.drew (W.drew.alloc (.cells #[] 3)) := (Below.refl _ _).alloc (Nat.le_refl _) _
  have I0 : Hid (OwnI (W.drew.alloc (.cells #[] 3)) W.drew.heap.size (.slice (some ⟨W.drew.heap.size, 0, none⟩) 0 0) []) := OwnI.made W.drew W.drew.heap.size (Nat.le_refl _)
  have c : Below W.heap.size W (W.drew.alloc (.cells #[] 3)) := bl_next c b
  have BD : Hid (Bx (W.drew.alloc (.cells #[] 3)) w.heap.size 51 [.int .i64 i, .slice s.a s.n s.c]) := BD.out.later b
  have VD : Hid (Bx (W.drew.alloc (.cells #[] 3)) (w.heap.size + 1) 51 [.int .i64 0, .slice none 0 0]) := VD.out.later b
  refine hK.out _ _ (⟨BD.out, VD.out⟩) (fun hHeld => ?_)
  clear hK K
  try simp only [Act.put, List.getElem_toArray, List.getElem_cons_zero, List.getElem_cons_succ, List.setIfInBounds_toArray, List.set_cons_zero, List.set_cons_succ]
  clear b
  refine wpAnyH_ready (rs := [5]) (by kernel_rfl) (by simp) ?_
  refine AllReadyH.cons (i := 5) rfl (fun K hK => ?_) AllReadyH.nil
  rw [if_pos (by rfl)]
  simp only [List.getElem_toArray, List.getElem_cons_zero, List.getElem_cons_succ]
  refine wp_catR _ _ 47 rfl Try.underlying47 Try.info3' W.drew.heap.size (.slice (some ⟨W.drew.heap.size, 0, none⟩) 0 0) [] (by rfl) I0.out (.slice s.a s.n s.c) ms (by rfl) (HR.out.stays c) (by simp; omega) (by simp) (fun h => by cases h) ?_
  intro v2 y2 o2 g2
  obtain ⟨u, hu2⟩ := o2.sv
  subst hu2
  rw [List.nil_append] at o2
  have zz : W.heap.size ≤ W.drew.heap.size := Nat.le_refl _
  have c : Below W.heap.size W y2 := c.grown g2 c.size (fun j hj => by have := (I0.out.lt j hj).1; omega)
  have BD : Hid (Bx y2 w.heap.size 51 [.int .i64 i, .slice s.a s.n s.c]) := BD.out.grown g2 (fun e => by have := (I0.out.lt _ e.symm).1; omega)
  have VD : Hid (Bx y2 (w.heap.size + 1) 51 [.int .i64 0, .slice none 0 0]) := VD.out.grown g2 (fun e => by have := (I0.out.lt _ e.symm).1; omega)
  have O2 : Hid (OwnI y2 W.drew.heap.size (.slice u.a u.n u.c) ms) := o2
  refine hK.out _ _ (⟨BD.out, VD.out⟩) (fun hHeld => ?_)
  clear hK K
  try simp only [Act.put, List.getElem_toArray, List.getElem_cons_zero, List.getElem_cons_succ, List.setIfInBounds_toArray, List.set_cons_zero, List.set_cons_succ]
  clear o2 g2 I0
  refine wpAnyH_take (i := 6) (v := ?v6b5) rfl (by kernel_rfl) (by kernel_rfl) (by kernel_rfl) (fun _ _ _ h => h) (Or.inl ⟨by rfl, ?hy6b5⟩) (by assumption) ?_
  case hy6b5 => (intro w hSw; (try dsimp only at hSw); simp only [List.getElem_toArray, List.getElem_cons_zero, List.getElem_cons_succ]; go_simp; try with_reducible rfl)
  try simp only [Act.put, List.getElem_toArray, List.getElem_cons_zero, List.getElem_cons_succ, List.setIfInBounds_toArray, List.set_cons_zero, List.set_cons_succ]
  refine wpAnyH_take (i := 7) (v := ?v7b6) rfl (by kernel_rfl) (by kernel_rfl) (by kernel_rfl) (fun _ _ _ h => h) (Or.inl ⟨by rfl, ?hy7b6⟩) (by assumption) ?_
  case hy7b6 => (intro w hSw; (try dsimp only at hSw); simp only [List.getElem_toArray, List.getElem_cons_zero, List.getElem_cons_succ]; go_simp; try with_reducible rfl)
  try simp only [Act.put, List.getElem_toArray, List.getElem_cons_zero, List.getElem_cons_succ, List.setIfInBounds_toArray, List.set_cons_zero, List.set_cons_succ]
  refine wpAnyH_done (by kernel_rfl) ?_ _
  refine lastQ_of rfl rfl ?_
  refine wp_stB 51 _ _ rfl (w.heap.size + 1) 0 rfl 51 _ VD.out [.int .i64 i, .slice u.a u.n u.c] rfl (by simp) Try.sizeRn rfl [.int .i64 i, .slice u.a u.n u.c] rfl ?_
  intro v3 ob tb
  have EB : Hid (Bx v3 (w.heap.size + 1) 51 [.int .i64 i, .slice u.a u.n u.c]) := ob
  have O3 : OwnI v3 w.heap.size u.v ms := (O2.out.keep fun b hb _ => tb.block b (by have := (O2.out.lt b hb).1; have : W.heap.size ≤ W.drew.heap.size := Nat.le_refl _; omega)).down (by have : W.heap.size ≤ W.drew.heap.size := Nat.le_refl _; omega)
  have BW : Below w.heap.size w v3 := (bl_next BW.out c).trans (tb.below (by omega))
  go_wp2_with fail
  refine bodyPost_ret (results_b Try.results49 (w.heap.size + 1) 51 [.int .i64 i, .slice u.a u.n u.c] _ rfl EB.out Try.underlying51 rfl Try.sizeRn) rfl ?_
  exact ⟨u, rfl, O3, BW⟩
theorem RnsUp.snoc {es : List Rn} {e : Rn} {N : Nat} (h : RnsUp es) (hlt : ∀ c ∈ es, ∀ x, c.own x → x < N) (hge : ∀ x, e.own x → N ≤ x) : RnsUp (es ++ [e]) :=
  ⟨fun x hx => trivial, List.pairwise_append.2 ⟨h.2, List.pairwise_singleton _ _, fun a ha b hb x y hx hy => by
      rw [List.mem_singleton.1 hb] at hy
      have := hlt a ha x hx
      have := hge y hy
      omega⟩⟩
theorem RnsO.rowa {w : World} {B : Nat} {s : Sv} {es : List Rn} (h : RnsO w B s es) : ∀ y, s.v.ownBlock = some y → ∀ e ∈ es, ¬ e.own y := fun y hy e he hx => by
  obtain ⟨c1, h1⟩ := h.1.blk hy
  obtain ⟨c2, h2⟩ := own_is_i (h.2 e he) hx
  rw [h1] at h2; simp at h2
theorem Rn.O.rowkeep {w w' : World} {B T : Nat} {r : Option Nat} (hT : T ≠ 3) (hr : ∀ k, r = some k → ∃ cs, w.heap[k]? = some (.cells cs T (0, 0))) (g : w.grownBy w' r) {e : Rn} (h : e.O w B) : e.O w' B :=
  OwnI.kept h g (fun k hk e => by obtain ⟨_, e1⟩ := own_is_i h hk; obtain ⟨_, e2⟩ := hr k e.symm; rw [e1] at e2; simp at e2; exact hT e2.2.symm)
theorem RnsUp.a2 {w : World} {B : Nat} {s : Sv} {es : List Rn} (h : RnsO w B s es) (u : RnsUp es) : RnsA s es := ⟨h.rowa, u.2.imp fun h x hx hy => by have := h x x hx hy; omega⟩
set_option maxRecDepth 100000 in
set_option maxHeartbeats 8000000 in
theorem lRings_any (s : Sv) (es : List Rn) (w : World) (hx : Hid (RnsR w s es)) (hl : es.length ≤ 1048576) (hs : Hid (∀ e ∈ es, e.S)) :
    Calls Try.prog 29 #[.slice s.a s.n s.c] w fun x w' => ∃ (u : Sv) (cs : List Rn), x = .returned (.slice u.a u.n u.c) ∧ cs.map Rn.pl = es.map Rn.pl ∧ RnsO w' w.heap.size u cs ∧ Below w.heap.size w w' := by
  obtain ⟨a, n, c⟩ := s
  dsimp only
  have HN : Hid (n = es.length) := hx.out.1
  have hn : n ≤ 1048576 := by have := HN.out; omega
  clear hl
  have V0 : Hid (SlN (w.alloc (.cells #[] 51)) 51 2 w.heap.size (.slice (some ⟨w.heap.size, 0, none⟩) 0 0) []) := SlN.made w 51 2 w.heap.size (Nat.le_refl _)
  have B0 : Hid (Below w.heap.size w (w.alloc (.cells #[] 51))) := (Below.refl _ _).alloc (Nat.le_refl _) _
  go_enter Try.func29, Try.ntmps29
  go_wp2_with fail
  generalize w.alloc (.cells #[] 51) = W0 at *
  go_loopw [3, 4] (fun v i wr => ∃ (k : Nat) (u : Sv) (cs : List Rn), k ≤ n ∧ i = .int .i64 k ∧ v = .slice u.a u.n u.c ∧ Hid (cs.length = k) ∧ Hid (cs.map Rn.pl = (es.take k).map Rn.pl) ∧ Hid (RnsO wr w.heap.size u cs) ∧ Hid (Below w.heap.size w wr)) (fun _ i _ => n - (intOf i).toNat)
  case atStart => exact ⟨0, ⟨some ⟨w.heap.size, 0, none⟩, 0, 0⟩, [], Nat.zero_le _, rfl, rfl, rfl, rfl, ⟨V0.out, fun e he => by cases he⟩, B0⟩
  case round =>
    clear V0 B0
    obtain ⟨k, u, cs, hk, rfl, rfl, hcl, hpl, hown, hb⟩ := hrel
    by_cases hlt : k < n
    · have hlt2 : k < es.length := by have := HN.out; omega
      obtain ⟨g, off, ha, hg, _, hr⟩ := (hx.out.stays hb.out).2.1 k (by simpa using hlt2)
      obtain ⟨e, he⟩ : ∃ e, e = es[k] := ⟨_, rfl⟩
      have hr2 : wr.rangeAt g (off + k * 2) e.row := by rw [he]; simpa using hr
      have HR : Hid (wr.rangeAt g (off + k * 2) [.int .i64 e.id, .slice e.s.a e.s.n e.s.c]) := hr2
      have HE : Hid (e = es[k]) := he
      have RR : Hid (RI wr e.s.v e.ms) := by rw [he]; exact (hx.out.stays hb.out).2.2 _ (List.getElem_mem hlt2)
      have SS : Hid (e.ms.length ≤ 1048576) := by rw [he]; exact hs.out _ (List.getElem_mem hlt2)
      have ha : a = some ⟨g, off, none⟩ := ha
      subst ha
      have i0 : (0 : Int) ≤ (k : Int) := by omega
      have i1 : (k : Int) < (n : Int) := by omega
      have CO : Hid (RnsO wr w.heap.size u cs) := hown
      have BW : Hid (Below w.heap.size w wr) := hb
      have zr : w.heap.size ≤ wr.heap.size := hb.out.size
      clear hr hr2 he hg hown hb
      go_wp2_with (first | (refine wpList_ldN rfl 51 _ rfl g (off + k * 2) (by rfl) [.int .i64 e.id, .slice e.s.a e.s.n e.s.c] HR.out _ Try.underlying51 rfl Try.sizeRn ?_))
      refine (lcopyRing_any e.id e.s e.ms _ RR SS.out).mono ?_
      rintro e v1 ⟨u1, rfl, o1, b⟩
      obtain ⟨c1, hc1⟩ : ∃ c : Rn, c = { e with s := u1 } := ⟨_, rfl⟩
      have C1 : Hid (c1.O v1 wr.heap.size) := by rw [hc1]; exact o1
      have CP : Hid (c1.pl = e.pl) := by rw [hc1]; exact rfl
      have CR : Hid (([.int .i64 e.id, .slice u1.a u1.n u1.c] : List Value) = c1.row) := by rw [hc1]; rfl
      clear o1 hc1 RR
      have z_v1 : wr.heap.size ≤ v1.heap.size := b.size
      have CO : Hid (RnsO v1 w.heap.size u cs) := CO.out.below b
      have BW : Hid (Below w.heap.size w v1) := bl_next BW.out b
      clear b
      have HLEN : Hid ((cs.map Rn.row).length ≤ 1048576) := (by have := hcl.out; simp; omega : _ ≤ _)
      clear HR
      go_wp2_with (first | (with_reducible refine wpList_haltA _ _ _ rfl ?_))
      refine Stp.go ?_
      refine wpList_pushN rfl _ _ 25 rfl (.agg #[.int .i64 0, .slice none 0 0]) 32 Try.underlying25 Try.infoRn rfl (by omega) w.heap.size _ _ rfl CO.out.1 [.int .i64 e.id, .slice u1.a u1.n u1.c] rfl rfl rfl HLEN.out BW.out.size ?_
      intro v6 w6 O6 g6 b6 _
      obtain ⟨s6, hs6, hq6⟩ := O6.form
      subst hs6
      clear hq6
      rw [CR.out] at O6
      have N6 : Hid (RnsO w6 w.heap.size s6 (cs ++ [c1])) := ⟨by rw [List.map_append]; exact O6, fun x hx => by
        rcases List.mem_append.1 hx with hx | hx
        · exact Rn.O.rowkeep (by decide) (fun k hk => CO.out.1.blk hk) g6 (CO.out.2 x hx)
        · rw [List.mem_singleton.1 hx]; exact Rn.O.rowkeep (by decide) (fun k hk => CO.out.1.blk hk) g6 (C1.out.down zr)⟩
      have B6 : Hid (Below w.heap.size w w6) := BW.out.trans b6
      clear O6 g6 b6 CO BW C1 CR
      go_wp2_with fail
      go_roundw
      case rel =>
        refine ⟨k + 1, s6, cs ++ [c1], by omega, by go_num, rfl, (by have := hcl.out; simp; omega : _ = _), ?_, N6, B6⟩
        show _ = _
        rw [List.map_append, hpl.out, List.take_succ_eq_append_getElem hlt2, List.map_append, ← HE.out]
        simp [CP.out]
      case measure => simp [intOf]; omega
    · obtain rfl : k = n := by omega
      go_wp2_with fail
      go_ret
      refine ⟨u, cs, rfl, ?_, hown.out, hb.out⟩
      have h := hpl.out
      rwa [HN.out, List.take_of_length_le (Nat.le_refl _)] at h
end Go.Proofs.Ytoahljkifikbaaa


/- Both RingsOk. Written by gen_rok.py. -/
namespace Go.Proofs.Ytoahljkifikbaaa
open Go.RowKit Pl
set_option linter.unusedVariables false
set_option linter.unusedSimpArgs false

/-- is the ring at this place right, and has it the number of the place? -/
def rgAt (ps : List (Int × List Int)) (k : Nat) : Bool := match ps[k]? with | some p => ringB p.1 p.2 && decide (p.1 = (k : Int) + 1) | none => true
def ringsB (ps : List (Int × List Int)) : Bool := (List.range ps.length).all (rgAt ps) && decide (1 ≤ (ps.length : Int) ∧ (ps.length : Int) ≤ 9)
theorem ringsB_no {ps : List (Int × List Int)} {k : Nat} (hk : k < ps.length) (h : rgAt ps k = false) : ringsB ps = false := by
  unfold ringsB
  have : (List.range ps.length).all (rgAt ps) = false := by
    rw [Bool.eq_false_iff]
    intro ha
    rw [List.all_eq_true] at ha
    rw [ha k (List.mem_range.2 hk)] at h
    cases h
  rw [this]; rfl
theorem ringsB_all {ps : List (Int × List Int)} (h : ∀ j, j < ps.length → rgAt ps j = true) : ringsB ps = decide (1 ≤ (ps.length : Int) ∧ (ps.length : Int) ≤ 9) := by
  unfold ringsB
  have : (List.range ps.length).all (rgAt ps) = true := by
    rw [List.all_eq_true]
    intro j hj
    exact h j (List.mem_range.1 hj)
  rw [this]; rfl
theorem rgAt_at {es : List Rn} {k : Nat} (hk : k < es.length) {e : Rn} (he : e = es[k]) : rgAt (es.map Rn.pl) k = (ringB e.id e.ms && decide (e.id = (k : Int) + 1)) := by
  unfold rgAt
  rw [List.getElem?_map, List.getElem?_eq_getElem hk, ← he]
  rfl
theorem range_cell {w : World} {g o : Nat} {cs : List Value} (h : w.rangeAt g o cs) (j : Nat) (v : Value) (hj : cs[j]? = some v) : w.cell? ⟨g, o + j, none⟩ = some v := h j v hj

set_option maxRecDepth 100000 in
set_option maxHeartbeats 1000000 in
theorem ringsOk_any (s : Sv) (es : List Rn) (w : World) (hx : Hid (RnsR w s es)) (hl : es.length ≤ 1048576) (hs : Hid (∀ e ∈ es, e.S)) :
    Calls Try.prog 9 #[.slice s.a s.n s.c] w fun x w' => x = .returned (.bool (ringsB (es.map Rn.pl))) ∧ Below w.heap.size w w' := by
  obtain ⟨a, n, c⟩ := s
  dsimp only
  have HN : Hid (n = es.length) := hx.out.1
  have hn : n ≤ 1048576 := by have := HN.out; omega
  clear hl
  go_enter Try.func9, Try.ntmps9
  go_wp2_with fail
  go_loopw [7] (fun i wr => ∃ (k : Nat), k ≤ n ∧ i = .int .i64 k ∧ Hid (∀ j, j < k → rgAt (es.map Rn.pl) j = true) ∧ Hid (Below w.heap.size w wr)) (fun i _ => n - (intOf i).toNat)
  case atStart => exact ⟨0, Nat.zero_le _, rfl, (fun j hj => absurd hj (by omega) : ∀ j, j < 0 → _), Below.refl _ _⟩
  case round =>
    obtain ⟨k, hk, rfl, hall, hb⟩ := hrel
    by_cases hlt : k < n
    · have hlt2 : k < es.length := by have := HN.out; omega
      obtain ⟨g, off, ha, hg, _, hr⟩ := (hx.out.stays hb.out).2.1 k (by simpa using hlt2)
      obtain ⟨e, he⟩ : ∃ e, e = es[k] := ⟨_, rfl⟩
      have hr2 : wr.rangeAt g (off + k * 2) e.row := by rw [he]; simpa using hr
      have HR : Hid (wr.rangeAt g (off + k * 2) [.int .i64 e.id, .slice e.s.a e.s.n e.s.c]) := hr2
      have RR : Hid (RI wr e.s.v e.ms) := by rw [he]; exact (hx.out.stays hb.out).2.2 _ (List.getElem_mem hlt2)
      have SS : Hid (e.ms.length ≤ 1048576) := by rw [he]; exact hs.out _ (List.getElem_mem hlt2)
      have HV : Hid (rgAt (es.map Rn.pl) k = (ringB e.id e.ms && decide (e.id = (k : Int) + 1))) := rgAt_at hlt2 he
      have ha : a = some ⟨g, off, none⟩ := ha
      subst ha
      have i0 : (0 : Int) ≤ (k : Int) := by omega
      have i1 : (k : Int) < (n : Int) := by omega
      have GL : Hid (g < wr.heap.size) := (by have := hg; omega : g < _)
      clear hr hr2 he hg
      have hz : Hid (Bx (wr.alloc (.cells #[.int .i64 0, .slice none 0 0] 51)) wr.heap.size 51 [.int .i64 0, .slice none 0 0]) := Bx.new wr 51 _
      have BW : Hid (Below w.heap.size w wr) := hb
      go_wp2_with (first | (refine wpList_ldN rfl 51 _ rfl g (off + k * 2) (by rfl) [.int .i64 e.id, .slice e.s.a e.s.n e.s.c] HR.out _ Try.underlying51 rfl Try.sizeRn ?_) | (refine wpList_stB rfl 51 _ _ rfl wr.heap.size 0 rfl 51 _ hz.out [.int .i64 e.id, .slice e.s.a e.s.n e.s.c] rfl (by simp) Try.sizeRn rfl [.int .i64 e.id, .slice e.s.a e.s.n e.s.c] rfl ?_; intro v1 OB TB; have b : Below wr.heap.size wr v1 := ((Below.refl _ _).alloc (Nat.le_refl _) _).trans (TB.below (Nat.le_refl _)); have VB : Hid (Bx v1 wr.heap.size 51 [.int .i64 e.id, .slice e.s.a e.s.n e.s.c]) := OB; have BW : Hid (Below w.heap.size w v1) := bl_next BW.out b; have RR : Hid (RI v1 e.s.v e.ms) := RR.out.stays b; clear OB TB b; refine Stp.here ?_))
      refine Stp.go ?_
      clear hz HR hb
      generalize hg_VB : wr.heap.size = gVB at *
      cases h2 : decide (e.id = (k : Int) + 1) with
      | false =>
        have hne : ¬ e.id = (k : Int) + 1 := by simpa using h2
        have c0 := VB.out.cell 0
        simp only [List.getElem?_cons_zero] at c0
        go_wp2_with fail
        go_ret
        exact ⟨by rw [ringsB_no (by simpa using hlt2) (HV.out.trans (by rw [h2, Bool.and_false]))]; rfl, BW.out⟩
      | true =>
        have heq : e.id = (k : Int) + 1 := by simpa using h2
        have c0 : v1.cell? ⟨gVB, 0, none⟩ = some (.int .i64 ((k : Int) + 1)) := by have h := VB.out.cell 0; rw [heq] at h; exact h
        have c1 : v1.cell? ⟨gVB, 1, none⟩ = some (.slice e.s.a e.s.n e.s.c) := VB.out.cell 1
        have RK : Hid (∀ w', Hid (RI w' e.s.v e.ms) → Calls Try.prog 25 #[.agg #[.int .i64 ((k : Int) + 1), .slice e.s.a e.s.n e.s.c]] w' fun x w'' => x = .returned (.bool (ringB e.id e.ms)) ∧ Below w'.heap.size w' w'') := fun w' h => by rw [← heq]; exact ringOk_r e.id e.ms h SS.out
        go_wp2_with fail
        refine (RK.out _ RR).mono ?_
        rintro x w2 ⟨rfl, b2⟩
        have BW : Hid (Below w.heap.size w w2) := bl_next BW.out b2
        clear b2 c0 c1 VB RR RK heq
        cases h1 : ringB e.id e.ms with
        | false =>
          go_wp2_with fail
          go_ret
          exact ⟨by rw [ringsB_no (by simpa using hlt2) (HV.out.trans (by rw [h1]; rfl))]; rfl, BW.out⟩
        | true =>
          go_wp2_with fail
          go_roundw
          case rel =>
            refine ⟨k + 1, by omega, by go_num, (fun j hj => ?_ : ∀ j, j < k + 1 → _), BW⟩
            rcases Nat.lt_succ_iff_lt_or_eq.1 hj with h | h
            · exact hall.out j h
            · rw [h, HV.out, h1, h2]; rfl
          case measure => simp [intOf]; omega
    · obtain rfl : k = n := by omega
      have hq : (es.map Rn.pl).length = k := by have := HN.out; simp; omega
      have HQ : Hid (ringsB (es.map Rn.pl) = decide (1 ≤ (k : Int) ∧ (k : Int) ≤ 9)) := (by rw [ringsB_all (fun j hj => hall.out j (by omega)), hq] : _ = _)
      clear hq
      go_wp2_with fail
      refine (within_any (k : Int) 1 9 _).mono ?_
      rintro x w1 ⟨rfl, rfl⟩
      go_wp2_with fail
      go_ret
      exact ⟨by rw [HQ.out, Bool.decide_and]; rfl, hb.out⟩
set_option maxRecDepth 100000 in
set_option maxHeartbeats 1000000 in
theorem spRingsOk_any (s : Sv) (es : List Rn) (w : World) (hx : Hid (RnsR w s es)) (hl : es.length ≤ 1048576) (hs : Hid (∀ e ∈ es, e.S)) :
    Calls Try.prog 7 #[.slice s.a s.n s.c] w fun x w' => x = .returned (.bool (ringsB (es.map Rn.pl))) ∧ Below w.heap.size w w' := by
  obtain ⟨a, n, c⟩ := s
  dsimp only
  have HN : Hid (n = es.length) := hx.out.1
  have hn : n ≤ 1048576 := by have := HN.out; omega
  clear hl
  go_enter Try.func7, Try.ntmps7
  go_wp2_with fail
  go_loopw [3] (fun i wr => ∃ (k : Nat), k ≤ n ∧ i = .int .i64 k ∧ Hid (∀ j, j < k → rgAt (es.map Rn.pl) j = true) ∧ Hid (Below w.heap.size w wr)) (fun i _ => n - (intOf i).toNat)
  case atStart => exact ⟨0, Nat.zero_le _, rfl, (fun j hj => absurd hj (by omega) : ∀ j, j < 0 → _), Below.refl _ _⟩
  case round =>
    obtain ⟨k, hk, rfl, hall, hb⟩ := hrel
    by_cases hlt : k < n
    · have hlt2 : k < es.length := by have := HN.out; omega
      obtain ⟨g, off, ha, hg, _, hr⟩ := (hx.out.stays hb.out).2.1 k (by simpa using hlt2)
      obtain ⟨e, he⟩ : ∃ e, e = es[k] := ⟨_, rfl⟩
      have hr2 : wr.rangeAt g (off + k * 2) e.row := by rw [he]; simpa using hr
      have HR : Hid (wr.rangeAt g (off + k * 2) [.int .i64 e.id, .slice e.s.a e.s.n e.s.c]) := hr2
      have RR : Hid (RI wr e.s.v e.ms) := by rw [he]; exact (hx.out.stays hb.out).2.2 _ (List.getElem_mem hlt2)
      have SS : Hid (e.ms.length ≤ 1048576) := by rw [he]; exact hs.out _ (List.getElem_mem hlt2)
      have HV : Hid (rgAt (es.map Rn.pl) k = (ringB e.id e.ms && decide (e.id = (k : Int) + 1))) := rgAt_at hlt2 he
      have ha : a = some ⟨g, off, none⟩ := ha
      subst ha
      have i0 : (0 : Int) ≤ (k : Int) := by omega
      have i1 : (k : Int) < (n : Int) := by omega
      have GL : Hid (g < wr.heap.size) := (by have := hg; omega : g < _)
      clear hr hr2 he hg
      go_wp2_with (first | (refine wpList_ldN rfl 51 _ rfl g (off + k * 2) (by rfl) [.int .i64 e.id, .slice e.s.a e.s.n e.s.c] HR.out _ Try.underlying51 rfl Try.sizeRn ?_))
      refine (spRingOk_r e.id e.ms RR SS.out).mono ?_
      rintro x w2 ⟨rfl, b2⟩
      have BW : Hid (Below w.heap.size w w2) := bl_nxt hb.out b2
      have c0 : w2.cell? ⟨g, off + k * 2, none⟩ = some (.int .i64 e.id) := (b2.cell (p := ⟨g, off + k * 2, none⟩) GL.out).trans (range_cell HR.out 0 _ rfl)
      clear b2 RR HR
      cases h1 : ringB e.id e.ms with
      | false =>
        go_wp2_with fail
        go_ret
        exact ⟨by rw [ringsB_no (by simpa using hlt2) (HV.out.trans (by rw [h1]; rfl))]; rfl, BW.out⟩
      | true =>
        cases h2 : decide (e.id = (k : Int) + 1) with
        | false =>
          have hne : ¬ e.id = (k : Int) + 1 := by simpa using h2
          go_wp2_with fail
          go_ret
          exact ⟨by rw [ringsB_no (by simpa using hlt2) (HV.out.trans (by rw [h2, Bool.and_false]))]; rfl, BW.out⟩
        | true =>
          have heq : e.id = (k : Int) + 1 := by simpa using h2
          rw [heq] at c0
          go_wp2_with fail
          go_roundw
          case rel =>
            refine ⟨k + 1, by omega, by go_num, (fun j hj => ?_ : ∀ j, j < k + 1 → _), BW⟩
            rcases Nat.lt_succ_iff_lt_or_eq.1 hj with h | h
            · exact hall.out j h
            · rw [h, HV.out, h1, h2]; rfl
          case measure => simp [intOf]; omega
    · obtain rfl : k = n := by omega
      have hq : (es.map Rn.pl).length = k := by have := HN.out; simp; omega
      have HQ : Hid (ringsB (es.map Rn.pl) = decide (1 ≤ (k : Int) ∧ (k : Int) ≤ 9)) := (by rw [ringsB_all (fun j hj => hall.out j (by omega)), hq] : _ = _)
      clear hq
      go_wp2_with fail
      refine (in_any (k : Int) 1 9 _).mono ?_
      rintro x w1 ⟨rfl, rfl⟩
      go_wp2_with fail
      go_ret
      exact ⟨by rw [HQ.out, Bool.decide_and]; rfl, hb.out⟩
end Go.Proofs.Ytoahljkifikbaaa


/- Lists of daemons, held against each other. Written by gen_gs.py. -/
namespace Go.Proofs.Ytoahljkifikbaaa
open Go.RowKit Pl
set_option linter.unusedVariables false
set_option linter.unusedSimpArgs false

set_option maxRecDepth 100000 in
set_option maxHeartbeats 4000000 in
theorem eqdaemons_sp (ao bo : Option Addr) (len c1 c2 : Nat) (r1 r2 : Nat → List Value) (w : World) (h1 : Hid (∀ j, j < len → ∃ g off, ao = some ⟨g, off, none⟩ ∧ g < w.heap.size ∧ (r1 j).length = 24 ∧ w.rangeAt g (off + j * 24) (r1 j))) (h2 : Hid (∀ j, j < len → ∃ g off, bo = some ⟨g, off, none⟩ ∧ g < w.heap.size ∧ (r2 j).length = 24 ∧ w.rangeAt g (off + j * 24) (r2 j))) (hE : Hid (∀ j, j < len → ∀ W, Below w.heap.size w W → Calls Try.prog 50 #[.agg (r1 j).toArray, .agg (r2 j).toArray] W fun e w' => e = .returned (.bool true) ∧ Below W.heap.size W w')) (hl : len ≤ 39999990) :
    Calls Try.prog 33 #[.slice ao len c1, .slice bo len c2] w fun e w' => e = .returned (.bool true) ∧ Below w.heap.size w w' := by
  go_enter Try.func33, Try.ntmps33
  go_wp2_with fail
  go_loopw [5] (fun i wr => ∃ (j : Nat), j ≤ len ∧ i = .int .i64 (j : Int) ∧ Hid (Below w.heap.size w wr)) (fun i _ => len - (intOf i).toNat)
  case atStart => exact ⟨0, by omega, rfl, Below.refl _ _⟩
  case round =>
    obtain ⟨j, hj, rfl, HB⟩ := hrel
    by_cases hlt : j < len
    · obtain ⟨g1, o1, rfl, l1, n1, x1⟩ := h1.out j hlt
      obtain ⟨g2, o2, rfl, l2, n2, x2⟩ := h2.out j hlt
      have X1 : Hid (w.rangeAt g1 (o1 + j * 24) (r1 j)) := x1
      have X2 : Hid (w.rangeAt g2 (o2 + j * 24) (r2 j)) := x2
      have N1 : Hid ((Try.prog.info? 65).map (·.size) = some (r1 j).length) := (by rw [n1]; exact Try.sizeDa : _ = _)
      have N2 : Hid ((Try.prog.info? 65).map (·.size) = some (r2 j).length) := (by rw [n2]; exact Try.sizeDa : _ = _)
      clear x1 x2 n1 n2
      have EJ : Hid _ := hE.out j hlt
      have i0 : (0 : Int) ≤ (j : Int) := by omega
      have i1 : (j : Int) < (len : Int) := by omega
      go_wp2_with fail
      have c : Below w.heap.size w wr.drew := HB.out.drew
      refine wp_region_held_drew (S := fun w' => Below w.heap.size w w') (by kernel_rfl) c (fun hHeld => ?_)
      refine wpAnyH_take (i := 0) (v := ?v0b1) rfl (by kernel_rfl) (by kernel_rfl) (by kernel_rfl) (fun _ _ _ h => h) (Or.inl ⟨by rfl, ?hy0b1⟩) (by assumption) ?_
      case hy0b1 => (intro w hSw; (try dsimp only at hSw); simp only [List.getElem_toArray, List.getElem_cons_zero, List.getElem_cons_succ]; go_simp; try with_reducible rfl)
      try simp only [Act.put, List.getElem_toArray, List.getElem_cons_zero, List.getElem_cons_succ, List.setIfInBounds_toArray, List.set_cons_zero, List.set_cons_succ]
      refine wpAnyH_take (i := 1) (v := ?v1b2) rfl (by kernel_rfl) (by kernel_rfl) (by kernel_rfl) (fun _ _ _ h => h) (Or.inl ⟨by rfl, ?hy1b2⟩) (by assumption) ?_
      case hy1b2 => (intro w hSw; (try dsimp only at hSw); simp only [List.getElem_toArray, List.getElem_cons_zero, List.getElem_cons_succ]; go_simp; try with_reducible rfl)
      try simp only [Act.put, List.getElem_toArray, List.getElem_cons_zero, List.getElem_cons_succ, List.setIfInBounds_toArray, List.set_cons_zero, List.set_cons_succ]
      refine wpAnyH_take (i := 2) (v := ?v2b3) rfl (by kernel_rfl) (by kernel_rfl) (by kernel_rfl) (fun _ _ _ h => h) (Or.inl ⟨by rfl, ?hy2b3⟩) (by assumption) ?_
      case hy2b3 => (intro w hSw; (try dsimp only at hSw); simp only [List.getElem_toArray, List.getElem_cons_zero, List.getElem_cons_succ]; go_simp; try with_reducible rfl)
      try simp only [Act.put, List.getElem_toArray, List.getElem_cons_zero, List.getElem_cons_succ, List.setIfInBounds_toArray, List.set_cons_zero, List.set_cons_succ]
      refine wpAnyH_take (i := 3) (v := _) rfl (by kernel_rfl) (by kernel_rfl) (by kernel_rfl) (fun _ _ _ h => h) (ldN_yield (by rfl) 65 _ rfl g1 (o1 + j * 24) (by rfl) (r1 j) (fun w hS => range_later X1.out l1 hS) _ Try.underlying65 rfl N1.out) (by assumption) ?_
      try simp only [Act.put, List.setIfInBounds_toArray, List.set_cons_zero, List.set_cons_succ]
      refine wpAnyH_take (i := 4) (v := ?v4b5) rfl (by kernel_rfl) (by kernel_rfl) (by kernel_rfl) (fun _ _ _ h => h) (Or.inl ⟨by rfl, ?hy4b5⟩) (by assumption) ?_
      case hy4b5 => (intro w hSw; (try dsimp only at hSw); simp only [List.getElem_toArray, List.getElem_cons_zero, List.getElem_cons_succ]; go_simp; try with_reducible rfl)
      try simp only [Act.put, List.getElem_toArray, List.getElem_cons_zero, List.getElem_cons_succ, List.setIfInBounds_toArray, List.set_cons_zero, List.set_cons_succ]
      refine wpAnyH_take (i := 5) (v := ?v5b6) rfl (by kernel_rfl) (by kernel_rfl) (by kernel_rfl) (fun _ _ _ h => h) (Or.inl ⟨by rfl, ?hy5b6⟩) (by assumption) ?_
      case hy5b6 => (intro w hSw; (try dsimp only at hSw); simp only [List.getElem_toArray, List.getElem_cons_zero, List.getElem_cons_succ]; go_simp; try with_reducible rfl)
      try simp only [Act.put, List.getElem_toArray, List.getElem_cons_zero, List.getElem_cons_succ, List.setIfInBounds_toArray, List.set_cons_zero, List.set_cons_succ]
      refine wpAnyH_take (i := 6) (v := ?v6b7) rfl (by kernel_rfl) (by kernel_rfl) (by kernel_rfl) (fun _ _ _ h => h) (Or.inl ⟨by rfl, ?hy6b7⟩) (by assumption) ?_
      case hy6b7 => (intro w hSw; (try dsimp only at hSw); simp only [List.getElem_toArray, List.getElem_cons_zero, List.getElem_cons_succ]; go_simp; try with_reducible rfl)
      try simp only [Act.put, List.getElem_toArray, List.getElem_cons_zero, List.getElem_cons_succ, List.setIfInBounds_toArray, List.set_cons_zero, List.set_cons_succ]
      refine wpAnyH_take (i := 7) (v := _) rfl (by kernel_rfl) (by kernel_rfl) (by kernel_rfl) (fun _ _ _ h => h) (ldN_yield (by rfl) 65 _ rfl g2 (o2 + j * 24) (by rfl) (r2 j) (fun w hS => range_later X2.out l2 hS) _ Try.underlying65 rfl N2.out) (by assumption) ?_
      try simp only [Act.put, List.setIfInBounds_toArray, List.set_cons_zero, List.set_cons_succ]
      refine wpAnyH_ready (rs := [8]) (by kernel_rfl) (by simp) ?_
      refine AllReadyH.cons (i := 8) rfl (fun K hK => ?_) AllReadyH.nil
      rw [if_pos (by rfl)]
      simp only [List.getElem_toArray, List.getElem_cons_zero, List.getElem_cons_succ]
      go_simp
      refine (EJ.out _ c).mono ?_
      rintro e y1 ⟨rfl, d1⟩
      have c1 : Below w.heap.size w y1 := bl_next c d1
      refine hK.out _ _ (c1) (fun hHeld => ?_)
      clear hK K
      try simp only [Act.put, List.getElem_toArray, List.getElem_cons_zero, List.getElem_cons_succ, List.setIfInBounds_toArray, List.set_cons_zero, List.set_cons_succ]
      clear d1
      refine wpAnyH_take (i := 9) (v := ?v9b9) rfl (by kernel_rfl) (by kernel_rfl) (by kernel_rfl) (fun _ _ _ h => h) (Or.inl ⟨by rfl, ?hy9b9⟩) (by assumption) ?_
      case hy9b9 => (intro w hSw; (try dsimp only at hSw); simp only [List.getElem_toArray, List.getElem_cons_zero, List.getElem_cons_succ]; go_simp; try with_reducible rfl)
      try simp only [Act.put, List.getElem_toArray, List.getElem_cons_zero, List.getElem_cons_succ, List.setIfInBounds_toArray, List.set_cons_zero, List.set_cons_succ]
      refine wpAnyH_done (by kernel_rfl) ?_ _
      have HB1 : Hid (Below w.heap.size w y1) := c1
      clear c c1 hHeld HB EJ X1 X2
      go_wp2_with fail
      go_roundw
      case rel => exact ⟨j + 1, by omega, by go_num, HB1⟩
      case measure => simp [intOf]; omega
    · obtain rfl : j = len := by omega
      go_wp2_with fail
      go_ret
      exact ⟨rfl, HB.out⟩
end Go.Proofs.Ytoahljkifikbaaa


/- The law on DaemonNew. Written by gen_lawd.py. -/
namespace Go.Proofs.Ytoahljkifikbaaa
open Go.RowKit Pl
set_option linter.unusedVariables false
set_option linter.unusedSimpArgs false

/-- a daemon that has nothing but an Id. -/
def zDm (id : Int) : Dm := ⟨id, false, zMt, zMv, 0, 0, 0, [], zSv, [], zSv, [], zSv⟩
theorem zDm_o (id : Int) (w : World) (B : Nat) : DmO w B (zDm id) := ⟨mto_zero w B, ownI_nil w B, BusO.nil w B, EvsO.nil w B⟩
theorem zDm_s (id : Int) : DmS (zDm id) := ⟨mts_zero, by simp [zDm], by simp [zDm, Bus.tot], by simp [zDm, Evs.tot]⟩
set_option maxRecDepth 100000 in
set_option maxHeartbeats 2000000 in
theorem daemonNew_yes (id : Int) (w : World) (h : decide (1 ≤ id ∧ id ≤ 5) = true) :
    Calls Try.prog 32 #[.int .i64 id] w fun e w' => e = .returned (.tuple #[.agg #[.int .i64 id, .bool false, .int .i64 0, .int .i64 0, .slice none 0 0, .slice none 0 0, .slice none 0 0, .slice none 0 0, .int .i64 0, .int .i64 0, .int .i64 0, .int .i64 0, .int .i64 0, .int .i64 0, .int .i64 0, .int .i64 0, .int .i64 0, .slice none 0 0, .int .i64 0, .int .i64 0, .int .i64 0, .slice none 0 0, .slice none 0 0, .slice none 0 0], .bool true]) ∧ Below w.heap.size w w' := by
  have HZ : Hid (Bx (w.alloc (.cells #[.int .i64 0, .bool false, .int .i64 0, .int .i64 0, .slice none 0 0, .slice none 0 0, .slice none 0 0, .slice none 0 0, .int .i64 0, .int .i64 0, .int .i64 0, .int .i64 0, .int .i64 0, .int .i64 0, .int .i64 0, .int .i64 0, .int .i64 0, .slice none 0 0, .int .i64 0, .int .i64 0, .int .i64 0, .slice none 0 0, .slice none 0 0, .slice none 0 0] 65)) w.heap.size 65 [.int .i64 0, .bool false, .int .i64 0, .int .i64 0, .slice none 0 0, .slice none 0 0, .slice none 0 0, .slice none 0 0, .int .i64 0, .int .i64 0, .int .i64 0, .int .i64 0, .int .i64 0, .int .i64 0, .int .i64 0, .int .i64 0, .int .i64 0, .slice none 0 0, .int .i64 0, .int .i64 0, .int .i64 0, .slice none 0 0, .slice none 0 0, .slice none 0 0]) := Bx.new w 65 _
  have BW : Hid (Below w.heap.size w (w.alloc (.cells #[.int .i64 0, .bool false, .int .i64 0, .int .i64 0, .slice none 0 0, .slice none 0 0, .slice none 0 0, .slice none 0 0, .int .i64 0, .int .i64 0, .int .i64 0, .int .i64 0, .int .i64 0, .int .i64 0, .int .i64 0, .int .i64 0, .int .i64 0, .slice none 0 0, .int .i64 0, .int .i64 0, .int .i64 0, .slice none 0 0, .slice none 0 0, .slice none 0 0] 65))) := (Below.refl _ _).alloc (Nat.le_refl _) _
  go_enter Try.func32, Try.ntmps32
  go_wp2_with fail
  generalize w.alloc (.cells #[.int .i64 0, .bool false, .int .i64 0, .int .i64 0, .slice none 0 0, .slice none 0 0, .slice none 0 0, .slice none 0 0, .int .i64 0, .int .i64 0, .int .i64 0, .int .i64 0, .int .i64 0, .int .i64 0, .int .i64 0, .int .i64 0, .int .i64 0, .slice none 0 0, .int .i64 0, .int .i64 0, .int .i64 0, .slice none 0 0, .slice none 0 0, .slice none 0 0] 65) = W at *
  refine (within_b id 1 5 _).mono ?_
  rintro e w1 ⟨rfl, b⟩
  have HZ : Hid (Bx w1 w.heap.size 65 [.int .i64 0, .bool false, .int .i64 0, .int .i64 0, .slice none 0 0, .slice none 0 0, .slice none 0 0, .slice none 0 0, .int .i64 0, .int .i64 0, .int .i64 0, .int .i64 0, .int .i64 0, .int .i64 0, .int .i64 0, .int .i64 0, .int .i64 0, .slice none 0 0, .int .i64 0, .int .i64 0, .int .i64 0, .slice none 0 0, .slice none 0 0, .slice none 0 0]) := HZ.out.later b
  have BW : Hid (Below w.heap.size w w1) := bl_next BW.out b
  clear b
  rw [h]
  go_wp2_with (first | (with_reducible refine wpList_haltS 65 _ _ rfl ?_))
  refine Stp.go ?_
  refine wpList_stB rfl 65 _ _ rfl w.heap.size 0 rfl 65 _ HZ.out [.int .i64 id, .bool false, .int .i64 0, .int .i64 0, .slice none 0 0, .slice none 0 0, .slice none 0 0, .slice none 0 0, .int .i64 0, .int .i64 0, .int .i64 0, .int .i64 0, .int .i64 0, .int .i64 0, .int .i64 0, .int .i64 0, .int .i64 0, .slice none 0 0, .int .i64 0, .int .i64 0, .int .i64 0, .slice none 0 0, .slice none 0 0, .slice none 0 0] rfl (by simp) Try.sizeDa rfl [.int .i64 id, .bool false, .int .i64 0, .int .i64 0, .slice none 0 0, .slice none 0 0, .slice none 0 0, .slice none 0 0, .int .i64 0, .int .i64 0, .int .i64 0, .int .i64 0, .int .i64 0, .int .i64 0, .int .i64 0, .int .i64 0, .int .i64 0, .slice none 0 0, .int .i64 0, .int .i64 0, .int .i64 0, .slice none 0 0, .slice none 0 0, .slice none 0 0] rfl ?_
  intro w2 OB TB
  have BW : Hid (Below w.heap.size w w2) := BW.out.trans (TB.below (Nat.le_refl _))
  clear TB HZ
  go_wp2_with fail
  refine bodyPost_ret (results_bt Try.results32 w.heap.size 65 [.int .i64 id, .bool false, .int .i64 0, .int .i64 0, .slice none 0 0, .slice none 0 0, .slice none 0 0, .slice none 0 0, .int .i64 0, .int .i64 0, .int .i64 0, .int .i64 0, .int .i64 0, .int .i64 0, .int .i64 0, .int .i64 0, .int .i64 0, .slice none 0 0, .int .i64 0, .int .i64 0, .int .i64 0, .slice none 0 0, .slice none 0 0, .slice none 0 0] _ rfl OB Try.underlying65 rfl Try.sizeDa) rfl ?_
  exact ⟨rfl, BW.out⟩
set_option maxRecDepth 100000 in
set_option maxHeartbeats 2000000 in
theorem spDaemonNew_yes (id : Int) (w : World) (h : decide (1 ≤ id ∧ id ≤ 5) = true) :
    Calls Try.prog 30 #[.int .i64 id] w fun e w' => e = .returned (.tuple #[.agg #[.int .i64 id, .bool false, .int .i64 0, .int .i64 0, .slice none 0 0, .slice none 0 0, .slice none 0 0, .slice none 0 0, .int .i64 0, .int .i64 0, .int .i64 0, .int .i64 0, .int .i64 0, .int .i64 0, .int .i64 0, .int .i64 0, .int .i64 0, .slice none 0 0, .int .i64 0, .int .i64 0, .int .i64 0, .slice none 0 0, .slice none 0 0, .slice none 0 0], .bool true]) ∧ Below w.heap.size w w' := by
  have HZ : Hid (Bx (w.alloc (.cells #[.int .i64 0, .bool false, .int .i64 0, .int .i64 0, .slice none 0 0, .slice none 0 0, .slice none 0 0, .slice none 0 0, .int .i64 0, .int .i64 0, .int .i64 0, .int .i64 0, .int .i64 0, .int .i64 0, .int .i64 0, .int .i64 0, .int .i64 0, .slice none 0 0, .int .i64 0, .int .i64 0, .int .i64 0, .slice none 0 0, .slice none 0 0, .slice none 0 0] 65)) w.heap.size 65 [.int .i64 0, .bool false, .int .i64 0, .int .i64 0, .slice none 0 0, .slice none 0 0, .slice none 0 0, .slice none 0 0, .int .i64 0, .int .i64 0, .int .i64 0, .int .i64 0, .int .i64 0, .int .i64 0, .int .i64 0, .int .i64 0, .int .i64 0, .slice none 0 0, .int .i64 0, .int .i64 0, .int .i64 0, .slice none 0 0, .slice none 0 0, .slice none 0 0]) := Bx.new w 65 _
  have BW : Hid (Below w.heap.size w (w.alloc (.cells #[.int .i64 0, .bool false, .int .i64 0, .int .i64 0, .slice none 0 0, .slice none 0 0, .slice none 0 0, .slice none 0 0, .int .i64 0, .int .i64 0, .int .i64 0, .int .i64 0, .int .i64 0, .int .i64 0, .int .i64 0, .int .i64 0, .int .i64 0, .slice none 0 0, .int .i64 0, .int .i64 0, .int .i64 0, .slice none 0 0, .slice none 0 0, .slice none 0 0] 65))) := (Below.refl _ _).alloc (Nat.le_refl _) _
  go_enter Try.func30, Try.ntmps30
  go_wp2_with fail
  generalize w.alloc (.cells #[.int .i64 0, .bool false, .int .i64 0, .int .i64 0, .slice none 0 0, .slice none 0 0, .slice none 0 0, .slice none 0 0, .int .i64 0, .int .i64 0, .int .i64 0, .int .i64 0, .int .i64 0, .int .i64 0, .int .i64 0, .int .i64 0, .int .i64 0, .slice none 0 0, .int .i64 0, .int .i64 0, .int .i64 0, .slice none 0 0, .slice none 0 0, .slice none 0 0] 65) = W at *
  refine (in_b id 1 5 _).mono ?_
  rintro e w1 ⟨rfl, b⟩
  have HZ : Hid (Bx w1 w.heap.size 65 [.int .i64 0, .bool false, .int .i64 0, .int .i64 0, .slice none 0 0, .slice none 0 0, .slice none 0 0, .slice none 0 0, .int .i64 0, .int .i64 0, .int .i64 0, .int .i64 0, .int .i64 0, .int .i64 0, .int .i64 0, .int .i64 0, .int .i64 0, .slice none 0 0, .int .i64 0, .int .i64 0, .int .i64 0, .slice none 0 0, .slice none 0 0, .slice none 0 0]) := HZ.out.later b
  have BW : Hid (Below w.heap.size w w1) := bl_next BW.out b
  clear b
  rw [h]
  go_wp2_with (first | (with_reducible refine wpList_haltS 65 _ _ rfl ?_))
  refine Stp.go ?_
  refine wpList_stB rfl 65 _ _ rfl w.heap.size 0 rfl 65 _ HZ.out [.int .i64 id, .bool false, .int .i64 0, .int .i64 0, .slice none 0 0, .slice none 0 0, .slice none 0 0, .slice none 0 0, .int .i64 0, .int .i64 0, .int .i64 0, .int .i64 0, .int .i64 0, .int .i64 0, .int .i64 0, .int .i64 0, .int .i64 0, .slice none 0 0, .int .i64 0, .int .i64 0, .int .i64 0, .slice none 0 0, .slice none 0 0, .slice none 0 0] rfl (by simp) Try.sizeDa rfl [.int .i64 id, .bool false, .int .i64 0, .int .i64 0, .slice none 0 0, .slice none 0 0, .slice none 0 0, .slice none 0 0, .int .i64 0, .int .i64 0, .int .i64 0, .int .i64 0, .int .i64 0, .int .i64 0, .int .i64 0, .int .i64 0, .int .i64 0, .slice none 0 0, .int .i64 0, .int .i64 0, .int .i64 0, .slice none 0 0, .slice none 0 0, .slice none 0 0] rfl ?_
  intro w2 OB TB
  have BW : Hid (Below w.heap.size w w2) := BW.out.trans (TB.below (Nat.le_refl _))
  clear TB HZ
  go_wp2_with fail
  refine bodyPost_ret (results_bt Try.results30 w.heap.size 65 [.int .i64 id, .bool false, .int .i64 0, .int .i64 0, .slice none 0 0, .slice none 0 0, .slice none 0 0, .slice none 0 0, .int .i64 0, .int .i64 0, .int .i64 0, .int .i64 0, .int .i64 0, .int .i64 0, .int .i64 0, .int .i64 0, .int .i64 0, .slice none 0 0, .int .i64 0, .int .i64 0, .int .i64 0, .slice none 0 0, .slice none 0 0, .slice none 0 0] _ rfl OB Try.underlying65 rfl Try.sizeDa) rfl ?_
  exact ⟨rfl, BW.out⟩
end Go.Proofs.Ytoahljkifikbaaa


/- Lists of daemons that have nothing but an Id. Written by gen_dn.py. -/
namespace Go.Proofs.Ytoahljkifikbaaa
open Go.RowKit Pl
set_option linter.unusedVariables false
set_option linter.unusedSimpArgs false

/-- a daemon that has nothing but an Id. -/
structure Bd where
  id : Int
def Bd.row (b : Bd) : List Value := [.int .i64 b.id, .bool false, .int .i64 0, .int .i64 0, .slice none 0 0, .slice none 0 0, .slice none 0 0, .slice none 0 0, .int .i64 0, .int .i64 0, .int .i64 0, .int .i64 0, .int .i64 0, .int .i64 0, .int .i64 0, .int .i64 0, .int .i64 0, .slice none 0 0, .int .i64 0, .int .i64 0, .int .i64 0, .slice none 0 0, .slice none 0 0, .slice none 0 0]
def BdsO (w : World) (B : Nat) (s : Sv) (es : List Bd) : Prop := SlN w 65 24 B s.v (es.map Bd.row)
theorem BdsO.keep {w w' : World} {B : Nat} {s : Sv} {es : List Bd} (h : BdsO w B s es) (hk : ∀ b, s.v.ownBlock = some b → b < w.heap.size → w'.heap[b]? = w.heap[b]?) : BdsO w' B s es := SlN.keep h hk
theorem BdsO.below {w w' : World} {B : Nat} {s : Sv} {es : List Bd} (h : BdsO w B s es) (b : Below w.heap.size w w') : BdsO w' B s es := SlN.below h b
theorem BdsO.down {w : World} {B B' : Nat} {s : Sv} {es : List Bd} (h : BdsO w B s es) (hB : B' ≤ B) : BdsO w B' s es := SlN.down h hB
theorem BdsO.nil (w : World) (B : Nat) : BdsO w B zSv [] := SlN.nil _ _ _ _
theorem eqBds_any (s1 s2 : Sv) (es : List Bd) (B1 B2 : Nat) (w : World) (h1 : Hid (BdsO w B1 s1 es)) (h2 : Hid (BdsO w B2 s2 es)) (hl : es.length ≤ 1048576) :
    Calls Try.prog 33 #[.slice s1.a s1.n s1.c, .slice s2.a s2.n s2.c] w fun x w' => x = .returned (.bool true) ∧ Below w.heap.size w w' := by
  have n1 : s1.n = es.length := by have := h1.out.slen; simpa using this
  have n2 : s2.n = es.length := by have := h2.out.slen; simpa using this
  rw [n1, n2]
  refine eqdaemons_sp s1.a s2.a es.length s1.c s2.c (fun j => ((es.map Bd.row)[j]?).getD []) (fun j => ((es.map Bd.row)[j]?).getD []) w (fun j hj => rowsAt h1.out j (by simpa using hj)) (fun j hj => rowsAt h2.out j (by simpa using hj)) ?_ (by omega)
  intro j hj W b
  have e1 : ((es.map Bd.row)[j]?).getD [] = es[j].row := by simp [hj]
  try dsimp only
  rw [e1]
  exact eqDaemon_any (zDm es[j].id) (zDm es[j].id) 0 0 W (zDm_o _ _ _) (zDm_o _ _ _) ⟨rfl, rfl, rfl, rfl, rfl, rfl, rfl, rfl, rfl⟩ (zDm_s _)
end Go.Proofs.Ytoahljkifikbaaa


/- A new world: the specification's WorldNew. Written by gen_wn15.py. -/
namespace Go.Proofs.Ytoahljkifikbaaa
open Go.RowKit Pl
set_option linter.unusedVariables false
set_option linter.unusedSimpArgs false

/-- a world of new rings: its rings, and daemons that have nothing but an Id. -/
structure Wn where
  rs : Sv
  rl : List Rn
  ds : Sv
  dl : List Bd
structure WnO (w : World) (B : Nat) (x : Wn) : Prop where
  r : RnsO w B x.rs x.rl
  d : BdsO w B x.ds x.dl
def five : List Bd := [⟨1⟩, ⟨2⟩, ⟨3⟩, ⟨4⟩, ⟨5⟩]
theorem WnO.keep {w w' : World} {B : Nat} {x : Wn} (h : WnO w B x) (hk : ∀ b, B ≤ b → b < w.heap.size → w'.heap[b]? = w.heap[b]?) : WnO w' B x := ⟨h.r.keep hk, h.d.keep fun b hb hl => hk b (SlN.lt h.d b hb).1 hl⟩
theorem WnO.below {w w' : World} {B : Nat} {x : Wn} (h : WnO w B x) (b : Below w.heap.size w w') : WnO w' B x := h.keep fun k _ hk => b.block k hk
theorem WnO.down {w : World} {B B' : Nat} {x : Wn} (h : WnO w B x) (hB : B' ≤ B) : WnO w B' x := ⟨h.r.down hB, h.d.down hB⟩
def fst (k : Nat) : List Bd := five.take k
theorem fst_len (k : Nat) (h : k ≤ 5) : (fst k).length = k := by unfold fst; rw [List.length_take]; show min k 5 = k; omega
theorem fst_5 : fst 5 = five := rfl
theorem fst_snoc (k : Nat) (h : k < 5) : (fst k).map Bd.row ++ [(⟨(k : Int) + 1⟩ : Bd).row] = (fst (k + 1)).map Bd.row := by
  match k, h with
  | 0, _ => rfl
  | 1, _ => rfl
  | 2, _ => rfl
  | 3, _ => rfl
  | 4, _ => rfl
theorem Try.sizeWo : (Try.prog.info? 40).map (·.size) = some 4 := by kernel_rfl
theorem Try.sizeRs : (Try.prog.info? 25).map (·.size) = some 1 := by kernel_rfl
theorem Try.sizeDs : (Try.prog.info? 36).map (·.size) = some 1 := by kernel_rfl
theorem Try.infoDa : (Try.prog.info? 65).map (fun i => (i.zero, i.size, i.bytes)) = some (some (.agg #[.int .i64 0, .bool false, .int .i64 0, .int .i64 0, .slice none 0 0, .slice none 0 0, .slice none 0 0, .slice none 0 0, .int .i64 0, .int .i64 0, .int .i64 0, .int .i64 0, .int .i64 0, .int .i64 0, .int .i64 0, .int .i64 0, .int .i64 0, .slice none 0 0, .int .i64 0, .int .i64 0, .int .i64 0, .slice none 0 0, .slice none 0 0, .slice none 0 0]), 24, 320) := by kernel_rfl
set_option maxRecDepth 100000 in
set_option maxHeartbeats 2000000 in
theorem spWorldNew_no (s : Sv) (es : List Rn) (w : World) (hx : Hid (RnsR w s es)) (hl : es.length ≤ 1048576) (hs : Hid (∀ e ∈ es, e.S)) (hr : Hid (ringsB (es.map Rn.pl) = false)) :
    Calls Try.prog 15 #[.slice s.a s.n s.c] w fun x w' => x = .returned (.tuple #[.agg #[.slice none 0 0, .slice none 0 0, .slice none 0 0, .slice none 0 0], .bool false]) ∧ Below w.heap.size w w' := by
  have EB : Hid (Bx (w.alloc (.cells #[.slice none 0 0, .slice none 0 0, .slice none 0 0, .slice none 0 0] 40)) w.heap.size 40 [.slice none 0 0, .slice none 0 0, .slice none 0 0, .slice none 0 0]) := Bx.new w 40 _
  have BW : Hid (Below w.heap.size w (w.alloc (.cells #[.slice none 0 0, .slice none 0 0, .slice none 0 0, .slice none 0 0] 40))) := (Below.refl _ _).alloc (Nat.le_refl _) _
  have HX : Hid (RnsR (w.alloc (.cells #[.slice none 0 0, .slice none 0 0, .slice none 0 0, .slice none 0 0] 40)) s es) := hx.out.stays BW.out
  clear hx
  go_enter Try.func15, Try.ntmps15
  go_wp2_with fail
  generalize w.alloc (.cells #[.slice none 0 0, .slice none 0 0, .slice none 0 0, .slice none 0 0] 40) = W at *
  refine (spRingsOk_any s es _ HX hl hs).mono ?_
  rintro x w1 ⟨rfl, b⟩
  rw [hr.out]
  have EB : Hid (Bx w1 w.heap.size 40 [.slice none 0 0, .slice none 0 0, .slice none 0 0, .slice none 0 0]) := EB.out.later b
  have BW : Hid (Below w.heap.size w w1) := bl_next BW.out b
  clear b HX hr
  go_wp2_with (first | (with_reducible refine wpList_haltS 40 _ _ rfl ?_))
  refine Stp.go ?_
  refine wpList_stB rfl 40 _ _ rfl w.heap.size 0 rfl 40 _ EB.out [.slice none 0 0, .slice none 0 0, .slice none 0 0, .slice none 0 0] rfl (by simp) Try.sizeWo rfl [.slice none 0 0, .slice none 0 0, .slice none 0 0, .slice none 0 0] rfl ?_
  intro w2 OB TB
  have EB : Hid (Bx w2 w.heap.size 40 [.slice none 0 0, .slice none 0 0, .slice none 0 0, .slice none 0 0]) := OB
  have BW : Hid (Below w.heap.size w w2) := BW.out.trans (TB.below (Nat.le_refl _))
  clear TB OB
  go_wp2_with fail
  refine bodyPost_ret (results_bt Try.results15 w.heap.size 40 [.slice none 0 0, .slice none 0 0, .slice none 0 0, .slice none 0 0] _ rfl EB.out Try.underlying40 rfl Try.sizeWo) rfl ?_
  exact ⟨rfl, BW.out⟩
set_option maxRecDepth 100000 in
set_option maxHeartbeats 8000000 in
theorem spWorldNew_yes (s : Sv) (es : List Rn) (w : World) (hx : Hid (RnsR w s es)) (hl : es.length ≤ 1048576) (hs : Hid (∀ e ∈ es, e.S)) (hr : Hid (ringsB (es.map Rn.pl) = true)) :
    Calls Try.prog 15 #[.slice s.a s.n s.c] w fun e w' => ∃ x : Wn, e = .returned (.tuple #[.agg #[.slice x.rs.a x.rs.n x.rs.c, .slice x.ds.a x.ds.n x.ds.c, .slice none 0 0, .slice none 0 0], .bool true]) ∧ x.rl.map Rn.pl = es.map Rn.pl ∧ x.dl = five ∧ WnO w' w.heap.size x ∧ Below w.heap.size w w' := by
  have EB : Hid (Bx (w.alloc (.cells #[.slice none 0 0, .slice none 0 0, .slice none 0 0, .slice none 0 0] 40)) w.heap.size 40 [.slice none 0 0, .slice none 0 0, .slice none 0 0, .slice none 0 0]) := Bx.new w 40 _
  have BW : Hid (Below w.heap.size w (w.alloc (.cells #[.slice none 0 0, .slice none 0 0, .slice none 0 0, .slice none 0 0] 40))) := (Below.refl _ _).alloc (Nat.le_refl _) _
  have HX : Hid (RnsR (w.alloc (.cells #[.slice none 0 0, .slice none 0 0, .slice none 0 0, .slice none 0 0] 40)) s es) := hx.out.stays BW.out
  clear hx
  go_enter Try.func15, Try.ntmps15
  go_wp2_with fail
  generalize w.alloc (.cells #[.slice none 0 0, .slice none 0 0, .slice none 0 0, .slice none 0 0] 40) = W at *
  have zW : w.heap.size < W.heap.size := EB.out.lt
  refine (spRingsOk_any s es _ HX hl hs).mono ?_
  rintro e w1 ⟨rfl, b⟩
  have z_w1 : W.heap.size ≤ w1.heap.size := b.size
  have EB : Hid (Bx w1 w.heap.size 40 [.slice none 0 0, .slice none 0 0, .slice none 0 0, .slice none 0 0]) := EB.out.later b
  have BW : Hid (Below w.heap.size w w1) := bl_next BW.out b
  have HX : Hid (RnsR w1 s es) := HX.out.stays b
  clear b
  rw [hr.out]
  go_wp2_with fail
  refine (lRings_any s es _ HX hl hs).mono ?_
  rintro e w2 ⟨u, cs, rfl, pl, ro, b⟩
  have RO : Hid (RnsO w2 w1.heap.size u cs) := ro
  have PL : Hid (cs.map Rn.pl = es.map Rn.pl) := pl
  clear ro pl
  have z_w2 : w1.heap.size ≤ w2.heap.size := b.size
  have EB : Hid (Bx w2 w.heap.size 40 [.slice none 0 0, .slice none 0 0, .slice none 0 0, .slice none 0 0]) := EB.out.later b
  have BW : Hid (Below w.heap.size w w2) := bl_next BW.out b
  have HX : Hid (RnsR w2 s es) := HX.out.stays b
  clear b
  clear HX
  have RL : Hid (∀ b, RnsOwn u cs b → b < w2.heap.size) := fun b hb => (RO.out.olt hb).2
  have hz : Hid (Bx (w2.alloc (.cells #[.slice none 0 0, .slice none 0 0, .slice none 0 0, .slice none 0 0] 40)) w2.heap.size 40 [.slice none 0 0, .slice none 0 0, .slice none 0 0, .slice none 0 0]) := Bx.new w2 40 _
  go_wp2_with (first | (refine wpList_stB rfl 40 _ _ rfl w2.heap.size 0 rfl 40 _ hz.out [.slice u.a u.n u.c, .slice none 0 0, .slice none 0 0, .slice none 0 0] rfl (by simp) Try.sizeWo rfl [.slice u.a u.n u.c, .slice none 0 0, .slice none 0 0, .slice none 0 0] rfl ?_; intro w3 OB TB; have b : Below w2.heap.size w2 w3 := ((Below.refl _ _).alloc (Nat.le_refl _) _).trans (TB.below (Nat.le_refl _)); have WB : Hid (Bx w3 w2.heap.size 40 [.slice u.a u.n u.c, .slice none 0 0, .slice none 0 0, .slice none 0 0]) := OB; have z_w3 : w2.heap.size ≤ w3.heap.size := b.size; have EB : Hid (Bx w3 w.heap.size 40 [.slice none 0 0, .slice none 0 0, .slice none 0 0, .slice none 0 0]) := EB.out.later b; have BW : Hid (Below w.heap.size w w3) := bl_next BW.out b; have RO : Hid (RnsO w3 w1.heap.size u cs) := RO.out.below b; clear OB TB b; refine Stp.here ?_))
  refine Stp.go ?_
  clear hz
  have zl_WB : w2.heap.size < w3.heap.size := WB.out.lt
  generalize hg_WB : w2.heap.size = gWB at *
  have zWB : w1.heap.size ≤ gWB ∧ gWB < w3.heap.size := by have := WB.out.lt; omega
  have RG : Hid (∀ b, RnsOwn u cs b → b ≠ gWB) := fun b hb => by have := RL.out b hb; omega
  go_wp2_with fail
  go_loopw [5] (fun i wr => ∃ (j : Nat) (t : Sv), j ≤ 5 ∧ i = .int .i64 ((j : Int) + 1) ∧ Hid (Bx wr gWB 40 [.slice u.a u.n u.c, .slice t.a t.n t.c, .slice none 0 0, .slice none 0 0]) ∧ Hid (BdsO wr w3.heap.size t (fst j)) ∧ Hid (KeepR gWB w3.heap.size w3 wr)) (fun i _ => 6 - (intOf i).toNat)
  case atStart => exact ⟨0, zSv, by omega, rfl, WB, BdsO.nil _ _, KeepR.refl _ _ _⟩
  case round =>
    obtain ⟨j, t, hj, rfl, OR, LR, KR⟩ := hrel
    have zr : w3.heap.size ≤ wr.heap.size := KR.out.size
    by_cases hlt : j < 5
    · skip
      have i1 : (j : Int) + 1 ≤ 5 := by omega
      have RLt : Hid (∀ b, t.v.ownBlock = some b → b < wr.heap.size ∧ w3.heap.size ≤ b) := fun b hb => ⟨(SlN.lt LR.out b hb).2, (SlN.lt LR.out b hb).1⟩
      have HLEN : Hid (((fst j).map Bd.row).length ≤ 1048576) := (by rw [List.length_map, fst_len j (by omega)]; omega : _ ≤ _)
      go_wp2_with fail
      refine (spDaemonNew_yes ((j : Int) + 1) _ (by simp; omega)).mono ?_
      rintro e v1 ⟨rfl, b⟩
      have z_v1 : wr.heap.size ≤ v1.heap.size := b.size
      have OR : Hid (Bx v1 gWB 40 [.slice u.a u.n u.c, .slice t.a t.n t.c, .slice none 0 0, .slice none 0 0]) := OR.out.later b
      have LR : Hid (BdsO v1 w3.heap.size t (fst j)) := LR.out.below b
      have KR : Hid (KeepR gWB w3.heap.size w3 v1) := KR.out.belowN ((b).mono (by omega))
      clear b
      have hz : Hid (Bx (v1.alloc (.cells #[.int .i64 0, .bool false, .int .i64 0, .int .i64 0, .slice none 0 0, .slice none 0 0, .slice none 0 0, .slice none 0 0, .int .i64 0, .int .i64 0, .int .i64 0, .int .i64 0, .int .i64 0, .int .i64 0, .int .i64 0, .int .i64 0, .int .i64 0, .slice none 0 0, .int .i64 0, .int .i64 0, .int .i64 0, .slice none 0 0, .slice none 0 0, .slice none 0 0] 65)) v1.heap.size 65 [.int .i64 0, .bool false, .int .i64 0, .int .i64 0, .slice none 0 0, .slice none 0 0, .slice none 0 0, .slice none 0 0, .int .i64 0, .int .i64 0, .int .i64 0, .int .i64 0, .int .i64 0, .int .i64 0, .int .i64 0, .int .i64 0, .int .i64 0, .slice none 0 0, .int .i64 0, .int .i64 0, .int .i64 0, .slice none 0 0, .slice none 0 0, .slice none 0 0]) := Bx.new v1 65 _
      go_wp2_with (first | (refine wpList_stB rfl 65 _ _ rfl v1.heap.size 0 rfl 65 _ hz.out [.int .i64 ((j : Int) + 1), .bool false, .int .i64 0, .int .i64 0, .slice none 0 0, .slice none 0 0, .slice none 0 0, .slice none 0 0, .int .i64 0, .int .i64 0, .int .i64 0, .int .i64 0, .int .i64 0, .int .i64 0, .int .i64 0, .int .i64 0, .int .i64 0, .slice none 0 0, .int .i64 0, .int .i64 0, .int .i64 0, .slice none 0 0, .slice none 0 0, .slice none 0 0] rfl (by simp) Try.sizeDa rfl [.int .i64 ((j : Int) + 1), .bool false, .int .i64 0, .int .i64 0, .slice none 0 0, .slice none 0 0, .slice none 0 0, .slice none 0 0, .int .i64 0, .int .i64 0, .int .i64 0, .int .i64 0, .int .i64 0, .int .i64 0, .int .i64 0, .int .i64 0, .int .i64 0, .slice none 0 0, .int .i64 0, .int .i64 0, .int .i64 0, .slice none 0 0, .slice none 0 0, .slice none 0 0] rfl ?_; intro v2 OB TB; have b : Below v1.heap.size v1 v2 := ((Below.refl _ _).alloc (Nat.le_refl _) _).trans (TB.below (Nat.le_refl _)); have VB : Hid (Bx v2 v1.heap.size 65 [.int .i64 ((j : Int) + 1), .bool false, .int .i64 0, .int .i64 0, .slice none 0 0, .slice none 0 0, .slice none 0 0, .slice none 0 0, .int .i64 0, .int .i64 0, .int .i64 0, .int .i64 0, .int .i64 0, .int .i64 0, .int .i64 0, .int .i64 0, .int .i64 0, .slice none 0 0, .int .i64 0, .int .i64 0, .int .i64 0, .slice none 0 0, .slice none 0 0, .slice none 0 0]) := OB; have z_v2 : v1.heap.size ≤ v2.heap.size := b.size; have OR : Hid (Bx v2 gWB 40 [.slice u.a u.n u.c, .slice t.a t.n t.c, .slice none 0 0, .slice none 0 0]) := OR.out.later b; have LR : Hid (BdsO v2 w3.heap.size t (fst j)) := LR.out.below b; have KR : Hid (KeepR gWB w3.heap.size w3 v2) := KR.out.belowN ((b).mono (by omega)); clear OB TB b; refine Stp.here ?_))
      refine Stp.go ?_
      clear hz
      have zl_VB : v1.heap.size < v2.heap.size := VB.out.lt
      generalize hg_VB : v1.heap.size = gVB at *
      have c1 := OR.out.cell 1
      simp only [List.getElem?_cons_succ, List.getElem?_cons_zero] at c1
      go_wp2_with (first | (refine wpList_ldG rfl 65 _ rfl gVB 0 rfl 65 _ VB.out [.int .i64 ((j : Int) + 1), .bool false, .int .i64 0, .int .i64 0, .slice none 0 0, .slice none 0 0, .slice none 0 0, .slice none 0 0, .int .i64 0, .int .i64 0, .int .i64 0, .int .i64 0, .int .i64 0, .int .i64 0, .int .i64 0, .int .i64 0, .int .i64 0, .slice none 0 0, .int .i64 0, .int .i64 0, .int .i64 0, .slice none 0 0, .slice none 0 0, .slice none 0 0] rfl _ Try.underlying65 rfl Try.sizeDa ?_) | (with_reducible refine wpList_haltA _ _ _ rfl ?_))
      refine Stp.go ?_
      clear c1
      refine wpList_pushN rfl _ _ 36 rfl (.agg #[.int .i64 0, .bool false, .int .i64 0, .int .i64 0, .slice none 0 0, .slice none 0 0, .slice none 0 0, .slice none 0 0, .int .i64 0, .int .i64 0, .int .i64 0, .int .i64 0, .int .i64 0, .int .i64 0, .int .i64 0, .int .i64 0, .int .i64 0, .slice none 0 0, .int .i64 0, .int .i64 0, .int .i64 0, .slice none 0 0, .slice none 0 0, .slice none 0 0]) 320 Try.underlying36 Try.infoDa rfl (by omega) w3.heap.size _ _ rfl (show SlN v2 65 24 w3.heap.size (.slice t.a t.n t.c) ((fst j).map Bd.row) from LR.out) [.int .i64 ((j : Int) + 1), .bool false, .int .i64 0, .int .i64 0, .slice none 0 0, .slice none 0 0, .slice none 0 0, .slice none 0 0, .int .i64 0, .int .i64 0, .int .i64 0, .int .i64 0, .int .i64 0, .int .i64 0, .int .i64 0, .int .i64 0, .int .i64 0, .slice none 0 0, .int .i64 0, .int .i64 0, .int .i64 0, .slice none 0 0, .slice none 0 0, .slice none 0 0] rfl rfl rfl HLEN.out (by omega) ?_
      intro v6 w6 O6 g6 b6 _
      obtain ⟨s6, hs6, hq6⟩ := O6.form
      subst hs6
      clear hq6
      have L6 : Hid (BdsO w6 w3.heap.size s6 (fst (j + 1))) := by have h := fst_snoc j hlt; unfold BdsO; rw [← h]; exact O6
      have zs6 : v2.heap.size ≤ w6.heap.size := by have := g6.size; simpa using (Nat.le_trans (by simp) this)
      clear O6
      have OR : Hid (Bx w6 gWB 40 [.slice u.a u.n u.c, .slice t.a t.n t.c, .slice none 0 0, .slice none 0 0]) := OR.out.grown g6 (fun e => by have := (RLt.out _ e.symm).2; omega)
      have KR : Hid (KeepR gWB w3.heap.size w3 w6) := KR.out.belowN b6
      clear g6 b6 VB LR
      go_wp2_with (first | (with_reducible refine wpList_haltS 36 _ _ rfl ?_))
      refine Stp.go ?_
      refine wpList_st1 rfl 36 _ _ rfl gWB 1 rfl 40 _ OR.out (.slice s6.a s6.n s6.c) rfl (by simp) rfl Try.sizeDs [.slice u.a u.n u.c, .slice s6.a s6.n s6.c, .slice none 0 0, .slice none 0 0] rfl ?_
      intro w7 OB TB
      have z_w7 : w6.heap.size ≤ w7.heap.size := Nat.le_of_eq TB.size.symm
      have L6 : Hid (BdsO w7 w3.heap.size s6 (fst (j + 1))) := L6.out.keep fun b hb _ => TB.block b (by have := (SlN.lt L6.out b hb).1; omega)
      have KR : Hid (KeepR gWB w3.heap.size w3 w7) := KR.out.turn TB
      have OR : Hid (Bx w7 gWB 40 [.slice u.a u.n u.c, .slice s6.a s6.n s6.c, .slice none 0 0, .slice none 0 0]) := OB
      clear OB TB
      go_wp2_with fail
      go_roundw
      case rel => exact ⟨j + 1, s6, by omega, by go_num, OR, L6, KR⟩
      case measure => simp [intOf]; omega
    · skip
      obtain rfl : j = 5 := by omega
      have EB : Hid (Bx wr w.heap.size 40 [.slice none 0 0, .slice none 0 0, .slice none 0 0, .slice none 0 0]) := EB.out.kr KR.out (by omega) (by omega)
      have RO : Hid (RnsO wr w1.heap.size u cs) := RO.out.keepo fun b hb hl => KR.out.blk b hl (RG.out b hb)
      have BW : Hid (Below w.heap.size w wr) := BW.out.trans (KR.out.below (by omega) (by omega))
      clear KR
      go_wp2_with (first | (refine wpList_ldG rfl 40 _ rfl gWB 0 rfl 40 _ OR.out [.slice u.a u.n u.c, .slice t.a t.n t.c, .slice none 0 0, .slice none 0 0] rfl _ Try.underlying40 rfl Try.sizeWo ?_) | (with_reducible refine wpList_haltS 40 _ _ rfl ?_))
      refine Stp.go ?_
      refine wpList_stB rfl 40 _ _ rfl w.heap.size 0 rfl 40 _ EB.out [.slice u.a u.n u.c, .slice t.a t.n t.c, .slice none 0 0, .slice none 0 0] rfl (by simp) Try.sizeWo rfl [.slice u.a u.n u.c, .slice t.a t.n t.c, .slice none 0 0, .slice none 0 0] rfl ?_
      intro w8 OB TB
      have z_w8 : wr.heap.size ≤ w8.heap.size := Nat.le_of_eq TB.size.symm
      have OR : Hid (Bx w8 gWB 40 [.slice u.a u.n u.c, .slice t.a t.n t.c, .slice none 0 0, .slice none 0 0]) := OR.out.turn TB (by omega)
      have RO : Hid (RnsO w8 w1.heap.size u cs) := RO.out.keep fun b hb _ => TB.block b (by omega)
      have LR : Hid (BdsO w8 w3.heap.size t (fst 5)) := LR.out.keep fun b hb _ => TB.block b (by have := (SlN.lt LR.out b hb).1; omega)
      have BW : Hid (Below w.heap.size w w8) := BW.out.trans (TB.below (by omega))
      have EB : Hid (Bx w8 w.heap.size 40 [.slice u.a u.n u.c, .slice t.a t.n t.c, .slice none 0 0, .slice none 0 0]) := OB
      clear OB TB
      go_wp2_with fail
      refine bodyPost_ret (results_bt Try.results15 w.heap.size 40 [.slice u.a u.n u.c, .slice t.a t.n t.c, .slice none 0 0, .slice none 0 0] _ rfl EB.out Try.underlying40 rfl Try.sizeWo) rfl ?_
      exact ⟨⟨u, cs, t, fst 5⟩, rfl, PL.out, fst_5, ⟨RO.out.down (by omega), LR.out.down (by omega)⟩,  BW.out⟩
end Go.Proofs.Ytoahljkifikbaaa


/- A new world: the program's WorldNew. Written by gen_wn15.py. -/
namespace Go.Proofs.Ytoahljkifikbaaa
open Go.RowKit Pl
set_option linter.unusedVariables false
set_option linter.unusedSimpArgs false

set_option maxRecDepth 100000 in
set_option maxHeartbeats 2000000 in
theorem worldNew_no (s : Sv) (es : List Rn) (w : World) (hx : Hid (RnsR w s es)) (hl : es.length ≤ 1048576) (hs : Hid (∀ e ∈ es, e.S)) (hr : Hid (ringsB (es.map Rn.pl) = false)) :
    Calls Try.prog 16 #[.slice s.a s.n s.c] w fun x w' => x = .returned (.tuple #[.agg #[.slice none 0 0, .slice none 0 0, .slice none 0 0, .slice none 0 0], .bool false]) ∧ Below w.heap.size w w' := by
  have EB : Hid (Bx (w.alloc (.cells #[.slice none 0 0, .slice none 0 0, .slice none 0 0, .slice none 0 0] 40)) w.heap.size 40 [.slice none 0 0, .slice none 0 0, .slice none 0 0, .slice none 0 0]) := Bx.new w 40 _
  have BW : Hid (Below w.heap.size w (w.alloc (.cells #[.slice none 0 0, .slice none 0 0, .slice none 0 0, .slice none 0 0] 40))) := (Below.refl _ _).alloc (Nat.le_refl _) _
  have HX : Hid (RnsR (w.alloc (.cells #[.slice none 0 0, .slice none 0 0, .slice none 0 0, .slice none 0 0] 40)) s es) := hx.out.stays BW.out
  clear hx
  go_enter Try.func16, Try.ntmps16
  go_wp2_with fail
  generalize w.alloc (.cells #[.slice none 0 0, .slice none 0 0, .slice none 0 0, .slice none 0 0] 40) = W at *
  refine (ringsOk_any s es _ HX hl hs).mono ?_
  rintro x w1 ⟨rfl, b⟩
  rw [hr.out]
  have EB : Hid (Bx w1 w.heap.size 40 [.slice none 0 0, .slice none 0 0, .slice none 0 0, .slice none 0 0]) := EB.out.later b
  have BW : Hid (Below w.heap.size w w1) := bl_next BW.out b
  clear b HX hr
  go_wp2_with (first | (with_reducible refine wpList_haltS 40 _ _ rfl ?_))
  refine Stp.go ?_
  refine wpList_stB rfl 40 _ _ rfl w.heap.size 0 rfl 40 _ EB.out [.slice none 0 0, .slice none 0 0, .slice none 0 0, .slice none 0 0] rfl (by simp) Try.sizeWo rfl [.slice none 0 0, .slice none 0 0, .slice none 0 0, .slice none 0 0] rfl ?_
  intro w2 OB TB
  have EB : Hid (Bx w2 w.heap.size 40 [.slice none 0 0, .slice none 0 0, .slice none 0 0, .slice none 0 0]) := OB
  have BW : Hid (Below w.heap.size w w2) := BW.out.trans (TB.below (Nat.le_refl _))
  clear TB OB
  go_wp2_with fail
  refine bodyPost_ret (results_bt Try.results16 w.heap.size 40 [.slice none 0 0, .slice none 0 0, .slice none 0 0, .slice none 0 0] _ rfl EB.out Try.underlying40 rfl Try.sizeWo) rfl ?_
  exact ⟨rfl, BW.out⟩
/-- .. whose lists lie apart. -/
structure WnA (x : Wn) : Prop where
  r : RnsA x.rs x.rl
  d : ∀ y, RnsOwn x.rs x.rl y → x.ds.v.ownBlock ≠ some y
set_option maxRecDepth 100000 in
set_option maxHeartbeats 8000000 in
theorem worldNew_yes (s : Sv) (es : List Rn) (w : World) (hx : Hid (RnsR w s es)) (hl : es.length ≤ 1048576) (hs : Hid (∀ e ∈ es, e.S)) (hr : Hid (ringsB (es.map Rn.pl) = true)) :
    Calls Try.prog 16 #[.slice s.a s.n s.c] w fun e w' => ∃ x : Wn, e = .returned (.tuple #[.agg #[.slice x.rs.a x.rs.n x.rs.c, .slice x.ds.a x.ds.n x.ds.c, .slice none 0 0, .slice none 0 0], .bool true]) ∧ x.rl.map Rn.pl = es.map Rn.pl ∧ x.dl = five ∧ WnO w' w.heap.size x ∧ WnA x ∧ Below w.heap.size w w' := by
  obtain ⟨a, n, c0⟩ := s
  dsimp only
  have HN : Hid (n = es.length) := hx.out.1
  have hn : n ≤ 1048576 := by have := HN.out; omega
  have EB : Hid (Bx (w.alloc (.cells #[.slice none 0 0, .slice none 0 0, .slice none 0 0, .slice none 0 0] 40)) w.heap.size 40 [.slice none 0 0, .slice none 0 0, .slice none 0 0, .slice none 0 0]) := Bx.new w 40 _
  have BW : Hid (Below w.heap.size w (w.alloc (.cells #[.slice none 0 0, .slice none 0 0, .slice none 0 0, .slice none 0 0] 40))) := (Below.refl _ _).alloc (Nat.le_refl _) _
  go_enter Try.func16, Try.ntmps16
  go_wp2_with fail
  generalize w.alloc (.cells #[.slice none 0 0, .slice none 0 0, .slice none 0 0, .slice none 0 0] 40) = W at *
  have zW : w.heap.size < W.heap.size := EB.out.lt
  have HX : Hid (RnsR W ⟨a, n, c0⟩ es) := hx.out.stays BW.out
  refine (ringsOk_any ⟨a, n, c0⟩ es _ HX hl hs).mono ?_
  rintro e w1 ⟨rfl, b⟩
  have z_w1 : W.heap.size ≤ w1.heap.size := b.size
  have EB : Hid (Bx w1 w.heap.size 40 [.slice none 0 0, .slice none 0 0, .slice none 0 0, .slice none 0 0]) := EB.out.later b
  have BW : Hid (Below w.heap.size w w1) := bl_next BW.out b
  clear b
  rw [hr.out]
  clear HX hl
  have WB : Hid (Bx (w1.alloc (.cells #[.slice none 0 0, .slice none 0 0, .slice none 0 0, .slice none 0 0] 40)) w1.heap.size 40 [.slice none 0 0, .slice none 0 0, .slice none 0 0, .slice none 0 0]) := Bx.new w1 40 _
  have b : Below w1.heap.size w1 (w1.alloc (.cells #[.slice none 0 0, .slice none 0 0, .slice none 0 0, .slice none 0 0] 40)) := (Below.refl _ _).alloc (Nat.le_refl _) _
  have EB : Hid (Bx (w1.alloc (.cells #[.slice none 0 0, .slice none 0 0, .slice none 0 0, .slice none 0 0] 40)) w.heap.size 40 [.slice none 0 0, .slice none 0 0, .slice none 0 0, .slice none 0 0]) := EB.out.later b
  have BW : Hid (Below w.heap.size w (w1.alloc (.cells #[.slice none 0 0, .slice none 0 0, .slice none 0 0, .slice none 0 0] 40))) := bl_next BW.out b
  clear b
  go_wp2_with fail
  generalize w1.alloc (.cells #[.slice none 0 0, .slice none 0 0, .slice none 0 0, .slice none 0 0] 40) = w3 at *
  have zWB : w1.heap.size < w3.heap.size := WB.out.lt
  generalize hg_WB : w1.heap.size = gWB at *
  clear hg_WB
  go_loopw [16] (fun i wr => ∃ (j : Nat) (s : Sv) (cs : List Rn), j ≤ n ∧ i = .int .i64 j ∧ Hid (cs.length = j) ∧ Hid (cs.map Rn.pl = (es.take j).map Rn.pl) ∧ Hid (Bx wr gWB 40 [.slice s.a s.n s.c, .slice none 0 0, .slice none 0 0, .slice none 0 0]) ∧ Hid (RnsO wr w3.heap.size s cs) ∧ Hid (RnsUp cs) ∧ Hid (KeepR gWB w3.heap.size w3 wr)) (fun i _ => n - (intOf i).toNat)
  case atStart => exact ⟨0, zSv, [], Nat.zero_le _, rfl, rfl, rfl, WB, RnsO.nil _ _, ⟨fun e he => (by cases he), List.Pairwise.nil⟩, KeepR.refl _ _ _⟩
  case round =>
    obtain ⟨j, s, cs, hj, rfl, hcl, hpl, OR, LR, hup, KR⟩ := hrel
    have zr : w3.heap.size ≤ wr.heap.size := KR.out.size
    have HXr : Hid (RnsR wr ⟨a, n, c0⟩ es) := hx.out.stays (BW.out.trans (KR.out.below (by omega) (by omega)))
    by_cases hlt : j < n
    · skip
      have hlt2 : j < es.length := by have := HN.out; omega
      obtain ⟨g, off, ha, hg, _, hr⟩ := HXr.out.2.1 j (by simpa using hlt2)
      obtain ⟨e, he⟩ : ∃ e, e = es[j] := ⟨_, rfl⟩
      have hr2 : wr.rangeAt g (off + j * 2) e.row := by rw [he]; simpa using hr
      have HR : Hid (wr.rangeAt g (off + j * 2) [.int .i64 e.id, .slice e.s.a e.s.n e.s.c]) := hr2
      have HE : Hid (e = es[j]) := he
      have RR : Hid (RI wr e.s.v e.ms) := by rw [he]; exact HXr.out.2.2 _ (List.getElem_mem hlt2)
      have SS : Hid (e.ms.length ≤ 1048576) := by rw [he]; exact hs.out _ (List.getElem_mem hlt2)
      have ha : a = some ⟨g, off, none⟩ := ha
      subst ha
      have i0 : (0 : Int) ≤ (j : Int) := by omega
      have i1 : (j : Int) < (n : Int) := by omega
      have LT : Hid (∀ c ∈ cs, ∀ y, c.own y → y < wr.heap.size) := fun c hc y hy => ((LR.out.2 c hc).lt y hy).2
      have RL : Hid (∀ b, s.v.ownBlock = some b → b < wr.heap.size) := fun b hb => (LR.out.1.lt b hb).2
      have HLEN : Hid ((cs.map Rn.row).length + 1 ≤ 1048577) := (by have := hcl.out; simp; omega : _ ≤ _)
      clear hr hr2 he hg
      have hz : Hid (Bx (wr.alloc (.cells #[.int .i64 0, .slice none 0 0] 51)) wr.heap.size 51 [.int .i64 0, .slice none 0 0]) := Bx.new wr 51 _
      go_wp2_with (first | (refine wpList_ldN rfl 51 _ rfl g (off + j * 2) (by rfl) [.int .i64 e.id, .slice e.s.a e.s.n e.s.c] HR.out _ Try.underlying51 rfl Try.sizeRn ?_) | (refine wpList_stB rfl 51 _ _ rfl wr.heap.size 0 rfl 51 _ hz.out [.int .i64 e.id, .slice e.s.a e.s.n e.s.c] rfl (by simp) Try.sizeRn rfl [.int .i64 e.id, .slice e.s.a e.s.n e.s.c] rfl ?_; intro v1 OB TB; have b : Below wr.heap.size wr v1 := ((Below.refl _ _).alloc (Nat.le_refl _) _).trans (TB.below (Nat.le_refl _)); have VB : Hid (Bx v1 wr.heap.size 51 [.int .i64 e.id, .slice e.s.a e.s.n e.s.c]) := OB; have z_v1 : wr.heap.size ≤ v1.heap.size := b.size; have OR : Hid (Bx v1 gWB 40 [.slice s.a s.n s.c, .slice none 0 0, .slice none 0 0, .slice none 0 0]) := OR.out.later b; have LR : Hid (RnsO v1 w3.heap.size s cs) := LR.out.below b; have RR : Hid (RI v1 e.s.v e.ms) := RR.out.stays b; have KR : Hid (KeepR gWB w3.heap.size w3 v1) := KR.out.belowN ((b).mono (by omega)); clear OB TB b; refine Stp.here ?_))
      refine Stp.go ?_
      clear hz
      have zl_VB : wr.heap.size < v1.heap.size := VB.out.lt
      generalize hg_VB : wr.heap.size = gVB at *
      clear HR
      go_wp2_with fail
      have c : Below v1.heap.size v1 v1.drew := (Below.refl _ _).drew
      have BD : Hid (Bx v1.drew gWB 40 [.slice s.a s.n s.c, .slice none 0 0, .slice none 0 0, .slice none 0 0]) := OR.out.later c
      have VD : Hid (Bx v1.drew gVB 51 [.int .i64 e.id, .slice e.s.a e.s.n e.s.c]) := VB.out.later c
      have zVB : gVB < v1.heap.size ∧ w3.heap.size ≤ gVB := by omega
      refine wp_region_heldLast (S := fun w' => Bx w' gWB 40 [.slice s.a s.n s.c, .slice none 0 0, .slice none 0 0, .slice none 0 0] ∧ Bx w' gVB 51 [.int .i64 e.id, .slice e.s.a e.s.n e.s.c]) _ (by simp) (by kernel_rfl) (by rfl) (by rfl) (by kernel_rfl) (by kernel_rfl) ⟨BD.out, VD.out⟩ (fun hHeld => ?_)
      simp only [List.dropLast_cons_cons, List.dropLast_singleton, List.getLast_cons_cons, List.getLast_singleton, List.cons_append, List.nil_append, List.length_cons, List.length_nil]
      refine wpAnyH_take (i := 0) (v := ?v0b7) rfl (by kernel_rfl) (by kernel_rfl) (by kernel_rfl) (fun _ _ _ h => h) (Or.inl ⟨by rfl, ?hy0b7⟩) (by assumption) ?_
      case hy0b7 => (intro w hSw; (try dsimp only at hSw); simp only [List.getElem_toArray, List.getElem_cons_zero, List.getElem_cons_succ]; go_simp; try with_reducible rfl)
      try simp only [Act.put, List.getElem_toArray, List.getElem_cons_zero, List.getElem_cons_succ, List.setIfInBounds_toArray, List.set_cons_zero, List.set_cons_succ]
      refine wpAnyH_take (i := 1) (v := _) rfl (by kernel_rfl) (by kernel_rfl) (by kernel_rfl) (fun _ _ _ h => h) (ld1_yield (by rfl) 25 _ rfl gWB 0 rfl 40 _ (fun w hS => hS.1) (.slice s.a s.n s.c) rfl _ Try.underlying25 rfl) (by assumption) ?_
      try simp only [Act.put, List.getElem_toArray, List.getElem_cons_zero, List.getElem_cons_succ, List.setIfInBounds_toArray, List.set_cons_zero, List.set_cons_succ]
      refine wpAnyH_take (i := 2) (v := _) rfl (by kernel_rfl) (by kernel_rfl) (by kernel_rfl) (fun _ _ _ h => h) (ld_yield (by rfl) 51 _ rfl gVB 0 rfl 51 _ (fun w hS => hS.2) [.int .i64 e.id, .slice e.s.a e.s.n e.s.c] rfl _ Try.underlying51 rfl Try.sizeRn) (by assumption) ?_
      try simp only [Act.put, List.getElem_toArray, List.getElem_cons_zero, List.getElem_cons_succ, List.setIfInBounds_toArray, List.set_cons_zero, List.set_cons_succ]
      refine wpAnyH_ready (rs := [3]) (by kernel_rfl) (by simp) ?_
      refine AllReadyH.cons (i := 3) rfl (fun K hK => ?_) AllReadyH.nil
      rw [if_pos (by rfl)]
      simp only [List.getElem_toArray, List.getElem_cons_zero, List.getElem_cons_succ]
      go_simp
      refine (copyRing_s e.id e.s e.ms _ (show Hid (RI v1.drew e.s.v e.ms) from RR.out.stays c) SS.out).mono ?_
      rintro x_ y1 ⟨u1, rfl, o1, b⟩
      have zb : v1.heap.size ≤ v1.drew.heap.size := c.size
      have c : Below v1.heap.size v1 y1 := bl_next c b
      have BD : Hid (Bx y1 gWB 40 [.slice s.a s.n s.c, .slice none 0 0, .slice none 0 0, .slice none 0 0]) := BD.out.later b
      have LY : Hid (RnsO y1 w3.heap.size s cs) := LR.out.below c
      have VD : Hid (Bx y1 gVB 51 [.int .i64 e.id, .slice e.s.a e.s.n e.s.c]) := VD.out.later b
      obtain ⟨c1, hc1⟩ : ∃ c : Rn, c = { e with s := u1 } := ⟨_, rfl⟩
      have C1 : Hid (c1.O y1 v1.heap.size) := by rw [hc1]; exact OwnI.down o1 zb
      have CP : Hid (c1.pl = e.pl) := by rw [hc1]; exact rfl
      have CR : Hid (([.int .i64 e.id, .slice u1.a u1.n u1.c] : List Value) = c1.row) := by rw [hc1]; rfl
      refine hK.out _ _ (⟨BD.out, VD.out⟩) (fun hHeld => ?_)
      clear hK K
      try simp only [Act.put, List.getElem_toArray, List.getElem_cons_zero, List.getElem_cons_succ, List.setIfInBounds_toArray, List.set_cons_zero, List.set_cons_succ]
      clear b o1 hc1
      refine wpAnyH_ready (rs := [4]) (by kernel_rfl) (by simp) ?_
      refine AllReadyH.cons (i := 4) rfl (fun K hK => ?_) AllReadyH.nil
      rw [if_pos (by rfl)]
      simp only [List.getElem_toArray, List.getElem_cons_zero, List.getElem_cons_succ]
      go_simp
      have b : Below y1.heap.size y1 (y1.alloc (.cells #[.int .i64 e.id, .slice u1.a u1.n u1.c] 51)) := (Below.refl _ _).alloc (Nat.le_refl _) _
      have SX : Hid (SlN (y1.alloc (.cells #[.int .i64 e.id, .slice u1.a u1.n u1.c] 51)) 51 2 0 (.slice (some ⟨y1.heap.size, 0, none⟩) 1 1) [[.int .i64 e.id, .slice u1.a u1.n u1.c]]) := SlN.one y1 51 2 0 _ rfl rfl (Nat.zero_le _)
      have c : Below v1.heap.size v1 (y1.alloc (.cells #[.int .i64 e.id, .slice u1.a u1.n u1.c] 51)) := bl_next c b
      have BD : Hid (Bx (y1.alloc (.cells #[.int .i64 e.id, .slice u1.a u1.n u1.c] 51)) gWB 40 [.slice s.a s.n s.c, .slice none 0 0, .slice none 0 0, .slice none 0 0]) := BD.out.later b
      have LY : Hid (RnsO (y1.alloc (.cells #[.int .i64 e.id, .slice u1.a u1.n u1.c] 51)) w3.heap.size s cs) := LY.out.below b
      have C1 : Hid (c1.O (y1.alloc (.cells #[.int .i64 e.id, .slice u1.a u1.n u1.c] 51)) v1.heap.size) := C1.out.below b
      have VD : Hid (Bx (y1.alloc (.cells #[.int .i64 e.id, .slice u1.a u1.n u1.c] 51)) gVB 51 [.int .i64 e.id, .slice e.s.a e.s.n e.s.c]) := VD.out.later b
      refine hK.out _ _ (⟨BD.out, VD.out⟩) (fun hHeld => ?_)
      clear hK K
      try simp only [Act.put, List.getElem_toArray, List.getElem_cons_zero, List.getElem_cons_succ, List.setIfInBounds_toArray, List.set_cons_zero, List.set_cons_succ]
      clear b
      refine wpAnyH_ready (rs := [5]) (by kernel_rfl) (by simp) ?_
      refine AllReadyH.cons (i := 5) rfl (fun K hK => ?_) AllReadyH.nil
      rw [if_pos (by rfl)]
      simp only [List.getElem_toArray, List.getElem_cons_zero, List.getElem_cons_succ]
      refine wp_catM _ _ 25 rfl _ 32 Try.underlying25 Try.infoRn rfl (by decide) w3.heap.size (.slice s.a s.n s.c) (cs.map Rn.row) (by rfl) LY.out.1 0 _ [[.int .i64 e.id, .slice u1.a u1.n u1.c]] (by rfl) SX.out HLEN.out (by have := c.size; omega) ?_
      intro v2 y2 s2 g2 b2
      obtain ⟨nz, hnz, hnq⟩ := s2.form
      subst hnz
      clear hnq
      rw [CR.out] at s2
      have LN : Hid (RnsO y2 w3.heap.size nz (cs ++ [c1])) := ⟨by rw [List.map_append]; exact s2, fun q hq => by
        rcases List.mem_append.1 hq with hq | hq
        · exact Rn.O.rowkeep (by decide) (fun k hk => LY.out.1.blk hk) g2 (LY.out.2 q hq)
        · rw [List.mem_singleton.1 hq]; exact Rn.O.rowkeep (by decide) (fun k hk => LY.out.1.blk hk) g2 (C1.out.down (by omega))⟩
      have BD : Hid (Bx y2 gWB 40 [.slice s.a s.n s.c, .slice none 0 0, .slice none 0 0, .slice none 0 0]) := BD.out.grown g2 (fun e => by obtain ⟨_, h1⟩ := LY.out.1.blk e.symm; have h2 := BD.out; unfold Bx at h2; rw [h1] at h2; simp at h2)
      have VD : Hid (Bx y2 gVB 51 [.int .i64 e.id, .slice e.s.a e.s.n e.s.c]) := VD.out.grown g2 (fun e => by have := RL.out _ e.symm; omega)
      have kr : Below w3.heap.size v1 y2 := (c.mono (by omega)).trans b2
      refine hK.out _ _ (⟨BD.out, VD.out⟩) (fun hHeld => ?_)
      clear hK K
      try simp only [Act.put, List.getElem_toArray, List.getElem_cons_zero, List.getElem_cons_succ, List.setIfInBounds_toArray, List.set_cons_zero, List.set_cons_succ]
      clear s2 g2 SX
      refine wpAnyH_take (i := 6) (v := ?v6b10) rfl (by kernel_rfl) (by kernel_rfl) (by kernel_rfl) (fun _ _ _ h => h) (Or.inl ⟨by rfl, ?hy6b10⟩) (by assumption) ?_
      case hy6b10 => (intro w hSw; (try dsimp only at hSw); simp only [List.getElem_toArray, List.getElem_cons_zero, List.getElem_cons_succ]; go_simp; try with_reducible rfl)
      try simp only [Act.put, List.getElem_toArray, List.getElem_cons_zero, List.getElem_cons_succ, List.setIfInBounds_toArray, List.set_cons_zero, List.set_cons_succ]
      refine wpAnyH_take (i := 7) (v := ?v7b11) rfl (by kernel_rfl) (by kernel_rfl) (by kernel_rfl) (fun _ _ _ h => h) (Or.inl ⟨by rfl, ?hy7b11⟩) (by assumption) ?_
      case hy7b11 => (intro w hSw; (try dsimp only at hSw); simp only [List.getElem_toArray, List.getElem_cons_zero, List.getElem_cons_succ]; go_simp; try with_reducible rfl)
      try simp only [Act.put, List.getElem_toArray, List.getElem_cons_zero, List.getElem_cons_succ, List.setIfInBounds_toArray, List.set_cons_zero, List.set_cons_succ]
      refine wpAnyH_done (by kernel_rfl) ?_ _
      refine lastQ_of rfl rfl ?_
      refine wp_st1 25 _ _ rfl gWB 0 rfl 40 _ BD.out (.slice nz.a nz.n nz.c) rfl (by simp) rfl Try.sizeRs [.slice nz.a nz.n nz.c, .slice none 0 0, .slice none 0 0, .slice none 0 0] rfl ?_
      intro v3 ob tb
      have OR : Hid (Bx v3 gWB 40 [.slice nz.a nz.n nz.c, .slice none 0 0, .slice none 0 0, .slice none 0 0]) := ob
      have KR : Hid (KeepR gWB w3.heap.size w3 v3) := (KR.out.belowN kr).turn tb
      have LN : Hid (RnsO v3 w3.heap.size nz (cs ++ [c1])) := LN.out.keep fun b hb _ => tb.block b (by omega)
      have UN : Hid (RnsUp (cs ++ [c1])) := hup.out.snoc LT.out (fun y hy => by have := (C1.out.lt y hy).1; omega)
      have PN : Hid ((cs ++ [c1]).map Rn.pl = (es.take (j + 1)).map Rn.pl) := (by rw [List.map_append, hpl.out, List.take_succ_eq_append_getElem hlt2, List.map_append, ← HE.out]; simp [CP.out] : _ = _)
      clear ob tb kr c BD VD hHeld C1 CR LY b2
      go_wp2_with fail
      go_roundw
      case rel => exact ⟨j + 1, nz, cs ++ [c1], by omega, by go_num, (by have := hcl.out; simp; omega : _ = _), PN, OR, LN, UN, KR⟩
      case measure => simp [intOf]; omega
    · skip
      obtain rfl : j = n := by omega
      have PL : Hid (cs.map Rn.pl = es.map Rn.pl) := (by have e := hpl.out; rw [HN.out, List.take_length] at e; exact e : _ = _)
      have EB : Hid (Bx wr w.heap.size 40 [.slice none 0 0, .slice none 0 0, .slice none 0 0, .slice none 0 0]) := EB.out.kr KR.out (by omega) (by omega)
      have BW : Hid (Below w.heap.size w wr) := BW.out.trans (KR.out.below (by omega) (by omega))
      have RL : Hid (∀ b, RnsOwn s cs b → b < wr.heap.size) := fun b hb => (LR.out.olt hb).2
      have RG : Hid (∀ b, RnsOwn s cs b → w3.heap.size ≤ b) := fun b hb => (LR.out.olt hb).1
      have RO : Hid (RnsO wr w3.heap.size s cs) := LR
      clear KR HXr LR hpl hx HN
      go_wp2_with fail
      generalize hwa : wr = wa at *
      clear hwa
      go_loopw [28] (fun i wr => ∃ (k : Nat) (t : Sv), k ≤ 5 ∧ i = .int .i64 (k : Int) ∧ Hid (Bx wr gWB 40 [.slice s.a s.n s.c, .slice t.a t.n t.c, .slice none 0 0, .slice none 0 0]) ∧ Hid (BdsO wr wa.heap.size t (fst k)) ∧ Hid (KeepR gWB wa.heap.size wa wr)) (fun i _ => 5 - (intOf i).toNat)
      case atStart => exact ⟨0, zSv, by omega, rfl, OR, BdsO.nil _ _, KeepR.refl _ _ _⟩
      case round =>
        obtain ⟨j, t, hj2, rfl, OR, LR, KR⟩ := hrel
        have zq : wa.heap.size ≤ wr.heap.size := KR.out.size
        by_cases hlt : j < 5
        · skip
          have i1 : (j : Int) < 5 := by omega
          have RLt : Hid (∀ b, t.v.ownBlock = some b → b < wr.heap.size ∧ wa.heap.size ≤ b) := fun b hb => ⟨(SlN.lt LR.out b hb).2, (SlN.lt LR.out b hb).1⟩
          have HLEN : Hid (((fst j).map Bd.row).length ≤ 1048576) := (by rw [List.length_map, fst_len j (by omega)]; omega : _ ≤ _)
          go_wp2_with fail
          refine (daemonNew_yes ((j : Int) + 1) _ (by simp; omega)).mono ?_
          rintro e v1 ⟨rfl, b⟩
          have z_v1 : wr.heap.size ≤ v1.heap.size := b.size
          have OR : Hid (Bx v1 gWB 40 [.slice s.a s.n s.c, .slice t.a t.n t.c, .slice none 0 0, .slice none 0 0]) := OR.out.later b
          have LR : Hid (BdsO v1 wa.heap.size t (fst j)) := LR.out.below b
          have KR : Hid (KeepR gWB wa.heap.size wa v1) := KR.out.belowN ((b).mono (by omega))
          clear b
          have hz : Hid (Bx (v1.alloc (.cells #[.int .i64 0, .bool false, .int .i64 0, .int .i64 0, .slice none 0 0, .slice none 0 0, .slice none 0 0, .slice none 0 0, .int .i64 0, .int .i64 0, .int .i64 0, .int .i64 0, .int .i64 0, .int .i64 0, .int .i64 0, .int .i64 0, .int .i64 0, .slice none 0 0, .int .i64 0, .int .i64 0, .int .i64 0, .slice none 0 0, .slice none 0 0, .slice none 0 0] 65)) v1.heap.size 65 [.int .i64 0, .bool false, .int .i64 0, .int .i64 0, .slice none 0 0, .slice none 0 0, .slice none 0 0, .slice none 0 0, .int .i64 0, .int .i64 0, .int .i64 0, .int .i64 0, .int .i64 0, .int .i64 0, .int .i64 0, .int .i64 0, .int .i64 0, .slice none 0 0, .int .i64 0, .int .i64 0, .int .i64 0, .slice none 0 0, .slice none 0 0, .slice none 0 0]) := Bx.new v1 65 _
          go_wp2_with (first | (refine wpList_stB rfl 65 _ _ rfl v1.heap.size 0 rfl 65 _ hz.out [.int .i64 ((j : Int) + 1), .bool false, .int .i64 0, .int .i64 0, .slice none 0 0, .slice none 0 0, .slice none 0 0, .slice none 0 0, .int .i64 0, .int .i64 0, .int .i64 0, .int .i64 0, .int .i64 0, .int .i64 0, .int .i64 0, .int .i64 0, .int .i64 0, .slice none 0 0, .int .i64 0, .int .i64 0, .int .i64 0, .slice none 0 0, .slice none 0 0, .slice none 0 0] rfl (by simp) Try.sizeDa rfl [.int .i64 ((j : Int) + 1), .bool false, .int .i64 0, .int .i64 0, .slice none 0 0, .slice none 0 0, .slice none 0 0, .slice none 0 0, .int .i64 0, .int .i64 0, .int .i64 0, .int .i64 0, .int .i64 0, .int .i64 0, .int .i64 0, .int .i64 0, .int .i64 0, .slice none 0 0, .int .i64 0, .int .i64 0, .int .i64 0, .slice none 0 0, .slice none 0 0, .slice none 0 0] rfl ?_; intro v2 OB TB; have b : Below v1.heap.size v1 v2 := ((Below.refl _ _).alloc (Nat.le_refl _) _).trans (TB.below (Nat.le_refl _)); have VB : Hid (Bx v2 v1.heap.size 65 [.int .i64 ((j : Int) + 1), .bool false, .int .i64 0, .int .i64 0, .slice none 0 0, .slice none 0 0, .slice none 0 0, .slice none 0 0, .int .i64 0, .int .i64 0, .int .i64 0, .int .i64 0, .int .i64 0, .int .i64 0, .int .i64 0, .int .i64 0, .int .i64 0, .slice none 0 0, .int .i64 0, .int .i64 0, .int .i64 0, .slice none 0 0, .slice none 0 0, .slice none 0 0]) := OB; have z_v2 : v1.heap.size ≤ v2.heap.size := b.size; have OR : Hid (Bx v2 gWB 40 [.slice s.a s.n s.c, .slice t.a t.n t.c, .slice none 0 0, .slice none 0 0]) := OR.out.later b; have LR : Hid (BdsO v2 wa.heap.size t (fst j)) := LR.out.below b; have KR : Hid (KeepR gWB wa.heap.size wa v2) := KR.out.belowN ((b).mono (by omega)); clear OB TB b; refine Stp.here ?_))
          refine Stp.go ?_
          clear hz
          have zl_VB : v1.heap.size < v2.heap.size := VB.out.lt
          generalize hg_VB : v1.heap.size = gVB at *
          have c1 := OR.out.cell 1
          simp only [List.getElem?_cons_succ, List.getElem?_cons_zero] at c1
          go_wp2_with (first | (refine wpList_ldG rfl 65 _ rfl gVB 0 rfl 65 _ VB.out [.int .i64 ((j : Int) + 1), .bool false, .int .i64 0, .int .i64 0, .slice none 0 0, .slice none 0 0, .slice none 0 0, .slice none 0 0, .int .i64 0, .int .i64 0, .int .i64 0, .int .i64 0, .int .i64 0, .int .i64 0, .int .i64 0, .int .i64 0, .int .i64 0, .slice none 0 0, .int .i64 0, .int .i64 0, .int .i64 0, .slice none 0 0, .slice none 0 0, .slice none 0 0] rfl _ Try.underlying65 rfl Try.sizeDa ?_) | (with_reducible refine wpList_haltA _ _ _ rfl ?_))
          refine Stp.go ?_
          clear c1
          refine wpList_pushN rfl _ _ 36 rfl (.agg #[.int .i64 0, .bool false, .int .i64 0, .int .i64 0, .slice none 0 0, .slice none 0 0, .slice none 0 0, .slice none 0 0, .int .i64 0, .int .i64 0, .int .i64 0, .int .i64 0, .int .i64 0, .int .i64 0, .int .i64 0, .int .i64 0, .int .i64 0, .slice none 0 0, .int .i64 0, .int .i64 0, .int .i64 0, .slice none 0 0, .slice none 0 0, .slice none 0 0]) 320 Try.underlying36 Try.infoDa rfl (by omega) wa.heap.size _ _ rfl (show SlN v2 65 24 wa.heap.size (.slice t.a t.n t.c) ((fst j).map Bd.row) from LR.out) [.int .i64 ((j : Int) + 1), .bool false, .int .i64 0, .int .i64 0, .slice none 0 0, .slice none 0 0, .slice none 0 0, .slice none 0 0, .int .i64 0, .int .i64 0, .int .i64 0, .int .i64 0, .int .i64 0, .int .i64 0, .int .i64 0, .int .i64 0, .int .i64 0, .slice none 0 0, .int .i64 0, .int .i64 0, .int .i64 0, .slice none 0 0, .slice none 0 0, .slice none 0 0] rfl rfl rfl HLEN.out (by omega) ?_
          intro v6 w6 O6 g6 b6 _
          obtain ⟨s6, hs6, hq6⟩ := O6.form
          subst hs6
          clear hq6
          have L6 : Hid (BdsO w6 wa.heap.size s6 (fst (j + 1))) := by have h := fst_snoc j hlt; unfold BdsO; rw [← h]; exact O6
          have zs6 : v2.heap.size ≤ w6.heap.size := by have := g6.size; simpa using (Nat.le_trans (by simp) this)
          clear O6
          have OR : Hid (Bx w6 gWB 40 [.slice s.a s.n s.c, .slice t.a t.n t.c, .slice none 0 0, .slice none 0 0]) := OR.out.grown g6 (fun e => by have := (RLt.out _ e.symm).2; omega)
          have KR : Hid (KeepR gWB wa.heap.size wa w6) := KR.out.belowN b6
          clear g6 b6 VB LR
          go_wp2_with (first | (with_reducible refine wpList_haltS 36 _ _ rfl ?_))
          refine Stp.go ?_
          refine wpList_st1 rfl 36 _ _ rfl gWB 1 rfl 40 _ OR.out (.slice s6.a s6.n s6.c) rfl (by simp) rfl Try.sizeDs [.slice s.a s.n s.c, .slice s6.a s6.n s6.c, .slice none 0 0, .slice none 0 0] rfl ?_
          intro w7 OB TB
          have z_w7 : w6.heap.size ≤ w7.heap.size := Nat.le_of_eq TB.size.symm
          have L6 : Hid (BdsO w7 wa.heap.size s6 (fst (j + 1))) := L6.out.keep fun b hb _ => TB.block b (by have := (SlN.lt L6.out b hb).1; omega)
          have KR : Hid (KeepR gWB wa.heap.size wa w7) := KR.out.turn TB
          have OR : Hid (Bx w7 gWB 40 [.slice s.a s.n s.c, .slice s6.a s6.n s6.c, .slice none 0 0, .slice none 0 0]) := OB
          clear OB TB
          go_wp2_with fail
          go_roundw
          case rel => exact ⟨j + 1, s6, by omega, by go_num, OR, L6, KR⟩
          case measure => simp [intOf]; omega
        · skip
          obtain rfl : j = 5 := by omega
          have EB : Hid (Bx wr w.heap.size 40 [.slice none 0 0, .slice none 0 0, .slice none 0 0, .slice none 0 0]) := EB.out.kr KR.out (by omega) (by omega)
          have RO : Hid (RnsO wr w3.heap.size s cs) := RO.out.keepo fun b hb hl => KR.out.blk b hl (by have := RG.out b hb; omega)
          have BW : Hid (Below w.heap.size w wr) := BW.out.trans (KR.out.below (by omega) (by omega))
          have DG : Hid (∀ b, t.v.ownBlock = some b → wa.heap.size ≤ b) := fun b hb => (SlN.lt LR.out b hb).1
          clear KR
          go_wp2_with (first | (refine wpList_ldG rfl 40 _ rfl gWB 0 rfl 40 _ OR.out [.slice s.a s.n s.c, .slice t.a t.n t.c, .slice none 0 0, .slice none 0 0] rfl _ Try.underlying40 rfl Try.sizeWo ?_) | (with_reducible refine wpList_haltS 40 _ _ rfl ?_))
          refine Stp.go ?_
          refine wpList_stB rfl 40 _ _ rfl w.heap.size 0 rfl 40 _ EB.out [.slice s.a s.n s.c, .slice t.a t.n t.c, .slice none 0 0, .slice none 0 0] rfl (by simp) Try.sizeWo rfl [.slice s.a s.n s.c, .slice t.a t.n t.c, .slice none 0 0, .slice none 0 0] rfl ?_
          intro w8 OB TB
          have z_w8 : wr.heap.size ≤ w8.heap.size := Nat.le_of_eq TB.size.symm
          have OR : Hid (Bx w8 gWB 40 [.slice s.a s.n s.c, .slice t.a t.n t.c, .slice none 0 0, .slice none 0 0]) := OR.out.turn TB (by omega)
          have RO : Hid (RnsO w8 w3.heap.size s cs) := RO.out.keep fun b hb _ => TB.block b (by omega)
          have LR : Hid (BdsO w8 wa.heap.size t (fst 5)) := LR.out.keep fun b hb _ => TB.block b (by have := (SlN.lt LR.out b hb).1; omega)
          have BW : Hid (Below w.heap.size w w8) := BW.out.trans (TB.below (by omega))
          have EB : Hid (Bx w8 w.heap.size 40 [.slice s.a s.n s.c, .slice t.a t.n t.c, .slice none 0 0, .slice none 0 0]) := OB
          clear OB TB
          go_wp2_with fail
          refine bodyPost_ret (results_bt Try.results16 w.heap.size 40 [.slice s.a s.n s.c, .slice t.a t.n t.c, .slice none 0 0, .slice none 0 0] _ rfl EB.out Try.underlying40 rfl Try.sizeWo) rfl ?_
          exact ⟨⟨s, cs, t, fst 5⟩, rfl, PL.out, fst_5, ⟨RO.out.down (by omega), LR.out.down (by omega)⟩, ⟨hup.out.a2 RO.out, fun y h1 h2 => by have := RL.out y h1; have := DG.out y h2; omega⟩, BW.out⟩
end Go.Proofs.Ytoahljkifikbaaa


/- Lists of rings, held against each other. Written by gen_gs.py. -/
namespace Go.Proofs.Ytoahljkifikbaaa
open Go.RowKit Pl
set_option linter.unusedVariables false
set_option linter.unusedSimpArgs false

set_option maxRecDepth 100000 in
set_option maxHeartbeats 4000000 in
theorem eqrings_sp (ao bo : Option Addr) (len c1 c2 : Nat) (r1 r2 : Nat → List Value) (w : World) (h1 : Hid (∀ j, j < len → ∃ g off, ao = some ⟨g, off, none⟩ ∧ g < w.heap.size ∧ (r1 j).length = 2 ∧ w.rangeAt g (off + j * 2) (r1 j))) (h2 : Hid (∀ j, j < len → ∃ g off, bo = some ⟨g, off, none⟩ ∧ g < w.heap.size ∧ (r2 j).length = 2 ∧ w.rangeAt g (off + j * 2) (r2 j))) (hE : Hid (∀ j, j < len → ∀ W, Below w.heap.size w W → Calls Try.prog 27 #[.agg (r1 j).toArray, .agg (r2 j).toArray] W fun e w' => e = .returned (.bool true) ∧ Below W.heap.size W w')) (hl : len ≤ 39999990) :
    Calls Try.prog 10 #[.slice ao len c1, .slice bo len c2] w fun e w' => e = .returned (.bool true) ∧ Below w.heap.size w w' := by
  go_enter Try.func10, Try.ntmps10
  go_wp2_with fail
  go_loopw [5] (fun i wr => ∃ (j : Nat), j ≤ len ∧ i = .int .i64 (j : Int) ∧ Hid (Below w.heap.size w wr)) (fun i _ => len - (intOf i).toNat)
  case atStart => exact ⟨0, by omega, rfl, Below.refl _ _⟩
  case round =>
    obtain ⟨j, hj, rfl, HB⟩ := hrel
    by_cases hlt : j < len
    · obtain ⟨g1, o1, rfl, l1, n1, x1⟩ := h1.out j hlt
      obtain ⟨g2, o2, rfl, l2, n2, x2⟩ := h2.out j hlt
      have X1 : Hid (w.rangeAt g1 (o1 + j * 2) (r1 j)) := x1
      have X2 : Hid (w.rangeAt g2 (o2 + j * 2) (r2 j)) := x2
      have N1 : Hid ((Try.prog.info? 51).map (·.size) = some (r1 j).length) := (by rw [n1]; exact Try.sizeRn : _ = _)
      have N2 : Hid ((Try.prog.info? 51).map (·.size) = some (r2 j).length) := (by rw [n2]; exact Try.sizeRn : _ = _)
      clear x1 x2 n1 n2
      have EJ : Hid _ := hE.out j hlt
      have i0 : (0 : Int) ≤ (j : Int) := by omega
      have i1 : (j : Int) < (len : Int) := by omega
      go_wp2_with fail
      have c : Below w.heap.size w wr.drew := HB.out.drew
      refine wp_region_held_drew (S := fun w' => Below w.heap.size w w') (by kernel_rfl) c (fun hHeld => ?_)
      refine wpAnyH_take (i := 0) (v := ?v0b1) rfl (by kernel_rfl) (by kernel_rfl) (by kernel_rfl) (fun _ _ _ h => h) (Or.inl ⟨by rfl, ?hy0b1⟩) (by assumption) ?_
      case hy0b1 => (intro w hSw; (try dsimp only at hSw); simp only [List.getElem_toArray, List.getElem_cons_zero, List.getElem_cons_succ]; go_simp; try with_reducible rfl)
      try simp only [Act.put, List.getElem_toArray, List.getElem_cons_zero, List.getElem_cons_succ, List.setIfInBounds_toArray, List.set_cons_zero, List.set_cons_succ]
      refine wpAnyH_take (i := 1) (v := ?v1b2) rfl (by kernel_rfl) (by kernel_rfl) (by kernel_rfl) (fun _ _ _ h => h) (Or.inl ⟨by rfl, ?hy1b2⟩) (by assumption) ?_
      case hy1b2 => (intro w hSw; (try dsimp only at hSw); simp only [List.getElem_toArray, List.getElem_cons_zero, List.getElem_cons_succ]; go_simp; try with_reducible rfl)
      try simp only [Act.put, List.getElem_toArray, List.getElem_cons_zero, List.getElem_cons_succ, List.setIfInBounds_toArray, List.set_cons_zero, List.set_cons_succ]
      refine wpAnyH_take (i := 2) (v := ?v2b3) rfl (by kernel_rfl) (by kernel_rfl) (by kernel_rfl) (fun _ _ _ h => h) (Or.inl ⟨by rfl, ?hy2b3⟩) (by assumption) ?_
      case hy2b3 => (intro w hSw; (try dsimp only at hSw); simp only [List.getElem_toArray, List.getElem_cons_zero, List.getElem_cons_succ]; go_simp; try with_reducible rfl)
      try simp only [Act.put, List.getElem_toArray, List.getElem_cons_zero, List.getElem_cons_succ, List.setIfInBounds_toArray, List.set_cons_zero, List.set_cons_succ]
      refine wpAnyH_take (i := 3) (v := _) rfl (by kernel_rfl) (by kernel_rfl) (by kernel_rfl) (fun _ _ _ h => h) (ldN_yield (by rfl) 51 _ rfl g1 (o1 + j * 2) (by rfl) (r1 j) (fun w hS => range_later X1.out l1 hS) _ Try.underlying51 rfl N1.out) (by assumption) ?_
      try simp only [Act.put, List.setIfInBounds_toArray, List.set_cons_zero, List.set_cons_succ]
      refine wpAnyH_take (i := 4) (v := ?v4b5) rfl (by kernel_rfl) (by kernel_rfl) (by kernel_rfl) (fun _ _ _ h => h) (Or.inl ⟨by rfl, ?hy4b5⟩) (by assumption) ?_
      case hy4b5 => (intro w hSw; (try dsimp only at hSw); simp only [List.getElem_toArray, List.getElem_cons_zero, List.getElem_cons_succ]; go_simp; try with_reducible rfl)
      try simp only [Act.put, List.getElem_toArray, List.getElem_cons_zero, List.getElem_cons_succ, List.setIfInBounds_toArray, List.set_cons_zero, List.set_cons_succ]
      refine wpAnyH_take (i := 5) (v := ?v5b6) rfl (by kernel_rfl) (by kernel_rfl) (by kernel_rfl) (fun _ _ _ h => h) (Or.inl ⟨by rfl, ?hy5b6⟩) (by assumption) ?_
      case hy5b6 => (intro w hSw; (try dsimp only at hSw); simp only [List.getElem_toArray, List.getElem_cons_zero, List.getElem_cons_succ]; go_simp; try with_reducible rfl)
      try simp only [Act.put, List.getElem_toArray, List.getElem_cons_zero, List.getElem_cons_succ, List.setIfInBounds_toArray, List.set_cons_zero, List.set_cons_succ]
      refine wpAnyH_take (i := 6) (v := ?v6b7) rfl (by kernel_rfl) (by kernel_rfl) (by kernel_rfl) (fun _ _ _ h => h) (Or.inl ⟨by rfl, ?hy6b7⟩) (by assumption) ?_
      case hy6b7 => (intro w hSw; (try dsimp only at hSw); simp only [List.getElem_toArray, List.getElem_cons_zero, List.getElem_cons_succ]; go_simp; try with_reducible rfl)
      try simp only [Act.put, List.getElem_toArray, List.getElem_cons_zero, List.getElem_cons_succ, List.setIfInBounds_toArray, List.set_cons_zero, List.set_cons_succ]
      refine wpAnyH_take (i := 7) (v := _) rfl (by kernel_rfl) (by kernel_rfl) (by kernel_rfl) (fun _ _ _ h => h) (ldN_yield (by rfl) 51 _ rfl g2 (o2 + j * 2) (by rfl) (r2 j) (fun w hS => range_later X2.out l2 hS) _ Try.underlying51 rfl N2.out) (by assumption) ?_
      try simp only [Act.put, List.setIfInBounds_toArray, List.set_cons_zero, List.set_cons_succ]
      refine wpAnyH_ready (rs := [8]) (by kernel_rfl) (by simp) ?_
      refine AllReadyH.cons (i := 8) rfl (fun K hK => ?_) AllReadyH.nil
      rw [if_pos (by rfl)]
      simp only [List.getElem_toArray, List.getElem_cons_zero, List.getElem_cons_succ]
      go_simp
      refine (EJ.out _ c).mono ?_
      rintro e y1 ⟨rfl, d1⟩
      have c1 : Below w.heap.size w y1 := bl_next c d1
      refine hK.out _ _ (c1) (fun hHeld => ?_)
      clear hK K
      try simp only [Act.put, List.getElem_toArray, List.getElem_cons_zero, List.getElem_cons_succ, List.setIfInBounds_toArray, List.set_cons_zero, List.set_cons_succ]
      clear d1
      refine wpAnyH_take (i := 9) (v := ?v9b9) rfl (by kernel_rfl) (by kernel_rfl) (by kernel_rfl) (fun _ _ _ h => h) (Or.inl ⟨by rfl, ?hy9b9⟩) (by assumption) ?_
      case hy9b9 => (intro w hSw; (try dsimp only at hSw); simp only [List.getElem_toArray, List.getElem_cons_zero, List.getElem_cons_succ]; go_simp; try with_reducible rfl)
      try simp only [Act.put, List.getElem_toArray, List.getElem_cons_zero, List.getElem_cons_succ, List.setIfInBounds_toArray, List.set_cons_zero, List.set_cons_succ]
      refine wpAnyH_done (by kernel_rfl) ?_ _
      have HB1 : Hid (Below w.heap.size w y1) := c1
      clear c c1 hHeld HB EJ X1 X2
      go_wp2_with fail
      go_roundw
      case rel => exact ⟨j + 1, by omega, by go_num, HB1⟩
      case measure => simp [intOf]; omega
    · obtain rfl : j = len := by omega
      go_wp2_with fail
      go_ret
      exact ⟨rfl, HB.out⟩
end Go.Proofs.Ytoahljkifikbaaa


/- Lists of rings held against each other. Written by gen_lrg.py. -/
namespace Go.Proofs.Ytoahljkifikbaaa
open Go.RowKit Pl
set_option linter.unusedVariables false
set_option linter.unusedSimpArgs false

theorem eqRns_any (s1 s2 : Sv) (es fs : List Rn) (B1 B2 : Nat) (w : World) (h1 : Hid (RnsO w B1 s1 es)) (h2 : Hid (RnsO w B2 s2 fs)) (hpl : Hid (es.map Rn.pl = fs.map Rn.pl)) (hl : es.length ≤ 1048576) (hs : Hid (∀ e ∈ es, e.S)) :
    Calls Try.prog 10 #[.slice s1.a s1.n s1.c, .slice s2.a s2.n s2.c] w fun x w' => x = .returned (.bool true) ∧ Below w.heap.size w w' := by
  have n1 : s1.n = es.length := by have := h1.out.1.slen; simpa using this
  have hfl : fs.length = es.length := by have := congrArg List.length hpl.out; simp at this; omega
  have n2 : s2.n = es.length := by have := h2.out.1.slen; simp at this; omega
  rw [n1, n2]
  refine eqrings_sp s1.a s2.a es.length s1.c s2.c (fun j => ((es.map Rn.row)[j]?).getD []) (fun j => ((fs.map Rn.row)[j]?).getD []) w (fun j hj => rowsAt h1.out.1 j (by simpa using hj)) (fun j hj => rowsAt h2.out.1 j (by simpa [hfl] using hj)) ?_ (by omega)
  intro j hj W b
  have hj2 : j < fs.length := by omega
  have e1 : ((es.map Rn.row)[j]?).getD [] = es[j].row := by simp [hj]
  have e2 : ((fs.map Rn.row)[j]?).getD [] = fs[j].row := by simp [hj2]
  have hp : es[j].pl = fs[j].pl := by
    have h := congrArg (fun l => l[j]?) hpl.out
    simpa [hj, hj2] using h
  try dsimp only
  rw [e1, e2]
  have o1 := (h1.out.2 _ (List.getElem_mem hj)).below b
  have o2 := (h2.out.2 _ (List.getElem_mem hj2)).below b
  obtain ⟨e, he⟩ : ∃ e, e = es[j] := ⟨_, rfl⟩
  obtain ⟨f, hf⟩ : ∃ f, f = fs[j] := ⟨_, rfl⟩
  have hS := hs.out _ (List.getElem_mem hj)
  rw [← he] at o1 hS hp
  rw [← hf] at o2 hp
  rw [← he, ← hf]
  obtain ⟨id, ms, sm⟩ := f
  simp only [Rn.pl, Prod.mk.injEq] at hp
  obtain ⟨rfl, rfl⟩ := hp
  exact eqRing_same e.id e.s.v sm.v e.ms B1 B2 W o1 o2 hS
/-- what a law's budget leaves room for. -/
theorem Rns.small {es : List Rn} {z L : Nat} (h : z + (es.length + Rns.tot es) ≤ L) (hL : L ≤ 1048576) : es.length ≤ 1048576 ∧ ∀ e ∈ es, e.S := ⟨by omega, fun e he => by have := tot_le (fun e : Rn => e.sz) _ e he; unfold Rn.S; unfold Rn.sz at this; unfold Rns.tot Rn.sz at h; omega⟩
theorem Rns.same_S {es fs : List Rn} (h : es.map Rn.pl = fs.map Rn.pl) (hs : ∀ e ∈ fs, e.S) : ∀ e ∈ es, e.S := fun e he => by
  have : e.pl ∈ fs.map Rn.pl := by rw [← h]; exact List.mem_map_of_mem he
  obtain ⟨f, hf, hp⟩ := List.mem_map.1 this
  have := hs f hf
  unfold Rn.S at *
  simp only [Rn.pl, Prod.mk.injEq] at hp
  rw [← hp.2]; exact this
theorem Rns.same_len {es fs : List Rn} (h : es.map Rn.pl = fs.map Rn.pl) : es.length = fs.length := by have := congrArg List.length h; simpa using this
end Go.Proofs.Ytoahljkifikbaaa


