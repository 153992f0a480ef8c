/- Joined texts: CHf CShr CSla CLem14 CLs CGp CBus CGbm CEv CEvs CGem2 CGee CGeb CEqw CDm CGpl CDmk CLnd14. -/
import Derived.Test.YtbecahikjekccaaDn16
import Derived.Test.YtbecahikjekccaaDn15
import Derived.Test.YtbecahikjekccaaDn14
import Derived.Test.YtbecahikjekccaaDn8
import Derived.Test.YtbecahikjekccaaDn11
import Derived.Laws.MakeOwn
import Derived.Test.YtbecahikjekccaaDn13
import Derived.Test.YtbecahikjekccaaDn5
/- Hear. -/
namespace Go.Proofs.Ytbecahikjekccaa
open Go.RowKit Pl
set_option linter.unusedVariables false
set_option linter.unusedSimpArgs false

/-- the member behind it. -/
def Mt.hadH (m : Mt) : Mt := m.setH (m.he + m.hear.length)

end Go.Proofs.Ytbecahikjekccaa


/- What a member hears: the specification's Hear, where the member is right. Written by gen_shr.py. -/
namespace Go.Proofs.Ytbecahikjekccaa
open Go.RowKit Pl
set_option linter.unusedVariables false
set_option linter.unusedSimpArgs false

end Go.Proofs.Ytbecahikjekccaa


/- What a token wants yet: the specification's Lacks. Written by gen_sla.py. -/
namespace Go.Proofs.Ytbecahikjekccaa
open Go.RowKit Pl
set_option linter.unusedVariables false
set_option linter.unusedSimpArgs false

/-- whether a number is wanted yet. -/
def slB (ws lk : List Int) (its : List It) (n : Int) : Bool := (!hasP its n && inB ws n) || inB lk n
def slGo (ws lk : List Int) (its : List It) : Nat → Nat → List Int → List Int
  | 0, _, acc => acc
  | f + 1, n, acc => if acc.length < 20 then slGo ws lk its f (n + 1) (if slB ws lk its (n : Int) = true then acc ++ [(n : Int)] else acc) else acc
def slackP (ws : List Int) (its : List It) (q : Int) : List Int := slGo ws (missP its q) its 60 1 []
end Go.Proofs.Ytbecahikjekccaa


/- Small lemmas of round 14: rows that are read in drawn regions, lists cut, lengths of slices. -/
namespace Go.Proofs.Ytbecahikjekccaa
open Go.RowKit Pl
set_option linter.unusedVariables false
set_option linter.unusedSimpArgs false

theorem ldN_yield {P : Program} {ops : Array Oper} {o : Oper} {a : Act} {S : World → Prop} (hw : Region.wanted o (yielded ops a.tmps) = true) (ty : TypeId) (x : Operand) (ho : o.op = .load ty x) (g off : Nat) (hx : a.eval x = .pointer (some ⟨g, off, none⟩)) (cs : List Value) (hS : ∀ w, S w → w.rangeAt g off cs)
    (d : TypeDesc) (hu : P.underlying ty = some d) (hd : d.isRow = true) (hi : (P.info? ty).map (·.size) = some cs.length) : YieldsIf P ops S o (.agg cs.toArray) a :=
  yieldsIf_load_mid hw ty x ho g off hx cs d hS hu hd hi
theorem range_later {w w' : World} {g off : Nat} {cs : List Value} (h : w.rangeAt g off cs) (hg : g < w.heap.size) (b : Below w.heap.size w w') : w'.rangeAt g off cs := fun j v hv => (b.cell (p := ⟨g, off + j, none⟩) hg).trans (h j v hv)
theorem SlI.len {w : World} {B : Nat} {s : Sv} {ts : List It} (h : SlI w B s.v ts) : s.n = ts.length := by obtain ⟨a, c, h1⟩ := Sl.form h; simp only [Sv.v, Value.slice.injEq] at h1; exact h1.2.1
theorem Pl.OwnI.slen {w : World} {B : Nat} {s : Sv} {ts : List Int} (h : OwnI w B s.v ts) : s.n = ts.length := by obtain ⟨a, c, h1⟩ := h.form; simp only [Sv.v, Value.slice.injEq] at h1; exact h1.2.1
theorem Pl.OwnS.slen {w : World} {B : Nat} {s : Sv} {ts : List ByteArray} (h : OwnS w B s.v ts) : s.n = ts.length := by obtain ⟨a, c, h1⟩ := h.form; simp only [Sv.v, Value.slice.injEq] at h1; exact h1.2.1
theorem SlI.at {w : World} {B : Nat} {s : Sv} {ts : List It} (h : SlI w B s.v ts) {k : Nat} (hk : k < ts.length) : ∃ g off, s.a = some ⟨g, off, none⟩ ∧ B ≤ g ∧ g < w.heap.size ∧ w.rangeAt g (off + k * 4) [.int .i64 ts[k].1, .int .i64 ts[k].2.1, .int .i64 ts[k].2.2.1, .string ts[k].2.2.2] := by
  obtain ⟨ao, cap, h1, h2⟩ := h.rit
  have hh := h
  obtain ⟨g, off, e, hlt, c0, c1, c2, c3⟩ := h2 k hk
  simp only [Sv.v, Value.slice.injEq] at h1
  refine ⟨g, off, by rw [h1.1, e], ?_, hlt, ?_⟩
  · exact (h.lt g (by simp [Sv.v, Value.ownBlock, h1.1, e])).1
  · intro j v hv
    match j, hv with
    | 0, hv => simp at hv; subst hv; simpa using c0
    | 1, hv => simp at hv; subst hv; simpa using c1
    | 2, hv => simp at hv; subst hv; simpa using c2
    | 3, hv => simp at hv; subst hv; simpa using c3
end Go.Proofs.Ytbecahikjekccaa


/- Lists of structs: rows that are read, rows that were made. No function of the program is named here. -/
namespace Go.Proofs.Ytbecahikjekccaa
open Go.RowKit Pl
set_option linter.unusedVariables false
set_option linter.unusedSimpArgs false

/-- rows that are read. -/
def RwA (w : World) (a : Option Addr) (size : Nat) (rows : List (List Value)) : Prop :=
  ∀ i (h : i < rows.length), ∃ g off, a = some ⟨g, off, none⟩ ∧ g < w.heap.size ∧ rows[i].length = size ∧ w.rangeAt g (off + i * size) rows[i]
section
variable {w w' : World} {a : Option Addr} {size T B : Nat} {rows : List (List Value)}
theorem RwA.stays (h : RwA w a size rows) (b : Below w.heap.size w w') : RwA w' a size rows := fun i hi => by
  obtain ⟨g, off, h1, h2, h3, h4⟩ := h i hi
  exact ⟨g, off, h1, Nat.lt_of_lt_of_le h2 b.size, h3, range_later h4 h2 b⟩
theorem RwA.nil (w : World) (a : Option Addr) (size : Nat) : RwA w a size [] := fun i hi => absurd hi (Nat.not_lt_zero _)
theorem SlN.rwa {s : Sv} (h : SlN w T size B s.v rows) : RwA w s.a size rows := fun i hi => by
  obtain ⟨g, off, cap, h1, h2, h3, h4⟩ := h.read hi
  simp only [Sv.v, Value.slice.injEq] at h1
  exact ⟨g, off, h1.1, h3, h.lens _ (List.getElem_mem hi), h4⟩
theorem SlN.slen {s : Sv} (h : SlN w T size B s.v rows) : s.n = rows.length := by
  obtain ⟨s', e, hn⟩ := h.form
  simp only [Sv.v, Value.slice.injEq] at e
  omega
end
end Go.Proofs.Ytbecahikjekccaa


/- The places of a list of structs, whose fields are numbers, texts and lists: where each lies, that none is there twice. No function of the program is named here. -/
namespace Go.Proofs.Ytbecahikjekccaa
open Go.RowKit Pl
set_option linter.unusedVariables false
set_option linter.unusedSimpArgs false

/-- a field: the cell c of a row (of the kind d), or a list s whose elements have the kinds ds. -/
structure Fd where
  c : Nat
  d : Nat
  s : Option Sv
  ds : List Nat
def svB (s : Sv) : Nat := (s.a.map (·.block)).getD 0
def svO (s : Sv) : Nat := (s.a.map (·.off)).getD 0
def sps (ds : List Nat) (s : Sv) : List Spot := (List.range (s.n * ds.length)).map fun t => (svB s, svO s + t, ds.getD (t % ds.length) 0)
def Fd.sp (g o : Nat) (f : Fd) : List Spot := match f.s with | none => [(g, o + f.c, f.d)] | some s => sps f.ds s
def pc (g o : Nat) (fs : List Fd) : List Spot := fs.flatMap (Fd.sp g o)
/-- the block of a list that has something. -/
def Fd.ow (f : Fd) (x : Nat) : Prop := ∃ s, f.s = some s ∧ 0 < s.n ∧ svB s = x
/-- a list that lies there. -/
def LvS (w : World) (s : Sv) (k : Nat) : Prop := 0 < s.n → s.a = some ⟨svB s, svO s, none⟩ ∧ svB s < w.heap.size ∧ (∀ t, t < s.n * k → ∃ u, w.cell? ⟨svB s, svO s + t, none⟩ = some u) ∧ ∀ t, w.frozen? ⟨svB s, t, none⟩ = false
abbrev Ne2 (a b : Spot) : Prop := ¬ (a.1 = b.1 ∧ a.2.1 = b.2.1)
theorem sps_len (ds : List Nat) (s : Sv) : (sps ds s).length = s.n * ds.length := by simp [sps]
theorem sps_at {ds : List Nat} {s : Sv} {t : Nat} (h : t < s.n * ds.length) : (sps ds s)[t]? = some (svB s, svO s + t, ds.getD (t % ds.length) 0) := by simp [sps, h]
theorem sps_mem {ds : List Nat} {s : Sv} {x : Spot} (h : x ∈ sps ds s) : x.1 = svB s ∧ ∃ t, t < s.n * ds.length ∧ x.2.1 = svO s + t := by
  unfold sps at h
  obtain ⟨t, ht, rfl⟩ := List.mem_map.1 h
  exact ⟨rfl, t, List.mem_range.1 ht, rfl⟩
theorem sps_pos {ds : List Nat} {s : Sv} {x : Spot} (h : x ∈ sps ds s) : 0 < s.n := by
  obtain ⟨_, t, ht, _⟩ := sps_mem h
  rcases Nat.eq_zero_or_pos s.n with h0 | h0
  · rw [h0, Nat.zero_mul] at ht; omega
  · exact h0
theorem sps_nd (ds : List Nat) (s : Sv) : (sps ds s).Pairwise Ne2 := by
  unfold sps
  rw [List.pairwise_map]
  exact List.Pairwise.imp (fun h => fun e => by have := e.2; simp at this; omega) List.pairwise_lt_range
theorem Fd.sp_mem {g o : Nat} {f : Fd} {x : Spot} (h : x ∈ f.sp g o) : (f.s = none ∧ x.1 = g ∧ x.2.1 = o + f.c) ∨ (∃ s, f.s = some s ∧ x ∈ sps f.ds s) := by
  unfold Fd.sp at h
  cases hs : f.s with
  | none => rw [hs] at h; simp at h; subst h; exact .inl ⟨rfl, rfl, rfl⟩
  | some s => rw [hs] at h; exact .inr ⟨s, rfl, h⟩
theorem Fd.sp_nd (g o : Nat) (f : Fd) : (f.sp g o).Pairwise Ne2 := by
  unfold Fd.sp
  cases f.s with
  | none => exact List.pairwise_singleton _ _
  | some s => exact sps_nd _ _
theorem ow_of {f : Fd} {s : Sv} {x : Spot} (hs : f.s = some s) (h : x ∈ sps f.ds s) : f.ow x.1 := ⟨s, hs, sps_pos h, (sps_mem h).1.symm⟩
/-- one row's places: none twice. -/
theorem pc_nd {g o : Nat} {fs : List Fd} (hg : ∀ f ∈ fs, ¬ f.ow g) (hp : fs.Pairwise fun f f' => (f.s = none → f'.s = none → f.c ≠ f'.c) ∧ ∀ x, f.ow x → ¬ f'.ow x) : (pc g o fs).Pairwise Ne2 := by
  unfold pc
  rw [List.pairwise_flatMap]
  refine ⟨fun f _ => f.sp_nd g o, List.Pairwise.imp_of_mem (fun {a b} ha hb hab x hx y hy e => ?_) hp⟩
  rcases Fd.sp_mem hx with ⟨h1, h2, h3⟩ | ⟨s, h1, h2⟩ <;> rcases Fd.sp_mem hy with ⟨k1, k2, k3⟩ | ⟨s', k1, k2⟩
  · exact hab.1 h1 k1 (by have := e.2; omega)
  · exact hg b hb (by have := ow_of k1 k2; rw [← e.1, h2] at this; exact this)
  · exact hg a ha (by have := ow_of h1 h2; rw [e.1, k2] at this; exact this)
  · exact hab.2 x.1 (ow_of h1 h2) (by have := ow_of k1 k2; rw [← e.1] at this; exact this)
theorem pc_mem {g o : Nat} {fs : List Fd} {x : Spot} (h : x ∈ pc g o fs) : ∃ f ∈ fs, x ∈ f.sp g o := by
  unfold pc at h
  exact List.mem_flatMap.1 h
/-- the places of a list of structs. -/
def tls (g off size : Nat) (F : Nat → List Fd) (len : Nat) : List Spot := (List.range len).flatMap fun j => pc g (off + j * size) (F j)
def tlN (g off size : Nat) (F : Nat → List Fd) (j : Nat) : Nat := (tls g off size F j).length
section
variable {g off size len : Nat} {F : Nat → List Fd}
theorem tls_succ : tls g off size F (len + 1) = tls g off size F len ++ pc g (off + len * size) (F len) := by
  unfold tls
  rw [List.range_succ, List.flatMap_append]
  simp
theorem tls_at : ∀ {len j r : Nat}, j < len → r < (pc g (off + j * size) (F j)).length → (tls g off size F len)[tlN g off size F j + r]? = (pc g (off + j * size) (F j))[r]?
  | 0, j, r, hj, _ => absurd hj (Nat.not_lt_zero _)
  | len + 1, j, r, hj, hr => by
    rw [tls_succ]
    by_cases h : j < len
    · have h1 := tls_at h hr
      have h2 : tlN g off size F j + r < (tls g off size F len).length := by
        rcases Nat.lt_or_ge (tlN g off size F j + r) (tls g off size F len).length with h2 | h2
        · exact h2
        · rw [List.getElem?_eq_none h2, List.getElem?_eq_getElem hr] at h1; cases h1
      rw [List.getElem?_append_left h2, h1]
    · obtain rfl : j = len := by omega
      unfold tlN
      rw [List.getElem?_append_right (by omega), Nat.add_sub_cancel_left]
theorem tlN_succ (j : Nat) : tlN g off size F (j + 1) = tlN g off size F j + (pc g (off + j * size) (F j)).length := by
  unfold tlN
  rw [tls_succ, List.length_append]
theorem tls_mem {x : Spot} (h : x ∈ tls g off size F len) : ∃ j, j < len ∧ x ∈ pc g (off + j * size) (F j) := by
  unfold tls at h
  obtain ⟨j, hj, hx⟩ := List.mem_flatMap.1 h
  exact ⟨j, List.mem_range.1 hj, hx⟩
/-- what is asked of the fields of each row. -/
structure FdOk (w : World) (g size len : Nat) (F : Nat → List Fd) : Prop where
  row : ∀ j, j < len → ∀ f ∈ F j, f.s = none → f.c < size
  off : ∀ j, j < len → ∀ f ∈ F j, ¬ f.ow g
  one : ∀ j, j < len → (F j).Pairwise fun f f' => (f.s = none → f'.s = none → f.c ≠ f'.c) ∧ ∀ x, f.ow x → ¬ f'.ow x
  two : ∀ i j, i < j → j < len → ∀ f ∈ F i, ∀ f' ∈ F j, ∀ x, f.ow x → ¬ f'.ow x
  lv : ∀ j, j < len → ∀ f ∈ F j, ∀ s, f.s = some s → LvS w s f.ds.length
theorem tls_nd {w : World} (h : FdOk w g size len F) : (tls g off size F len).Pairwise Ne2 := by
  unfold tls
  rw [List.pairwise_flatMap]
  refine ⟨fun j hj => pc_nd (h.off j (List.mem_range.1 hj)) (h.one j (List.mem_range.1 hj)), List.Pairwise.imp_of_mem (fun {a b} ha hb hab x hx y hy e => ?_) List.pairwise_lt_range⟩
  have ha := List.mem_range.1 ha
  have hb := List.mem_range.1 hb
  obtain ⟨f, hf, hx⟩ := pc_mem hx
  obtain ⟨f', hf', hy⟩ := pc_mem hy
  rcases Fd.sp_mem hx with ⟨h1, h2, h3⟩ | ⟨s, h1, h2⟩ <;> rcases Fd.sp_mem hy with ⟨k1, k2, k3⟩ | ⟨s', k1, k2⟩
  · have e1 := h.row a ha f hf h1
    have e2 : (a + 1) * size ≤ b * size := Nat.mul_le_mul_right _ hab
    rw [Nat.succ_mul] at e2
    have := e.2
    omega
  · exact h.off b hb f' hf' (by have := ow_of k1 k2; rw [← e.1, h2] at this; exact this)
  · exact h.off a ha f hf (by have := ow_of h1 h2; rw [e.1, k2] at this; exact this)
  · exact h.two a b hab hb f hf f' hf' x.1 (ow_of h1 h2) (by have := ow_of k1 k2; rw [← e.1] at this; exact this)
end
/-- a list of rows, cell by cell. -/
theorem rowCells {w : World} {T size B : Nat} {s : Sv} {rows : List (List Value)} (h : SlN w T size B s.v rows) (h0 : 0 < rows.length) : s.a = some ⟨svB s, svO s, none⟩ ∧ svB s < w.heap.size ∧ (∀ j r u, j < rows.length → ((rows[j]?).getD [])[r]? = some u → w.cell? ⟨svB s, svO s + j * size + r, none⟩ = some u) ∧ ∀ o, w.frozen? ⟨svB s, o, none⟩ = false := by
  obtain ⟨g, off, cap, hv, hb, hlt, hc, hf⟩ := h.1.read h0
  simp only [Sv.v, Value.slice.injEq] at hv
  have e1 : svB s = g := by simp [svB, hv.1]
  have e2 : svO s = off := by simp [svO, hv.1]
  rw [e1, e2]
  refine ⟨hv.1, hlt, fun j r u hj hu => ?_, hf⟩
  rw [List.getElem?_eq_getElem hj] at hu
  simp only [Option.getD_some] at hu
  have hr : r < size := by rw [← h.lens _ (List.getElem_mem hj)]; exact (List.getElem?_eq_some_iff.1 hu).1
  have h2 := flat_row h.lens hj
  rw [← h2, List.getElem?_take, if_pos hr, List.getElem?_drop] at hu
  have := hc (j * size + r) u hu
  rw [Nat.add_assoc]
  exact this
theorem tls_ok {w : World} {T size B : Nat} {s : Sv} {rows : List (List Value)} {F : Nat → List Fd} (h : SlN w T size B s.v rows) (hF : FdOk w (svB s) size rows.length F) : TLok w (tls (svB s) (svO s) size F rows.length) := by
  have key : ∀ x ∈ tls (svB s) (svO s) size F rows.length, x.1 < w.heap.size ∧ (∃ u, w.cell? ⟨x.1, x.2.1, none⟩ = some u) ∧ w.frozen? ⟨x.1, x.2.1, none⟩ = false := fun x hx => by
    obtain ⟨j, hj, hx⟩ := tls_mem hx
    obtain ⟨f, hf, hx⟩ := pc_mem hx
    rcases Fd.sp_mem hx with ⟨h1, h2, h3⟩ | ⟨s', h1, h2⟩
    · obtain ⟨_, k2, k3, k4⟩ := rowCells h (by omega)
      have hl : ((rows[j]?).getD []).length = size := by rw [List.getElem?_eq_getElem hj]; exact h.lens _ (List.getElem_mem hj)
      have hc := hF.row j hj f hf h1
      rw [h2, h3]
      exact ⟨k2, ⟨_, k3 j f.c _ hj (List.getElem?_eq_getElem (by rw [hl]; exact hc))⟩, k4 _⟩
    · obtain ⟨e1, t, ht, e2⟩ := sps_mem h2
      obtain ⟨_, k2, k3, k4⟩ := hF.lv j hj f hf s' h1 (sps_pos h2)
      rw [e1, e2]
      exact ⟨k2, k3 t ht, k4 _⟩
  exact ⟨tls_nd hF, fun x hx => (key x hx).1, fun x hx => (key x hx).2.1, fun x hx => (key x hx).2.2⟩
/-- in which blocks they lie. -/
theorem tls_in {g off size len : Nat} {F : Nat → List Fd} {x : Spot} (h : x ∈ tls g off size F len) : x.1 = g ∨ ∃ j, j < len ∧ ∃ f ∈ F j, f.ow x.1 := by
  obtain ⟨j, hj, hx⟩ := tls_mem h
  obtain ⟨f, hf, hx⟩ := pc_mem hx
  rcases Fd.sp_mem hx with ⟨h1, h2, h3⟩ | ⟨s', h1, h2⟩
  · exact .inl h2
  · exact .inr ⟨j, hj, f, hf, ow_of h1 h2⟩
/-- a cell of a row that is no place. -/
theorem tls_not {w : World} {g off size len : Nat} {F : Nat → List Fd} (h : FdOk w g size len F) {j c : Nat} (hj : j < len) (hc : c < size) (hn : ∀ i, i < len → ∀ f ∈ F i, f.s = none → f.c ≠ c) : ∀ x ∈ tls g off size F len, ¬ (x.1 = g ∧ x.2.1 = off + j * size + c) := fun x hx e => by
  obtain ⟨i, hi, hx⟩ := tls_mem hx
  obtain ⟨f, hf, hx⟩ := pc_mem hx
  rcases Fd.sp_mem hx with ⟨h1, h2, h3⟩ | ⟨s', h1, h2⟩
  · have e1 := h.row i hi f hf h1
    have e2 := hn i hi f hf h1
    have e3 := e.2
    rcases Nat.lt_trichotomy i j with hij | hij | hij
    · have e4 : (i + 1) * size ≤ j * size := Nat.mul_le_mul_right _ hij
      rw [Nat.succ_mul] at e4
      omega
    · subst hij; omega
    · have e4 : (j + 1) * size ≤ i * size := Nat.mul_le_mul_right _ hij
      rw [Nat.succ_mul] at e4
      omega
  · exact h.off i hi f hf (by have := ow_of h1 h2; rw [e.1] at this; exact this)
theorem seg_of {TL : List Spot} {n : Nat} {ds : List Nat} {s : Sv} (ha : 0 < s.n → s.a = some ⟨svB s, svO s, none⟩) (h : ∀ t, t < s.n * ds.length → TL[n + t]? = some (svB s, svO s + t, ds.getD (t % ds.length) 0)) : Seg TL n s.a s.n ds := fun i hi => by
  refine ⟨svB s, svO s, ha (by omega), fun r d hr => ?_⟩
  have hrl : r < ds.length := (List.getElem?_eq_some_iff.1 hr).1
  have hlt : i * ds.length + r < s.n * ds.length := by
    have : (i + 1) * ds.length ≤ s.n * ds.length := Nat.mul_le_mul_right _ hi
    rw [Nat.succ_mul] at this
    omega
  have e : (i * ds.length + r) % ds.length = r := by rw [Nat.mul_comm, Nat.mul_add_mod]; exact Nat.mod_eq_of_lt hrl
  have h1 := h (i * ds.length + r) hlt
  rw [e] at h1
  rw [Nat.add_assoc, h1]
  have e2 : ds.getD r 0 = d := by simp [List.getD, hr]
  rw [e2, Nat.add_assoc]
/-- a field's places within its row's. -/
theorem pc_at {g o : Nat} (A : List Fd) (f : Fd) (B : List Fd) {r : Nat} (hr : r < (f.sp g o).length) : (pc g o (A ++ f :: B))[(pc g o A).length + r]? = (f.sp g o)[r]? := by
  unfold pc
  rw [List.flatMap_append, List.flatMap_cons, List.getElem?_append_right (by omega), Nat.add_sub_cancel_left, List.getElem?_append_left hr]
theorem pc_len_lt {g o : Nat} (A : List Fd) (f : Fd) (B : List Fd) {r : Nat} (hr : r < (f.sp g o).length) : (pc g o A).length + r < (pc g o (A ++ f :: B)).length := by
  unfold pc
  rw [List.flatMap_append, List.flatMap_cons, List.length_append, List.length_append]
  omega
theorem OwnI.lv {w : World} {B : Nat} {s : Sv} {xs : List Int} (h : OwnI w B s.v xs) : LvS w s 1 := fun h0 => by
  have hn := h.slen
  obtain ⟨g, cap, e, _, hl, hc, hf⟩ := h.some (by omega)
  simp only [Sv.v, Value.slice.injEq] at e
  have e1 : svB s = g := by simp [svB, e.1]
  have e2 : svO s = 0 := by simp [svO, e.1]
  rw [e1, e2]
  exact ⟨e.1, hl, fun t ht => ⟨_, by rw [Nat.zero_add]; exact hc t (by omega)⟩, hf⟩
theorem SlI.lv {w : World} {B : Nat} {s : Sv} {xs : List It} (h : SlI w B s.v xs) : LvS w s 4 := fun h0 => by
  have hn := SlI.len h
  obtain ⟨g, off, cap, e, _, hl, hc, hf⟩ := Sl.read h (by omega)
  simp only [Sv.v, Value.slice.injEq] at e
  have e1 : svB s = g := by simp [svB, e.1]
  have e2 : svO s = off := by simp [svO, e.1]
  rw [e1, e2]
  refine ⟨e.1, hl, fun t ht => ?_, hf⟩
  have hl2 := h.1
  exact ⟨_, hc t _ (List.getElem?_eq_getElem (by rw [hl2]; omega))⟩
theorem ow_own {s : Sv} (h : 0 < s.n → s.a = some ⟨svB s, svO s, none⟩) (h0 : 0 < s.n) : s.v.ownBlock = some (svB s) := by
  have e := h h0
  obtain ⟨b, hb⟩ : ∃ b, b = svB s := ⟨_, rfl⟩
  rw [← hb] at e ⊢
  simp [Sv.v, Value.ownBlock, e]
end Go.Proofs.Ytbecahikjekccaa


/- Lists of bundles that a law measures and copies. Written by gen_ls.py. -/
namespace Go.Proofs.Ytbecahikjekccaa
open Go.RowKit Pl
set_option linter.unusedVariables false
set_option linter.unusedSimpArgs false

/-- a bundle, and where its list lies. -/
structure Bu where
  f : Int
  n : Int
  o : Int
  ts : List It
  s : Sv
def Bu.ok (b : Bu) : Bool := bunB b.f b.n b.o b.ts
/-- what a bundle says. -/
def Bu.pl (b : Bu) : Int × Int × Int × List It := (b.f, b.n, b.o, b.ts)
def Bu.row (b : Bu) : List Value := [.int .i64 b.f, .int .i64 b.n, .int .i64 b.o, .slice b.s.a b.s.n b.s.c]
def Bu.R (w : World) (b : Bu) : Prop := RSt w b.s b.ts
theorem Bu.R.stays {w w' : World} {b : Bu} (h : b.R w) (hb : Below w.heap.size w w') : b.R w' := RSt.stays h hb
def Bu.S (b : Bu) : Prop := b.ts.length ≤ 1048576
def Bu.L (b : Bu) : Prop := b.ts.length ≤ 9223372036854775807 ∧ ∀ x ∈ b.ts, x.2.2.2.size ≤ 9223372036854775807
def Bu.sz (b : Bu) : Nat := b.ts.length
def Bu.O (w : World) (B : Nat) (b : Bu) : Prop := SlI w B b.s.v b.ts
theorem Bu.O.r {w : World} {B : Nat} {b : Bu} (h : b.O w B) : b.R w := SlI.rst h
theorem Bu.O.keep {w w' : World} {B : Nat} {e : Bu} (h : e.O w B) (hk : ∀ b, B ≤ b → b < w.heap.size → w'.heap[b]? = w.heap[b]?) : e.O w' B := Sl.keep h fun b hb hl => hk b (Sl.lt h b hb).1 hl
theorem Bu.O.below {w w' : World} {B : Nat} {e : Bu} (h : e.O w B) (b : Below w.heap.size w w') : e.O w' B := h.keep fun k _ hk => b.block k hk
theorem Bu.O.down {w : World} {B B' : Nat} {e : Bu} (h : e.O w B) (hB : B' ≤ B) : e.O w B' := Sl.down h hB
def Bu.own (e : Bu) (x : Nat) : Prop := e.s.v.ownBlock = some x
theorem Bu.O.lt {w : World} {B : Nat} {e : Bu} (h : e.O w B) (x : Nat) (hx : e.own x) : B ≤ x ∧ x < w.heap.size := Sl.lt h x hx
def Bu.Up (e : Bu) : Prop := True
/-- a list of them that is read. -/
def BusR (w : World) (s : Sv) (es : List Bu) : Prop := s.n = es.length ∧ RwA w s.a 4 (es.map Bu.row) ∧ ∀ e ∈ es, e.R w
theorem BusR.stays {w w' : World} {s : Sv} {es : List Bu} (h : BusR w s es) (b : Below w.heap.size w w') : BusR w' s es := ⟨h.1, h.2.1.stays b, fun e he => (h.2.2 e he).stays b⟩
/-- a list of the call's own. -/
def BusO (w : World) (B : Nat) (s : Sv) (es : List Bu) : Prop := SlN w 72 4 B s.v (es.map Bu.row) ∧ ∀ e ∈ es, e.O w B
theorem BusO.r {w : World} {B : Nat} {s : Sv} {es : List Bu} (h : BusO w B s es) : BusR w s es := ⟨by have := h.1.slen; simpa using this, h.1.rwa, fun e he => (h.2 e he).r⟩
theorem BusO.keep {w w' : World} {B : Nat} {s : Sv} {es : List Bu} (h : BusO w B s es) (hk : ∀ b, B ≤ b → b < w.heap.size → w'.heap[b]? = w.heap[b]?) : BusO w' B s es := ⟨h.1.keep fun b hb hl => hk b (h.1.lt b hb).1 hl, fun e he => (h.2 e he).keep hk⟩
theorem BusO.below {w w' : World} {B : Nat} {s : Sv} {es : List Bu} (h : BusO w B s es) (b : Below w.heap.size w w') : BusO w' B s es := h.keep fun k _ hk => b.block k hk
theorem BusO.down {w : World} {B B' : Nat} {s : Sv} {es : List Bu} (h : BusO w B s es) (hB : B' ≤ B) : BusO w B' s es := ⟨h.1.down hB, fun e he => (h.2 e he).down hB⟩
theorem BusO.nil (w : World) (B : Nat) : BusO w B zSv [] := ⟨SlN.nil _ _ _ _, fun e he => by cases he⟩
/-- each one's lists lie behind those of the ones ahead. -/
def BusUp (es : List Bu) : Prop := (∀ e ∈ es, e.Up) ∧ es.Pairwise fun a b => ∀ x y, a.own x → b.own y → x < y
def Bus.tot (es : List Bu) : Nat := (es.map fun e => e.sz).sum
theorem Bus.tot_take (es : List Bu) (k : Nat) (hk : k < es.length) : Bus.tot (es.take (k + 1)) = Bus.tot (es.take k) + es[k].sz := by
  unfold Bus.tot
  rw [List.take_succ_eq_append_getElem hk, List.map_append, List.sum_append]
  simp

end Go.Proofs.Ytbecahikjekccaa


/- Lists of bundles: marked, and looked at again. Written by gen_gs.py. -/
namespace Go.Proofs.Ytbecahikjekccaa
open Go.RowKit Pl
set_option linter.unusedVariables false
set_option linter.unusedSimpArgs false

/-- where the places of one lie. -/
structure BuSeg (w : World) (TL : List Spot) (n g o : Nat) (u : Bu) : Prop where
  gl : g < w.heap.size
  p0 : TL[n]? = some (g, o, 0)
  p1 : TL[n + 1]? = some (g, o + 1, 0)
  p2 : TL[n + 1 + 1]? = some (g, o + 2, 0)
  h3 : w.cell? ⟨g, o + 3, none⟩ = some (.slice u.s.a u.s.n u.s.c)
  q3 : ∀ s ∈ TL, ¬ (s.1 = g ∧ s.2.1 = o + 3)
  s3 : Seg TL (n + 1 + 1 + 1) u.s.a u.s.n [0, 0, 0, 2]
def BuSeg.len (u : Bu) : Nat := 1 + 1 + 1 + 4 * u.s.n
theorem BuSeg.marked {w0 ws w : World} {TL : List Spot} {n g o K m : Nat} {u : Bu} (h : BuSeg w0 TL n g o u) (k : MkI w0 ws TL K m w) : BuSeg w TL n g o u :=
  { h with gl := by have := h.gl; have := k.size; omega, h3 := k.cell h.gl h.q3 h.h3 }
theorem BuSeg.later {w w' : World} {TL : List Spot} {n g o : Nat} {u : Bu} (h : BuSeg w TL n g o u) (b : Below w.heap.size w w') : BuSeg w' TL n g o u :=
  { h with gl := by have := h.gl; have := b.size; omega, h3 := (cell_block (b.block _ h.gl)).trans h.h3 }
/-- .. and of a list of them. -/
structure BuSegL (w : World) (TL : List Spot) (ao : Option Addr) (len : Nat) (us : Nat → Bu) (N : Nat → Nat) : Prop where
  one : ∀ j, j < len → ∃ g off, ao = some ⟨g, off, none⟩ ∧ BuSeg w TL (N j) g (off + j * 4) (us j)
  nx : ∀ j, j < len → N (j + 1) = N j + BuSeg.len (us j)
theorem BuSegL.marked {w0 ws w : World} {TL : List Spot} {ao : Option Addr} {len K m : Nat} {us : Nat → Bu} {N : Nat → Nat} (h : BuSegL w0 TL ao len us N) (k : MkI w0 ws TL K m w) : BuSegL w TL ao len us N := ⟨fun j hj => by obtain ⟨g, off, e, x⟩ := h.one j hj; exact ⟨g, off, e, x.marked k⟩, h.nx⟩
theorem BuSegL.later {w w' : World} {TL : List Spot} {ao : Option Addr} {len : Nat} {us : Nat → Bu} {N : Nat → Nat} (h : BuSegL w TL ao len us N) (b : Below w.heap.size w w') : BuSegL w' TL ao len us N := ⟨fun j hj => by obtain ⟨g, off, e, x⟩ := h.one j hj; exact ⟨g, off, e, x.later b⟩, h.nx⟩
theorem BuSegL.le {w : World} {TL : List Spot} {ao : Option Addr} {len : Nat} {us : Nat → Bu} {N : Nat → Nat} (h : BuSegL w TL ao len us N) : ∀ (d j : Nat), j + d = len → N j ≤ N len
  | 0, j, e => by rw [show j = len by omega]; exact Nat.le_refl _
  | d + 1, j, e => by
    have h1 := h.nx j (by omega)
    have h2 := h.le d (j + 1) (by omega)
    omega
set_option maxRecDepth 100000 in
set_option maxHeartbeats 16000000 in
theorem markbundles_sp (w0 : World) (TL : List Spot) (K : Nat) (ao : Option Addr) (len cap : Nat) (us : Nat → Bu) (N : Nat → Nat) (z : Int) (w : World) (hT : Hid (TLok w0 TL)) (hI : Hid (MkI w0 w TL K (N 0) w)) (hs : Hid (BuSegL w0 TL ao len us N)) (hz : Hid (z = ((K + N 0 : Nat) : Int))) (hl : K + N len ≤ 39999990) (hll : len ≤ 39999990) (hK : 0 < K) :
    Calls Try.prog 25 #[.slice ao len cap, .int .i64 z] w fun e w' => ∃ M : Nat, e = .returned (.int .i64 (M : Int)) ∧ M = K + N len ∧ MkI w0 w TL K (N len) w' := by
  obtain ⟨M0, hM0⟩ : ∃ M : Nat, M = K + N 0 := ⟨_, rfl⟩
  have e0 : z = (M0 : Int) := by have := hz.out; omega
  subst e0
  have HM0 : Hid (M0 = K + N 0) := hM0
  clear hM0 hz
  go_enter Try.func25, Try.ntmps25
  go_wp2_with fail
  go_loopw [1, 5] (fun kk i wr => ∃ (j : Nat), j ≤ len ∧ i = .int .i64 (j : Int) ∧ kk = .int .i64 ((K + N j : Nat) : Int) ∧ Hid (MkI w0 w TL K (N j) wr)) (fun _ i _ => len - (intOf i).toNat)
  case atStart => exact ⟨0, by omega, rfl, by have := HM0.out; congr 1; omega, hI⟩
  case round =>
    obtain ⟨j, hj, rfl, rfl, HI⟩ := hrel
    obtain ⟨M, hM⟩ : ∃ M : Nat, M = K + N j := ⟨_, rfl⟩
    rw [← hM]
    have HM : Hid (M = K + N j) := hM
    clear hM
    by_cases hlt : j < len
    · obtain ⟨g, off, rfl, sg⟩ := hs.out.one j hlt
      have HNX : Hid _ := hs.out.nx j hlt
      have hle := hs.out.le (len - (j + 1)) (j + 1) (by omega)
      obtain ⟨u, hu⟩ : ∃ u, us j = u := ⟨_, rfl⟩
      rw [hu] at sg HNX
      have hle2 : N j + (1 + 1 + 1 + 4 * u.s.n) ≤ N len := by have := HNX.out; unfold BuSeg.len at this; omega
      obtain ⟨n, hn⟩ : ∃ n, n = N j := ⟨_, rfl⟩
      rw [← hn] at sg HM HNX hle2 HI
      have HN : Hid (n = N j) := hn
      obtain ⟨o, ho⟩ : ∃ o, o = off + j * 4 := ⟨_, rfl⟩
      rw [← ho] at sg
      have HO : Hid (o = off + j * 4) := ho
      have SG : Hid (BuSeg w0 TL n g o u) := sg
      clear sg hu hn ho hle
      have hMl : M ≤ 39999990 := by have := HM.out; omega
      have i0 : (0 : Int) ≤ (j : Int) := by omega
      have i1 : (j : Int) < (len : Int) := by omega
      have sp : TL[n]? = some (g, off + j * 4, 0) := by have h := SG.out.p0; rw [HO.out] at h; exact h
      have SP : Hid _ := sp
      clear sp
      go_wp2_with (first | (refine wpList_haltS 3 _ _ rfl ?_))
      refine Stp.go ?_
      refine wpList_stK rfl 3 _ _ rfl rfl _ rfl Try.sizeK3 hT.out HI.out SP.out (vkI (by have := HM.out; omega)) ?_
      intro w1 hi
      have HI : Hid (MkI w0 w TL K (n + 1) w1) := hi
      clear hi SP
      have sp : TL[n + 1]? = some (g, off + j * 4 + 1, 0) := by have h := SG.out.p1; rw [HO.out] at h; exact h
      have SP : Hid _ := sp
      clear sp
      go_wp2_with (first | (refine wpList_haltS 3 _ _ rfl ?_))
      refine Stp.go ?_
      refine wpList_stK rfl 3 _ _ rfl rfl _ rfl Try.sizeK3 hT.out HI.out SP.out (vkI (by have := HM.out; omega)) ?_
      intro w2 hi
      have HI : Hid (MkI w0 w TL K (n + 1 + 1) w2) := hi
      clear hi SP
      have sp : TL[n + 1 + 1]? = some (g, off + j * 4 + 2, 0) := by have h := SG.out.p2; rw [HO.out] at h; exact h
      have SP : Hid _ := sp
      clear sp
      go_wp2_with (first | (refine wpList_haltS 3 _ _ rfl ?_))
      refine Stp.go ?_
      refine wpList_stK rfl 3 _ _ rfl rfl _ rfl Try.sizeK3 hT.out HI.out SP.out (vkI (by have := HM.out; omega)) ?_
      intro w3 hi
      have HI : Hid (MkI w0 w TL K (n + 1 + 1 + 1) w3) := hi
      clear hi SP
      have hc : w3.cell? ⟨g, off + j * 4 + 3, none⟩ = some (.slice u.s.a u.s.n u.s.c) := by have h := HI.out.cell SG.out.gl SG.out.q3 SG.out.h3; rw [HO.out] at h; exact h
      go_wp2_with fail
      clear hc
      refine (markItems_z w0 TL K (n + 1 + 1 + 1) u.s.a u.s.n u.s.c ((M : Int) + 1 + 1 + 1) _ hT HI.out.anchor SG.out.s3 (by have := HM.out; omega) (by omega) hK).mono ?_
      rintro e w4 ⟨M4, rfl, hm, hi⟩
      have HM : Hid (M4 = K + (n + 1 + 1 + 1 + 4 * u.s.n)) := hm
      have HI : Hid (MkI w0 w TL K (n + 1 + 1 + 1 + 4 * u.s.n) w4) := HI.out.back hi
      have hMl : M4 ≤ 39999990 := by omega
      clear hm hi
      go_wp2_with fail
      go_roundw
      case rel =>
        have e : K + N (j + 1) = K + (n + (1 + 1 + 1 + 4 * u.s.n)) := by have h1 := HNX.out; unfold BuSeg.len at h1; omega
        refine ⟨j + 1, by omega, by go_num, by have := HM.out; congr 1; omega, ?_⟩
        have h := HI.out
        rw [show N (j + 1) = n + 1 + 1 + 1 + 4 * u.s.n by omega]
        exact h
      case measure => simp [intOf]; omega
    · obtain rfl : j = len := by omega
      go_wp2_with fail
      go_ret
      exact ⟨M, rfl, HM.out, HI.out⟩
set_option maxRecDepth 100000 in
set_option maxHeartbeats 16000000 in
theorem heldbundles_sp (TL : List Spot) (K : Nat) (ao : Option Addr) (len cap : Nat) (us : Nat → Bu) (N : Nat → Nat) (z : Int) (w : World) (hH : Hid (Held w TL K)) (hs : Hid (BuSegL w TL ao len us N)) (hz : Hid (z = ((K + N 0 : Nat) : Int))) (hl : K + N len ≤ 39999990) (hll : len ≤ 39999990) (hK : 0 < K) :
    Calls Try.prog 29 #[.slice ao len cap, .int .i64 z] w fun e w' => ∃ M : Nat, e = .returned (.int .i64 (M : Int)) ∧ M = K + N len ∧ Below w.heap.size w w' := by
  obtain ⟨M0, hM0⟩ : ∃ M : Nat, M = K + N 0 := ⟨_, rfl⟩
  have e0 : z = (M0 : Int) := by have := hz.out; omega
  subst e0
  have HM0 : Hid (M0 = K + N 0) := hM0
  clear hM0 hz
  go_enter Try.func29, Try.ntmps29
  go_wp2_with fail
  go_loopw [1, 5] (fun kk i wr => ∃ (j : Nat), j ≤ len ∧ i = .int .i64 (j : Int) ∧ kk = .int .i64 ((K + N j : Nat) : Int) ∧ Hid (Below w.heap.size w wr)) (fun _ i _ => len - (intOf i).toNat)
  case atStart => exact ⟨0, by omega, rfl, by have := HM0.out; congr 1; omega, Below.refl _ _⟩
  case round =>
    obtain ⟨j, hj, rfl, rfl, HI⟩ := hrel
    obtain ⟨M, hM⟩ : ∃ M : Nat, M = K + N j := ⟨_, rfl⟩
    rw [← hM]
    have HM : Hid (M = K + N j) := hM
    clear hM
    by_cases hlt : j < len
    · obtain ⟨g, off, rfl, sg⟩ := hs.out.one j hlt
      have HNX : Hid _ := hs.out.nx j hlt
      have hle := hs.out.le (len - (j + 1)) (j + 1) (by omega)
      obtain ⟨u, hu⟩ : ∃ u, us j = u := ⟨_, rfl⟩
      rw [hu] at sg HNX
      have hle2 : N j + (1 + 1 + 1 + 4 * u.s.n) ≤ N len := by have := HNX.out; unfold BuSeg.len at this; omega
      obtain ⟨n, hn⟩ : ∃ n, n = N j := ⟨_, rfl⟩
      rw [← hn] at sg HM HNX hle2
      have HN : Hid (n = N j) := hn
      obtain ⟨o, ho⟩ : ∃ o, o = off + j * 4 := ⟨_, rfl⟩
      rw [← ho] at sg
      have HO : Hid (o = off + j * 4) := ho
      have SG : Hid (BuSeg w TL n g o u) := sg
      have SG : Hid (BuSeg wr TL n g o u) := SG.out.later HI.out
      have HH : Hid (Held wr TL K) := hH.out.later HI.out
      clear sg hu hn ho hle
      have hMl : M ≤ 39999990 := by have := HM.out; omega
      have i0 : (0 : Int) ≤ (j : Int) := by omega
      have i1 : (j : Int) < (len : Int) := by omega
      have hc0 : wr.cell? ⟨g, off + j * 4, none⟩ = some (.int .i64 ((M : Int))) := by have h := HH.out.int SG.out.p0 (z := (M : Int)) (by have := HM.out; omega); rw [HO.out] at h; exact h
      have hc1 : wr.cell? ⟨g, off + j * 4 + 1, none⟩ = some (.int .i64 ((M : Int) + 1)) := by have h := HH.out.int SG.out.p1 (z := (M : Int) + 1) (by have := HM.out; omega); rw [HO.out] at h; exact h
      have hc2 : wr.cell? ⟨g, off + j * 4 + 2, none⟩ = some (.int .i64 ((M : Int) + 1 + 1)) := by have h := HH.out.int SG.out.p2 (z := (M : Int) + 1 + 1) (by have := HM.out; omega); rw [HO.out] at h; exact h
      have hc : wr.cell? ⟨g, off + j * 4 + 3, none⟩ = some (.slice u.s.a u.s.n u.s.c) := by have h := SG.out.h3; rw [HO.out] at h; exact h
      go_wp2_with fail
      clear hc hc0 hc1 hc2
      refine (heldItems_z TL K (n + 1 + 1 + 1) u.s.a u.s.n u.s.c ((M : Int) + 1 + 1 + 1) _ HH SG.out.s3 (by have := HM.out; omega) (by omega) hK).mono ?_
      rintro e w4 ⟨M4, rfl, hm, b⟩
      have HM : Hid (M4 = K + (n + 1 + 1 + 1 + 4 * u.s.n)) := hm
      have HH : Hid (Held w4 TL K) := HH.out.later b
      have SG : Hid (BuSeg w4 TL n g o u) := SG.out.later b
      have HI : Hid (Below w.heap.size w w4) := bl_next HI.out b
      have hMl : M4 ≤ 39999990 := by omega
      have hM0 : decide ((M4 : Int) < 0) = false := by simp
      clear hm b
      go_wp2_with fail
      go_roundw
      case rel =>
        have e : K + N (j + 1) = K + (n + (1 + 1 + 1 + 4 * u.s.n)) := by have h1 := HNX.out; unfold BuSeg.len at h1; omega
        exact ⟨j + 1, by omega, by go_num, by have := HM.out; congr 1; omega, HI⟩
      case measure => simp [intOf]; omega
    · obtain rfl : j = len := by omega
      go_wp2_with fail
      go_ret
      exact ⟨M, rfl, HM.out, HI.out⟩
end Go.Proofs.Ytbecahikjekccaa


/- Events in plain words and in memory; one event measured, copied, held against another. Written by gen_ev.py. -/
namespace Go.Proofs.Ytbecahikjekccaa
open Go.RowKit Pl
set_option linter.unusedVariables false
set_option linter.unusedSimpArgs false

/-- an event, and where its lists lie. -/
structure Ev where
  k : Int
  rid : Int
  ms : List Int
  q : Int
  f : Int
  l : Int
  t : ByteArray
  wi : List Int
  sm : Sv
  sw : Sv
def Ev.row (e : Ev) : List Value := [.int .i64 e.k, .int .i64 e.rid, .slice e.sm.a e.sm.n e.sm.c, .int .i64 e.q, .int .i64 e.f, .int .i64 e.l, .string e.t, .slice e.sw.a e.sw.n e.sw.c]
/-- what an event says. -/
def Ev.pl (e : Ev) : Int × Int × List Int × It × List Int := (e.k, e.rid, e.ms, (e.q, e.f, e.l, e.t), e.wi)
/-- its lists are read. -/
def Ev.R (w : World) (e : Ev) : Prop := RI w e.sm.v e.ms ∧ RI w e.sw.v e.wi
theorem Ev.R.stays {w w' : World} {e : Ev} (h : e.R w) (b : Below w.heap.size w w') : e.R w' := ⟨h.1.stays b, h.2.stays b⟩
def Ev.S (e : Ev) : Prop := e.ms.length ≤ 1048576 ∧ e.wi.length ≤ 1048576 ∧ e.t.size ≤ 1048576
def Ev.L (e : Ev) : Prop := e.ms.length ≤ 9223372036854775807 ∧ e.wi.length ≤ 9223372036854775807 ∧ e.t.size ≤ 9223372036854775807
def Ev.sz (e : Ev) : Nat := e.ms.length + e.t.size + e.wi.length
/-- its lists are of a call's own. -/
def Ev.O (w : World) (B : Nat) (e : Ev) : Prop := OwnI w B e.sm.v e.ms ∧ OwnI w B e.sw.v e.wi
theorem Ev.O.r {w : World} {B : Nat} {e : Ev} (h : e.O w B) : e.R w := ⟨h.1.ri, h.2.ri⟩
set_option maxRecDepth 100000 in
set_option maxHeartbeats 8000000 in
theorem eqEvent_any (e : Ev) (a1 a2 b1 b2 : Sv) (w : World) (hs : Hid e.S) (h1 : Hid (OwnI w 0 a1.v e.ms)) (h2 : Hid (OwnI w 0 a2.v e.wi)) (h3 : Hid (OwnI w 0 b1.v e.ms)) (h4 : Hid (OwnI w 0 b2.v e.wi)) :
    Calls Try.prog 56 #[.agg #[.int .i64 e.k, .int .i64 e.rid, .slice a1.a a1.n a1.c, .int .i64 e.q, .int .i64 e.f, .int .i64 e.l, .string e.t, .slice a2.a a2.n a2.c], .agg #[.int .i64 e.k, .int .i64 e.rid, .slice b1.a b1.n b1.c, .int .i64 e.q, .int .i64 e.f, .int .i64 e.l, .string e.t, .slice b2.a b2.n b2.c]] w fun x w' => x = .returned (.bool true) ∧ Below w.heap.size w w' := by
  have hn1 : (w.alloc (.cells #[.int .i64 e.k, .int .i64 e.rid, .slice a1.a a1.n a1.c, .int .i64 e.q, .int .i64 e.f, .int .i64 e.l, .string e.t, .slice a2.a a2.n a2.c] 88)).heap.size = w.heap.size + 1 := by simp
  have LA : Hid (Bx ((w.alloc (.cells #[.int .i64 e.k, .int .i64 e.rid, .slice a1.a a1.n a1.c, .int .i64 e.q, .int .i64 e.f, .int .i64 e.l, .string e.t, .slice a2.a a2.n a2.c] 88)).alloc (.cells #[.int .i64 e.k, .int .i64 e.rid, .slice b1.a b1.n b1.c, .int .i64 e.q, .int .i64 e.f, .int .i64 e.l, .string e.t, .slice b2.a b2.n b2.c] 88)) w.heap.size 88 [.int .i64 e.k, .int .i64 e.rid, .slice a1.a a1.n a1.c, .int .i64 e.q, .int .i64 e.f, .int .i64 e.l, .string e.t, .slice a2.a a2.n a2.c]) := by
    have h := Bx.new w 88 [.int .i64 e.k, .int .i64 e.rid, .slice a1.a a1.n a1.c, .int .i64 e.q, .int .i64 e.f, .int .i64 e.l, .string e.t, .slice a2.a a2.n a2.c]
    exact (h).later ((Below.refl _ _).alloc (Nat.le_refl _) _)
  have LB : Hid (Bx ((w.alloc (.cells #[.int .i64 e.k, .int .i64 e.rid, .slice a1.a a1.n a1.c, .int .i64 e.q, .int .i64 e.f, .int .i64 e.l, .string e.t, .slice a2.a a2.n a2.c] 88)).alloc (.cells #[.int .i64 e.k, .int .i64 e.rid, .slice b1.a b1.n b1.c, .int .i64 e.q, .int .i64 e.f, .int .i64 e.l, .string e.t, .slice b2.a b2.n b2.c] 88)) (w.heap.size + 1) 88 [.int .i64 e.k, .int .i64 e.rid, .slice b1.a b1.n b1.c, .int .i64 e.q, .int .i64 e.f, .int .i64 e.l, .string e.t, .slice b2.a b2.n b2.c]) := by
    have h := Bx.new (w.alloc (.cells #[.int .i64 e.k, .int .i64 e.rid, .slice a1.a a1.n a1.c, .int .i64 e.q, .int .i64 e.f, .int .i64 e.l, .string e.t, .slice a2.a a2.n a2.c] 88)) 88 [.int .i64 e.k, .int .i64 e.rid, .slice b1.a b1.n b1.c, .int .i64 e.q, .int .i64 e.f, .int .i64 e.l, .string e.t, .slice b2.a b2.n b2.c]
    rw [hn1] at h
    exact h
  have BW : Hid (Below w.heap.size w ((w.alloc (.cells #[.int .i64 e.k, .int .i64 e.rid, .slice a1.a a1.n a1.c, .int .i64 e.q, .int .i64 e.f, .int .i64 e.l, .string e.t, .slice a2.a a2.n a2.c] 88)).alloc (.cells #[.int .i64 e.k, .int .i64 e.rid, .slice b1.a b1.n b1.c, .int .i64 e.q, .int .i64 e.f, .int .i64 e.l, .string e.t, .slice b2.a b2.n b2.c] 88))) := (((Below.refl _ _).alloc (by simp) _).alloc (by simp; try omega) _)
  clear hn1
  have H1 : Hid (OwnI ((w.alloc (.cells #[.int .i64 e.k, .int .i64 e.rid, .slice a1.a a1.n a1.c, .int .i64 e.q, .int .i64 e.f, .int .i64 e.l, .string e.t, .slice a2.a a2.n a2.c] 88)).alloc (.cells #[.int .i64 e.k, .int .i64 e.rid, .slice b1.a b1.n b1.c, .int .i64 e.q, .int .i64 e.f, .int .i64 e.l, .string e.t, .slice b2.a b2.n b2.c] 88)) 0 a1.v e.ms) := h1.out.keep fun _ _ hk => BW.out.block _ hk
  have H2 : Hid (OwnI ((w.alloc (.cells #[.int .i64 e.k, .int .i64 e.rid, .slice a1.a a1.n a1.c, .int .i64 e.q, .int .i64 e.f, .int .i64 e.l, .string e.t, .slice a2.a a2.n a2.c] 88)).alloc (.cells #[.int .i64 e.k, .int .i64 e.rid, .slice b1.a b1.n b1.c, .int .i64 e.q, .int .i64 e.f, .int .i64 e.l, .string e.t, .slice b2.a b2.n b2.c] 88)) 0 a2.v e.wi) := h2.out.keep fun _ _ hk => BW.out.block _ hk
  have H3 : Hid (OwnI ((w.alloc (.cells #[.int .i64 e.k, .int .i64 e.rid, .slice a1.a a1.n a1.c, .int .i64 e.q, .int .i64 e.f, .int .i64 e.l, .string e.t, .slice a2.a a2.n a2.c] 88)).alloc (.cells #[.int .i64 e.k, .int .i64 e.rid, .slice b1.a b1.n b1.c, .int .i64 e.q, .int .i64 e.f, .int .i64 e.l, .string e.t, .slice b2.a b2.n b2.c] 88)) 0 b1.v e.ms) := h3.out.keep fun _ _ hk => BW.out.block _ hk
  have H4 : Hid (OwnI ((w.alloc (.cells #[.int .i64 e.k, .int .i64 e.rid, .slice a1.a a1.n a1.c, .int .i64 e.q, .int .i64 e.f, .int .i64 e.l, .string e.t, .slice a2.a a2.n a2.c] 88)).alloc (.cells #[.int .i64 e.k, .int .i64 e.rid, .slice b1.a b1.n b1.c, .int .i64 e.q, .int .i64 e.f, .int .i64 e.l, .string e.t, .slice b2.a b2.n b2.c] 88)) 0 b2.v e.wi) := h4.out.keep fun _ _ hk => BW.out.block _ hk
  clear h1 h2 h3 h4
  have d0 : (e.k != e.k) = false := by simp
  have a0 := LA.out.cell 0
  have b0 := LB.out.cell 0
  simp only [List.getElem?_cons_zero] at a0 b0
  go_enter Try.func56, Try.ntmps56
  go_wp2_with (first | (refine wpList_ldG rfl 24 _ rfl w.heap.size 1 rfl 88 _ LA.out [.int .i64 e.rid, .slice a1.a a1.n a1.c] rfl _ Try.underlying24 rfl Try.sizeR ?_) | (refine wpList_ldG rfl 24 _ rfl (w.heap.size + 1) 1 rfl 88 _ LB.out [.int .i64 e.rid, .slice b1.a b1.n b1.c] rfl _ Try.underlying24 rfl Try.sizeR ?_))
  generalize ((w.alloc (.cells #[.int .i64 e.k, .int .i64 e.rid, .slice a1.a a1.n a1.c, .int .i64 e.q, .int .i64 e.f, .int .i64 e.l, .string e.t, .slice a2.a a2.n a2.c] 88)).alloc (.cells #[.int .i64 e.k, .int .i64 e.rid, .slice b1.a b1.n b1.c, .int .i64 e.q, .int .i64 e.f, .int .i64 e.l, .string e.t, .slice b2.a b2.n b2.c] 88)) = W at *
  clear a0 b0 d0
  refine (eqRing_same e.rid a1.v b1.v e.ms 0 0 _ H1 H3 hs.out.1).mono ?_
  rintro e w1 ⟨rfl, b⟩
  have z_w1 : W.heap.size ≤ w1.heap.size := b.size
  have H1 : Hid (OwnI w1 0 (a1.v) (e.ms)) := H1.out.keep fun _ _ hk => (b).block _ hk
  have H2 : Hid (OwnI w1 0 (a2.v) (e.wi)) := H2.out.keep fun _ _ hk => (b).block _ hk
  have H3 : Hid (OwnI w1 0 (b1.v) (e.ms)) := H3.out.keep fun _ _ hk => (b).block _ hk
  have H4 : Hid (OwnI w1 0 (b2.v) (e.wi)) := H4.out.keep fun _ _ hk => (b).block _ hk
  have LA : Hid (Bx w1 w.heap.size 88 [.int .i64 e.k, .int .i64 e.rid, .slice a1.a a1.n a1.c, .int .i64 e.q, .int .i64 e.f, .int .i64 e.l, .string e.t, .slice a2.a a2.n a2.c]) := LA.out.later b
  have LB : Hid (Bx w1 (w.heap.size + 1) 88 [.int .i64 e.k, .int .i64 e.rid, .slice b1.a b1.n b1.c, .int .i64 e.q, .int .i64 e.f, .int .i64 e.l, .string e.t, .slice b2.a b2.n b2.c]) := LB.out.later b
  have BW : Hid (Below w.heap.size w w1) := bl_next BW.out b
  clear b
  go_wp2_with (first | (refine wpList_ldG rfl 86 _ rfl w.heap.size 3 rfl 88 _ LA.out [.int .i64 e.q, .int .i64 e.f, .int .i64 e.l, .string e.t] rfl _ Try.underlying86 rfl Try.sizeI ?_) | (refine wpList_ldG rfl 86 _ rfl (w.heap.size + 1) 3 rfl 88 _ LB.out [.int .i64 e.q, .int .i64 e.f, .int .i64 e.l, .string e.t] rfl _ Try.underlying86 rfl Try.sizeI ?_))
  refine (eqItem_same e.q e.f e.l e.t _).mono ?_
  rintro e w2 ⟨rfl, b⟩
  have z_w2 : w1.heap.size ≤ w2.heap.size := b.size
  have H1 : Hid (OwnI w2 0 (a1.v) (e.ms)) := H1.out.keep fun _ _ hk => (b).block _ hk
  have H2 : Hid (OwnI w2 0 (a2.v) (e.wi)) := H2.out.keep fun _ _ hk => (b).block _ hk
  have H3 : Hid (OwnI w2 0 (b1.v) (e.ms)) := H3.out.keep fun _ _ hk => (b).block _ hk
  have H4 : Hid (OwnI w2 0 (b2.v) (e.wi)) := H4.out.keep fun _ _ hk => (b).block _ hk
  have LA : Hid (Bx w2 w.heap.size 88 [.int .i64 e.k, .int .i64 e.rid, .slice a1.a a1.n a1.c, .int .i64 e.q, .int .i64 e.f, .int .i64 e.l, .string e.t, .slice a2.a a2.n a2.c]) := LA.out.later b
  have LB : Hid (Bx w2 (w.heap.size + 1) 88 [.int .i64 e.k, .int .i64 e.rid, .slice b1.a b1.n b1.c, .int .i64 e.q, .int .i64 e.f, .int .i64 e.l, .string e.t, .slice b2.a b2.n b2.c]) := LB.out.later b
  have BW : Hid (Below w.heap.size w w2) := bl_next BW.out b
  clear b
  have a7 := LA.out.cell 7
  have b7 := LB.out.cell 7
  simp only [List.getElem?_cons_succ, List.getElem?_cons_zero] at a7 b7
  go_wp2_with fail
  clear a7 b7
  refine (eqI_same a2.v b2.v e.wi 0 0 _ H2.out H4.out hs.out.2.1).mono ?_
  rintro e w3 ⟨rfl, b⟩
  have z_w3 : w2.heap.size ≤ w3.heap.size := b.size
  have H1 : Hid (OwnI w3 0 (a1.v) (e.ms)) := H1.out.keep fun _ _ hk => (b).block _ hk
  have H2 : Hid (OwnI w3 0 (a2.v) (e.wi)) := H2.out.keep fun _ _ hk => (b).block _ hk
  have H3 : Hid (OwnI w3 0 (b1.v) (e.ms)) := H3.out.keep fun _ _ hk => (b).block _ hk
  have H4 : Hid (OwnI w3 0 (b2.v) (e.wi)) := H4.out.keep fun _ _ hk => (b).block _ hk
  have LA : Hid (Bx w3 w.heap.size 88 [.int .i64 e.k, .int .i64 e.rid, .slice a1.a a1.n a1.c, .int .i64 e.q, .int .i64 e.f, .int .i64 e.l, .string e.t, .slice a2.a a2.n a2.c]) := LA.out.later b
  have LB : Hid (Bx w3 (w.heap.size + 1) 88 [.int .i64 e.k, .int .i64 e.rid, .slice b1.a b1.n b1.c, .int .i64 e.q, .int .i64 e.f, .int .i64 e.l, .string e.t, .slice b2.a b2.n b2.c]) := LB.out.later b
  have BW : Hid (Below w.heap.size w w3) := bl_next BW.out b
  clear b
  go_wp2_with fail
  go_ret
  exact ⟨rfl, BW.out⟩
end Go.Proofs.Ytbecahikjekccaa


/- Lists of events that a law measures and copies. Written by gen_ls.py. -/
namespace Go.Proofs.Ytbecahikjekccaa
open Go.RowKit Pl
set_option linter.unusedVariables false
set_option linter.unusedSimpArgs false

theorem Ev.O.keep {w w' : World} {B : Nat} {e : Ev} (h : e.O w B) (hk : ∀ b, B ≤ b → b < w.heap.size → w'.heap[b]? = w.heap[b]?) : e.O w' B := ⟨h.1.keep fun b hb hl => hk b (h.1.lt b hb).1 hl, h.2.keep fun b hb hl => hk b (h.2.lt b hb).1 hl⟩
theorem Ev.O.below {w w' : World} {B : Nat} {e : Ev} (h : e.O w B) (b : Below w.heap.size w w') : e.O w' B := h.keep fun k _ hk => b.block k hk
theorem Ev.O.down {w : World} {B B' : Nat} {e : Ev} (h : e.O w B) (hB : B' ≤ B) : e.O w B' := ⟨h.1.down hB, h.2.down hB⟩
def Ev.own (e : Ev) (x : Nat) : Prop := e.sm.v.ownBlock = some x ∨ e.sw.v.ownBlock = some x
theorem Ev.O.lt {w : World} {B : Nat} {e : Ev} (h : e.O w B) (x : Nat) (hx : e.own x) : B ≤ x ∧ x < w.heap.size := by
  rcases hx with hx | hx
  · exact h.1.lt x hx
  · exact h.2.lt x hx
def Ev.Up (e : Ev) : Prop := ∀ a c, e.sm.v.ownBlock = some a → e.sw.v.ownBlock = some c → a < c
/-- a list of them that is read. -/
def EvsR (w : World) (s : Sv) (es : List Ev) : Prop := s.n = es.length ∧ RwA w s.a 8 (es.map Ev.row) ∧ ∀ e ∈ es, e.R w
theorem EvsR.stays {w w' : World} {s : Sv} {es : List Ev} (h : EvsR w s es) (b : Below w.heap.size w w') : EvsR w' s es := ⟨h.1, h.2.1.stays b, fun e he => (h.2.2 e he).stays b⟩
/-- a list of the call's own. -/
def EvsO (w : World) (B : Nat) (s : Sv) (es : List Ev) : Prop := SlN w 88 8 B s.v (es.map Ev.row) ∧ ∀ e ∈ es, e.O w B
theorem EvsO.r {w : World} {B : Nat} {s : Sv} {es : List Ev} (h : EvsO w B s es) : EvsR w s es := ⟨by have := h.1.slen; simpa using this, h.1.rwa, fun e he => (h.2 e he).r⟩
theorem EvsO.keep {w w' : World} {B : Nat} {s : Sv} {es : List Ev} (h : EvsO w B s es) (hk : ∀ b, B ≤ b → b < w.heap.size → w'.heap[b]? = w.heap[b]?) : EvsO w' B s es := ⟨h.1.keep fun b hb hl => hk b (h.1.lt b hb).1 hl, fun e he => (h.2 e he).keep hk⟩
theorem EvsO.below {w w' : World} {B : Nat} {s : Sv} {es : List Ev} (h : EvsO w B s es) (b : Below w.heap.size w w') : EvsO w' B s es := h.keep fun k _ hk => b.block k hk
theorem EvsO.down {w : World} {B B' : Nat} {s : Sv} {es : List Ev} (h : EvsO w B s es) (hB : B' ≤ B) : EvsO w B' s es := ⟨h.1.down hB, fun e he => (h.2 e he).down hB⟩
theorem EvsO.nil (w : World) (B : Nat) : EvsO w B zSv [] := ⟨SlN.nil _ _ _ _, fun e he => by cases he⟩
/-- each one's lists lie behind those of the ones ahead. -/
def EvsUp (es : List Ev) : Prop := (∀ e ∈ es, e.Up) ∧ es.Pairwise fun a b => ∀ x y, a.own x → b.own y → x < y
def Evs.tot (es : List Ev) : Nat := (es.map fun e => e.sz).sum
theorem Evs.tot_take (es : List Ev) (k : Nat) (hk : k < es.length) : Evs.tot (es.take (k + 1)) = Evs.tot (es.take k) + es[k].sz := by
  unfold Evs.tot
  rw [List.take_succ_eq_append_getElem hk, List.map_append, List.sum_append]
  simp

end Go.Proofs.Ytbecahikjekccaa


/- Lists of events: marked, and looked at again. Written by gen_gs.py. -/
namespace Go.Proofs.Ytbecahikjekccaa
open Go.RowKit Pl
set_option linter.unusedVariables false
set_option linter.unusedSimpArgs false

/-- where the places of one lie. -/
structure EvSeg (w : World) (TL : List Spot) (n g o : Nat) (u : Ev) : Prop where
  gl : g < w.heap.size
  p0 : TL[n]? = some (g, o, 0)
  p1 : TL[n + 1]? = some (g, o + 1, 0)
  h2 : w.cell? ⟨g, o + 2, none⟩ = some (.slice u.sm.a u.sm.n u.sm.c)
  q2 : ∀ s ∈ TL, ¬ (s.1 = g ∧ s.2.1 = o + 2)
  s2 : Seg TL (n + 1 + 1) u.sm.a u.sm.n [0]
  p3 : TL[n + 1 + 1 + u.sm.n]? = some (g, o + 3, 0)
  p4 : TL[n + 1 + 1 + u.sm.n + 1]? = some (g, o + 4, 0)
  p5 : TL[n + 1 + 1 + u.sm.n + 1 + 1]? = some (g, o + 5, 0)
  p6 : TL[n + 1 + 1 + u.sm.n + 1 + 1 + 1]? = some (g, o + 6, 2)
  h7 : w.cell? ⟨g, o + 7, none⟩ = some (.slice u.sw.a u.sw.n u.sw.c)
  q7 : ∀ s ∈ TL, ¬ (s.1 = g ∧ s.2.1 = o + 7)
  s7 : Seg TL (n + 1 + 1 + u.sm.n + 1 + 1 + 1 + 1) u.sw.a u.sw.n [0]
def EvSeg.len (u : Ev) : Nat := 1 + 1 + u.sm.n + 1 + 1 + 1 + 1 + u.sw.n
theorem EvSeg.marked {w0 ws w : World} {TL : List Spot} {n g o K m : Nat} {u : Ev} (h : EvSeg w0 TL n g o u) (k : MkI w0 ws TL K m w) : EvSeg w TL n g o u :=
  { h with gl := by have := h.gl; have := k.size; omega, h2 := k.cell h.gl h.q2 h.h2, h7 := k.cell h.gl h.q7 h.h7 }
theorem EvSeg.later {w w' : World} {TL : List Spot} {n g o : Nat} {u : Ev} (h : EvSeg w TL n g o u) (b : Below w.heap.size w w') : EvSeg w' TL n g o u :=
  { h with gl := by have := h.gl; have := b.size; omega, h2 := (cell_block (b.block _ h.gl)).trans h.h2, h7 := (cell_block (b.block _ h.gl)).trans h.h7 }
/-- .. and of a list of them. -/
structure EvSegL (w : World) (TL : List Spot) (ao : Option Addr) (len : Nat) (us : Nat → Ev) (N : Nat → Nat) : Prop where
  one : ∀ j, j < len → ∃ g off, ao = some ⟨g, off, none⟩ ∧ EvSeg w TL (N j) g (off + j * 8) (us j)
  nx : ∀ j, j < len → N (j + 1) = N j + EvSeg.len (us j)
theorem EvSegL.marked {w0 ws w : World} {TL : List Spot} {ao : Option Addr} {len K m : Nat} {us : Nat → Ev} {N : Nat → Nat} (h : EvSegL w0 TL ao len us N) (k : MkI w0 ws TL K m w) : EvSegL w TL ao len us N := ⟨fun j hj => by obtain ⟨g, off, e, x⟩ := h.one j hj; exact ⟨g, off, e, x.marked k⟩, h.nx⟩
theorem EvSegL.later {w w' : World} {TL : List Spot} {ao : Option Addr} {len : Nat} {us : Nat → Ev} {N : Nat → Nat} (h : EvSegL w TL ao len us N) (b : Below w.heap.size w w') : EvSegL w' TL ao len us N := ⟨fun j hj => by obtain ⟨g, off, e, x⟩ := h.one j hj; exact ⟨g, off, e, x.later b⟩, h.nx⟩
theorem EvSegL.le {w : World} {TL : List Spot} {ao : Option Addr} {len : Nat} {us : Nat → Ev} {N : Nat → Nat} (h : EvSegL w TL ao len us N) : ∀ (d j : Nat), j + d = len → N j ≤ N len
  | 0, j, e => by rw [show j = len by omega]; exact Nat.le_refl _
  | d + 1, j, e => by
    have h1 := h.nx j (by omega)
    have h2 := h.le d (j + 1) (by omega)
    omega
set_option maxRecDepth 100000 in
set_option maxHeartbeats 16000000 in
theorem markevents_sp (w0 : World) (TL : List Spot) (K : Nat) (ao : Option Addr) (len cap : Nat) (us : Nat → Ev) (N : Nat → Nat) (z : Int) (w : World) (hT : Hid (TLok w0 TL)) (hI : Hid (MkI w0 w TL K (N 0) w)) (hs : Hid (EvSegL w0 TL ao len us N)) (hz : Hid (z = ((K + N 0 : Nat) : Int))) (hl : K + N len ≤ 39999990) (hll : len ≤ 39999990) (hK : 0 < K) :
    Calls Try.prog 26 #[.slice ao len cap, .int .i64 z] w fun e w' => ∃ M : Nat, e = .returned (.int .i64 (M : Int)) ∧ M = K + N len ∧ MkI w0 w TL K (N len) w' := by
  obtain ⟨M0, hM0⟩ : ∃ M : Nat, M = K + N 0 := ⟨_, rfl⟩
  have e0 : z = (M0 : Int) := by have := hz.out; omega
  subst e0
  have HM0 : Hid (M0 = K + N 0) := hM0
  clear hM0 hz
  go_enter Try.func26, Try.ntmps26
  go_wp2_with fail
  go_loopw [1, 5] (fun kk i wr => ∃ (j : Nat), j ≤ len ∧ i = .int .i64 (j : Int) ∧ kk = .int .i64 ((K + N j : Nat) : Int) ∧ Hid (MkI w0 w TL K (N j) wr)) (fun _ i _ => len - (intOf i).toNat)
  case atStart => exact ⟨0, by omega, rfl, by have := HM0.out; congr 1; omega, hI⟩
  case round =>
    obtain ⟨j, hj, rfl, rfl, HI⟩ := hrel
    obtain ⟨M, hM⟩ : ∃ M : Nat, M = K + N j := ⟨_, rfl⟩
    rw [← hM]
    have HM : Hid (M = K + N j) := hM
    clear hM
    by_cases hlt : j < len
    · obtain ⟨g, off, rfl, sg⟩ := hs.out.one j hlt
      have HNX : Hid _ := hs.out.nx j hlt
      have hle := hs.out.le (len - (j + 1)) (j + 1) (by omega)
      obtain ⟨u, hu⟩ : ∃ u, us j = u := ⟨_, rfl⟩
      rw [hu] at sg HNX
      have hle2 : N j + (1 + 1 + u.sm.n + 1 + 1 + 1 + 1 + u.sw.n) ≤ N len := by have := HNX.out; unfold EvSeg.len at this; omega
      obtain ⟨n, hn⟩ : ∃ n, n = N j := ⟨_, rfl⟩
      rw [← hn] at sg HM HNX hle2 HI
      have HN : Hid (n = N j) := hn
      obtain ⟨o, ho⟩ : ∃ o, o = off + j * 8 := ⟨_, rfl⟩
      rw [← ho] at sg
      have HO : Hid (o = off + j * 8) := ho
      have SG : Hid (EvSeg w0 TL n g o u) := sg
      clear sg hu hn ho hle
      have hMl : M ≤ 39999990 := by have := HM.out; omega
      have i0 : (0 : Int) ≤ (j : Int) := by omega
      have i1 : (j : Int) < (len : Int) := by omega
      have sp : TL[n]? = some (g, off + j * 8, 0) := by have h := SG.out.p0; rw [HO.out] at h; exact h
      have SP : Hid _ := sp
      clear sp
      go_wp2_with (first | (refine wpList_haltS 3 _ _ rfl ?_))
      refine Stp.go ?_
      refine wpList_stK rfl 3 _ _ rfl rfl _ rfl Try.sizeK3 hT.out HI.out SP.out (vkI (by have := HM.out; omega)) ?_
      intro w1 hi
      have HI : Hid (MkI w0 w TL K (n + 1) w1) := hi
      clear hi SP
      have sp : TL[n + 1]? = some (g, off + j * 8 + 1, 0) := by have h := SG.out.p1; rw [HO.out] at h; exact h
      have SP : Hid _ := sp
      clear sp
      go_wp2_with (first | (refine wpList_haltS 3 _ _ rfl ?_))
      refine Stp.go ?_
      refine wpList_stK rfl 3 _ _ rfl rfl _ rfl Try.sizeK3 hT.out HI.out SP.out (vkI (by have := HM.out; omega)) ?_
      intro w2 hi
      have HI : Hid (MkI w0 w TL K (n + 1 + 1) w2) := hi
      clear hi SP
      have hc : w2.cell? ⟨g, off + j * 8 + 2, none⟩ = some (.slice u.sm.a u.sm.n u.sm.c) := by have h := HI.out.cell SG.out.gl SG.out.q2 SG.out.h2; rw [HO.out] at h; exact h
      go_wp2_with fail
      clear hc
      refine (markI_z w0 TL K (n + 1 + 1) u.sm.a u.sm.n u.sm.c ((M : Int) + 1 + 1) _ hT HI.out.anchor SG.out.s2 (by have := HM.out; omega) (by omega)).mono ?_
      rintro e w3 ⟨M3, rfl, hm, hi⟩
      have HM : Hid (M3 = K + (n + 1 + 1 + u.sm.n)) := hm
      have HI : Hid (MkI w0 w TL K (n + 1 + 1 + u.sm.n) w3) := HI.out.back hi
      have hMl : M3 ≤ 39999990 := by omega
      clear hm hi
      have sp : TL[n + 1 + 1 + u.sm.n]? = some (g, off + j * 8 + 3, 0) := by have h := SG.out.p3; rw [HO.out] at h; exact h
      have SP : Hid _ := sp
      clear sp
      go_wp2_with (first | (refine wpList_haltS 3 _ _ rfl ?_))
      refine Stp.go ?_
      refine wpList_stK rfl 3 _ _ rfl rfl _ rfl Try.sizeK3 hT.out HI.out SP.out (vkI (by have := HM.out; omega)) ?_
      intro w4 hi
      have HI : Hid (MkI w0 w TL K (n + 1 + 1 + u.sm.n + 1) w4) := hi
      clear hi SP
      have sp : TL[n + 1 + 1 + u.sm.n + 1]? = some (g, off + j * 8 + 4, 0) := by have h := SG.out.p4; rw [HO.out] at h; exact h
      have SP : Hid _ := sp
      clear sp
      go_wp2_with (first | (refine wpList_haltS 3 _ _ rfl ?_))
      refine Stp.go ?_
      refine wpList_stK rfl 3 _ _ rfl rfl _ rfl Try.sizeK3 hT.out HI.out SP.out (vkI (by have := HM.out; omega)) ?_
      intro w5 hi
      have HI : Hid (MkI w0 w TL K (n + 1 + 1 + u.sm.n + 1 + 1) w5) := hi
      clear hi SP
      have sp : TL[n + 1 + 1 + u.sm.n + 1 + 1]? = some (g, off + j * 8 + 5, 0) := by have h := SG.out.p5; rw [HO.out] at h; exact h
      have SP : Hid _ := sp
      clear sp
      go_wp2_with (first | (refine wpList_haltS 3 _ _ rfl ?_))
      refine Stp.go ?_
      refine wpList_stK rfl 3 _ _ rfl rfl _ rfl Try.sizeK3 hT.out HI.out SP.out (vkI (by have := HM.out; omega)) ?_
      intro w6 hi
      have HI : Hid (MkI w0 w TL K (n + 1 + 1 + u.sm.n + 1 + 1 + 1) w6) := hi
      clear hi SP
      go_wp2_with fail
      refine (mark_at ((M3 : Int) + 1 + 1 + 1) w6 (by omega) (by omega)).mono ?_
      rintro e w7 ⟨rfl, b⟩
      have HI : Hid (MkI w0 w TL K (n + 1 + 1 + u.sm.n + 1 + 1 + 1) w7) := HI.out.later hT.out b
      clear b
      have sp : TL[n + 1 + 1 + u.sm.n + 1 + 1 + 1]? = some (g, off + j * 8 + 6, 2) := by have h := SG.out.p6; rw [HO.out] at h; exact h
      have SP : Hid _ := sp
      clear sp
      go_wp2_with (first | (refine wpList_haltS 9 _ _ rfl ?_))
      refine Stp.go ?_
      refine wpList_stK rfl 9 _ _ rfl rfl _ rfl Try.sizeK9 hT.out HI.out SP.out (by show Value.string _ = _; rw [vk2]; congr 2; have := HM.out; omega) ?_
      intro x7 hi
      have HI : Hid (MkI w0 w TL K (n + 1 + 1 + u.sm.n + 1 + 1 + 1 + 1) x7) := hi
      clear hi SP
      have hc : x7.cell? ⟨g, off + j * 8 + 7, none⟩ = some (.slice u.sw.a u.sw.n u.sw.c) := by have h := HI.out.cell SG.out.gl SG.out.q7 SG.out.h7; rw [HO.out] at h; exact h
      go_wp2_with fail
      clear hc
      refine (markI_z w0 TL K (n + 1 + 1 + u.sm.n + 1 + 1 + 1 + 1) u.sw.a u.sw.n u.sw.c ((M3 : Int) + 1 + 1 + 1 + 1) _ hT HI.out.anchor SG.out.s7 (by have := HM.out; omega) (by omega)).mono ?_
      rintro e w8 ⟨M8, rfl, hm, hi⟩
      have HM : Hid (M8 = K + (n + 1 + 1 + u.sm.n + 1 + 1 + 1 + 1 + u.sw.n)) := hm
      have HI : Hid (MkI w0 w TL K (n + 1 + 1 + u.sm.n + 1 + 1 + 1 + 1 + u.sw.n) w8) := HI.out.back hi
      have hMl : M8 ≤ 39999990 := by omega
      clear hm hi
      go_wp2_with fail
      go_roundw
      case rel =>
        have e : K + N (j + 1) = K + (n + (1 + 1 + u.sm.n + 1 + 1 + 1 + 1 + u.sw.n)) := by have h1 := HNX.out; unfold EvSeg.len at h1; omega
        refine ⟨j + 1, by omega, by go_num, by have := HM.out; congr 1; omega, ?_⟩
        have h := HI.out
        rw [show N (j + 1) = n + 1 + 1 + u.sm.n + 1 + 1 + 1 + 1 + u.sw.n by omega]
        exact h
      case measure => simp [intOf]; omega
    · obtain rfl : j = len := by omega
      go_wp2_with fail
      go_ret
      exact ⟨M, rfl, HM.out, HI.out⟩
set_option maxRecDepth 100000 in
set_option maxHeartbeats 16000000 in
theorem heldevents_sp (TL : List Spot) (K : Nat) (ao : Option Addr) (len cap : Nat) (us : Nat → Ev) (N : Nat → Nat) (z : Int) (w : World) (hH : Hid (Held w TL K)) (hs : Hid (EvSegL w TL ao len us N)) (hz : Hid (z = ((K + N 0 : Nat) : Int))) (hl : K + N len ≤ 39999990) (hll : len ≤ 39999990) (hK : 0 < K) :
    Calls Try.prog 30 #[.slice ao len cap, .int .i64 z] w fun e w' => ∃ M : Nat, e = .returned (.int .i64 (M : Int)) ∧ M = K + N len ∧ Below w.heap.size w w' := by
  obtain ⟨M0, hM0⟩ : ∃ M : Nat, M = K + N 0 := ⟨_, rfl⟩
  have e0 : z = (M0 : Int) := by have := hz.out; omega
  subst e0
  have HM0 : Hid (M0 = K + N 0) := hM0
  clear hM0 hz
  go_enter Try.func30, Try.ntmps30
  go_wp2_with fail
  go_loopw [1, 5] (fun kk i wr => ∃ (j : Nat), j ≤ len ∧ i = .int .i64 (j : Int) ∧ kk = .int .i64 ((K + N j : Nat) : Int) ∧ Hid (Below w.heap.size w wr)) (fun _ i _ => len - (intOf i).toNat)
  case atStart => exact ⟨0, by omega, rfl, by have := HM0.out; congr 1; omega, Below.refl _ _⟩
  case round =>
    obtain ⟨j, hj, rfl, rfl, HI⟩ := hrel
    obtain ⟨M, hM⟩ : ∃ M : Nat, M = K + N j := ⟨_, rfl⟩
    rw [← hM]
    have HM : Hid (M = K + N j) := hM
    clear hM
    by_cases hlt : j < len
    · obtain ⟨g, off, rfl, sg⟩ := hs.out.one j hlt
      have HNX : Hid _ := hs.out.nx j hlt
      have hle := hs.out.le (len - (j + 1)) (j + 1) (by omega)
      obtain ⟨u, hu⟩ : ∃ u, us j = u := ⟨_, rfl⟩
      rw [hu] at sg HNX
      have hle2 : N j + (1 + 1 + u.sm.n + 1 + 1 + 1 + 1 + u.sw.n) ≤ N len := by have := HNX.out; unfold EvSeg.len at this; omega
      obtain ⟨n, hn⟩ : ∃ n, n = N j := ⟨_, rfl⟩
      rw [← hn] at sg HM HNX hle2
      have HN : Hid (n = N j) := hn
      obtain ⟨o, ho⟩ : ∃ o, o = off + j * 8 := ⟨_, rfl⟩
      rw [← ho] at sg
      have HO : Hid (o = off + j * 8) := ho
      have SG : Hid (EvSeg w TL n g o u) := sg
      have SG : Hid (EvSeg wr TL n g o u) := SG.out.later HI.out
      have HH : Hid (Held wr TL K) := hH.out.later HI.out
      clear sg hu hn ho hle
      have hMl : M ≤ 39999990 := by have := HM.out; omega
      have i0 : (0 : Int) ≤ (j : Int) := by omega
      have i1 : (j : Int) < (len : Int) := by omega
      have hc0 : wr.cell? ⟨g, off + j * 8, none⟩ = some (.int .i64 ((M : Int))) := by have h := HH.out.int SG.out.p0 (z := (M : Int)) (by have := HM.out; omega); rw [HO.out] at h; exact h
      have hc1 : wr.cell? ⟨g, off + j * 8 + 1, none⟩ = some (.int .i64 ((M : Int) + 1)) := by have h := HH.out.int SG.out.p1 (z := (M : Int) + 1) (by have := HM.out; omega); rw [HO.out] at h; exact h
      have hc : wr.cell? ⟨g, off + j * 8 + 2, none⟩ = some (.slice u.sm.a u.sm.n u.sm.c) := by have h := SG.out.h2; rw [HO.out] at h; exact h
      go_wp2_with fail
      clear hc hc0 hc1
      refine (heldI_z TL K (n + 1 + 1) u.sm.a u.sm.n u.sm.c ((M : Int) + 1 + 1) _ HH SG.out.s2 (by have := HM.out; omega) (by omega)).mono ?_
      rintro e w3 ⟨M3, rfl, hm, b⟩
      have HM : Hid (M3 = K + (n + 1 + 1 + u.sm.n)) := hm
      have HH : Hid (Held w3 TL K) := HH.out.later b
      have SG : Hid (EvSeg w3 TL n g o u) := SG.out.later b
      have HI : Hid (Below w.heap.size w w3) := bl_next HI.out b
      have hMl : M3 ≤ 39999990 := by omega
      have hM0 : decide ((M3 : Int) < 0) = false := by simp
      clear hm b
      have hc3 : w3.cell? ⟨g, off + j * 8 + 3, none⟩ = some (.int .i64 ((M3 : Int))) := by have h := HH.out.int SG.out.p3 (z := (M3 : Int)) (by have := HM.out; omega); rw [HO.out] at h; exact h
      have hc4 : w3.cell? ⟨g, off + j * 8 + 4, none⟩ = some (.int .i64 ((M3 : Int) + 1)) := by have h := HH.out.int SG.out.p4 (z := (M3 : Int) + 1) (by have := HM.out; omega); rw [HO.out] at h; exact h
      have hc5 : w3.cell? ⟨g, off + j * 8 + 5, none⟩ = some (.int .i64 ((M3 : Int) + 1 + 1)) := by have h := HH.out.int SG.out.p5 (z := (M3 : Int) + 1 + 1) (by have := HM.out; omega); rw [HO.out] at h; exact h
      have hMk : 0 < (M3 : Int) + 1 + 1 + 1 ∧ (M3 : Int) + 1 + 1 + 1 ≤ 40000000 := by have := HM.out; omega
      have HTX : Hid (w3.cell? ⟨g, off + j * 8 + 6, none⟩ = some (.string (markS ((M3 : Int) + 1 + 1 + 1).toNat))) := (by have h := HH.out.text SG.out.p6 (k := ((M3 : Int) + 1 + 1 + 1).toNat) (by have := HM.out; omega); rw [HO.out] at h; exact h : _ = _)
      have hgl : g < w3.heap.size := SG.out.gl
      go_wp2_with fail
      clear hc3 hc4 hc5
      refine quietC (C := fun w' => Below w3.heap.size w3 w') (by kernel_rfl) (by kernel_rfl) (Below.refl _ _).drew ?_
      go_big_quiet_want
      refine q_val (.slice (some ⟨g, off, none⟩) len cap) (fun w' hw' => by go_simp) ?_
      go_big_quiet_on
      simp only [Act.put, List.setIfInBounds_toArray, List.set_cons_zero, List.set_cons_succ]
      go_big_quiet_want
      refine q_val (.int .i64 ((j : Int))) (fun w' hw' => by go_simp) ?_
      go_big_quiet_on
      simp only [Act.put, List.setIfInBounds_toArray, List.set_cons_zero, List.set_cons_succ]
      go_big_quiet_want
      refine q_val (.pointer (some ⟨g, off + j * 8, none⟩)) (fun w' hw' => by go_simp) ?_
      go_big_quiet_on
      simp only [Act.put, List.setIfInBounds_toArray, List.set_cons_zero, List.set_cons_succ]
      go_big_quiet_want
      refine q_val (.pointer (some ⟨g, off + j * 8 + 3, none⟩)) (fun w' hw' => by go_simp) ?_
      go_big_quiet_on
      simp only [Act.put, List.setIfInBounds_toArray, List.set_cons_zero, List.set_cons_succ]
      go_big_quiet_want
      refine q_val (.pointer (some ⟨g, off + j * 8 + 3 + 3, none⟩)) (fun w' hw' => by go_simp) ?_
      go_big_quiet_on
      simp only [Act.put, List.setIfInBounds_toArray, List.set_cons_zero, List.set_cons_succ]
      go_big_quiet_want
      refine q_val (.string (markS ((M3 : Int) + 1 + 1 + 1).toNat)) (fun w' hw' => by have c0 : w'.cell? ⟨g, off + j * 8 + 3 + 3, none⟩ = some (.string (markS ((M3 : Int) + 1 + 1 + 1).toNat)) := (hw'.cell (p := ⟨g, off + j * 8 + 3 + 3, none⟩) hgl).trans HTX.out; go_simp) ?_
      go_big_quiet_on
      simp only [Act.put, List.setIfInBounds_toArray, List.set_cons_zero, List.set_cons_succ]
      go_big_quiet_want
      refine q_val (.int .i64 ((M3 : Int) + 1 + 1 + 1)) (fun w' hw' => by go_simp) ?_
      go_big_quiet_on
      simp only [Act.put, List.setIfInBounds_toArray, List.set_cons_zero, List.set_cons_succ]
      go_big_quiet_want
      refine q_callB (W := w3) (.string (markS ((M3 : Int) + 1 + 1 + 1).toNat)) 61 #[(.int .i64 ((M3 : Int) + 1 + 1 + 1))] (fun w' hw' => by go_simp) (fun w' hw' => mark_at ((M3 : Int) + 1 + 1 + 1) w' (by omega) (by omega)) ?_
      go_big_quiet_on
      simp only [Act.put, List.setIfInBounds_toArray, List.set_cons_zero, List.set_cons_succ]
      go_big_quiet_want
      refine q_val (.bool false) (fun w' hw' => by go_simp) ?_
      go_big_quiet_on
      simp only [Act.put, List.setIfInBounds_toArray, List.set_cons_zero, List.set_cons_succ]
      refine wpQuiet_nil ?_
      intro w7 b
      have HH : Hid (Held w7 TL K) := HH.out.later b
      have SG : Hid (EvSeg w7 TL n g o u) := SG.out.later b
      have HI : Hid (Below w.heap.size w w7) := bl_next HI.out b
      clear b HTX
      have hc : w7.cell? ⟨g, off + j * 8 + 7, none⟩ = some (.slice u.sw.a u.sw.n u.sw.c) := by have h := SG.out.h7; rw [HO.out] at h; exact h
      go_wp2_with fail
      clear hc 
      refine (heldI_z TL K (n + 1 + 1 + u.sm.n + 1 + 1 + 1 + 1) u.sw.a u.sw.n u.sw.c ((M3 : Int) + 1 + 1 + 1 + 1) _ HH SG.out.s7 (by have := HM.out; omega) (by omega)).mono ?_
      rintro e w8 ⟨M8, rfl, hm, b⟩
      have HM : Hid (M8 = K + (n + 1 + 1 + u.sm.n + 1 + 1 + 1 + 1 + u.sw.n)) := hm
      have HH : Hid (Held w8 TL K) := HH.out.later b
      have SG : Hid (EvSeg w8 TL n g o u) := SG.out.later b
      have HI : Hid (Below w.heap.size w w8) := bl_next HI.out b
      have hMl : M8 ≤ 39999990 := by omega
      have hM0 : decide ((M8 : Int) < 0) = false := by simp
      clear hm b
      go_wp2_with fail
      go_roundw
      case rel =>
        have e : K + N (j + 1) = K + (n + (1 + 1 + u.sm.n + 1 + 1 + 1 + 1 + u.sw.n)) := by have h1 := HNX.out; unfold EvSeg.len at h1; omega
        exact ⟨j + 1, by omega, by go_num, by have := HM.out; congr 1; omega, HI⟩
      case measure => simp [intOf]; omega
    · obtain rfl : j = len := by omega
      go_wp2_with fail
      go_ret
      exact ⟨M, rfl, HM.out, HI.out⟩
end Go.Proofs.Ytbecahikjekccaa


/- Lists of events, held against each other. Written by gen_gs.py. -/
namespace Go.Proofs.Ytbecahikjekccaa
open Go.RowKit Pl
set_option linter.unusedVariables false
set_option linter.unusedSimpArgs false

set_option maxRecDepth 100000 in
set_option maxHeartbeats 4000000 in
theorem eqevents_sp (ao bo : Option Addr) (len c1 c2 : Nat) (r1 r2 : Nat → List Value) (w : World) (h1 : Hid (∀ j, j < len → ∃ g off, ao = some ⟨g, off, none⟩ ∧ g < w.heap.size ∧ (r1 j).length = 8 ∧ w.rangeAt g (off + j * 8) (r1 j))) (h2 : Hid (∀ j, j < len → ∃ g off, bo = some ⟨g, off, none⟩ ∧ g < w.heap.size ∧ (r2 j).length = 8 ∧ w.rangeAt g (off + j * 8) (r2 j))) (hE : Hid (∀ j, j < len → ∀ W, Below w.heap.size w W → Calls Try.prog 56 #[.agg (r1 j).toArray, .agg (r2 j).toArray] W fun e w' => e = .returned (.bool true) ∧ Below W.heap.size W w')) (hl : len ≤ 39999990) :
    Calls Try.prog 22 #[.slice ao len c1, .slice bo len c2] w fun e w' => e = .returned (.bool true) ∧ Below w.heap.size w w' := by
  go_enter Try.func22, Try.ntmps22
  go_wp2_with fail
  go_loopw [5] (fun i wr => ∃ (j : Nat), j ≤ len ∧ i = .int .i64 (j : Int) ∧ Hid (Below w.heap.size w wr)) (fun i _ => len - (intOf i).toNat)
  case atStart => exact ⟨0, by omega, rfl, Below.refl _ _⟩
  case round =>
    obtain ⟨j, hj, rfl, HB⟩ := hrel
    by_cases hlt : j < len
    · obtain ⟨g1, o1, rfl, l1, n1, x1⟩ := h1.out j hlt
      obtain ⟨g2, o2, rfl, l2, n2, x2⟩ := h2.out j hlt
      have X1 : Hid (w.rangeAt g1 (o1 + j * 8) (r1 j)) := x1
      have X2 : Hid (w.rangeAt g2 (o2 + j * 8) (r2 j)) := x2
      have N1 : Hid ((Try.prog.info? 88).map (·.size) = some (r1 j).length) := (by rw [n1]; exact Try.sizeEv : _ = _)
      have N2 : Hid ((Try.prog.info? 88).map (·.size) = some (r2 j).length) := (by rw [n2]; exact Try.sizeEv : _ = _)
      clear x1 x2 n1 n2
      have EJ : Hid _ := hE.out j hlt
      have i0 : (0 : Int) ≤ (j : Int) := by omega
      have i1 : (j : Int) < (len : Int) := by omega
      go_wp2_with fail
      have c : Below w.heap.size w wr.drew := HB.out.drew
      refine wp_region_held_drew (S := fun w' => Below w.heap.size w w') (by kernel_rfl) c (fun hHeld => ?_)
      refine wpAnyH_take (i := 0) (v := ?v0b1) rfl (by kernel_rfl) (by kernel_rfl) (by kernel_rfl) (fun _ _ _ h => h) (Or.inl ⟨by rfl, ?hy0b1⟩) (by assumption) ?_
      case hy0b1 => (intro w hSw; (try dsimp only at hSw); simp only [List.getElem_toArray, List.getElem_cons_zero, List.getElem_cons_succ]; go_simp; try with_reducible rfl)
      try simp only [Act.put, List.getElem_toArray, List.getElem_cons_zero, List.getElem_cons_succ, List.setIfInBounds_toArray, List.set_cons_zero, List.set_cons_succ]
      refine wpAnyH_take (i := 1) (v := ?v1b2) rfl (by kernel_rfl) (by kernel_rfl) (by kernel_rfl) (fun _ _ _ h => h) (Or.inl ⟨by rfl, ?hy1b2⟩) (by assumption) ?_
      case hy1b2 => (intro w hSw; (try dsimp only at hSw); simp only [List.getElem_toArray, List.getElem_cons_zero, List.getElem_cons_succ]; go_simp; try with_reducible rfl)
      try simp only [Act.put, List.getElem_toArray, List.getElem_cons_zero, List.getElem_cons_succ, List.setIfInBounds_toArray, List.set_cons_zero, List.set_cons_succ]
      refine wpAnyH_take (i := 2) (v := ?v2b3) rfl (by kernel_rfl) (by kernel_rfl) (by kernel_rfl) (fun _ _ _ h => h) (Or.inl ⟨by rfl, ?hy2b3⟩) (by assumption) ?_
      case hy2b3 => (intro w hSw; (try dsimp only at hSw); simp only [List.getElem_toArray, List.getElem_cons_zero, List.getElem_cons_succ]; go_simp; try with_reducible rfl)
      try simp only [Act.put, List.getElem_toArray, List.getElem_cons_zero, List.getElem_cons_succ, List.setIfInBounds_toArray, List.set_cons_zero, List.set_cons_succ]
      refine wpAnyH_take (i := 3) (v := _) rfl (by kernel_rfl) (by kernel_rfl) (by kernel_rfl) (fun _ _ _ h => h) (ldN_yield (by rfl) 88 _ rfl g1 (o1 + j * 8) (by rfl) (r1 j) (fun w hS => range_later X1.out l1 hS) _ Try.underlying88 rfl N1.out) (by assumption) ?_
      try simp only [Act.put, List.setIfInBounds_toArray, List.set_cons_zero, List.set_cons_succ]
      refine wpAnyH_take (i := 4) (v := ?v4b5) rfl (by kernel_rfl) (by kernel_rfl) (by kernel_rfl) (fun _ _ _ h => h) (Or.inl ⟨by rfl, ?hy4b5⟩) (by assumption) ?_
      case hy4b5 => (intro w hSw; (try dsimp only at hSw); simp only [List.getElem_toArray, List.getElem_cons_zero, List.getElem_cons_succ]; go_simp; try with_reducible rfl)
      try simp only [Act.put, List.getElem_toArray, List.getElem_cons_zero, List.getElem_cons_succ, List.setIfInBounds_toArray, List.set_cons_zero, List.set_cons_succ]
      refine wpAnyH_take (i := 5) (v := ?v5b6) rfl (by kernel_rfl) (by kernel_rfl) (by kernel_rfl) (fun _ _ _ h => h) (Or.inl ⟨by rfl, ?hy5b6⟩) (by assumption) ?_
      case hy5b6 => (intro w hSw; (try dsimp only at hSw); simp only [List.getElem_toArray, List.getElem_cons_zero, List.getElem_cons_succ]; go_simp; try with_reducible rfl)
      try simp only [Act.put, List.getElem_toArray, List.getElem_cons_zero, List.getElem_cons_succ, List.setIfInBounds_toArray, List.set_cons_zero, List.set_cons_succ]
      refine wpAnyH_take (i := 6) (v := ?v6b7) rfl (by kernel_rfl) (by kernel_rfl) (by kernel_rfl) (fun _ _ _ h => h) (Or.inl ⟨by rfl, ?hy6b7⟩) (by assumption) ?_
      case hy6b7 => (intro w hSw; (try dsimp only at hSw); simp only [List.getElem_toArray, List.getElem_cons_zero, List.getElem_cons_succ]; go_simp; try with_reducible rfl)
      try simp only [Act.put, List.getElem_toArray, List.getElem_cons_zero, List.getElem_cons_succ, List.setIfInBounds_toArray, List.set_cons_zero, List.set_cons_succ]
      refine wpAnyH_take (i := 7) (v := _) rfl (by kernel_rfl) (by kernel_rfl) (by kernel_rfl) (fun _ _ _ h => h) (ldN_yield (by rfl) 88 _ rfl g2 (o2 + j * 8) (by rfl) (r2 j) (fun w hS => range_later X2.out l2 hS) _ Try.underlying88 rfl N2.out) (by assumption) ?_
      try simp only [Act.put, List.setIfInBounds_toArray, List.set_cons_zero, List.set_cons_succ]
      refine wpAnyH_ready (rs := [8]) (by kernel_rfl) (by simp) ?_
      refine AllReadyH.cons (i := 8) rfl (fun K hK => ?_) AllReadyH.nil
      rw [if_pos (by rfl)]
      simp only [List.getElem_toArray, List.getElem_cons_zero, List.getElem_cons_succ]
      go_simp
      refine (EJ.out _ c).mono ?_
      rintro e y1 ⟨rfl, d1⟩
      have c1 : Below w.heap.size w y1 := bl_next c d1
      refine hK.out _ _ (c1) (fun hHeld => ?_)
      clear hK K
      try simp only [Act.put, List.getElem_toArray, List.getElem_cons_zero, List.getElem_cons_succ, List.setIfInBounds_toArray, List.set_cons_zero, List.set_cons_succ]
      clear d1
      refine wpAnyH_take (i := 9) (v := ?v9b9) rfl (by kernel_rfl) (by kernel_rfl) (by kernel_rfl) (fun _ _ _ h => h) (Or.inl ⟨by rfl, ?hy9b9⟩) (by assumption) ?_
      case hy9b9 => (intro w hSw; (try dsimp only at hSw); simp only [List.getElem_toArray, List.getElem_cons_zero, List.getElem_cons_succ]; go_simp; try with_reducible rfl)
      try simp only [Act.put, List.getElem_toArray, List.getElem_cons_zero, List.getElem_cons_succ, List.setIfInBounds_toArray, List.set_cons_zero, List.set_cons_succ]
      refine wpAnyH_done (by kernel_rfl) ?_ _
      have HB1 : Hid (Below w.heap.size w y1) := c1
      clear c c1 hHeld HB EJ X1 X2
      go_wp2_with fail
      go_roundw
      case rel => exact ⟨j + 1, by omega, by go_num, HB1⟩
      case measure => simp [intOf]; omega
    · obtain rfl : j = len := by omega
      go_wp2_with fail
      go_ret
      exact ⟨rfl, HB.out⟩
end Go.Proofs.Ytbecahikjekccaa


/- Lists of bundles, held against each other. Written by gen_gs.py. -/
namespace Go.Proofs.Ytbecahikjekccaa
open Go.RowKit Pl
set_option linter.unusedVariables false
set_option linter.unusedSimpArgs false

set_option maxRecDepth 100000 in
set_option maxHeartbeats 4000000 in
theorem eqbundles_sp (ao bo : Option Addr) (len c1 c2 : Nat) (r1 r2 : Nat → List Value) (w : World) (h1 : Hid (∀ j, j < len → ∃ g off, ao = some ⟨g, off, none⟩ ∧ g < w.heap.size ∧ (r1 j).length = 4 ∧ w.rangeAt g (off + j * 4) (r1 j))) (h2 : Hid (∀ j, j < len → ∃ g off, bo = some ⟨g, off, none⟩ ∧ g < w.heap.size ∧ (r2 j).length = 4 ∧ w.rangeAt g (off + j * 4) (r2 j))) (hE : Hid (∀ j, j < len → ∀ W, Below w.heap.size w W → Calls Try.prog 55 #[.agg (r1 j).toArray, .agg (r2 j).toArray] W fun e w' => e = .returned (.bool true) ∧ Below W.heap.size W w')) (hl : len ≤ 39999990) :
    Calls Try.prog 21 #[.slice ao len c1, .slice bo len c2] w fun e w' => e = .returned (.bool true) ∧ Below w.heap.size w w' := by
  go_enter Try.func21, Try.ntmps21
  go_wp2_with fail
  go_loopw [5] (fun i wr => ∃ (j : Nat), j ≤ len ∧ i = .int .i64 (j : Int) ∧ Hid (Below w.heap.size w wr)) (fun i _ => len - (intOf i).toNat)
  case atStart => exact ⟨0, by omega, rfl, Below.refl _ _⟩
  case round =>
    obtain ⟨j, hj, rfl, HB⟩ := hrel
    by_cases hlt : j < len
    · obtain ⟨g1, o1, rfl, l1, n1, x1⟩ := h1.out j hlt
      obtain ⟨g2, o2, rfl, l2, n2, x2⟩ := h2.out j hlt
      have X1 : Hid (w.rangeAt g1 (o1 + j * 4) (r1 j)) := x1
      have X2 : Hid (w.rangeAt g2 (o2 + j * 4) (r2 j)) := x2
      have N1 : Hid ((Try.prog.info? 72).map (·.size) = some (r1 j).length) := (by rw [n1]; exact Try.sizeBu : _ = _)
      have N2 : Hid ((Try.prog.info? 72).map (·.size) = some (r2 j).length) := (by rw [n2]; exact Try.sizeBu : _ = _)
      clear x1 x2 n1 n2
      have EJ : Hid _ := hE.out j hlt
      have i0 : (0 : Int) ≤ (j : Int) := by omega
      have i1 : (j : Int) < (len : Int) := by omega
      go_wp2_with fail
      have c : Below w.heap.size w wr.drew := HB.out.drew
      refine wp_region_held_drew (S := fun w' => Below w.heap.size w w') (by kernel_rfl) c (fun hHeld => ?_)
      refine wpAnyH_take (i := 0) (v := ?v0b10) rfl (by kernel_rfl) (by kernel_rfl) (by kernel_rfl) (fun _ _ _ h => h) (Or.inl ⟨by rfl, ?hy0b10⟩) (by assumption) ?_
      case hy0b10 => (intro w hSw; (try dsimp only at hSw); simp only [List.getElem_toArray, List.getElem_cons_zero, List.getElem_cons_succ]; go_simp; try with_reducible rfl)
      try simp only [Act.put, List.getElem_toArray, List.getElem_cons_zero, List.getElem_cons_succ, List.setIfInBounds_toArray, List.set_cons_zero, List.set_cons_succ]
      refine wpAnyH_take (i := 1) (v := ?v1b11) rfl (by kernel_rfl) (by kernel_rfl) (by kernel_rfl) (fun _ _ _ h => h) (Or.inl ⟨by rfl, ?hy1b11⟩) (by assumption) ?_
      case hy1b11 => (intro w hSw; (try dsimp only at hSw); simp only [List.getElem_toArray, List.getElem_cons_zero, List.getElem_cons_succ]; go_simp; try with_reducible rfl)
      try simp only [Act.put, List.getElem_toArray, List.getElem_cons_zero, List.getElem_cons_succ, List.setIfInBounds_toArray, List.set_cons_zero, List.set_cons_succ]
      refine wpAnyH_take (i := 2) (v := ?v2b12) rfl (by kernel_rfl) (by kernel_rfl) (by kernel_rfl) (fun _ _ _ h => h) (Or.inl ⟨by rfl, ?hy2b12⟩) (by assumption) ?_
      case hy2b12 => (intro w hSw; (try dsimp only at hSw); simp only [List.getElem_toArray, List.getElem_cons_zero, List.getElem_cons_succ]; go_simp; try with_reducible rfl)
      try simp only [Act.put, List.getElem_toArray, List.getElem_cons_zero, List.getElem_cons_succ, List.setIfInBounds_toArray, List.set_cons_zero, List.set_cons_succ]
      refine wpAnyH_take (i := 3) (v := _) rfl (by kernel_rfl) (by kernel_rfl) (by kernel_rfl) (fun _ _ _ h => h) (ldN_yield (by rfl) 72 _ rfl g1 (o1 + j * 4) (by rfl) (r1 j) (fun w hS => range_later X1.out l1 hS) _ Try.underlying72 rfl N1.out) (by assumption) ?_
      try simp only [Act.put, List.setIfInBounds_toArray, List.set_cons_zero, List.set_cons_succ]
      refine wpAnyH_take (i := 4) (v := ?v4b14) rfl (by kernel_rfl) (by kernel_rfl) (by kernel_rfl) (fun _ _ _ h => h) (Or.inl ⟨by rfl, ?hy4b14⟩) (by assumption) ?_
      case hy4b14 => (intro w hSw; (try dsimp only at hSw); simp only [List.getElem_toArray, List.getElem_cons_zero, List.getElem_cons_succ]; go_simp; try with_reducible rfl)
      try simp only [Act.put, List.getElem_toArray, List.getElem_cons_zero, List.getElem_cons_succ, List.setIfInBounds_toArray, List.set_cons_zero, List.set_cons_succ]
      refine wpAnyH_take (i := 5) (v := ?v5b15) rfl (by kernel_rfl) (by kernel_rfl) (by kernel_rfl) (fun _ _ _ h => h) (Or.inl ⟨by rfl, ?hy5b15⟩) (by assumption) ?_
      case hy5b15 => (intro w hSw; (try dsimp only at hSw); simp only [List.getElem_toArray, List.getElem_cons_zero, List.getElem_cons_succ]; go_simp; try with_reducible rfl)
      try simp only [Act.put, List.getElem_toArray, List.getElem_cons_zero, List.getElem_cons_succ, List.setIfInBounds_toArray, List.set_cons_zero, List.set_cons_succ]
      refine wpAnyH_take (i := 6) (v := ?v6b16) rfl (by kernel_rfl) (by kernel_rfl) (by kernel_rfl) (fun _ _ _ h => h) (Or.inl ⟨by rfl, ?hy6b16⟩) (by assumption) ?_
      case hy6b16 => (intro w hSw; (try dsimp only at hSw); simp only [List.getElem_toArray, List.getElem_cons_zero, List.getElem_cons_succ]; go_simp; try with_reducible rfl)
      try simp only [Act.put, List.getElem_toArray, List.getElem_cons_zero, List.getElem_cons_succ, List.setIfInBounds_toArray, List.set_cons_zero, List.set_cons_succ]
      refine wpAnyH_take (i := 7) (v := _) rfl (by kernel_rfl) (by kernel_rfl) (by kernel_rfl) (fun _ _ _ h => h) (ldN_yield (by rfl) 72 _ rfl g2 (o2 + j * 4) (by rfl) (r2 j) (fun w hS => range_later X2.out l2 hS) _ Try.underlying72 rfl N2.out) (by assumption) ?_
      try simp only [Act.put, List.setIfInBounds_toArray, List.set_cons_zero, List.set_cons_succ]
      refine wpAnyH_ready (rs := [8]) (by kernel_rfl) (by simp) ?_
      refine AllReadyH.cons (i := 8) rfl (fun K hK => ?_) AllReadyH.nil
      rw [if_pos (by rfl)]
      simp only [List.getElem_toArray, List.getElem_cons_zero, List.getElem_cons_succ]
      go_simp
      refine (EJ.out _ c).mono ?_
      rintro e y1 ⟨rfl, d1⟩
      have c1 : Below w.heap.size w y1 := bl_next c d1
      refine hK.out _ _ (c1) (fun hHeld => ?_)
      clear hK K
      try simp only [Act.put, List.getElem_toArray, List.getElem_cons_zero, List.getElem_cons_succ, List.setIfInBounds_toArray, List.set_cons_zero, List.set_cons_succ]
      clear d1
      refine wpAnyH_take (i := 9) (v := ?v9b18) rfl (by kernel_rfl) (by kernel_rfl) (by kernel_rfl) (fun _ _ _ h => h) (Or.inl ⟨by rfl, ?hy9b18⟩) (by assumption) ?_
      case hy9b18 => (intro w hSw; (try dsimp only at hSw); simp only [List.getElem_toArray, List.getElem_cons_zero, List.getElem_cons_succ]; go_simp; try with_reducible rfl)
      try simp only [Act.put, List.getElem_toArray, List.getElem_cons_zero, List.getElem_cons_succ, List.setIfInBounds_toArray, List.set_cons_zero, List.set_cons_succ]
      refine wpAnyH_done (by kernel_rfl) ?_ _
      have HB1 : Hid (Below w.heap.size w y1) := c1
      clear c c1 hHeld HB EJ X1 X2
      go_wp2_with fail
      go_roundw
      case rel => exact ⟨j + 1, by omega, by go_num, HB1⟩
      case measure => simp [intOf]; omega
    · obtain rfl : j = len := by omega
      go_wp2_with fail
      go_ret
      exact ⟨rfl, HB.out⟩
end Go.Proofs.Ytbecahikjekccaa


/- Lists of events, lists of bundles: held against each other. -/
namespace Go.Proofs.Ytbecahikjekccaa
open Go.RowKit Pl
set_option linter.unusedVariables false
set_option linter.unusedSimpArgs false

theorem rowsAt {w : World} {T size B : Nat} {s : Sv} {rows : List (List Value)} (h : SlN w T size B s.v rows) (j : Nat) (hj : j < rows.length) : ∃ g off, s.a = some ⟨g, off, none⟩ ∧ g < w.heap.size ∧ ((rows[j]?).getD []).length = size ∧ w.rangeAt g (off + j * size) ((rows[j]?).getD []) := by
  obtain ⟨g, off, c, h1, h2, h3, h4⟩ := h.read hj
  simp only [Sv.v, Value.slice.injEq] at h1
  rw [List.getElem?_eq_getElem hj]
  exact ⟨g, off, h1.1, h3, h.lens _ (List.getElem_mem hj), h4⟩
theorem eqEvs_any (s1 s2 : Sv) (es fs : List Ev) (B1 B2 : Nat) (w : World) (h1 : Hid (EvsO w B1 s1 es)) (h2 : Hid (EvsO w B2 s2 fs)) (hpl : Hid (es.map Ev.pl = fs.map Ev.pl)) (hl : es.length ≤ 1048576) (hs : Hid (∀ e ∈ es, e.S)) :
    Calls Try.prog 22 #[.slice s1.a s1.n s1.c, .slice s2.a s2.n s2.c] w fun x w' => x = .returned (.bool true) ∧ Below w.heap.size w w' := by
  have n1 : s1.n = es.length := by have := h1.out.1.slen; simpa using this
  have hfl : fs.length = es.length := by have := congrArg List.length hpl.out; simp at this; omega
  have n2 : s2.n = es.length := by have := h2.out.1.slen; simp at this; omega
  rw [n1, n2]
  refine eqevents_sp s1.a s2.a es.length s1.c s2.c (fun j => ((es.map Ev.row)[j]?).getD []) (fun j => ((fs.map Ev.row)[j]?).getD []) w (fun j hj => rowsAt h1.out.1 j (by simpa using hj)) (fun j hj => rowsAt h2.out.1 j (by simpa [hfl] using hj)) ?_ (by omega)
  intro j hj W b
  have hj2 : j < fs.length := by omega
  have e1 : ((es.map Ev.row)[j]?).getD [] = es[j].row := by simp [hj]
  have e2 : ((fs.map Ev.row)[j]?).getD [] = fs[j].row := by simp [hj2]
  have hp : es[j].pl = fs[j].pl := by
    have h := congrArg (fun l => l[j]?) hpl.out
    simpa [hj, hj2] using h
  try dsimp only
  rw [e1, e2]
  have o1 := (h1.out.2 _ (List.getElem_mem hj)).below b
  have o2 := (h2.out.2 _ (List.getElem_mem hj2)).below b
  obtain ⟨e, he⟩ : ∃ e, e = es[j] := ⟨_, rfl⟩
  obtain ⟨f, hf⟩ : ∃ f, f = fs[j] := ⟨_, rfl⟩
  have hS := hs.out _ (List.getElem_mem hj)
  rw [← he] at o1 hS hp
  rw [← hf] at o2 hp
  rw [← he, ← hf]
  obtain ⟨k, rid, ms, q, ff, l, t, wi, sm, sw⟩ := f
  simp only [Ev.pl, Prod.mk.injEq] at hp
  obtain ⟨rfl, rfl, rfl, ⟨rfl, rfl, rfl, rfl⟩, rfl⟩ := hp
  exact eqEvent_any e e.sm e.sw sm sw W hS (o1.1.down (Nat.zero_le _)) (o1.2.down (Nat.zero_le _)) (o2.1.down (Nat.zero_le _)) (o2.2.down (Nat.zero_le _))
theorem eqBus_any (s1 s2 : Sv) (es fs : List Bu) (B1 B2 : Nat) (w : World) (h1 : Hid (BusO w B1 s1 es)) (h2 : Hid (BusO w B2 s2 fs)) (hpl : Hid (es.map Bu.pl = fs.map Bu.pl)) (hl : es.length ≤ 1048576) (hs : Hid (∀ e ∈ es, e.S)) :
    Calls Try.prog 21 #[.slice s1.a s1.n s1.c, .slice s2.a s2.n s2.c] w fun x w' => x = .returned (.bool true) ∧ Below w.heap.size w w' := by
  have n1 : s1.n = es.length := by have := h1.out.1.slen; simpa using this
  have hfl : fs.length = es.length := by have := congrArg List.length hpl.out; simp at this; omega
  have n2 : s2.n = es.length := by have := h2.out.1.slen; simp at this; omega
  rw [n1, n2]
  refine eqbundles_sp s1.a s2.a es.length s1.c s2.c (fun j => ((es.map Bu.row)[j]?).getD []) (fun j => ((fs.map Bu.row)[j]?).getD []) w (fun j hj => rowsAt h1.out.1 j (by simpa using hj)) (fun j hj => rowsAt h2.out.1 j (by simpa [hfl] using hj)) ?_ (by omega)
  intro j hj W b
  have hj2 : j < fs.length := by omega
  have e1 : ((es.map Bu.row)[j]?).getD [] = es[j].row := by simp [hj]
  have e2 : ((fs.map Bu.row)[j]?).getD [] = fs[j].row := by simp [hj2]
  have hp : es[j].pl = fs[j].pl := by
    have h := congrArg (fun l => l[j]?) hpl.out
    simpa [hj, hj2] using h
  try dsimp only
  rw [e1, e2]
  have o1 := (h1.out.2 _ (List.getElem_mem hj)).below b
  have o2 := (h2.out.2 _ (List.getElem_mem hj2)).below b
  obtain ⟨e, he⟩ : ∃ e, e = es[j] := ⟨_, rfl⟩
  obtain ⟨f, hf⟩ : ∃ f, f = fs[j] := ⟨_, rfl⟩
  have hS := hs.out _ (List.getElem_mem hj)
  rw [← he] at o1 hS hp
  rw [← hf] at o2 hp
  rw [← he, ← hf]
  obtain ⟨f1, n1, o1', ts, s⟩ := f
  simp only [Bu.pl, Prod.mk.injEq] at hp
  obtain ⟨rfl, rfl, rfl, rfl⟩ := hp
  exact eqBundle_same e.f e.n e.o e.s s e.ts B1 B2 W o1 o2 hS
end Go.Proofs.Ytbecahikjekccaa


/- Daemons in plain words and in memory; a daemon measured, copied, held against another. Written by gen_dm.py. -/
namespace Go.Proofs.Ytbecahikjekccaa
open Go.RowKit Pl
set_option linter.unusedVariables false
set_option linter.unusedSimpArgs false

/-- a daemon, and where its lists lie. -/
structure Dm where
  id : Int
  dead : Bool
  m : Mt
  mv : Mv
  most : Int
  old : Int
  jid : Int
  jms : List Int
  js : Sv
  bu : List Bu
  bs : Sv
  lo : List Ev
  ls : Sv
/-- its lists are read. -/
structure DmR (w : World) (d : Dm) : Prop where
  mt : MtR w d.m d.mv
  jo : RI w d.js.v d.jms
  bu : BusR w d.bs d.bu
  lo : EvsR w d.ls d.lo
theorem DmR.stays {w w' : World} {d : Dm} (h : DmR w d) (b : Below w.heap.size w w') : DmR w' d := ⟨h.mt.stays b, h.jo.stays b, h.bu.stays b, h.lo.stays b⟩
/-- its lists are of a call's own. -/
structure DmO (w : World) (B : Nat) (d : Dm) : Prop where
  mt : MtO w B d.m d.mv
  jo : OwnI w B d.js.v d.jms
  bu : BusO w B d.bs d.bu
  lo : EvsO w B d.ls d.lo
theorem DmO.r {w : World} {B : Nat} {d : Dm} (h : DmO w B d) : DmR w d := ⟨h.mt.r, h.jo.ri, h.bu.r, h.lo.r⟩
theorem DmO.keep {w w' : World} {B : Nat} {d : Dm} (h : DmO w B d) (hk : ∀ b, B ≤ b → b < w.heap.size → w'.heap[b]? = w.heap[b]?) : DmO w' B d :=
  ⟨h.mt.keep fun b hb hl => hk b (h.mt.lt hb).1 hl, h.jo.keep fun b hb hl => hk b (h.jo.lt b hb).1 hl, h.bu.keep hk, h.lo.keep hk⟩
theorem DmO.below {w w' : World} {B : Nat} {d : Dm} (h : DmO w B d) (b : Below w.heap.size w w') : DmO w' B d := h.keep fun k _ hk => b.block k hk
theorem DmO.down {w : World} {B B' : Nat} {d : Dm} (h : DmO w B d) (hB : B' ≤ B) : DmO w B' d := ⟨h.mt.down hB, h.jo.down hB, h.bu.down hB, h.lo.down hB⟩
/-- no longer than can be. -/
structure DmL (d : Dm) : Prop where
  mt : MtL d.m
  jo : d.jms.length ≤ 9223372036854775807
  bu : d.bu.length ≤ 9223372036854775807 ∧ ∀ b ∈ d.bu, b.L
  lo : d.lo.length ≤ 9223372036854775807 ∧ ∀ e ∈ d.lo, e.L
/-- not too long. -/
structure DmS (d : Dm) : Prop where
  mt : MtS d.m
  jo : d.jms.length ≤ 1048576
  bu : d.bu.length + Bus.tot d.bu ≤ 1048576
  lo : d.lo.length + Evs.tot d.lo ≤ 1048576
theorem tot_le {α : Type} (f : α → Nat) : ∀ (l : List α) (x : α), x ∈ l → f x ≤ (l.map f).sum
  | a :: l, x, h => by
    rw [List.map_cons, List.sum_cons]
    rcases List.mem_cons.1 h with rfl | h
    · omega
    · have := tot_le f l x h; omega
theorem DmS.bus {d : Dm} (h : DmS d) : d.bu.length ≤ 1048576 ∧ ∀ b ∈ d.bu, b.S := ⟨by have := h.bu; omega, fun b hb => by have h1 := tot_le (fun e : Bu => e.sz) _ b hb; have h2 := h.bu; unfold Bus.tot at h2; unfold Bu.S; unfold Bu.sz at h1 h2; omega⟩
theorem DmS.los {d : Dm} (h : DmS d) : d.lo.length ≤ 1048576 ∧ ∀ e ∈ d.lo, e.S := ⟨by have := h.lo; omega, fun e he => by have h1 := tot_le (fun e : Ev => e.sz) _ e he; have h2 := h.lo; unfold Evs.tot at h2; unfold Ev.S; unfold Ev.sz at h1 h2; omega⟩
/-- the same, in plain words. -/
structure Dm.Same (a b : Dm) : Prop where
  id : a.id = b.id
  dead : a.dead = b.dead
  m : a.m = b.m
  most : a.most = b.most
  old : a.old = b.old
  jid : a.jid = b.jid
  jms : a.jms = b.jms
  bu : a.bu.map Bu.pl = b.bu.map Bu.pl
  lo : a.lo.map Ev.pl = b.lo.map Ev.pl
theorem Dm.Same.rfl' (d : Dm) : d.Same d := ⟨rfl, rfl, rfl, rfl, rfl, rfl, rfl, rfl, rfl⟩
theorem Dm.Same.symm {a b : Dm} (h : a.Same b) : b.Same a := ⟨h.id.symm, h.dead.symm, h.m.symm, h.most.symm, h.old.symm, h.jid.symm, h.jms.symm, h.bu.symm, h.lo.symm⟩
theorem Dm.Same.trans {a b c : Dm} (h : a.Same b) (k : b.Same c) : a.Same c := ⟨h.id.trans k.id, h.dead.trans k.dead, h.m.trans k.m, h.most.trans k.most, h.old.trans k.old, h.jid.trans k.jid, h.jms.trans k.jms, h.bu.trans k.bu, h.lo.trans k.lo⟩
theorem sz_of_pl {a b : List Bu} (h : a.map Bu.pl = b.map Bu.pl) : Bus.tot a = Bus.tot b := by
  have e : ∀ l : List Bu, l.map (fun e => e.sz) = (l.map Bu.pl).map (fun p => p.2.2.2.length) := fun l => by rw [List.map_map]; rfl
  unfold Bus.tot; rw [e, e, h]
theorem sz_of_ple {a b : List Ev} (h : a.map Ev.pl = b.map Ev.pl) : Evs.tot a = Evs.tot b := by
  have e : ∀ l : List Ev, l.map (fun e => e.sz) = (l.map Ev.pl).map (fun p => p.2.2.1.length + p.2.2.2.1.2.2.2.size + p.2.2.2.2.length) := fun l => by rw [List.map_map]; rfl
  unfold Evs.tot; rw [e, e, h]
theorem Dm.Same.small {a b : Dm} (h : a.Same b) (k : DmS b) : DmS a := by
  have l1 : a.bu.length = b.bu.length := by have := congrArg List.length h.bu; simpa using this
  have l2 : a.lo.length = b.lo.length := by have := congrArg List.length h.lo; simpa using this
  exact ⟨h.m ▸ k.mt, h.jms ▸ k.jo, by rw [l1, sz_of_pl h.bu]; exact k.bu, by rw [l2, sz_of_ple h.lo]; exact k.lo⟩
/-- the blocks of a list of bundles, of a list of events. -/
def BusOwn (s : Sv) (bs : List Bu) (y : Nat) : Prop := s.v.ownBlock = some y ∨ ∃ b ∈ bs, b.own y
def EvsOwn (s : Sv) (es : List Ev) (y : Nat) : Prop := s.v.ownBlock = some y ∨ ∃ e ∈ es, e.own y
/-- each of its lists lies apart. -/
structure BusA (s : Sv) (bs : List Bu) : Prop where
  row : ∀ y, s.v.ownBlock = some y → ∀ b ∈ bs, ¬ b.own y
  two : bs.Pairwise fun a b => ∀ x, a.own x → ¬ b.own x
structure EvsA (s : Sv) (es : List Ev) : Prop where
  row : ∀ y, s.v.ownBlock = some y → ∀ e ∈ es, ¬ e.own y
  one : ∀ e ∈ es, ∀ x, e.sm.v.ownBlock = some x → e.sw.v.ownBlock ≠ some x
  two : es.Pairwise fun a b => ∀ x, a.own x → ¬ b.own x
structure DmA (d : Dm) : Prop where
  mj : ∀ x, d.mv.own x → d.js.v.ownBlock ≠ some x
  mb : ∀ x, d.mv.own x → ¬ BusOwn d.bs d.bu x
  ml : ∀ x, d.mv.own x → ¬ EvsOwn d.ls d.lo x
  jb : ∀ x, d.js.v.ownBlock = some x → ¬ BusOwn d.bs d.bu x
  jl : ∀ x, d.js.v.ownBlock = some x → ¬ EvsOwn d.ls d.lo x
  bl : ∀ x, BusOwn d.bs d.bu x → ¬ EvsOwn d.ls d.lo x
  bu : BusA d.bs d.bu
  lo : EvsA d.ls d.lo
theorem BusO.olt {w : World} {B : Nat} {s : Sv} {bs : List Bu} (h : BusO w B s bs) {y : Nat} (hy : BusOwn s bs y) : B ≤ y ∧ y < w.heap.size := by
  rcases hy with hy | ⟨b, hb, hy⟩
  · exact h.1.lt y hy
  · exact (h.2 b hb).lt y hy
theorem EvsO.olt {w : World} {B : Nat} {s : Sv} {es : List Ev} (h : EvsO w B s es) {y : Nat} (hy : EvsOwn s es y) : B ≤ y ∧ y < w.heap.size := by
  rcases hy with hy | ⟨b, hb, hy⟩
  · exact h.1.lt y hy
  · exact (h.2 b hb).lt y hy
theorem BusUp.a {s : Sv} {bs : List Bu} (h : BusUp bs) (hr : ∀ b, s.v.ownBlock = some b → ∀ e ∈ bs, ∀ x, e.own x → b < x) : BusA s bs :=
  ⟨fun y hy b hb hx => by have := hr y hy b hb y hx; omega, h.2.imp fun h x hx hy => by have := h x x hx hy; omega⟩
theorem EvsUp.a {s : Sv} {es : List Ev} (h : EvsUp es) (hr : ∀ b, s.v.ownBlock = some b → ∀ e ∈ es, ∀ x, e.own x → b < x) : EvsA s es :=
  ⟨fun y hy b hb hx => by have := hr y hy b hb y hx; omega, fun e he x h1 h2 => by have := h.1 e he x x h1 h2; omega, h.2.imp fun h x hx hy => by have := h x x hx hy; omega⟩
set_option maxRecDepth 100000 in
set_option maxHeartbeats 16000000 in
theorem eqDaemon_0 (d : Dm) (mv : Mv) (js bs ls : Sv) (bu : List Bu) (lo : List Ev) (B1 B2 : Nat) (w : World) (h1 : Hid (DmO w B1 d)) (h2 : Hid (DmO w B2 { d with mv := mv, js := js, bs := bs, ls := ls, bu := bu, lo := lo })) (hb : Hid (d.bu.map Bu.pl = bu.map Bu.pl)) (hl : Hid (d.lo.map Ev.pl = lo.map Ev.pl)) (hs : Hid (DmS d)) :
    Calls Try.prog 8 #[.agg #[.int .i64 d.id, .bool d.dead, .int .i64 d.m.id, .int .i64 d.m.rid, .slice d.mv.ms.a d.mv.ms.n d.mv.ms.c, .slice d.mv.its.a d.mv.its.n d.mv.its.c, .slice d.mv.lv.a d.mv.lv.n d.mv.lv.c, .slice d.mv.tx.a d.mv.tx.n d.mv.tx.c, .int .i64 d.m.rd, .int .i64 d.m.se, .int .i64 d.m.li, .int .i64 d.m.he, .int .i64 d.m.la.c, .int .i64 d.m.la.r, .int .i64 d.m.la.q, .int .i64 d.m.la.a, .int .i64 d.m.la.b, .slice d.mv.ws.a d.mv.ws.n d.mv.ws.c, .int .i64 d.most, .int .i64 d.old, .int .i64 d.jid, .slice d.js.a d.js.n d.js.c, .slice d.bs.a d.bs.n d.bs.c, .slice d.ls.a d.ls.n d.ls.c], .agg #[.int .i64 d.id, .bool d.dead, .int .i64 d.m.id, .int .i64 d.m.rid, .slice mv.ms.a mv.ms.n mv.ms.c, .slice mv.its.a mv.its.n mv.its.c, .slice mv.lv.a mv.lv.n mv.lv.c, .slice mv.tx.a mv.tx.n mv.tx.c, .int .i64 d.m.rd, .int .i64 d.m.se, .int .i64 d.m.li, .int .i64 d.m.he, .int .i64 d.m.la.c, .int .i64 d.m.la.r, .int .i64 d.m.la.q, .int .i64 d.m.la.a, .int .i64 d.m.la.b, .slice mv.ws.a mv.ws.n mv.ws.c, .int .i64 d.most, .int .i64 d.old, .int .i64 d.jid, .slice js.a js.n js.c, .slice bs.a bs.n bs.c, .slice ls.a ls.n ls.c]] w fun x w' => x = .returned (.bool true) ∧ Below w.heap.size w w' := by
  have hn1 : (w.alloc (.cells #[.int .i64 d.id, .bool d.dead, .int .i64 d.m.id, .int .i64 d.m.rid, .slice d.mv.ms.a d.mv.ms.n d.mv.ms.c, .slice d.mv.its.a d.mv.its.n d.mv.its.c, .slice d.mv.lv.a d.mv.lv.n d.mv.lv.c, .slice d.mv.tx.a d.mv.tx.n d.mv.tx.c, .int .i64 d.m.rd, .int .i64 d.m.se, .int .i64 d.m.li, .int .i64 d.m.he, .int .i64 d.m.la.c, .int .i64 d.m.la.r, .int .i64 d.m.la.q, .int .i64 d.m.la.a, .int .i64 d.m.la.b, .slice d.mv.ws.a d.mv.ws.n d.mv.ws.c, .int .i64 d.most, .int .i64 d.old, .int .i64 d.jid, .slice d.js.a d.js.n d.js.c, .slice d.bs.a d.bs.n d.bs.c, .slice d.ls.a d.ls.n d.ls.c] 34)).heap.size = w.heap.size + 1 := by simp
  have LA : Hid (Bx ((w.alloc (.cells #[.int .i64 d.id, .bool d.dead, .int .i64 d.m.id, .int .i64 d.m.rid, .slice d.mv.ms.a d.mv.ms.n d.mv.ms.c, .slice d.mv.its.a d.mv.its.n d.mv.its.c, .slice d.mv.lv.a d.mv.lv.n d.mv.lv.c, .slice d.mv.tx.a d.mv.tx.n d.mv.tx.c, .int .i64 d.m.rd, .int .i64 d.m.se, .int .i64 d.m.li, .int .i64 d.m.he, .int .i64 d.m.la.c, .int .i64 d.m.la.r, .int .i64 d.m.la.q, .int .i64 d.m.la.a, .int .i64 d.m.la.b, .slice d.mv.ws.a d.mv.ws.n d.mv.ws.c, .int .i64 d.most, .int .i64 d.old, .int .i64 d.jid, .slice d.js.a d.js.n d.js.c, .slice d.bs.a d.bs.n d.bs.c, .slice d.ls.a d.ls.n d.ls.c] 34)).alloc (.cells #[.int .i64 d.id, .bool d.dead, .int .i64 d.m.id, .int .i64 d.m.rid, .slice mv.ms.a mv.ms.n mv.ms.c, .slice mv.its.a mv.its.n mv.its.c, .slice mv.lv.a mv.lv.n mv.lv.c, .slice mv.tx.a mv.tx.n mv.tx.c, .int .i64 d.m.rd, .int .i64 d.m.se, .int .i64 d.m.li, .int .i64 d.m.he, .int .i64 d.m.la.c, .int .i64 d.m.la.r, .int .i64 d.m.la.q, .int .i64 d.m.la.a, .int .i64 d.m.la.b, .slice mv.ws.a mv.ws.n mv.ws.c, .int .i64 d.most, .int .i64 d.old, .int .i64 d.jid, .slice js.a js.n js.c, .slice bs.a bs.n bs.c, .slice ls.a ls.n ls.c] 34)) w.heap.size 34 [.int .i64 d.id, .bool d.dead, .int .i64 d.m.id, .int .i64 d.m.rid, .slice d.mv.ms.a d.mv.ms.n d.mv.ms.c, .slice d.mv.its.a d.mv.its.n d.mv.its.c, .slice d.mv.lv.a d.mv.lv.n d.mv.lv.c, .slice d.mv.tx.a d.mv.tx.n d.mv.tx.c, .int .i64 d.m.rd, .int .i64 d.m.se, .int .i64 d.m.li, .int .i64 d.m.he, .int .i64 d.m.la.c, .int .i64 d.m.la.r, .int .i64 d.m.la.q, .int .i64 d.m.la.a, .int .i64 d.m.la.b, .slice d.mv.ws.a d.mv.ws.n d.mv.ws.c, .int .i64 d.most, .int .i64 d.old, .int .i64 d.jid, .slice d.js.a d.js.n d.js.c, .slice d.bs.a d.bs.n d.bs.c, .slice d.ls.a d.ls.n d.ls.c]) := by
    have h := Bx.new w 34 [.int .i64 d.id, .bool d.dead, .int .i64 d.m.id, .int .i64 d.m.rid, .slice d.mv.ms.a d.mv.ms.n d.mv.ms.c, .slice d.mv.its.a d.mv.its.n d.mv.its.c, .slice d.mv.lv.a d.mv.lv.n d.mv.lv.c, .slice d.mv.tx.a d.mv.tx.n d.mv.tx.c, .int .i64 d.m.rd, .int .i64 d.m.se, .int .i64 d.m.li, .int .i64 d.m.he, .int .i64 d.m.la.c, .int .i64 d.m.la.r, .int .i64 d.m.la.q, .int .i64 d.m.la.a, .int .i64 d.m.la.b, .slice d.mv.ws.a d.mv.ws.n d.mv.ws.c, .int .i64 d.most, .int .i64 d.old, .int .i64 d.jid, .slice d.js.a d.js.n d.js.c, .slice d.bs.a d.bs.n d.bs.c, .slice d.ls.a d.ls.n d.ls.c]
    exact (h).later ((Below.refl _ _).alloc (Nat.le_refl _) _)
  have LB : Hid (Bx ((w.alloc (.cells #[.int .i64 d.id, .bool d.dead, .int .i64 d.m.id, .int .i64 d.m.rid, .slice d.mv.ms.a d.mv.ms.n d.mv.ms.c, .slice d.mv.its.a d.mv.its.n d.mv.its.c, .slice d.mv.lv.a d.mv.lv.n d.mv.lv.c, .slice d.mv.tx.a d.mv.tx.n d.mv.tx.c, .int .i64 d.m.rd, .int .i64 d.m.se, .int .i64 d.m.li, .int .i64 d.m.he, .int .i64 d.m.la.c, .int .i64 d.m.la.r, .int .i64 d.m.la.q, .int .i64 d.m.la.a, .int .i64 d.m.la.b, .slice d.mv.ws.a d.mv.ws.n d.mv.ws.c, .int .i64 d.most, .int .i64 d.old, .int .i64 d.jid, .slice d.js.a d.js.n d.js.c, .slice d.bs.a d.bs.n d.bs.c, .slice d.ls.a d.ls.n d.ls.c] 34)).alloc (.cells #[.int .i64 d.id, .bool d.dead, .int .i64 d.m.id, .int .i64 d.m.rid, .slice mv.ms.a mv.ms.n mv.ms.c, .slice mv.its.a mv.its.n mv.its.c, .slice mv.lv.a mv.lv.n mv.lv.c, .slice mv.tx.a mv.tx.n mv.tx.c, .int .i64 d.m.rd, .int .i64 d.m.se, .int .i64 d.m.li, .int .i64 d.m.he, .int .i64 d.m.la.c, .int .i64 d.m.la.r, .int .i64 d.m.la.q, .int .i64 d.m.la.a, .int .i64 d.m.la.b, .slice mv.ws.a mv.ws.n mv.ws.c, .int .i64 d.most, .int .i64 d.old, .int .i64 d.jid, .slice js.a js.n js.c, .slice bs.a bs.n bs.c, .slice ls.a ls.n ls.c] 34)) (w.heap.size + 1) 34 [.int .i64 d.id, .bool d.dead, .int .i64 d.m.id, .int .i64 d.m.rid, .slice mv.ms.a mv.ms.n mv.ms.c, .slice mv.its.a mv.its.n mv.its.c, .slice mv.lv.a mv.lv.n mv.lv.c, .slice mv.tx.a mv.tx.n mv.tx.c, .int .i64 d.m.rd, .int .i64 d.m.se, .int .i64 d.m.li, .int .i64 d.m.he, .int .i64 d.m.la.c, .int .i64 d.m.la.r, .int .i64 d.m.la.q, .int .i64 d.m.la.a, .int .i64 d.m.la.b, .slice mv.ws.a mv.ws.n mv.ws.c, .int .i64 d.most, .int .i64 d.old, .int .i64 d.jid, .slice js.a js.n js.c, .slice bs.a bs.n bs.c, .slice ls.a ls.n ls.c]) := by
    have h := Bx.new (w.alloc (.cells #[.int .i64 d.id, .bool d.dead, .int .i64 d.m.id, .int .i64 d.m.rid, .slice d.mv.ms.a d.mv.ms.n d.mv.ms.c, .slice d.mv.its.a d.mv.its.n d.mv.its.c, .slice d.mv.lv.a d.mv.lv.n d.mv.lv.c, .slice d.mv.tx.a d.mv.tx.n d.mv.tx.c, .int .i64 d.m.rd, .int .i64 d.m.se, .int .i64 d.m.li, .int .i64 d.m.he, .int .i64 d.m.la.c, .int .i64 d.m.la.r, .int .i64 d.m.la.q, .int .i64 d.m.la.a, .int .i64 d.m.la.b, .slice d.mv.ws.a d.mv.ws.n d.mv.ws.c, .int .i64 d.most, .int .i64 d.old, .int .i64 d.jid, .slice d.js.a d.js.n d.js.c, .slice d.bs.a d.bs.n d.bs.c, .slice d.ls.a d.ls.n d.ls.c] 34)) 34 [.int .i64 d.id, .bool d.dead, .int .i64 d.m.id, .int .i64 d.m.rid, .slice mv.ms.a mv.ms.n mv.ms.c, .slice mv.its.a mv.its.n mv.its.c, .slice mv.lv.a mv.lv.n mv.lv.c, .slice mv.tx.a mv.tx.n mv.tx.c, .int .i64 d.m.rd, .int .i64 d.m.se, .int .i64 d.m.li, .int .i64 d.m.he, .int .i64 d.m.la.c, .int .i64 d.m.la.r, .int .i64 d.m.la.q, .int .i64 d.m.la.a, .int .i64 d.m.la.b, .slice mv.ws.a mv.ws.n mv.ws.c, .int .i64 d.most, .int .i64 d.old, .int .i64 d.jid, .slice js.a js.n js.c, .slice bs.a bs.n bs.c, .slice ls.a ls.n ls.c]
    rw [hn1] at h
    exact h
  have BW : Hid (Below w.heap.size w ((w.alloc (.cells #[.int .i64 d.id, .bool d.dead, .int .i64 d.m.id, .int .i64 d.m.rid, .slice d.mv.ms.a d.mv.ms.n d.mv.ms.c, .slice d.mv.its.a d.mv.its.n d.mv.its.c, .slice d.mv.lv.a d.mv.lv.n d.mv.lv.c, .slice d.mv.tx.a d.mv.tx.n d.mv.tx.c, .int .i64 d.m.rd, .int .i64 d.m.se, .int .i64 d.m.li, .int .i64 d.m.he, .int .i64 d.m.la.c, .int .i64 d.m.la.r, .int .i64 d.m.la.q, .int .i64 d.m.la.a, .int .i64 d.m.la.b, .slice d.mv.ws.a d.mv.ws.n d.mv.ws.c, .int .i64 d.most, .int .i64 d.old, .int .i64 d.jid, .slice d.js.a d.js.n d.js.c, .slice d.bs.a d.bs.n d.bs.c, .slice d.ls.a d.ls.n d.ls.c] 34)).alloc (.cells #[.int .i64 d.id, .bool d.dead, .int .i64 d.m.id, .int .i64 d.m.rid, .slice mv.ms.a mv.ms.n mv.ms.c, .slice mv.its.a mv.its.n mv.its.c, .slice mv.lv.a mv.lv.n mv.lv.c, .slice mv.tx.a mv.tx.n mv.tx.c, .int .i64 d.m.rd, .int .i64 d.m.se, .int .i64 d.m.li, .int .i64 d.m.he, .int .i64 d.m.la.c, .int .i64 d.m.la.r, .int .i64 d.m.la.q, .int .i64 d.m.la.a, .int .i64 d.m.la.b, .slice mv.ws.a mv.ws.n mv.ws.c, .int .i64 d.most, .int .i64 d.old, .int .i64 d.jid, .slice js.a js.n js.c, .slice bs.a bs.n bs.c, .slice ls.a ls.n ls.c] 34))) := (((Below.refl _ _).alloc (by simp) _).alloc (by simp; try omega) _)
  clear hn1
  have P1 : Hid (DmO ((w.alloc (.cells #[.int .i64 d.id, .bool d.dead, .int .i64 d.m.id, .int .i64 d.m.rid, .slice d.mv.ms.a d.mv.ms.n d.mv.ms.c, .slice d.mv.its.a d.mv.its.n d.mv.its.c, .slice d.mv.lv.a d.mv.lv.n d.mv.lv.c, .slice d.mv.tx.a d.mv.tx.n d.mv.tx.c, .int .i64 d.m.rd, .int .i64 d.m.se, .int .i64 d.m.li, .int .i64 d.m.he, .int .i64 d.m.la.c, .int .i64 d.m.la.r, .int .i64 d.m.la.q, .int .i64 d.m.la.a, .int .i64 d.m.la.b, .slice d.mv.ws.a d.mv.ws.n d.mv.ws.c, .int .i64 d.most, .int .i64 d.old, .int .i64 d.jid, .slice d.js.a d.js.n d.js.c, .slice d.bs.a d.bs.n d.bs.c, .slice d.ls.a d.ls.n d.ls.c] 34)).alloc (.cells #[.int .i64 d.id, .bool d.dead, .int .i64 d.m.id, .int .i64 d.m.rid, .slice mv.ms.a mv.ms.n mv.ms.c, .slice mv.its.a mv.its.n mv.its.c, .slice mv.lv.a mv.lv.n mv.lv.c, .slice mv.tx.a mv.tx.n mv.tx.c, .int .i64 d.m.rd, .int .i64 d.m.se, .int .i64 d.m.li, .int .i64 d.m.he, .int .i64 d.m.la.c, .int .i64 d.m.la.r, .int .i64 d.m.la.q, .int .i64 d.m.la.a, .int .i64 d.m.la.b, .slice mv.ws.a mv.ws.n mv.ws.c, .int .i64 d.most, .int .i64 d.old, .int .i64 d.jid, .slice js.a js.n js.c, .slice bs.a bs.n bs.c, .slice ls.a ls.n ls.c] 34)) B1 d) := h1.out.below BW.out
  have P2 : Hid (DmO ((w.alloc (.cells #[.int .i64 d.id, .bool d.dead, .int .i64 d.m.id, .int .i64 d.m.rid, .slice d.mv.ms.a d.mv.ms.n d.mv.ms.c, .slice d.mv.its.a d.mv.its.n d.mv.its.c, .slice d.mv.lv.a d.mv.lv.n d.mv.lv.c, .slice d.mv.tx.a d.mv.tx.n d.mv.tx.c, .int .i64 d.m.rd, .int .i64 d.m.se, .int .i64 d.m.li, .int .i64 d.m.he, .int .i64 d.m.la.c, .int .i64 d.m.la.r, .int .i64 d.m.la.q, .int .i64 d.m.la.a, .int .i64 d.m.la.b, .slice d.mv.ws.a d.mv.ws.n d.mv.ws.c, .int .i64 d.most, .int .i64 d.old, .int .i64 d.jid, .slice d.js.a d.js.n d.js.c, .slice d.bs.a d.bs.n d.bs.c, .slice d.ls.a d.ls.n d.ls.c] 34)).alloc (.cells #[.int .i64 d.id, .bool d.dead, .int .i64 d.m.id, .int .i64 d.m.rid, .slice mv.ms.a mv.ms.n mv.ms.c, .slice mv.its.a mv.its.n mv.its.c, .slice mv.lv.a mv.lv.n mv.lv.c, .slice mv.tx.a mv.tx.n mv.tx.c, .int .i64 d.m.rd, .int .i64 d.m.se, .int .i64 d.m.li, .int .i64 d.m.he, .int .i64 d.m.la.c, .int .i64 d.m.la.r, .int .i64 d.m.la.q, .int .i64 d.m.la.a, .int .i64 d.m.la.b, .slice mv.ws.a mv.ws.n mv.ws.c, .int .i64 d.most, .int .i64 d.old, .int .i64 d.jid, .slice js.a js.n js.c, .slice bs.a bs.n bs.c, .slice ls.a ls.n ls.c] 34)) B2 { d with mv := mv, js := js, bs := bs, ls := ls, bu := bu, lo := lo }) := h2.out.below BW.out
  clear h1 h2
  have a0 := LA.out.cell 0
  have b0 := LB.out.cell 0
  have a1 := LA.out.cell 1
  have b1 := LB.out.cell 1
  simp only [List.getElem?_cons_succ, List.getElem?_cons_zero] at a0 b0 a1 b1
  have d0 : (d.id != d.id) = false := by simp
  have d1 : (d.dead != d.dead) = false := by simp
  have d2 : (d.most != d.most) = false := by simp
  have d3 : (d.old != d.old) = false := by simp
  go_enter Try.func8, Try.ntmps8
  go_wp2_with (first | (refine wpList_ldG rfl 30 _ rfl w.heap.size 2 rfl 34 _ LA.out [.int .i64 d.m.id, .int .i64 d.m.rid, .slice d.mv.ms.a d.mv.ms.n d.mv.ms.c, .slice d.mv.its.a d.mv.its.n d.mv.its.c, .slice d.mv.lv.a d.mv.lv.n d.mv.lv.c, .slice d.mv.tx.a d.mv.tx.n d.mv.tx.c, .int .i64 d.m.rd, .int .i64 d.m.se, .int .i64 d.m.li, .int .i64 d.m.he, .int .i64 d.m.la.c, .int .i64 d.m.la.r, .int .i64 d.m.la.q, .int .i64 d.m.la.a, .int .i64 d.m.la.b, .slice d.mv.ws.a d.mv.ws.n d.mv.ws.c] rfl _ Try.underlying30 rfl Try.sizeM ?_) | (refine wpList_ldG rfl 30 _ rfl (w.heap.size + 1) 2 rfl 34 _ LB.out [.int .i64 d.m.id, .int .i64 d.m.rid, .slice mv.ms.a mv.ms.n mv.ms.c, .slice mv.its.a mv.its.n mv.its.c, .slice mv.lv.a mv.lv.n mv.lv.c, .slice mv.tx.a mv.tx.n mv.tx.c, .int .i64 d.m.rd, .int .i64 d.m.se, .int .i64 d.m.li, .int .i64 d.m.he, .int .i64 d.m.la.c, .int .i64 d.m.la.r, .int .i64 d.m.la.q, .int .i64 d.m.la.a, .int .i64 d.m.la.b, .slice mv.ws.a mv.ws.n mv.ws.c] rfl _ Try.underlying30 rfl Try.sizeM ?_))
  generalize ((w.alloc (.cells #[.int .i64 d.id, .bool d.dead, .int .i64 d.m.id, .int .i64 d.m.rid, .slice d.mv.ms.a d.mv.ms.n d.mv.ms.c, .slice d.mv.its.a d.mv.its.n d.mv.its.c, .slice d.mv.lv.a d.mv.lv.n d.mv.lv.c, .slice d.mv.tx.a d.mv.tx.n d.mv.tx.c, .int .i64 d.m.rd, .int .i64 d.m.se, .int .i64 d.m.li, .int .i64 d.m.he, .int .i64 d.m.la.c, .int .i64 d.m.la.r, .int .i64 d.m.la.q, .int .i64 d.m.la.a, .int .i64 d.m.la.b, .slice d.mv.ws.a d.mv.ws.n d.mv.ws.c, .int .i64 d.most, .int .i64 d.old, .int .i64 d.jid, .slice d.js.a d.js.n d.js.c, .slice d.bs.a d.bs.n d.bs.c, .slice d.ls.a d.ls.n d.ls.c] 34)).alloc (.cells #[.int .i64 d.id, .bool d.dead, .int .i64 d.m.id, .int .i64 d.m.rid, .slice mv.ms.a mv.ms.n mv.ms.c, .slice mv.its.a mv.its.n mv.its.c, .slice mv.lv.a mv.lv.n mv.lv.c, .slice mv.tx.a mv.tx.n mv.tx.c, .int .i64 d.m.rd, .int .i64 d.m.se, .int .i64 d.m.li, .int .i64 d.m.he, .int .i64 d.m.la.c, .int .i64 d.m.la.r, .int .i64 d.m.la.q, .int .i64 d.m.la.a, .int .i64 d.m.la.b, .slice mv.ws.a mv.ws.n mv.ws.c, .int .i64 d.most, .int .i64 d.old, .int .i64 d.jid, .slice js.a js.n js.c, .slice bs.a bs.n bs.c, .slice ls.a ls.n ls.c] 34)) = W at *
  clear a0 b0 a1 b1
  refine (eqMate_same d.m d.mv mv B1 B2 _ P1.out.mt (show Hid (MtO W B2 d.m mv) from P2.out.mt) hs.out.mt).mono ?_
  rintro e w1 ⟨rfl, b⟩
  have z_w1 : W.heap.size ≤ w1.heap.size := b.size
  have LA : Hid (Bx w1 w.heap.size 34 [.int .i64 d.id, .bool d.dead, .int .i64 d.m.id, .int .i64 d.m.rid, .slice d.mv.ms.a d.mv.ms.n d.mv.ms.c, .slice d.mv.its.a d.mv.its.n d.mv.its.c, .slice d.mv.lv.a d.mv.lv.n d.mv.lv.c, .slice d.mv.tx.a d.mv.tx.n d.mv.tx.c, .int .i64 d.m.rd, .int .i64 d.m.se, .int .i64 d.m.li, .int .i64 d.m.he, .int .i64 d.m.la.c, .int .i64 d.m.la.r, .int .i64 d.m.la.q, .int .i64 d.m.la.a, .int .i64 d.m.la.b, .slice d.mv.ws.a d.mv.ws.n d.mv.ws.c, .int .i64 d.most, .int .i64 d.old, .int .i64 d.jid, .slice d.js.a d.js.n d.js.c, .slice d.bs.a d.bs.n d.bs.c, .slice d.ls.a d.ls.n d.ls.c]) := LA.out.later b
  have LB : Hid (Bx w1 (w.heap.size + 1) 34 [.int .i64 d.id, .bool d.dead, .int .i64 d.m.id, .int .i64 d.m.rid, .slice mv.ms.a mv.ms.n mv.ms.c, .slice mv.its.a mv.its.n mv.its.c, .slice mv.lv.a mv.lv.n mv.lv.c, .slice mv.tx.a mv.tx.n mv.tx.c, .int .i64 d.m.rd, .int .i64 d.m.se, .int .i64 d.m.li, .int .i64 d.m.he, .int .i64 d.m.la.c, .int .i64 d.m.la.r, .int .i64 d.m.la.q, .int .i64 d.m.la.a, .int .i64 d.m.la.b, .slice mv.ws.a mv.ws.n mv.ws.c, .int .i64 d.most, .int .i64 d.old, .int .i64 d.jid, .slice js.a js.n js.c, .slice bs.a bs.n bs.c, .slice ls.a ls.n ls.c]) := LB.out.later b
  have BW : Hid (Below w.heap.size w w1) := bl_next BW.out b
  have P1 : Hid (DmO w1 B1 d) := P1.out.below b
  have P2 : Hid (DmO w1 B2 { d with mv := mv, js := js, bs := bs, ls := ls, bu := bu, lo := lo }) := P2.out.below b
  clear b
  have a18 := LA.out.cell 18
  have b18 := LB.out.cell 18
  have a19 := LA.out.cell 19
  have b19 := LB.out.cell 19
  simp only [List.getElem?_cons_succ, List.getElem?_cons_zero] at a18 b18 a19 b19
  go_wp2_with (first | (refine wpList_ldG rfl 24 _ rfl w.heap.size 20 rfl 34 _ LA.out [.int .i64 d.jid, .slice d.js.a d.js.n d.js.c] rfl _ Try.underlying24 rfl Try.sizeR ?_) | (refine wpList_ldG rfl 24 _ rfl (w.heap.size + 1) 20 rfl 34 _ LB.out [.int .i64 d.jid, .slice js.a js.n js.c] rfl _ Try.underlying24 rfl Try.sizeR ?_))
  clear a18 b18 a19 b19
  refine (eqRing_same d.jid d.js.v js.v d.jms B1 B2 _ P1.out.jo (show Hid (OwnI w1 B2 js.v d.jms) from P2.out.jo) hs.out.jo).mono ?_
  rintro e w2 ⟨rfl, b⟩
  have z_w2 : w1.heap.size ≤ w2.heap.size := b.size
  have LA : Hid (Bx w2 w.heap.size 34 [.int .i64 d.id, .bool d.dead, .int .i64 d.m.id, .int .i64 d.m.rid, .slice d.mv.ms.a d.mv.ms.n d.mv.ms.c, .slice d.mv.its.a d.mv.its.n d.mv.its.c, .slice d.mv.lv.a d.mv.lv.n d.mv.lv.c, .slice d.mv.tx.a d.mv.tx.n d.mv.tx.c, .int .i64 d.m.rd, .int .i64 d.m.se, .int .i64 d.m.li, .int .i64 d.m.he, .int .i64 d.m.la.c, .int .i64 d.m.la.r, .int .i64 d.m.la.q, .int .i64 d.m.la.a, .int .i64 d.m.la.b, .slice d.mv.ws.a d.mv.ws.n d.mv.ws.c, .int .i64 d.most, .int .i64 d.old, .int .i64 d.jid, .slice d.js.a d.js.n d.js.c, .slice d.bs.a d.bs.n d.bs.c, .slice d.ls.a d.ls.n d.ls.c]) := LA.out.later b
  have LB : Hid (Bx w2 (w.heap.size + 1) 34 [.int .i64 d.id, .bool d.dead, .int .i64 d.m.id, .int .i64 d.m.rid, .slice mv.ms.a mv.ms.n mv.ms.c, .slice mv.its.a mv.its.n mv.its.c, .slice mv.lv.a mv.lv.n mv.lv.c, .slice mv.tx.a mv.tx.n mv.tx.c, .int .i64 d.m.rd, .int .i64 d.m.se, .int .i64 d.m.li, .int .i64 d.m.he, .int .i64 d.m.la.c, .int .i64 d.m.la.r, .int .i64 d.m.la.q, .int .i64 d.m.la.a, .int .i64 d.m.la.b, .slice mv.ws.a mv.ws.n mv.ws.c, .int .i64 d.most, .int .i64 d.old, .int .i64 d.jid, .slice js.a js.n js.c, .slice bs.a bs.n bs.c, .slice ls.a ls.n ls.c]) := LB.out.later b
  have BW : Hid (Below w.heap.size w w2) := bl_next BW.out b
  have P1 : Hid (DmO w2 B1 d) := P1.out.below b
  have P2 : Hid (DmO w2 B2 { d with mv := mv, js := js, bs := bs, ls := ls, bu := bu, lo := lo }) := P2.out.below b
  clear b
  have a22 := LA.out.cell 22
  have b22 := LB.out.cell 22
  simp only [List.getElem?_cons_succ, List.getElem?_cons_zero] at a22 b22
  go_wp2_with fail
  clear a22 b22
  refine (eqBus_any d.bs bs d.bu bu B1 B2 _ P1.out.bu (show Hid (BusO w2 B2 bs bu) from P2.out.bu) hb hs.out.bus.1 hs.out.bus.2).mono ?_
  rintro e w3 ⟨rfl, b⟩
  have z_w3 : w2.heap.size ≤ w3.heap.size := b.size
  have LA : Hid (Bx w3 w.heap.size 34 [.int .i64 d.id, .bool d.dead, .int .i64 d.m.id, .int .i64 d.m.rid, .slice d.mv.ms.a d.mv.ms.n d.mv.ms.c, .slice d.mv.its.a d.mv.its.n d.mv.its.c, .slice d.mv.lv.a d.mv.lv.n d.mv.lv.c, .slice d.mv.tx.a d.mv.tx.n d.mv.tx.c, .int .i64 d.m.rd, .int .i64 d.m.se, .int .i64 d.m.li, .int .i64 d.m.he, .int .i64 d.m.la.c, .int .i64 d.m.la.r, .int .i64 d.m.la.q, .int .i64 d.m.la.a, .int .i64 d.m.la.b, .slice d.mv.ws.a d.mv.ws.n d.mv.ws.c, .int .i64 d.most, .int .i64 d.old, .int .i64 d.jid, .slice d.js.a d.js.n d.js.c, .slice d.bs.a d.bs.n d.bs.c, .slice d.ls.a d.ls.n d.ls.c]) := LA.out.later b
  have LB : Hid (Bx w3 (w.heap.size + 1) 34 [.int .i64 d.id, .bool d.dead, .int .i64 d.m.id, .int .i64 d.m.rid, .slice mv.ms.a mv.ms.n mv.ms.c, .slice mv.its.a mv.its.n mv.its.c, .slice mv.lv.a mv.lv.n mv.lv.c, .slice mv.tx.a mv.tx.n mv.tx.c, .int .i64 d.m.rd, .int .i64 d.m.se, .int .i64 d.m.li, .int .i64 d.m.he, .int .i64 d.m.la.c, .int .i64 d.m.la.r, .int .i64 d.m.la.q, .int .i64 d.m.la.a, .int .i64 d.m.la.b, .slice mv.ws.a mv.ws.n mv.ws.c, .int .i64 d.most, .int .i64 d.old, .int .i64 d.jid, .slice js.a js.n js.c, .slice bs.a bs.n bs.c, .slice ls.a ls.n ls.c]) := LB.out.later b
  have BW : Hid (Below w.heap.size w w3) := bl_next BW.out b
  have P1 : Hid (DmO w3 B1 d) := P1.out.below b
  have P2 : Hid (DmO w3 B2 { d with mv := mv, js := js, bs := bs, ls := ls, bu := bu, lo := lo }) := P2.out.below b
  clear b
  have a23 := LA.out.cell 23
  have b23 := LB.out.cell 23
  simp only [List.getElem?_cons_succ, List.getElem?_cons_zero] at a23 b23
  go_wp2_with fail
  clear a23 b23
  refine (eqEvs_any d.ls ls d.lo lo B1 B2 _ P1.out.lo (show Hid (EvsO w3 B2 ls lo) from P2.out.lo) hl hs.out.los.1 hs.out.los.2).mono ?_
  rintro e w4 ⟨rfl, b⟩
  have z_w4 : w3.heap.size ≤ w4.heap.size := b.size
  have LA : Hid (Bx w4 w.heap.size 34 [.int .i64 d.id, .bool d.dead, .int .i64 d.m.id, .int .i64 d.m.rid, .slice d.mv.ms.a d.mv.ms.n d.mv.ms.c, .slice d.mv.its.a d.mv.its.n d.mv.its.c, .slice d.mv.lv.a d.mv.lv.n d.mv.lv.c, .slice d.mv.tx.a d.mv.tx.n d.mv.tx.c, .int .i64 d.m.rd, .int .i64 d.m.se, .int .i64 d.m.li, .int .i64 d.m.he, .int .i64 d.m.la.c, .int .i64 d.m.la.r, .int .i64 d.m.la.q, .int .i64 d.m.la.a, .int .i64 d.m.la.b, .slice d.mv.ws.a d.mv.ws.n d.mv.ws.c, .int .i64 d.most, .int .i64 d.old, .int .i64 d.jid, .slice d.js.a d.js.n d.js.c, .slice d.bs.a d.bs.n d.bs.c, .slice d.ls.a d.ls.n d.ls.c]) := LA.out.later b
  have LB : Hid (Bx w4 (w.heap.size + 1) 34 [.int .i64 d.id, .bool d.dead, .int .i64 d.m.id, .int .i64 d.m.rid, .slice mv.ms.a mv.ms.n mv.ms.c, .slice mv.its.a mv.its.n mv.its.c, .slice mv.lv.a mv.lv.n mv.lv.c, .slice mv.tx.a mv.tx.n mv.tx.c, .int .i64 d.m.rd, .int .i64 d.m.se, .int .i64 d.m.li, .int .i64 d.m.he, .int .i64 d.m.la.c, .int .i64 d.m.la.r, .int .i64 d.m.la.q, .int .i64 d.m.la.a, .int .i64 d.m.la.b, .slice mv.ws.a mv.ws.n mv.ws.c, .int .i64 d.most, .int .i64 d.old, .int .i64 d.jid, .slice js.a js.n js.c, .slice bs.a bs.n bs.c, .slice ls.a ls.n ls.c]) := LB.out.later b
  have BW : Hid (Below w.heap.size w w4) := bl_next BW.out b
  have P1 : Hid (DmO w4 B1 d) := P1.out.below b
  have P2 : Hid (DmO w4 B2 { d with mv := mv, js := js, bs := bs, ls := ls, bu := bu, lo := lo }) := P2.out.below b
  clear b
  go_wp2_with fail
  go_ret
  exact ⟨rfl, BW.out⟩
theorem eqDaemon_any (a b : Dm) (B1 B2 : Nat) (w : World) (h1 : Hid (DmO w B1 a)) (h2 : Hid (DmO w B2 b)) (he : Hid (a.Same b)) (hs : Hid (DmS a)) :
    Calls Try.prog 8 #[.agg #[.int .i64 a.id, .bool a.dead, .int .i64 a.m.id, .int .i64 a.m.rid, .slice a.mv.ms.a a.mv.ms.n a.mv.ms.c, .slice a.mv.its.a a.mv.its.n a.mv.its.c, .slice a.mv.lv.a a.mv.lv.n a.mv.lv.c, .slice a.mv.tx.a a.mv.tx.n a.mv.tx.c, .int .i64 a.m.rd, .int .i64 a.m.se, .int .i64 a.m.li, .int .i64 a.m.he, .int .i64 a.m.la.c, .int .i64 a.m.la.r, .int .i64 a.m.la.q, .int .i64 a.m.la.a, .int .i64 a.m.la.b, .slice a.mv.ws.a a.mv.ws.n a.mv.ws.c, .int .i64 a.most, .int .i64 a.old, .int .i64 a.jid, .slice a.js.a a.js.n a.js.c, .slice a.bs.a a.bs.n a.bs.c, .slice a.ls.a a.ls.n a.ls.c], .agg #[.int .i64 b.id, .bool b.dead, .int .i64 b.m.id, .int .i64 b.m.rid, .slice b.mv.ms.a b.mv.ms.n b.mv.ms.c, .slice b.mv.its.a b.mv.its.n b.mv.its.c, .slice b.mv.lv.a b.mv.lv.n b.mv.lv.c, .slice b.mv.tx.a b.mv.tx.n b.mv.tx.c, .int .i64 b.m.rd, .int .i64 b.m.se, .int .i64 b.m.li, .int .i64 b.m.he, .int .i64 b.m.la.c, .int .i64 b.m.la.r, .int .i64 b.m.la.q, .int .i64 b.m.la.a, .int .i64 b.m.la.b, .slice b.mv.ws.a b.mv.ws.n b.mv.ws.c, .int .i64 b.most, .int .i64 b.old, .int .i64 b.jid, .slice b.js.a b.js.n b.js.c, .slice b.bs.a b.bs.n b.bs.c, .slice b.ls.a b.ls.n b.ls.c]] w fun x w' => x = .returned (.bool true) ∧ Below w.heap.size w w' := by
  obtain ⟨e1, e2, e3, e4, e5, e6, e7, e8, e9⟩ := he.out
  obtain ⟨id, dead, m, mv, most, old, jid, jms, js, bu, bs, lo, ls⟩ := b
  dsimp only at e1 e2 e3 e4 e5 e6 e7 e8 e9
  subst e1 e2 e3 e4 e5 e6 e7
  exact eqDaemon_0 a mv js bs ls bu lo B1 B2 w h1 h2 e8 e9 hs
end Go.Proofs.Ytbecahikjekccaa


/- Lists of bundles, lists of events: marked, and looked at again. Written by gen_gpl.py. -/
namespace Go.Proofs.Ytbecahikjekccaa
open Go.RowKit Pl
set_option linter.unusedVariables false
set_option linter.unusedSimpArgs false

def zBu : Bu := ⟨0, 0, 0, [], zSv⟩
def fdBu (u : Bu) : List Fd := [⟨0, 0, none, []⟩, ⟨1, 0, none, []⟩, ⟨2, 0, none, []⟩, ⟨3, 0, some u.s, [0, 0, 0, 2]⟩]
def atBu (es : List Bu) (j : Nat) : Bu := (es[j]?).getD zBu
theorem atBu_is {es : List Bu} {j : Nat} (h : j < es.length) : atBu es j = es[j] := by simp [atBu, h]
theorem Bu.lvs {w : World} {B : Nat} {e : Bu} (h : e.O w B) : LvS w e.s 4 := SlI.lv h
theorem Bu.ow {w : World} {B : Nat} {e : Bu} (h : e.O w B) {f : Fd} (hf : f ∈ fdBu e) {x : Nat} (hx : f.ow x) : e.own x := by
  obtain ⟨s, h1, h2, h3⟩ := hx
  simp only [fdBu, List.mem_cons, List.not_mem_nil, or_false] at hf
  have lv := Bu.lvs h
  rcases hf with rfl | rfl | rfl | rfl
  · cases h1
  · cases h1
  · cases h1
  · simp only [Option.some.injEq] at h1
    subst h1
    rw [← h3]
    exact ow_own (fun h0 => (lv h0).1) h2
theorem fdBu_ok {w : World} {B : Nat} {s : Sv} {es : List Bu} (h : BusO w B s es) (a : BusA s es) : FdOk w (svB s) 4 es.length (fun j => fdBu (atBu es j)) := by
  refine ⟨fun j hj f hf hs => ?_, fun j hj f hf hx => ?_, fun j hj => ?_, fun i j hij hj f hf f' hf' x hx hy => ?_, fun j hj f hf s' hs => ?_⟩
  · simp only [fdBu, List.mem_cons, List.not_mem_nil, or_false] at hf
    rcases hf with rfl | rfl | rfl | rfl <;> first | (simp; done) | cases hs
  · have ho := h.2 _ (List.getElem_mem hj)
    try dsimp only at hf
    rw [atBu_is hj] at hf
    obtain ⟨ha, _⟩ := rowCells h.1 (by simpa using (by omega : 0 < es.length))
    exact a.row (svB s) (by simp [Sv.v, Value.ownBlock, ha]) _ (List.getElem_mem hj) (Bu.ow ho hf hx)
  · try dsimp only
    rw [atBu_is hj]
    have lv := Bu.lvs (h.2 _ (List.getElem_mem hj))
    obtain ⟨u, hu⟩ : ∃ u, u = es[j] := ⟨_, rfl⟩
    have hm : u ∈ es := by rw [hu]; exact List.getElem_mem hj
    rw [← hu] at lv ⊢
    simp only [fdBu, List.pairwise_cons, List.mem_cons, List.not_mem_nil, or_false, forall_eq_or_imp, forall_eq, List.Pairwise.nil, and_true, Fd.ow]
    simp
  · have ho := h.2 _ (List.getElem_mem hj)
    have hi : i < es.length := by omega
    have hoi := h.2 _ (List.getElem_mem hi)
    try dsimp only at hf hf'
    rw [atBu_is hi] at hf
    rw [atBu_is hj] at hf'
    exact List.pairwise_iff_getElem.1 a.two i j hi hj hij x (Bu.ow hoi hf hx) (Bu.ow ho hf' hy)
  · have lv := Bu.lvs (h.2 _ (List.getElem_mem hj))
    try dsimp only at hf
    rw [atBu_is hj] at hf
    simp only [fdBu, List.mem_cons, List.not_mem_nil, or_false] at hf
    rcases hf with rfl | rfl | rfl | rfl
    · cases hs
    · cases hs
    · cases hs
    · simp only [Option.some.injEq] at hs
      subst hs
      exact lv
theorem pcBu_len (g o : Nat) (u : Bu) : (pc g o (fdBu u)).length = BuSeg.len u := by
  simp [pc, fdBu, Fd.sp, sps_len, BuSeg.len]
  omega
theorem segBu {w : World} {B : Nat} {s : Sv} {es : List Bu} (h : BusO w B s es) (a : BusA s es) : BuSegL w (tls (svB s) (svO s) 4 (fun j => fdBu (atBu es j)) es.length) s.a s.n (atBu es) (tlN (svB s) (svO s) 4 (fun j => fdBu (atBu es j))) := by
  have hF := fdBu_ok h a
  have hn : s.n = es.length := by have := h.1.slen; simpa using this
  rw [hn]
  refine ⟨fun j hj => ?_, fun j hj => ?_⟩
  · obtain ⟨ha, hlt, hc, hfz⟩ := rowCells h.1 (by simpa using (by omega : 0 < es.length))
    have ho := h.2 _ (List.getElem_mem hj)
    have lv := Bu.lvs ho
    refine ⟨svB s, svO s, ha, ?_⟩
    have hat : ∀ r, r < (pc (svB s) (svO s + j * 4) (fdBu (atBu es j))).length → (tls (svB s) (svO s) 4 (fun j => fdBu (atBu es j)) es.length)[tlN (svB s) (svO s) 4 (fun j => fdBu (atBu es j)) j + r]? = (pc (svB s) (svO s + j * 4) (fdBu (atBu es j)))[r]? := fun r hr => tls_at (F := fun j => fdBu (atBu es j)) hj hr
    have hrow : ∀ r u, (es[j].row)[r]? = some u → w.cell? ⟨svB s, svO s + j * 4 + r, none⟩ = some u := fun r u hu => hc j r u (by simpa using hj) (by simpa [hj] using hu)
    have hnot : ∀ c, c < 4 → (∀ i, i < es.length → ∀ f ∈ fdBu (atBu es i), f.s = none → f.c ≠ c) → ∀ x ∈ tls (svB s) (svO s) 4 (fun j => fdBu (atBu es j)) es.length, ¬ (x.1 = svB s ∧ x.2.1 = svO s + j * 4 + c) := fun c hc1 hc2 => tls_not hF hj hc1 hc2
    rw [atBu_is hj] at hat ⊢
    obtain ⟨u, hu⟩ : ∃ u, u = es[j] := ⟨_, rfl⟩
    rw [← hu] at hat hrow lv ⊢
    generalize tlN (svB s) (svO s) 4 (fun j => fdBu (atBu es j)) j = n at *
    generalize tls (svB s) (svO s) 4 (fun j => fdBu (atBu es j)) es.length = TL at *
    generalize svO s + j * 4 = o at *
    generalize svB s = g at *
    have fat : ∀ (A : List Fd) (f : Fd) (C : List Fd) (r : Nat), fdBu u = A ++ f :: C → r < (f.sp g o).length → TL[n + ((pc g o A).length + r)]? = (f.sp g o)[r]? := fun A f C r e hr => by
      rw [hat _ (by rw [e]; exact pc_len_lt A f C hr), e]
      exact pc_at A f C hr
    exact { gl := hlt, p0 := by have h := fat [] ⟨0, 0, none, []⟩ [⟨1, 0, none, []⟩, ⟨2, 0, none, []⟩, ⟨3, 0, some u.s, [0, 0, 0, 2]⟩] 0 rfl (by simp [Fd.sp]); simp [pc, Fd.sp, sps_len] at h; first | exact h | (rw [← h]; congr 1; omega), p1 := by have h := fat [⟨0, 0, none, []⟩] ⟨1, 0, none, []⟩ [⟨2, 0, none, []⟩, ⟨3, 0, some u.s, [0, 0, 0, 2]⟩] 0 rfl (by simp [Fd.sp]); simp [pc, Fd.sp, sps_len] at h; first | exact h | (rw [← h]; congr 1; omega), p2 := by have h := fat [⟨0, 0, none, []⟩, ⟨1, 0, none, []⟩] ⟨2, 0, none, []⟩ [⟨3, 0, some u.s, [0, 0, 0, 2]⟩] 0 rfl (by simp [Fd.sp]); simp [pc, Fd.sp, sps_len] at h; first | exact h | (rw [← h]; congr 1; omega), h3 := hrow 3 _ rfl, q3 := hnot 3 (by omega) (fun i hi f hf hs => by simp only [fdBu, List.mem_cons, List.not_mem_nil, or_false] at hf; rcases hf with rfl | rfl | rfl | rfl <;> first | (simp; done) | cases hs), s3 := seg_of (fun h0 => (lv h0).1) (fun t ht => by have h := fat [⟨0, 0, none, []⟩, ⟨1, 0, none, []⟩, ⟨2, 0, none, []⟩] ⟨3, 0, some u.s, [0, 0, 0, 2]⟩ [] t rfl (by simpa [Fd.sp, sps_len] using ht); have h2 := sps_at (ds := [0, 0, 0, 2]) (s := u.s) ht; refine (congrArg (fun i => TL[i]?) (?_ : _ = n + ((pc g o [⟨0, 0, none, []⟩, ⟨1, 0, none, []⟩, ⟨2, 0, none, []⟩]).length + t))).trans (h.trans h2); simp [pc, Fd.sp, sps_len]; try omega) }
  · rw [tlN_succ, pcBu_len]
/-- a list that is marked from K up to M. -/
def HeldBu (w : World) (s : Sv) (es : List Bu) (K M : Nat) : Prop := ∃ (TL : List Spot) (us : Nat → Bu) (N : Nat → Nat), Held w TL K ∧ BuSegL w TL s.a s.n us N ∧ N 0 = 0 ∧ M = K + N s.n ∧ s.n ≤ 1048576 ∧ (∀ x ∈ TL, BusOwn s es x.1)
theorem HeldBu.keep {w w' : World} {s : Sv} {es : List Bu} {K M : Nat} (h : HeldBu w s es K M) (hz : w.heap.size ≤ w'.heap.size) (hk : ∀ b, BusOwn s es b → b < w.heap.size → w'.heap[b]? = w.heap[b]?) : HeldBu w' s es K M := by
  obtain ⟨TL, us, N, h1, h2, h3, h4, h6, h5⟩ := h
  refine ⟨TL, us, N, fun i x hx => ?_, ⟨fun j hj => ?_, h2.nx⟩, h3, h4, h6, h5⟩
  · obtain ⟨k1, k2⟩ := h1 i x hx
    exact ⟨by omega, (cell_block (hk x.1 (h5 x (List.mem_of_getElem? hx)) k1)).trans k2⟩
  · obtain ⟨g, off, e, x⟩ := h2.one j hj
    have hb := hk g (.inl (by simp [Sv.v, Value.ownBlock, e])) x.gl
    exact ⟨g, off, e, { x with gl := by have := x.gl; omega, h3 := (cell_block hb).trans x.h3 }⟩
theorem HeldBu.later {w w' : World} {s : Sv} {es : List Bu} {K M : Nat} (h : HeldBu w s es K M) (b : Below w.heap.size w w') : HeldBu w' s es K M := h.keep b.size fun k _ hk => b.block k hk
theorem tlN_Bu {w : World} {B : Nat} {s : Sv} {es : List Bu} (h : BusO w B s es) : ∀ k, k ≤ es.length → tlN (svB s) (svO s) 4 (fun j => fdBu (atBu es j)) k ≤ 3 * k + 4 * Bus.tot (es.take k)
  | 0, _ => by simp [tlN, tls]
  | k + 1, hk => by
    have ih := tlN_Bu h k (by omega)
    have ho := h.2 _ (List.getElem_mem (show k < es.length by omega))
    rw [tlN_succ, pcBu_len, Bus.tot_take es k (by omega), atBu_is (by omega)]
    have := SlI.len ho
    unfold BuSeg.len Bu.sz
    omega
theorem markBus_o (s : Sv) (es : List Bu) (B K : Nat) (w : World) (h : Hid (BusO w B s es)) (a : Hid (BusA s es)) (hK : 0 < K) (hn : es.length ≤ 1048576) (hl : K + (3 * es.length + 4 * Bus.tot es) ≤ 39999990) :
    Calls Try.prog 25 #[.slice s.a s.n s.c, .int .i64 K] w fun e w' => ∃ M : Nat, e = .returned (.int .i64 (M : Int)) ∧ K ≤ M ∧ M ≤ K + (3 * es.length + 4 * Bus.tot es) ∧ HeldBu w' s es K M ∧ Gr (BusOwn s es) w w' := by
  have hN := h.out.1.slen
  rw [List.length_map] at hN
  have tok := tls_ok (F := fun j => fdBu (atBu es j)) h.out.1 (by simpa using fdBu_ok h.out a.out)
  rw [List.length_map] at tok
  have sg := segBu h.out a.out
  have hb := tlN_Bu h.out es.length (Nat.le_refl _)
  rw [List.take_of_length_le (Nat.le_refl _)] at hb
  have hle : K + tlN (svB s) (svO s) 4 (fun j => fdBu (atBu es j)) s.n ≤ 39999990 := by rw [hN]; omega
  have hin : ∀ x ∈ tls (svB s) (svO s) 4 (fun j => fdBu (atBu es j)) es.length, BusOwn s es x.1 := fun x hx => by
    rcases tls_in hx with h1 | ⟨j, hj, f, hf, h1⟩
    · obtain ⟨j, hj, _⟩ := tls_mem hx
      obtain ⟨ha, _⟩ := rowCells h.out.1 (by simpa using (by omega : 0 < es.length))
      rw [h1]
      exact .inl (by simp [Sv.v, Value.ownBlock, ha])
    · rw [atBu_is hj] at hf
      exact .inr ⟨_, List.getElem_mem hj, Bu.ow (h.out.2 _ (List.getElem_mem hj)) hf h1⟩
  have hz0 : tlN (svB s) (svO s) 4 (fun j => fdBu (atBu es j)) 0 = 0 := by simp [tlN, tls]
  have mst : MkI w w (tls (svB s) (svO s) 4 (fun j => fdBu (atBu es j)) es.length) K (tlN (svB s) (svO s) 4 (fun j => fdBu (atBu es j)) 0) w := by rw [hz0]; exact MkI.start w _ K
  refine (markbundles_sp w _ K s.a s.n s.c (atBu es) (tlN (svB s) (svO s) 4 (fun j => fdBu (atBu es j))) (K : Int) w tok mst sg (by rw [hz0]; rfl : (K : Int) = ((K + tlN (svB s) (svO s) 4 (fun j => fdBu (atBu es j)) 0 : Nat) : Int)) hle (by rw [hN]; omega) hK).mono ?_
  rintro e w' ⟨M, rfl, hM, mk⟩
  have hTL : tlN (svB s) (svO s) 4 (fun j => fdBu (atBu es j)) s.n = (tls (svB s) (svO s) 4 (fun j => fdBu (atBu es j)) es.length).length := by rw [hN]; rfl
  have b0 := mk.below 0 (fun _ _ => Nat.zero_le _) (Nat.zero_le _)
  refine ⟨M, rfl, by omega, by rw [hM, hN]; omega, ⟨_, _, _, (show Held w' _ K from (by rw [hTL] at mk; exact mk.held tok)), sg.marked mk, by simp [tlN, tls], hM, by rw [hN]; omega, hin⟩, ⟨b0.os, b0.tape, b0.output, mk.size, fun b hb hn => mk.blk b hb (fun x hx e => hn (e ▸ hin x hx))⟩⟩
theorem heldBus_o (s : Sv) (es : List Bu) (K M : Nat) (w : World) (h : Hid (HeldBu w s es K M)) (hK : 0 < K) (hl : M ≤ 39999990) :
    Calls Try.prog 29 #[.slice s.a s.n s.c, .int .i64 K] w fun e w' => e = .returned (.int .i64 (M : Int)) ∧ Below w.heap.size w w' := by
  obtain ⟨TL, us, N, h1, h2, h3, h4, h6, h5⟩ := h.out
  refine (heldbundles_sp TL K s.a s.n s.c us N (K : Int) w h1 h2 (by rw [h3]; rfl : _ = _) (by omega) (by omega) hK).mono ?_
  rintro e w' ⟨M', rfl, hM, b⟩
  exact ⟨by rw [hM, h4], b⟩
def zEv : Ev := ⟨0, 0, [], 0, 0, 0, ⟨#[]⟩, [], zSv, zSv⟩
def fdEv (u : Ev) : List Fd := [⟨0, 0, none, []⟩, ⟨1, 0, none, []⟩, ⟨2, 0, some u.sm, [0]⟩, ⟨3, 0, none, []⟩, ⟨4, 0, none, []⟩, ⟨5, 0, none, []⟩, ⟨6, 2, none, []⟩, ⟨7, 0, some u.sw, [0]⟩]
def atEv (es : List Ev) (j : Nat) : Ev := (es[j]?).getD zEv
theorem atEv_is {es : List Ev} {j : Nat} (h : j < es.length) : atEv es j = es[j] := by simp [atEv, h]
theorem Ev.lvs {w : World} {B : Nat} {e : Ev} (h : e.O w B) : LvS w e.sm 1 ∧ LvS w e.sw 1 := ⟨OwnI.lv h.1, OwnI.lv h.2⟩
theorem Ev.ow {w : World} {B : Nat} {e : Ev} (h : e.O w B) {f : Fd} (hf : f ∈ fdEv e) {x : Nat} (hx : f.ow x) : e.own x := by
  obtain ⟨s, h1, h2, h3⟩ := hx
  simp only [fdEv, List.mem_cons, List.not_mem_nil, or_false] at hf
  have lv := Ev.lvs h
  rcases hf with rfl | rfl | rfl | rfl | rfl | rfl | rfl | rfl
  · cases h1
  · cases h1
  · simp only [Option.some.injEq] at h1
    subst h1
    rw [← h3]
    exact .inl (ow_own (fun h0 => (lv.1 h0).1) h2)
  · cases h1
  · cases h1
  · cases h1
  · cases h1
  · simp only [Option.some.injEq] at h1
    subst h1
    rw [← h3]
    exact .inr (ow_own (fun h0 => (lv.2 h0).1) h2)
theorem fdEv_ok {w : World} {B : Nat} {s : Sv} {es : List Ev} (h : EvsO w B s es) (a : EvsA s es) : FdOk w (svB s) 8 es.length (fun j => fdEv (atEv es j)) := by
  refine ⟨fun j hj f hf hs => ?_, fun j hj f hf hx => ?_, fun j hj => ?_, fun i j hij hj f hf f' hf' x hx hy => ?_, fun j hj f hf s' hs => ?_⟩
  · simp only [fdEv, List.mem_cons, List.not_mem_nil, or_false] at hf
    rcases hf with rfl | rfl | rfl | rfl | rfl | rfl | rfl | rfl <;> first | (simp; done) | cases hs
  · have ho := h.2 _ (List.getElem_mem hj)
    try dsimp only at hf
    rw [atEv_is hj] at hf
    obtain ⟨ha, _⟩ := rowCells h.1 (by simpa using (by omega : 0 < es.length))
    exact a.row (svB s) (by simp [Sv.v, Value.ownBlock, ha]) _ (List.getElem_mem hj) (Ev.ow ho hf hx)
  · try dsimp only
    rw [atEv_is hj]
    have lv := Ev.lvs (h.2 _ (List.getElem_mem hj))
    obtain ⟨u, hu⟩ : ∃ u, u = es[j] := ⟨_, rfl⟩
    have hm : u ∈ es := by rw [hu]; exact List.getElem_mem hj
    rw [← hu] at lv ⊢
    simp only [fdEv, List.pairwise_cons, List.mem_cons, List.not_mem_nil, or_false, forall_eq_or_imp, forall_eq, List.Pairwise.nil, and_true, Fd.ow]
    simp
    intro k1 k3 k4
    exact a.one u hm (svB u.sm) (ow_own (fun h0 => (lv.1 h0).1) k1) (by rw [← k4]; exact ow_own (fun h0 => (lv.2 h0).1) k3)
  · have ho := h.2 _ (List.getElem_mem hj)
    have hi : i < es.length := by omega
    have hoi := h.2 _ (List.getElem_mem hi)
    try dsimp only at hf hf'
    rw [atEv_is hi] at hf
    rw [atEv_is hj] at hf'
    exact List.pairwise_iff_getElem.1 a.two i j hi hj hij x (Ev.ow hoi hf hx) (Ev.ow ho hf' hy)
  · have lv := Ev.lvs (h.2 _ (List.getElem_mem hj))
    try dsimp only at hf
    rw [atEv_is hj] at hf
    simp only [fdEv, List.mem_cons, List.not_mem_nil, or_false] at hf
    rcases hf with rfl | rfl | rfl | rfl | rfl | rfl | rfl | rfl
    · cases hs
    · cases hs
    · simp only [Option.some.injEq] at hs
      subst hs
      exact lv.1
    · cases hs
    · cases hs
    · cases hs
    · cases hs
    · simp only [Option.some.injEq] at hs
      subst hs
      exact lv.2
theorem pcEv_len (g o : Nat) (u : Ev) : (pc g o (fdEv u)).length = EvSeg.len u := by
  simp [pc, fdEv, Fd.sp, sps_len, EvSeg.len]
  omega
theorem segEv {w : World} {B : Nat} {s : Sv} {es : List Ev} (h : EvsO w B s es) (a : EvsA s es) : EvSegL w (tls (svB s) (svO s) 8 (fun j => fdEv (atEv es j)) es.length) s.a s.n (atEv es) (tlN (svB s) (svO s) 8 (fun j => fdEv (atEv es j))) := by
  have hF := fdEv_ok h a
  have hn : s.n = es.length := by have := h.1.slen; simpa using this
  rw [hn]
  refine ⟨fun j hj => ?_, fun j hj => ?_⟩
  · obtain ⟨ha, hlt, hc, hfz⟩ := rowCells h.1 (by simpa using (by omega : 0 < es.length))
    have ho := h.2 _ (List.getElem_mem hj)
    have lv := Ev.lvs ho
    refine ⟨svB s, svO s, ha, ?_⟩
    have hat : ∀ r, r < (pc (svB s) (svO s + j * 8) (fdEv (atEv es j))).length → (tls (svB s) (svO s) 8 (fun j => fdEv (atEv es j)) es.length)[tlN (svB s) (svO s) 8 (fun j => fdEv (atEv es j)) j + r]? = (pc (svB s) (svO s + j * 8) (fdEv (atEv es j)))[r]? := fun r hr => tls_at (F := fun j => fdEv (atEv es j)) hj hr
    have hrow : ∀ r u, (es[j].row)[r]? = some u → w.cell? ⟨svB s, svO s + j * 8 + r, none⟩ = some u := fun r u hu => hc j r u (by simpa using hj) (by simpa [hj] using hu)
    have hnot : ∀ c, c < 8 → (∀ i, i < es.length → ∀ f ∈ fdEv (atEv es i), f.s = none → f.c ≠ c) → ∀ x ∈ tls (svB s) (svO s) 8 (fun j => fdEv (atEv es j)) es.length, ¬ (x.1 = svB s ∧ x.2.1 = svO s + j * 8 + c) := fun c hc1 hc2 => tls_not hF hj hc1 hc2
    rw [atEv_is hj] at hat ⊢
    obtain ⟨u, hu⟩ : ∃ u, u = es[j] := ⟨_, rfl⟩
    rw [← hu] at hat hrow lv ⊢
    generalize tlN (svB s) (svO s) 8 (fun j => fdEv (atEv es j)) j = n at *
    generalize tls (svB s) (svO s) 8 (fun j => fdEv (atEv es j)) es.length = TL at *
    generalize svO s + j * 8 = o at *
    generalize svB s = g at *
    have fat : ∀ (A : List Fd) (f : Fd) (C : List Fd) (r : Nat), fdEv u = A ++ f :: C → r < (f.sp g o).length → TL[n + ((pc g o A).length + r)]? = (f.sp g o)[r]? := fun A f C r e hr => by
      rw [hat _ (by rw [e]; exact pc_len_lt A f C hr), e]
      exact pc_at A f C hr
    exact { gl := hlt, p0 := by have h := fat [] ⟨0, 0, none, []⟩ [⟨1, 0, none, []⟩, ⟨2, 0, some u.sm, [0]⟩, ⟨3, 0, none, []⟩, ⟨4, 0, none, []⟩, ⟨5, 0, none, []⟩, ⟨6, 2, none, []⟩, ⟨7, 0, some u.sw, [0]⟩] 0 rfl (by simp [Fd.sp]); simp [pc, Fd.sp, sps_len] at h; first | exact h | (rw [← h]; congr 1; omega), p1 := by have h := fat [⟨0, 0, none, []⟩] ⟨1, 0, none, []⟩ [⟨2, 0, some u.sm, [0]⟩, ⟨3, 0, none, []⟩, ⟨4, 0, none, []⟩, ⟨5, 0, none, []⟩, ⟨6, 2, none, []⟩, ⟨7, 0, some u.sw, [0]⟩] 0 rfl (by simp [Fd.sp]); simp [pc, Fd.sp, sps_len] at h; first | exact h | (rw [← h]; congr 1; omega), h2 := hrow 2 _ rfl, q2 := hnot 2 (by omega) (fun i hi f hf hs => by simp only [fdEv, List.mem_cons, List.not_mem_nil, or_false] at hf; rcases hf with rfl | rfl | rfl | rfl | rfl | rfl | rfl | rfl <;> first | (simp; done) | cases hs), s2 := seg_of (fun h0 => (lv.1 h0).1) (fun t ht => by have h := fat [⟨0, 0, none, []⟩, ⟨1, 0, none, []⟩] ⟨2, 0, some u.sm, [0]⟩ [⟨3, 0, none, []⟩, ⟨4, 0, none, []⟩, ⟨5, 0, none, []⟩, ⟨6, 2, none, []⟩, ⟨7, 0, some u.sw, [0]⟩] t rfl (by simpa [Fd.sp, sps_len] using ht); have h2 := sps_at (ds := [0]) (s := u.sm) ht; refine (congrArg (fun i => TL[i]?) (?_ : _ = n + ((pc g o [⟨0, 0, none, []⟩, ⟨1, 0, none, []⟩]).length + t))).trans (h.trans h2); simp [pc, Fd.sp, sps_len]; try omega), p3 := by have h := fat [⟨0, 0, none, []⟩, ⟨1, 0, none, []⟩, ⟨2, 0, some u.sm, [0]⟩] ⟨3, 0, none, []⟩ [⟨4, 0, none, []⟩, ⟨5, 0, none, []⟩, ⟨6, 2, none, []⟩, ⟨7, 0, some u.sw, [0]⟩] 0 rfl (by simp [Fd.sp]); simp [pc, Fd.sp, sps_len] at h; first | exact h | (rw [← h]; congr 1; omega), p4 := by have h := fat [⟨0, 0, none, []⟩, ⟨1, 0, none, []⟩, ⟨2, 0, some u.sm, [0]⟩, ⟨3, 0, none, []⟩] ⟨4, 0, none, []⟩ [⟨5, 0, none, []⟩, ⟨6, 2, none, []⟩, ⟨7, 0, some u.sw, [0]⟩] 0 rfl (by simp [Fd.sp]); simp [pc, Fd.sp, sps_len] at h; first | exact h | (rw [← h]; congr 1; omega), p5 := by have h := fat [⟨0, 0, none, []⟩, ⟨1, 0, none, []⟩, ⟨2, 0, some u.sm, [0]⟩, ⟨3, 0, none, []⟩, ⟨4, 0, none, []⟩] ⟨5, 0, none, []⟩ [⟨6, 2, none, []⟩, ⟨7, 0, some u.sw, [0]⟩] 0 rfl (by simp [Fd.sp]); simp [pc, Fd.sp, sps_len] at h; first | exact h | (rw [← h]; congr 1; omega), p6 := by have h := fat [⟨0, 0, none, []⟩, ⟨1, 0, none, []⟩, ⟨2, 0, some u.sm, [0]⟩, ⟨3, 0, none, []⟩, ⟨4, 0, none, []⟩, ⟨5, 0, none, []⟩] ⟨6, 2, none, []⟩ [⟨7, 0, some u.sw, [0]⟩] 0 rfl (by simp [Fd.sp]); simp [pc, Fd.sp, sps_len] at h; first | exact h | (rw [← h]; congr 1; omega), h7 := hrow 7 _ rfl, q7 := hnot 7 (by omega) (fun i hi f hf hs => by simp only [fdEv, List.mem_cons, List.not_mem_nil, or_false] at hf; rcases hf with rfl | rfl | rfl | rfl | rfl | rfl | rfl | rfl <;> first | (simp; done) | cases hs), s7 := seg_of (fun h0 => (lv.2 h0).1) (fun t ht => by have h := fat [⟨0, 0, none, []⟩, ⟨1, 0, none, []⟩, ⟨2, 0, some u.sm, [0]⟩, ⟨3, 0, none, []⟩, ⟨4, 0, none, []⟩, ⟨5, 0, none, []⟩, ⟨6, 2, none, []⟩] ⟨7, 0, some u.sw, [0]⟩ [] t rfl (by simpa [Fd.sp, sps_len] using ht); have h2 := sps_at (ds := [0]) (s := u.sw) ht; refine (congrArg (fun i => TL[i]?) (?_ : _ = n + ((pc g o [⟨0, 0, none, []⟩, ⟨1, 0, none, []⟩, ⟨2, 0, some u.sm, [0]⟩, ⟨3, 0, none, []⟩, ⟨4, 0, none, []⟩, ⟨5, 0, none, []⟩, ⟨6, 2, none, []⟩]).length + t))).trans (h.trans h2); simp [pc, Fd.sp, sps_len]; try omega) }
  · rw [tlN_succ, pcEv_len]
/-- a list that is marked from K up to M. -/
def HeldEv (w : World) (s : Sv) (es : List Ev) (K M : Nat) : Prop := ∃ (TL : List Spot) (us : Nat → Ev) (N : Nat → Nat), Held w TL K ∧ EvSegL w TL s.a s.n us N ∧ N 0 = 0 ∧ M = K + N s.n ∧ s.n ≤ 1048576 ∧ (∀ x ∈ TL, EvsOwn s es x.1)
theorem HeldEv.keep {w w' : World} {s : Sv} {es : List Ev} {K M : Nat} (h : HeldEv w s es K M) (hz : w.heap.size ≤ w'.heap.size) (hk : ∀ b, EvsOwn s es b → b < w.heap.size → w'.heap[b]? = w.heap[b]?) : HeldEv w' s es K M := by
  obtain ⟨TL, us, N, h1, h2, h3, h4, h6, h5⟩ := h
  refine ⟨TL, us, N, fun i x hx => ?_, ⟨fun j hj => ?_, h2.nx⟩, h3, h4, h6, h5⟩
  · obtain ⟨k1, k2⟩ := h1 i x hx
    exact ⟨by omega, (cell_block (hk x.1 (h5 x (List.mem_of_getElem? hx)) k1)).trans k2⟩
  · obtain ⟨g, off, e, x⟩ := h2.one j hj
    have hb := hk g (.inl (by simp [Sv.v, Value.ownBlock, e])) x.gl
    exact ⟨g, off, e, { x with gl := by have := x.gl; omega, h2 := (cell_block hb).trans x.h2, h7 := (cell_block hb).trans x.h7 }⟩
theorem HeldEv.later {w w' : World} {s : Sv} {es : List Ev} {K M : Nat} (h : HeldEv w s es K M) (b : Below w.heap.size w w') : HeldEv w' s es K M := h.keep b.size fun k _ hk => b.block k hk
theorem tlN_Ev {w : World} {B : Nat} {s : Sv} {es : List Ev} (h : EvsO w B s es) : ∀ k, k ≤ es.length → tlN (svB s) (svO s) 8 (fun j => fdEv (atEv es j)) k ≤ 6 * k + 1 * Evs.tot (es.take k)
  | 0, _ => by simp [tlN, tls]
  | k + 1, hk => by
    have ih := tlN_Ev h k (by omega)
    have ho := h.2 _ (List.getElem_mem (show k < es.length by omega))
    rw [tlN_succ, pcEv_len, Evs.tot_take es k (by omega), atEv_is (by omega)]
    have h1 := ho.1.slen
    have h2 := ho.2.slen
    unfold EvSeg.len Ev.sz
    omega
theorem markEvs_o (s : Sv) (es : List Ev) (B K : Nat) (w : World) (h : Hid (EvsO w B s es)) (a : Hid (EvsA s es)) (hK : 0 < K) (hn : es.length ≤ 1048576) (hl : K + (6 * es.length + 1 * Evs.tot es) ≤ 39999990) :
    Calls Try.prog 26 #[.slice s.a s.n s.c, .int .i64 K] w fun e w' => ∃ M : Nat, e = .returned (.int .i64 (M : Int)) ∧ K ≤ M ∧ M ≤ K + (6 * es.length + 1 * Evs.tot es) ∧ HeldEv w' s es K M ∧ Gr (EvsOwn s es) w w' := by
  have hN := h.out.1.slen
  rw [List.length_map] at hN
  have tok := tls_ok (F := fun j => fdEv (atEv es j)) h.out.1 (by simpa using fdEv_ok h.out a.out)
  rw [List.length_map] at tok
  have sg := segEv h.out a.out
  have hb := tlN_Ev h.out es.length (Nat.le_refl _)
  rw [List.take_of_length_le (Nat.le_refl _)] at hb
  have hle : K + tlN (svB s) (svO s) 8 (fun j => fdEv (atEv es j)) s.n ≤ 39999990 := by rw [hN]; omega
  have hin : ∀ x ∈ tls (svB s) (svO s) 8 (fun j => fdEv (atEv es j)) es.length, EvsOwn s es x.1 := fun x hx => by
    rcases tls_in hx with h1 | ⟨j, hj, f, hf, h1⟩
    · obtain ⟨j, hj, _⟩ := tls_mem hx
      obtain ⟨ha, _⟩ := rowCells h.out.1 (by simpa using (by omega : 0 < es.length))
      rw [h1]
      exact .inl (by simp [Sv.v, Value.ownBlock, ha])
    · rw [atEv_is hj] at hf
      exact .inr ⟨_, List.getElem_mem hj, Ev.ow (h.out.2 _ (List.getElem_mem hj)) hf h1⟩
  have hz0 : tlN (svB s) (svO s) 8 (fun j => fdEv (atEv es j)) 0 = 0 := by simp [tlN, tls]
  have mst : MkI w w (tls (svB s) (svO s) 8 (fun j => fdEv (atEv es j)) es.length) K (tlN (svB s) (svO s) 8 (fun j => fdEv (atEv es j)) 0) w := by rw [hz0]; exact MkI.start w _ K
  refine (markevents_sp w _ K s.a s.n s.c (atEv es) (tlN (svB s) (svO s) 8 (fun j => fdEv (atEv es j))) (K : Int) w tok mst sg (by rw [hz0]; rfl : (K : Int) = ((K + tlN (svB s) (svO s) 8 (fun j => fdEv (atEv es j)) 0 : Nat) : Int)) hle (by rw [hN]; omega) hK).mono ?_
  rintro e w' ⟨M, rfl, hM, mk⟩
  have hTL : tlN (svB s) (svO s) 8 (fun j => fdEv (atEv es j)) s.n = (tls (svB s) (svO s) 8 (fun j => fdEv (atEv es j)) es.length).length := by rw [hN]; rfl
  have b0 := mk.below 0 (fun _ _ => Nat.zero_le _) (Nat.zero_le _)
  refine ⟨M, rfl, by omega, by rw [hM, hN]; omega, ⟨_, _, _, (show Held w' _ K from (by rw [hTL] at mk; exact mk.held tok)), sg.marked mk, by simp [tlN, tls], hM, by rw [hN]; omega, hin⟩, ⟨b0.os, b0.tape, b0.output, mk.size, fun b hb hn => mk.blk b hb (fun x hx e => hn (e ▸ hin x hx))⟩⟩
theorem heldEvs_o (s : Sv) (es : List Ev) (K M : Nat) (w : World) (h : Hid (HeldEv w s es K M)) (hK : 0 < K) (hl : M ≤ 39999990) :
    Calls Try.prog 30 #[.slice s.a s.n s.c, .int .i64 K] w fun e w' => e = .returned (.int .i64 (M : Int)) ∧ Below w.heap.size w w' := by
  obtain ⟨TL, us, N, h1, h2, h3, h4, h6, h5⟩ := h.out
  refine (heldevents_sp TL K s.a s.n s.c us N (K : Int) w h1 h2 (by rw [h3]; rfl : _ = _) (by omega) (by omega) hK).mono ?_
  rintro e w' ⟨M', rfl, hM, b⟩
  exact ⟨by rw [hM, h4], b⟩
end Go.Proofs.Ytbecahikjekccaa


/- A daemon: marked, and looked at again. Written by gen_dmk.py. -/
namespace Go.Proofs.Ytbecahikjekccaa
open Go.RowKit Pl
set_option linter.unusedVariables false
set_option linter.unusedSimpArgs false

/-- the blocks of a daemon's lists. -/
def Dm.own (d : Dm) (x : Nat) : Prop := d.mv.own x ∨ d.js.v.ownBlock = some x ∨ BusOwn d.bs d.bu x ∨ EvsOwn d.ls d.lo x
theorem DmO.olt {w : World} {B : Nat} {d : Dm} (h : DmO w B d) {x : Nat} (hx : d.own x) : B ≤ x ∧ x < w.heap.size := by
  rcases hx with hx | hx | hx | hx
  · exact h.mt.lt hx
  · exact h.jo.lt x hx
  · exact h.bu.olt hx
  · exact h.lo.olt hx
theorem BusO.keepo {w w' : World} {B : Nat} {s : Sv} {es : List Bu} (h : BusO w B s es) (hk : ∀ b, BusOwn s es b → b < w.heap.size → w'.heap[b]? = w.heap[b]?) : BusO w' B s es := ⟨h.1.keep fun b hb hl => hk b (.inl hb) hl, fun e he => Sl.keep (h.2 e he) fun b hb hl => hk b (.inr ⟨e, he, hb⟩) hl⟩
theorem EvsO.keepo {w w' : World} {B : Nat} {s : Sv} {es : List Ev} (h : EvsO w B s es) (hk : ∀ b, EvsOwn s es b → b < w.heap.size → w'.heap[b]? = w.heap[b]?) : EvsO w' B s es := ⟨h.1.keep fun b hb hl => hk b (.inl hb) hl, fun e he => ⟨(h.2 e he).1.keep fun b hb hl => hk b (.inr ⟨e, he, .inl hb⟩) hl, (h.2 e he).2.keep fun b hb hl => hk b (.inr ⟨e, he, .inr hb⟩) hl⟩⟩
theorem DmO.keepo {w w' : World} {B : Nat} {d : Dm} (h : DmO w B d) (hk : ∀ b, d.own b → b < w.heap.size → w'.heap[b]? = w.heap[b]?) : DmO w' B d :=
  ⟨h.mt.keep fun b hb hl => hk b (.inl hb) hl, h.jo.keep fun b hb hl => hk b (.inr (.inl hb)) hl, h.bu.keepo fun b hb hl => hk b (.inr (.inr (.inl hb))) hl, h.lo.keepo fun b hb hl => hk b (.inr (.inr (.inr hb))) hl⟩
theorem Gr.up {S S' : Nat → Prop} {a b : World} (h : Gr S a b) (hs : ∀ k, S k → S' k) : Gr S' a b := ⟨h.os, h.tape, h.output, h.size, fun k hk hn => h.block k hk (fun h1 => hn (hs k h1))⟩
theorem Bx.gr {S : Nat → Prop} {a b : World} {g T : Nat} {cs : List Value} (h : Bx a g T cs) (k : Gr S a b) (hn : ¬ S g) : Bx b g T cs := (k.block g h.lt hn).trans h
/-- a daemon that is marked from K up to M. -/
def HeldD (w : World) (B : Nat) (d : Dm) (K M : Nat) : Prop := ∃ K4 : Nat, MtO w B (markM K d.m) d.mv ∧ OwnI w B d.js.v (marks (endM K d.m) d.jms.length) ∧ HeldBu w d.bs d.bu (endM K d.m + d.jms.length) K4 ∧ HeldEv w d.ls d.lo K4 M ∧ 0 < K ∧ endM K d.m + d.jms.length ≤ K4 ∧ K4 ≤ M ∧ M ≤ 39999990
theorem HeldD.keep {w w' : World} {B : Nat} {d : Dm} {K M : Nat} (h : HeldD w B d K M) (hz : w.heap.size ≤ w'.heap.size) (hk : ∀ b, d.own b → b < w.heap.size → w'.heap[b]? = w.heap[b]?) : HeldD w' B d K M := by
  obtain ⟨K4, h1, h2, h3, h4, h5⟩ := h
  exact ⟨K4, h1.keep fun b hb hl => hk b (.inl hb) hl, h2.keep fun b hb hl => hk b (.inr (.inl hb)) hl, h3.keep hz fun b hb hl => hk b (.inr (.inr (.inl hb))) hl, h4.keep hz fun b hb hl => hk b (.inr (.inr (.inr hb))) hl, h5⟩
theorem HeldD.later {w w' : World} {B : Nat} {d : Dm} {K M : Nat} (h : HeldD w B d K M) (b : Below w.heap.size w w') : HeldD w' B d K M := h.keep b.size fun k _ hk => b.block k hk
set_option maxRecDepth 100000 in
set_option maxHeartbeats 8000000 in
theorem markDaemon_o (d : Dm) (B K : Nat) (w : World) (h : Hid (DmO w B d)) (a : Hid (DmA d)) (hs : Hid (DmS d)) (hK : 0 < K) (hKl : K ≤ 10000000) :
    Calls Try.prog 9 #[.agg #[.int .i64 d.id, .bool d.dead, .int .i64 d.m.id, .int .i64 d.m.rid, .slice d.mv.ms.a d.mv.ms.n d.mv.ms.c, .slice d.mv.its.a d.mv.its.n d.mv.its.c, .slice d.mv.lv.a d.mv.lv.n d.mv.lv.c, .slice d.mv.tx.a d.mv.tx.n d.mv.tx.c, .int .i64 d.m.rd, .int .i64 d.m.se, .int .i64 d.m.li, .int .i64 d.m.he, .int .i64 d.m.la.c, .int .i64 d.m.la.r, .int .i64 d.m.la.q, .int .i64 d.m.la.a, .int .i64 d.m.la.b, .slice d.mv.ws.a d.mv.ws.n d.mv.ws.c, .int .i64 d.most, .int .i64 d.old, .int .i64 d.jid, .slice d.js.a d.js.n d.js.c, .slice d.bs.a d.bs.n d.bs.c, .slice d.ls.a d.ls.n d.ls.c], .int .i64 K] w fun e w' => ∃ M : Nat, e = .returned (.int .i64 (M : Int)) ∧ K ≤ M ∧ M ≤ K + 17000000 ∧ HeldD w' B d K M ∧ Gr d.own w w' := by
  have LA : Hid (Bx (w.alloc (.cells #[.int .i64 d.id, .bool d.dead, .int .i64 d.m.id, .int .i64 d.m.rid, .slice d.mv.ms.a d.mv.ms.n d.mv.ms.c, .slice d.mv.its.a d.mv.its.n d.mv.its.c, .slice d.mv.lv.a d.mv.lv.n d.mv.lv.c, .slice d.mv.tx.a d.mv.tx.n d.mv.tx.c, .int .i64 d.m.rd, .int .i64 d.m.se, .int .i64 d.m.li, .int .i64 d.m.he, .int .i64 d.m.la.c, .int .i64 d.m.la.r, .int .i64 d.m.la.q, .int .i64 d.m.la.a, .int .i64 d.m.la.b, .slice d.mv.ws.a d.mv.ws.n d.mv.ws.c, .int .i64 d.most, .int .i64 d.old, .int .i64 d.jid, .slice d.js.a d.js.n d.js.c, .slice d.bs.a d.bs.n d.bs.c, .slice d.ls.a d.ls.n d.ls.c] 34)) w.heap.size 34 [.int .i64 d.id, .bool d.dead, .int .i64 d.m.id, .int .i64 d.m.rid, .slice d.mv.ms.a d.mv.ms.n d.mv.ms.c, .slice d.mv.its.a d.mv.its.n d.mv.its.c, .slice d.mv.lv.a d.mv.lv.n d.mv.lv.c, .slice d.mv.tx.a d.mv.tx.n d.mv.tx.c, .int .i64 d.m.rd, .int .i64 d.m.se, .int .i64 d.m.li, .int .i64 d.m.he, .int .i64 d.m.la.c, .int .i64 d.m.la.r, .int .i64 d.m.la.q, .int .i64 d.m.la.a, .int .i64 d.m.la.b, .slice d.mv.ws.a d.mv.ws.n d.mv.ws.c, .int .i64 d.most, .int .i64 d.old, .int .i64 d.jid, .slice d.js.a d.js.n d.js.c, .slice d.bs.a d.bs.n d.bs.c, .slice d.ls.a d.ls.n d.ls.c]) := by
    have h := Bx.new w 34 [.int .i64 d.id, .bool d.dead, .int .i64 d.m.id, .int .i64 d.m.rid, .slice d.mv.ms.a d.mv.ms.n d.mv.ms.c, .slice d.mv.its.a d.mv.its.n d.mv.its.c, .slice d.mv.lv.a d.mv.lv.n d.mv.lv.c, .slice d.mv.tx.a d.mv.tx.n d.mv.tx.c, .int .i64 d.m.rd, .int .i64 d.m.se, .int .i64 d.m.li, .int .i64 d.m.he, .int .i64 d.m.la.c, .int .i64 d.m.la.r, .int .i64 d.m.la.q, .int .i64 d.m.la.a, .int .i64 d.m.la.b, .slice d.mv.ws.a d.mv.ws.n d.mv.ws.c, .int .i64 d.most, .int .i64 d.old, .int .i64 d.jid, .slice d.js.a d.js.n d.js.c, .slice d.bs.a d.bs.n d.bs.c, .slice d.ls.a d.ls.n d.ls.c]
    exact h
  have BW : Hid (Below w.heap.size w (w.alloc (.cells #[.int .i64 d.id, .bool d.dead, .int .i64 d.m.id, .int .i64 d.m.rid, .slice d.mv.ms.a d.mv.ms.n d.mv.ms.c, .slice d.mv.its.a d.mv.its.n d.mv.its.c, .slice d.mv.lv.a d.mv.lv.n d.mv.lv.c, .slice d.mv.tx.a d.mv.tx.n d.mv.tx.c, .int .i64 d.m.rd, .int .i64 d.m.se, .int .i64 d.m.li, .int .i64 d.m.he, .int .i64 d.m.la.c, .int .i64 d.m.la.r, .int .i64 d.m.la.q, .int .i64 d.m.la.a, .int .i64 d.m.la.b, .slice d.mv.ws.a d.mv.ws.n d.mv.ws.c, .int .i64 d.most, .int .i64 d.old, .int .i64 d.jid, .slice d.js.a d.js.n d.js.c, .slice d.bs.a d.bs.n d.bs.c, .slice d.ls.a d.ls.n d.ls.c] 34))) := ((Below.refl _ _).alloc (by simp) _)
  have P : Hid (DmO (w.alloc (.cells #[.int .i64 d.id, .bool d.dead, .int .i64 d.m.id, .int .i64 d.m.rid, .slice d.mv.ms.a d.mv.ms.n d.mv.ms.c, .slice d.mv.its.a d.mv.its.n d.mv.its.c, .slice d.mv.lv.a d.mv.lv.n d.mv.lv.c, .slice d.mv.tx.a d.mv.tx.n d.mv.tx.c, .int .i64 d.m.rd, .int .i64 d.m.se, .int .i64 d.m.li, .int .i64 d.m.he, .int .i64 d.m.la.c, .int .i64 d.m.la.r, .int .i64 d.m.la.q, .int .i64 d.m.la.a, .int .i64 d.m.la.b, .slice d.mv.ws.a d.mv.ws.n d.mv.ws.c, .int .i64 d.most, .int .i64 d.old, .int .i64 d.jid, .slice d.js.a d.js.n d.js.c, .slice d.bs.a d.bs.n d.bs.c, .slice d.ls.a d.ls.n d.ls.c] 34)) B d) := h.out.below BW.out
  have NE : Hid (∀ x, d.own x → x < w.heap.size) := fun x hx => (h.out.olt hx).2
  have GG : Hid (Gr d.own w (w.alloc (.cells #[.int .i64 d.id, .bool d.dead, .int .i64 d.m.id, .int .i64 d.m.rid, .slice d.mv.ms.a d.mv.ms.n d.mv.ms.c, .slice d.mv.its.a d.mv.its.n d.mv.its.c, .slice d.mv.lv.a d.mv.lv.n d.mv.lv.c, .slice d.mv.tx.a d.mv.tx.n d.mv.tx.c, .int .i64 d.m.rd, .int .i64 d.m.se, .int .i64 d.m.li, .int .i64 d.m.he, .int .i64 d.m.la.c, .int .i64 d.m.la.r, .int .i64 d.m.la.q, .int .i64 d.m.la.a, .int .i64 d.m.la.b, .slice d.mv.ws.a d.mv.ws.n d.mv.ws.c, .int .i64 d.most, .int .i64 d.old, .int .i64 d.jid, .slice d.js.a d.js.n d.js.c, .slice d.bs.a d.bs.n d.bs.c, .slice d.ls.a d.ls.n d.ls.c] 34))) := gr_below BW.out
  have S1 : Hid (endM K d.m ≤ K + 4194304) := (by have h1 := hs.out.mt.all; unfold endM; omega : _ ≤ _)
  have S1g : K ≤ endM K d.m := by unfold endM; omega
  have S2 := hs.out.jo
  have S3 : 3 * d.bu.length + 4 * Bus.tot d.bu ≤ 4194304 := by have := hs.out.bu; omega
  have S4 : 6 * d.lo.length + 1 * Evs.tot d.lo ≤ 6291456 := by have := hs.out.lo; omega
  have S3b := hs.out.bus.1
  have S4b := hs.out.los.1
  clear h
  go_enter Try.func9, Try.ntmps9
  go_wp2_with (first | (refine wpList_ldG rfl 30 _ rfl w.heap.size 2 rfl 34 _ LA.out [.int .i64 d.m.id, .int .i64 d.m.rid, .slice d.mv.ms.a d.mv.ms.n d.mv.ms.c, .slice d.mv.its.a d.mv.its.n d.mv.its.c, .slice d.mv.lv.a d.mv.lv.n d.mv.lv.c, .slice d.mv.tx.a d.mv.tx.n d.mv.tx.c, .int .i64 d.m.rd, .int .i64 d.m.se, .int .i64 d.m.li, .int .i64 d.m.he, .int .i64 d.m.la.c, .int .i64 d.m.la.r, .int .i64 d.m.la.q, .int .i64 d.m.la.a, .int .i64 d.m.la.b, .slice d.mv.ws.a d.mv.ws.n d.mv.ws.c] rfl _ Try.underlying30 rfl Try.sizeM ?_))
  generalize (w.alloc (.cells #[.int .i64 d.id, .bool d.dead, .int .i64 d.m.id, .int .i64 d.m.rid, .slice d.mv.ms.a d.mv.ms.n d.mv.ms.c, .slice d.mv.its.a d.mv.its.n d.mv.its.c, .slice d.mv.lv.a d.mv.lv.n d.mv.lv.c, .slice d.mv.tx.a d.mv.tx.n d.mv.tx.c, .int .i64 d.m.rd, .int .i64 d.m.se, .int .i64 d.m.li, .int .i64 d.m.he, .int .i64 d.m.la.c, .int .i64 d.m.la.r, .int .i64 d.m.la.q, .int .i64 d.m.la.a, .int .i64 d.m.la.b, .slice d.mv.ws.a d.mv.ws.n d.mv.ws.c, .int .i64 d.most, .int .i64 d.old, .int .i64 d.jid, .slice d.js.a d.js.n d.js.c, .slice d.bs.a d.bs.n d.bs.c, .slice d.ls.a d.ls.n d.ls.c] 34)) = W at *
  have PM : Hid (MtO W B d.m d.mv) := P.out.mt
  have PJ : Hid (OwnI W B d.js.v d.jms) := P.out.jo
  have PB : Hid (BusO W B d.bs d.bu) := P.out.bu
  have PL : Hid (EvsO W B d.ls d.lo) := P.out.lo
  clear P BW
  refine (markMate_any d.m d.mv B K _ PM (by have := S1.out; omega) hK).mono ?_
  rintro e w1 ⟨rfl, o1, G⟩
  have LA : Hid (Bx w1 w.heap.size 34 [.int .i64 d.id, .bool d.dead, .int .i64 d.m.id, .int .i64 d.m.rid, .slice d.mv.ms.a d.mv.ms.n d.mv.ms.c, .slice d.mv.its.a d.mv.its.n d.mv.its.c, .slice d.mv.lv.a d.mv.lv.n d.mv.lv.c, .slice d.mv.tx.a d.mv.tx.n d.mv.tx.c, .int .i64 d.m.rd, .int .i64 d.m.se, .int .i64 d.m.li, .int .i64 d.m.he, .int .i64 d.m.la.c, .int .i64 d.m.la.r, .int .i64 d.m.la.q, .int .i64 d.m.la.a, .int .i64 d.m.la.b, .slice d.mv.ws.a d.mv.ws.n d.mv.ws.c, .int .i64 d.most, .int .i64 d.old, .int .i64 d.jid, .slice d.js.a d.js.n d.js.c, .slice d.bs.a d.bs.n d.bs.c, .slice d.ls.a d.ls.n d.ls.c]) := LA.out.gr G (fun h => by have := NE.out _ (Or.inl h); omega)
  have PJ : Hid (OwnI w1 B d.js.v d.jms) := PJ.out.keep fun b hb hl => G.block b hl (fun h => a.out.mj b h hb)
  have PB : Hid (BusO w1 B d.bs d.bu) := PB.out.keepo fun b hb hl => G.block b hl (fun h => a.out.mb b h hb)
  have PL : Hid (EvsO w1 B d.ls d.lo) := PL.out.keepo fun b hb hl => G.block b hl (fun h => a.out.ml b h hb)
  have HM : Hid (MtO w1 B (markM K d.m) d.mv) := o1
  have GG : Hid (Gr d.own w w1) := GG.out.trans (G.up fun x hx => Or.inl hx)
  clear G o1 PM
  obtain ⟨k2, hk2⟩ : ∃ k2, endM K d.m = k2 := ⟨_, rfl⟩
  rw [hk2] at S1 S1g ⊢
  have HK2 : Hid (endM K d.m = k2) := hk2
  clear hk2
  go_wp2_with (first | (refine wpList_ldG rfl 24 _ rfl w.heap.size 20 rfl 34 _ LA.out [.int .i64 d.jid, .slice d.js.a d.js.n d.js.c] rfl _ Try.underlying24 rfl Try.sizeR ?_))
  refine (markRing_any d.jid d.js.v d.jms B k2 _ PJ (by have := S1.out; omega) (by omega)).mono ?_
  rintro e w2 ⟨rfl, o1, g⟩
  have G : Gr (fun x => d.js.v.ownBlock = some x) w1 w2 := Gr.ofGrown g (fun k hk => hk)
  have LA : Hid (Bx w2 w.heap.size 34 [.int .i64 d.id, .bool d.dead, .int .i64 d.m.id, .int .i64 d.m.rid, .slice d.mv.ms.a d.mv.ms.n d.mv.ms.c, .slice d.mv.its.a d.mv.its.n d.mv.its.c, .slice d.mv.lv.a d.mv.lv.n d.mv.lv.c, .slice d.mv.tx.a d.mv.tx.n d.mv.tx.c, .int .i64 d.m.rd, .int .i64 d.m.se, .int .i64 d.m.li, .int .i64 d.m.he, .int .i64 d.m.la.c, .int .i64 d.m.la.r, .int .i64 d.m.la.q, .int .i64 d.m.la.a, .int .i64 d.m.la.b, .slice d.mv.ws.a d.mv.ws.n d.mv.ws.c, .int .i64 d.most, .int .i64 d.old, .int .i64 d.jid, .slice d.js.a d.js.n d.js.c, .slice d.bs.a d.bs.n d.bs.c, .slice d.ls.a d.ls.n d.ls.c]) := LA.out.gr G (fun h => by have := NE.out _ (Or.inr (Or.inl h)); omega)
  have PB : Hid (BusO w2 B d.bs d.bu) := PB.out.keepo fun b hb hl => G.block b hl (fun h => a.out.jb b h hb)
  have PL : Hid (EvsO w2 B d.ls d.lo) := PL.out.keepo fun b hb hl => G.block b hl (fun h => a.out.jl b h hb)
  have HM : Hid (MtO w2 B (markM K d.m) d.mv) := HM.out.keep fun b hb hl => G.block b hl (fun h => a.out.mj b hb h)
  have HJ : Hid (OwnI w2 B d.js.v (marks k2 d.jms.length)) := o1
  have GG : Hid (Gr d.own w w2) := GG.out.trans (G.up fun x hx => Or.inr (Or.inl hx))
  clear G o1 g PJ
  obtain ⟨k3, hk3⟩ : ∃ k3, k2 + d.jms.length = k3 := ⟨_, rfl⟩
  rw [hk3]
  have HK3 : Hid (k2 + d.jms.length = k3) := hk3
  have k3l : K ≤ k3 ∧ k3 ≤ K + 5242880 := by have := S1.out; omega
  clear hk3
  have c22 := LA.out.cell 22
  simp only [List.getElem?_cons_succ, List.getElem?_cons_zero] at c22
  go_wp2_with fail
  clear c22
  refine (markBus_o d.bs d.bu B k3 _ PB a.out.bu (by omega) S3b (by omega)).mono ?_
  rintro e w3 ⟨k4, rfl, m1, m2, o1, G⟩
  have LA : Hid (Bx w3 w.heap.size 34 [.int .i64 d.id, .bool d.dead, .int .i64 d.m.id, .int .i64 d.m.rid, .slice d.mv.ms.a d.mv.ms.n d.mv.ms.c, .slice d.mv.its.a d.mv.its.n d.mv.its.c, .slice d.mv.lv.a d.mv.lv.n d.mv.lv.c, .slice d.mv.tx.a d.mv.tx.n d.mv.tx.c, .int .i64 d.m.rd, .int .i64 d.m.se, .int .i64 d.m.li, .int .i64 d.m.he, .int .i64 d.m.la.c, .int .i64 d.m.la.r, .int .i64 d.m.la.q, .int .i64 d.m.la.a, .int .i64 d.m.la.b, .slice d.mv.ws.a d.mv.ws.n d.mv.ws.c, .int .i64 d.most, .int .i64 d.old, .int .i64 d.jid, .slice d.js.a d.js.n d.js.c, .slice d.bs.a d.bs.n d.bs.c, .slice d.ls.a d.ls.n d.ls.c]) := LA.out.gr G (fun h => by have := NE.out _ (Or.inr (Or.inr (Or.inl h))); omega)
  have PL : Hid (EvsO w3 B d.ls d.lo) := PL.out.keepo fun b hb hl => G.block b hl (fun h => a.out.bl b h hb)
  have HM : Hid (MtO w3 B (markM K d.m) d.mv) := HM.out.keep fun b hb hl => G.block b hl (fun h => a.out.mb b hb h)
  have HJ : Hid (OwnI w3 B d.js.v (marks k2 d.jms.length)) := HJ.out.keep fun b hb hl => G.block b hl (fun h => a.out.jb b hb h)
  have HB : Hid (HeldBu w3 d.bs d.bu k3 k4) := o1
  have GG : Hid (Gr d.own w w3) := GG.out.trans (G.up fun x hx => Or.inr (Or.inr (Or.inl hx)))
  clear G o1 PB
  have c23 := LA.out.cell 23
  simp only [List.getElem?_cons_succ, List.getElem?_cons_zero] at c23
  go_wp2_with fail
  clear c23
  refine (markEvs_o d.ls d.lo B k4 _ PL a.out.lo (by omega) S4b (by omega)).mono ?_
  rintro e w4 ⟨M, rfl, m3, m4, o1, G⟩
  have LA : Hid (Bx w4 w.heap.size 34 [.int .i64 d.id, .bool d.dead, .int .i64 d.m.id, .int .i64 d.m.rid, .slice d.mv.ms.a d.mv.ms.n d.mv.ms.c, .slice d.mv.its.a d.mv.its.n d.mv.its.c, .slice d.mv.lv.a d.mv.lv.n d.mv.lv.c, .slice d.mv.tx.a d.mv.tx.n d.mv.tx.c, .int .i64 d.m.rd, .int .i64 d.m.se, .int .i64 d.m.li, .int .i64 d.m.he, .int .i64 d.m.la.c, .int .i64 d.m.la.r, .int .i64 d.m.la.q, .int .i64 d.m.la.a, .int .i64 d.m.la.b, .slice d.mv.ws.a d.mv.ws.n d.mv.ws.c, .int .i64 d.most, .int .i64 d.old, .int .i64 d.jid, .slice d.js.a d.js.n d.js.c, .slice d.bs.a d.bs.n d.bs.c, .slice d.ls.a d.ls.n d.ls.c]) := LA.out.gr G (fun h => by have := NE.out _ (Or.inr (Or.inr (Or.inr h))); omega)
  have HM : Hid (MtO w4 B (markM K d.m) d.mv) := HM.out.keep fun b hb hl => G.block b hl (fun h => a.out.ml b hb h)
  have HJ : Hid (OwnI w4 B d.js.v (marks k2 d.jms.length)) := HJ.out.keep fun b hb hl => G.block b hl (fun h => a.out.jl b hb h)
  have HB : Hid (HeldBu w4 d.bs d.bu k3 k4) := HB.out.keep G.size fun b hb hl => G.block b hl (fun h => a.out.bl b hb h)
  have HE : Hid (HeldEv w4 d.ls d.lo k4 M) := o1
  have GG : Hid (Gr d.own w w4) := GG.out.trans (G.up fun x hx => Or.inr (Or.inr (Or.inr hx)))
  clear G o1 PL
  go_wp2_with fail
  go_ret
  refine ⟨M, rfl, by omega, by omega, ⟨k4, HM.out, by rw [HK2.out]; exact HJ.out, by rw [HK2.out, HK3.out]; exact HB.out, HE.out, hK, by rw [HK2.out, HK3.out]; exact m1, m3, by omega⟩, GG.out⟩
set_option maxRecDepth 100000 in
set_option maxHeartbeats 8000000 in
theorem heldDaemon_o (d : Dm) (B K M : Nat) (w : World) (h : Hid (HeldD w B d K M)) :
    Calls Try.prog 10 #[.agg #[.int .i64 d.id, .bool d.dead, .int .i64 d.m.id, .int .i64 d.m.rid, .slice d.mv.ms.a d.mv.ms.n d.mv.ms.c, .slice d.mv.its.a d.mv.its.n d.mv.its.c, .slice d.mv.lv.a d.mv.lv.n d.mv.lv.c, .slice d.mv.tx.a d.mv.tx.n d.mv.tx.c, .int .i64 d.m.rd, .int .i64 d.m.se, .int .i64 d.m.li, .int .i64 d.m.he, .int .i64 d.m.la.c, .int .i64 d.m.la.r, .int .i64 d.m.la.q, .int .i64 d.m.la.a, .int .i64 d.m.la.b, .slice d.mv.ws.a d.mv.ws.n d.mv.ws.c, .int .i64 d.most, .int .i64 d.old, .int .i64 d.jid, .slice d.js.a d.js.n d.js.c, .slice d.bs.a d.bs.n d.bs.c, .slice d.ls.a d.ls.n d.ls.c], .int .i64 K] w fun e w' => e = .returned (.int .i64 (M : Int)) ∧ Below w.heap.size w w' := by
  have LA : Hid (Bx (w.alloc (.cells #[.int .i64 d.id, .bool d.dead, .int .i64 d.m.id, .int .i64 d.m.rid, .slice d.mv.ms.a d.mv.ms.n d.mv.ms.c, .slice d.mv.its.a d.mv.its.n d.mv.its.c, .slice d.mv.lv.a d.mv.lv.n d.mv.lv.c, .slice d.mv.tx.a d.mv.tx.n d.mv.tx.c, .int .i64 d.m.rd, .int .i64 d.m.se, .int .i64 d.m.li, .int .i64 d.m.he, .int .i64 d.m.la.c, .int .i64 d.m.la.r, .int .i64 d.m.la.q, .int .i64 d.m.la.a, .int .i64 d.m.la.b, .slice d.mv.ws.a d.mv.ws.n d.mv.ws.c, .int .i64 d.most, .int .i64 d.old, .int .i64 d.jid, .slice d.js.a d.js.n d.js.c, .slice d.bs.a d.bs.n d.bs.c, .slice d.ls.a d.ls.n d.ls.c] 34)) w.heap.size 34 [.int .i64 d.id, .bool d.dead, .int .i64 d.m.id, .int .i64 d.m.rid, .slice d.mv.ms.a d.mv.ms.n d.mv.ms.c, .slice d.mv.its.a d.mv.its.n d.mv.its.c, .slice d.mv.lv.a d.mv.lv.n d.mv.lv.c, .slice d.mv.tx.a d.mv.tx.n d.mv.tx.c, .int .i64 d.m.rd, .int .i64 d.m.se, .int .i64 d.m.li, .int .i64 d.m.he, .int .i64 d.m.la.c, .int .i64 d.m.la.r, .int .i64 d.m.la.q, .int .i64 d.m.la.a, .int .i64 d.m.la.b, .slice d.mv.ws.a d.mv.ws.n d.mv.ws.c, .int .i64 d.most, .int .i64 d.old, .int .i64 d.jid, .slice d.js.a d.js.n d.js.c, .slice d.bs.a d.bs.n d.bs.c, .slice d.ls.a d.ls.n d.ls.c]) := by
    have h := Bx.new w 34 [.int .i64 d.id, .bool d.dead, .int .i64 d.m.id, .int .i64 d.m.rid, .slice d.mv.ms.a d.mv.ms.n d.mv.ms.c, .slice d.mv.its.a d.mv.its.n d.mv.its.c, .slice d.mv.lv.a d.mv.lv.n d.mv.lv.c, .slice d.mv.tx.a d.mv.tx.n d.mv.tx.c, .int .i64 d.m.rd, .int .i64 d.m.se, .int .i64 d.m.li, .int .i64 d.m.he, .int .i64 d.m.la.c, .int .i64 d.m.la.r, .int .i64 d.m.la.q, .int .i64 d.m.la.a, .int .i64 d.m.la.b, .slice d.mv.ws.a d.mv.ws.n d.mv.ws.c, .int .i64 d.most, .int .i64 d.old, .int .i64 d.jid, .slice d.js.a d.js.n d.js.c, .slice d.bs.a d.bs.n d.bs.c, .slice d.ls.a d.ls.n d.ls.c]
    exact h
  have BW : Hid (Below w.heap.size w (w.alloc (.cells #[.int .i64 d.id, .bool d.dead, .int .i64 d.m.id, .int .i64 d.m.rid, .slice d.mv.ms.a d.mv.ms.n d.mv.ms.c, .slice d.mv.its.a d.mv.its.n d.mv.its.c, .slice d.mv.lv.a d.mv.lv.n d.mv.lv.c, .slice d.mv.tx.a d.mv.tx.n d.mv.tx.c, .int .i64 d.m.rd, .int .i64 d.m.se, .int .i64 d.m.li, .int .i64 d.m.he, .int .i64 d.m.la.c, .int .i64 d.m.la.r, .int .i64 d.m.la.q, .int .i64 d.m.la.a, .int .i64 d.m.la.b, .slice d.mv.ws.a d.mv.ws.n d.mv.ws.c, .int .i64 d.most, .int .i64 d.old, .int .i64 d.jid, .slice d.js.a d.js.n d.js.c, .slice d.bs.a d.bs.n d.bs.c, .slice d.ls.a d.ls.n d.ls.c] 34))) := ((Below.refl _ _).alloc (by simp) _)
  have P : Hid (HeldD (w.alloc (.cells #[.int .i64 d.id, .bool d.dead, .int .i64 d.m.id, .int .i64 d.m.rid, .slice d.mv.ms.a d.mv.ms.n d.mv.ms.c, .slice d.mv.its.a d.mv.its.n d.mv.its.c, .slice d.mv.lv.a d.mv.lv.n d.mv.lv.c, .slice d.mv.tx.a d.mv.tx.n d.mv.tx.c, .int .i64 d.m.rd, .int .i64 d.m.se, .int .i64 d.m.li, .int .i64 d.m.he, .int .i64 d.m.la.c, .int .i64 d.m.la.r, .int .i64 d.m.la.q, .int .i64 d.m.la.a, .int .i64 d.m.la.b, .slice d.mv.ws.a d.mv.ws.n d.mv.ws.c, .int .i64 d.most, .int .i64 d.old, .int .i64 d.jid, .slice d.js.a d.js.n d.js.c, .slice d.bs.a d.bs.n d.bs.c, .slice d.ls.a d.ls.n d.ls.c] 34)) B d K M) := h.out.later BW.out
  clear h
  obtain ⟨k4, p1, p2, p3, p4, hK, l1, l2, l3⟩ := P.out
  have HM : Hid (MtO (w.alloc (.cells #[.int .i64 d.id, .bool d.dead, .int .i64 d.m.id, .int .i64 d.m.rid, .slice d.mv.ms.a d.mv.ms.n d.mv.ms.c, .slice d.mv.its.a d.mv.its.n d.mv.its.c, .slice d.mv.lv.a d.mv.lv.n d.mv.lv.c, .slice d.mv.tx.a d.mv.tx.n d.mv.tx.c, .int .i64 d.m.rd, .int .i64 d.m.se, .int .i64 d.m.li, .int .i64 d.m.he, .int .i64 d.m.la.c, .int .i64 d.m.la.r, .int .i64 d.m.la.q, .int .i64 d.m.la.a, .int .i64 d.m.la.b, .slice d.mv.ws.a d.mv.ws.n d.mv.ws.c, .int .i64 d.most, .int .i64 d.old, .int .i64 d.jid, .slice d.js.a d.js.n d.js.c, .slice d.bs.a d.bs.n d.bs.c, .slice d.ls.a d.ls.n d.ls.c] 34)) B (markM K d.m) d.mv) := p1
  have HJ : Hid (OwnI (w.alloc (.cells #[.int .i64 d.id, .bool d.dead, .int .i64 d.m.id, .int .i64 d.m.rid, .slice d.mv.ms.a d.mv.ms.n d.mv.ms.c, .slice d.mv.its.a d.mv.its.n d.mv.its.c, .slice d.mv.lv.a d.mv.lv.n d.mv.lv.c, .slice d.mv.tx.a d.mv.tx.n d.mv.tx.c, .int .i64 d.m.rd, .int .i64 d.m.se, .int .i64 d.m.li, .int .i64 d.m.he, .int .i64 d.m.la.c, .int .i64 d.m.la.r, .int .i64 d.m.la.q, .int .i64 d.m.la.a, .int .i64 d.m.la.b, .slice d.mv.ws.a d.mv.ws.n d.mv.ws.c, .int .i64 d.most, .int .i64 d.old, .int .i64 d.jid, .slice d.js.a d.js.n d.js.c, .slice d.bs.a d.bs.n d.bs.c, .slice d.ls.a d.ls.n d.ls.c] 34)) B d.js.v (marks (endM K d.m) d.jms.length)) := p2
  have HB : Hid (HeldBu (w.alloc (.cells #[.int .i64 d.id, .bool d.dead, .int .i64 d.m.id, .int .i64 d.m.rid, .slice d.mv.ms.a d.mv.ms.n d.mv.ms.c, .slice d.mv.its.a d.mv.its.n d.mv.its.c, .slice d.mv.lv.a d.mv.lv.n d.mv.lv.c, .slice d.mv.tx.a d.mv.tx.n d.mv.tx.c, .int .i64 d.m.rd, .int .i64 d.m.se, .int .i64 d.m.li, .int .i64 d.m.he, .int .i64 d.m.la.c, .int .i64 d.m.la.r, .int .i64 d.m.la.q, .int .i64 d.m.la.a, .int .i64 d.m.la.b, .slice d.mv.ws.a d.mv.ws.n d.mv.ws.c, .int .i64 d.most, .int .i64 d.old, .int .i64 d.jid, .slice d.js.a d.js.n d.js.c, .slice d.bs.a d.bs.n d.bs.c, .slice d.ls.a d.ls.n d.ls.c] 34)) d.bs d.bu (endM K d.m + d.jms.length) k4) := p3
  have HE : Hid (HeldEv (w.alloc (.cells #[.int .i64 d.id, .bool d.dead, .int .i64 d.m.id, .int .i64 d.m.rid, .slice d.mv.ms.a d.mv.ms.n d.mv.ms.c, .slice d.mv.its.a d.mv.its.n d.mv.its.c, .slice d.mv.lv.a d.mv.lv.n d.mv.lv.c, .slice d.mv.tx.a d.mv.tx.n d.mv.tx.c, .int .i64 d.m.rd, .int .i64 d.m.se, .int .i64 d.m.li, .int .i64 d.m.he, .int .i64 d.m.la.c, .int .i64 d.m.la.r, .int .i64 d.m.la.q, .int .i64 d.m.la.a, .int .i64 d.m.la.b, .slice d.mv.ws.a d.mv.ws.n d.mv.ws.c, .int .i64 d.most, .int .i64 d.old, .int .i64 d.jid, .slice d.js.a d.js.n d.js.c, .slice d.bs.a d.bs.n d.bs.c, .slice d.ls.a d.ls.n d.ls.c] 34)) d.ls d.lo k4 M) := p4
  have S1g : K ≤ endM K d.m := by unfold endM; omega
  clear P p1 p2 p3 p4
  go_enter Try.func10, Try.ntmps10
  go_wp2_with (first | (refine wpList_ldG rfl 30 _ rfl w.heap.size 2 rfl 34 _ LA.out [.int .i64 d.m.id, .int .i64 d.m.rid, .slice d.mv.ms.a d.mv.ms.n d.mv.ms.c, .slice d.mv.its.a d.mv.its.n d.mv.its.c, .slice d.mv.lv.a d.mv.lv.n d.mv.lv.c, .slice d.mv.tx.a d.mv.tx.n d.mv.tx.c, .int .i64 d.m.rd, .int .i64 d.m.se, .int .i64 d.m.li, .int .i64 d.m.he, .int .i64 d.m.la.c, .int .i64 d.m.la.r, .int .i64 d.m.la.q, .int .i64 d.m.la.a, .int .i64 d.m.la.b, .slice d.mv.ws.a d.mv.ws.n d.mv.ws.c] rfl _ Try.underlying30 rfl Try.sizeM ?_))
  generalize (w.alloc (.cells #[.int .i64 d.id, .bool d.dead, .int .i64 d.m.id, .int .i64 d.m.rid, .slice d.mv.ms.a d.mv.ms.n d.mv.ms.c, .slice d.mv.its.a d.mv.its.n d.mv.its.c, .slice d.mv.lv.a d.mv.lv.n d.mv.lv.c, .slice d.mv.tx.a d.mv.tx.n d.mv.tx.c, .int .i64 d.m.rd, .int .i64 d.m.se, .int .i64 d.m.li, .int .i64 d.m.he, .int .i64 d.m.la.c, .int .i64 d.m.la.r, .int .i64 d.m.la.q, .int .i64 d.m.la.a, .int .i64 d.m.la.b, .slice d.mv.ws.a d.mv.ws.n d.mv.ws.c, .int .i64 d.most, .int .i64 d.old, .int .i64 d.jid, .slice d.js.a d.js.n d.js.c, .slice d.bs.a d.bs.n d.bs.c, .slice d.ls.a d.ls.n d.ls.c] 34)) = W at *
  refine (heldMate_any d.m d.mv B K _ HM (by omega) hK).mono ?_
  rintro e w1 ⟨rfl, b⟩
  have z_w1 : W.heap.size ≤ w1.heap.size := b.size
  have LA : Hid (Bx w1 w.heap.size 34 [.int .i64 d.id, .bool d.dead, .int .i64 d.m.id, .int .i64 d.m.rid, .slice d.mv.ms.a d.mv.ms.n d.mv.ms.c, .slice d.mv.its.a d.mv.its.n d.mv.its.c, .slice d.mv.lv.a d.mv.lv.n d.mv.lv.c, .slice d.mv.tx.a d.mv.tx.n d.mv.tx.c, .int .i64 d.m.rd, .int .i64 d.m.se, .int .i64 d.m.li, .int .i64 d.m.he, .int .i64 d.m.la.c, .int .i64 d.m.la.r, .int .i64 d.m.la.q, .int .i64 d.m.la.a, .int .i64 d.m.la.b, .slice d.mv.ws.a d.mv.ws.n d.mv.ws.c, .int .i64 d.most, .int .i64 d.old, .int .i64 d.jid, .slice d.js.a d.js.n d.js.c, .slice d.bs.a d.bs.n d.bs.c, .slice d.ls.a d.ls.n d.ls.c]) := LA.out.later b
  have BW : Hid (Below w.heap.size w w1) := bl_next BW.out b
  have HM : Hid (MtO w1 B (markM K d.m) d.mv) := HM.out.later b
  have HJ : Hid (OwnI w1 B d.js.v (marks (endM K d.m) d.jms.length)) := HJ.out.keep fun _ _ hk => (b).block _ hk
  have HB : Hid (HeldBu w1 d.bs d.bu (endM K d.m + d.jms.length) k4) := HB.out.later b
  have HE : Hid (HeldEv w1 d.ls d.lo k4 M) := HE.out.later b
  clear b
  obtain ⟨k2, hk2⟩ : ∃ k2, endM K d.m = k2 := ⟨_, rfl⟩
  rw [hk2] at HJ HB l1 S1g ⊢
  clear hk2
  have hd1 : decide ((k2 : Int) < 0) = false := by simp
  go_wp2_with (first | (refine wpList_ldG rfl 24 _ rfl w.heap.size 20 rfl 34 _ LA.out [.int .i64 d.jid, .slice d.js.a d.js.n d.js.c] rfl _ Try.underlying24 rfl Try.sizeR ?_))
  refine (heldRing_any d.jid d.js.v d.jms.length B k2 _ HJ (by omega) (by omega)).mono ?_
  rintro e w2 ⟨rfl, b⟩
  have z_w2 : w1.heap.size ≤ w2.heap.size := b.size
  have LA : Hid (Bx w2 w.heap.size 34 [.int .i64 d.id, .bool d.dead, .int .i64 d.m.id, .int .i64 d.m.rid, .slice d.mv.ms.a d.mv.ms.n d.mv.ms.c, .slice d.mv.its.a d.mv.its.n d.mv.its.c, .slice d.mv.lv.a d.mv.lv.n d.mv.lv.c, .slice d.mv.tx.a d.mv.tx.n d.mv.tx.c, .int .i64 d.m.rd, .int .i64 d.m.se, .int .i64 d.m.li, .int .i64 d.m.he, .int .i64 d.m.la.c, .int .i64 d.m.la.r, .int .i64 d.m.la.q, .int .i64 d.m.la.a, .int .i64 d.m.la.b, .slice d.mv.ws.a d.mv.ws.n d.mv.ws.c, .int .i64 d.most, .int .i64 d.old, .int .i64 d.jid, .slice d.js.a d.js.n d.js.c, .slice d.bs.a d.bs.n d.bs.c, .slice d.ls.a d.ls.n d.ls.c]) := LA.out.later b
  have BW : Hid (Below w.heap.size w w2) := bl_next BW.out b
  have HM : Hid (MtO w2 B (markM K d.m) d.mv) := HM.out.later b
  have HJ : Hid (OwnI w2 B d.js.v (marks k2 d.jms.length)) := HJ.out.keep fun _ _ hk => (b).block _ hk
  have HB : Hid (HeldBu w2 d.bs d.bu (k2 + d.jms.length) k4) := HB.out.later b
  have HE : Hid (HeldEv w2 d.ls d.lo k4 M) := HE.out.later b
  clear b
  obtain ⟨k3, hk3⟩ : ∃ k3, k2 + d.jms.length = k3 := ⟨_, rfl⟩
  rw [hk3] at HB l1 ⊢
  have k3p : 0 < k3 := by omega
  clear hk3
  have hd2 : decide ((k3 : Int) < 0) = false := by simp
  have c22 := LA.out.cell 22
  simp only [List.getElem?_cons_succ, List.getElem?_cons_zero] at c22
  go_wp2_with fail
  clear c22
  refine (heldBus_o d.bs d.bu k3 k4 _ HB k3p (by omega)).mono ?_
  rintro e w3 ⟨rfl, b⟩
  have z_w3 : w2.heap.size ≤ w3.heap.size := b.size
  have LA : Hid (Bx w3 w.heap.size 34 [.int .i64 d.id, .bool d.dead, .int .i64 d.m.id, .int .i64 d.m.rid, .slice d.mv.ms.a d.mv.ms.n d.mv.ms.c, .slice d.mv.its.a d.mv.its.n d.mv.its.c, .slice d.mv.lv.a d.mv.lv.n d.mv.lv.c, .slice d.mv.tx.a d.mv.tx.n d.mv.tx.c, .int .i64 d.m.rd, .int .i64 d.m.se, .int .i64 d.m.li, .int .i64 d.m.he, .int .i64 d.m.la.c, .int .i64 d.m.la.r, .int .i64 d.m.la.q, .int .i64 d.m.la.a, .int .i64 d.m.la.b, .slice d.mv.ws.a d.mv.ws.n d.mv.ws.c, .int .i64 d.most, .int .i64 d.old, .int .i64 d.jid, .slice d.js.a d.js.n d.js.c, .slice d.bs.a d.bs.n d.bs.c, .slice d.ls.a d.ls.n d.ls.c]) := LA.out.later b
  have BW : Hid (Below w.heap.size w w3) := bl_next BW.out b
  have HM : Hid (MtO w3 B (markM K d.m) d.mv) := HM.out.later b
  have HJ : Hid (OwnI w3 B d.js.v (marks k2 d.jms.length)) := HJ.out.keep fun _ _ hk => (b).block _ hk
  have HB : Hid (HeldBu w3 d.bs d.bu k3 k4) := HB.out.later b
  have HE : Hid (HeldEv w3 d.ls d.lo k4 M) := HE.out.later b
  clear b
  have hd3 : decide ((k4 : Int) < 0) = false := by simp
  have c23 := LA.out.cell 23
  simp only [List.getElem?_cons_succ, List.getElem?_cons_zero] at c23
  go_wp2_with fail
  clear c23
  refine (heldEvs_o d.ls d.lo k4 M _ HE (by omega) (by omega)).mono ?_
  rintro e w4 ⟨rfl, b⟩
  have z_w4 : w3.heap.size ≤ w4.heap.size := b.size
  have LA : Hid (Bx w4 w.heap.size 34 [.int .i64 d.id, .bool d.dead, .int .i64 d.m.id, .int .i64 d.m.rid, .slice d.mv.ms.a d.mv.ms.n d.mv.ms.c, .slice d.mv.its.a d.mv.its.n d.mv.its.c, .slice d.mv.lv.a d.mv.lv.n d.mv.lv.c, .slice d.mv.tx.a d.mv.tx.n d.mv.tx.c, .int .i64 d.m.rd, .int .i64 d.m.se, .int .i64 d.m.li, .int .i64 d.m.he, .int .i64 d.m.la.c, .int .i64 d.m.la.r, .int .i64 d.m.la.q, .int .i64 d.m.la.a, .int .i64 d.m.la.b, .slice d.mv.ws.a d.mv.ws.n d.mv.ws.c, .int .i64 d.most, .int .i64 d.old, .int .i64 d.jid, .slice d.js.a d.js.n d.js.c, .slice d.bs.a d.bs.n d.bs.c, .slice d.ls.a d.ls.n d.ls.c]) := LA.out.later b
  have BW : Hid (Below w.heap.size w w4) := bl_next BW.out b
  have HM : Hid (MtO w4 B (markM K d.m) d.mv) := HM.out.later b
  have HJ : Hid (OwnI w4 B d.js.v (marks k2 d.jms.length)) := HJ.out.keep fun _ _ hk => (b).block _ hk
  have HB : Hid (HeldBu w4 d.bs d.bu k3 k4) := HB.out.later b
  have HE : Hid (HeldEv w4 d.ls d.lo k4 M) := HE.out.later b
  clear b
  have hd4 : decide ((M : Int) < 0) = false := by simp
  go_wp2_with fail
  go_ret
  exact ⟨rfl, BW.out⟩
end Go.Proofs.Ytbecahikjekccaa


/- The law on DaemonNew. Written by gen_lawd.py. -/
namespace Go.Proofs.Ytbecahikjekccaa
open Go.RowKit Pl
set_option linter.unusedVariables false
set_option linter.unusedSimpArgs false

/-- a daemon that has nothing but an Id. -/
def zDm (id : Int) : Dm := ⟨id, false, zMt, zMv, 0, 0, 0, [], zSv, [], zSv, [], zSv⟩
theorem zDm_o (id : Int) (w : World) (B : Nat) : DmO w B (zDm id) := ⟨mto_zero w B, ownI_nil w B, BusO.nil w B, EvsO.nil w B⟩
theorem zDm_own (id : Int) (x : Nat) : ¬ (zDm id).own x := by
  rintro (h | h | h | h)
  · rcases h with h | h | h | h | h <;> cases h
  · cases h
  · rcases h with h | ⟨b, hb, _⟩
    · cases h
    · cases hb
  · rcases h with h | ⟨b, hb, _⟩
    · cases h
    · cases hb
theorem zDm_a (id : Int) : DmA (zDm id) := ⟨fun x h => absurd (Or.inl h) (zDm_own id x), fun x h => absurd (Or.inl h) (zDm_own id x), fun x h => absurd (Or.inl h) (zDm_own id x), fun x h => absurd (Or.inr (Or.inl h)) (zDm_own id x), fun x h => absurd (Or.inr (Or.inl h)) (zDm_own id x), fun x h => absurd (Or.inr (Or.inr (Or.inl h))) (zDm_own id x), ⟨fun y h => (by cases h), List.Pairwise.nil⟩, ⟨fun y h => (by cases h), fun e he => (by cases he), List.Pairwise.nil⟩⟩
theorem zDm_s (id : Int) : DmS (zDm id) := ⟨mts_zero, by simp [zDm], by simp [zDm, Bus.tot], by simp [zDm, Evs.tot]⟩
set_option maxRecDepth 100000 in
set_option maxHeartbeats 2000000 in
theorem daemonNew_yes (id : Int) (w : World) (h : decide (1 ≤ id ∧ id ≤ 5) = true) :
    Calls Try.prog 7 #[.int .i64 id] w fun e w' => e = .returned (.tuple #[.agg #[.int .i64 id, .bool false, .int .i64 0, .int .i64 0, .slice none 0 0, .slice none 0 0, .slice none 0 0, .slice none 0 0, .int .i64 0, .int .i64 0, .int .i64 0, .int .i64 0, .int .i64 0, .int .i64 0, .int .i64 0, .int .i64 0, .int .i64 0, .slice none 0 0, .int .i64 0, .int .i64 0, .int .i64 0, .slice none 0 0, .slice none 0 0, .slice none 0 0], .bool true]) ∧ Below w.heap.size w w' := by
  have HZ : Hid (Bx (w.alloc (.cells #[.int .i64 0, .bool false, .int .i64 0, .int .i64 0, .slice none 0 0, .slice none 0 0, .slice none 0 0, .slice none 0 0, .int .i64 0, .int .i64 0, .int .i64 0, .int .i64 0, .int .i64 0, .int .i64 0, .int .i64 0, .int .i64 0, .int .i64 0, .slice none 0 0, .int .i64 0, .int .i64 0, .int .i64 0, .slice none 0 0, .slice none 0 0, .slice none 0 0] 34)) w.heap.size 34 [.int .i64 0, .bool false, .int .i64 0, .int .i64 0, .slice none 0 0, .slice none 0 0, .slice none 0 0, .slice none 0 0, .int .i64 0, .int .i64 0, .int .i64 0, .int .i64 0, .int .i64 0, .int .i64 0, .int .i64 0, .int .i64 0, .int .i64 0, .slice none 0 0, .int .i64 0, .int .i64 0, .int .i64 0, .slice none 0 0, .slice none 0 0, .slice none 0 0]) := Bx.new w 34 _
  have BW : Hid (Below w.heap.size w (w.alloc (.cells #[.int .i64 0, .bool false, .int .i64 0, .int .i64 0, .slice none 0 0, .slice none 0 0, .slice none 0 0, .slice none 0 0, .int .i64 0, .int .i64 0, .int .i64 0, .int .i64 0, .int .i64 0, .int .i64 0, .int .i64 0, .int .i64 0, .int .i64 0, .slice none 0 0, .int .i64 0, .int .i64 0, .int .i64 0, .slice none 0 0, .slice none 0 0, .slice none 0 0] 34))) := (Below.refl _ _).alloc (Nat.le_refl _) _
  go_enter Try.func7, Try.ntmps7
  go_wp2_with fail
  generalize w.alloc (.cells #[.int .i64 0, .bool false, .int .i64 0, .int .i64 0, .slice none 0 0, .slice none 0 0, .slice none 0 0, .slice none 0 0, .int .i64 0, .int .i64 0, .int .i64 0, .int .i64 0, .int .i64 0, .int .i64 0, .int .i64 0, .int .i64 0, .int .i64 0, .slice none 0 0, .int .i64 0, .int .i64 0, .int .i64 0, .slice none 0 0, .slice none 0 0, .slice none 0 0] 34) = W at *
  refine (within_b id 1 5 _).mono ?_
  rintro e w1 ⟨rfl, b⟩
  have HZ : Hid (Bx w1 w.heap.size 34 [.int .i64 0, .bool false, .int .i64 0, .int .i64 0, .slice none 0 0, .slice none 0 0, .slice none 0 0, .slice none 0 0, .int .i64 0, .int .i64 0, .int .i64 0, .int .i64 0, .int .i64 0, .int .i64 0, .int .i64 0, .int .i64 0, .int .i64 0, .slice none 0 0, .int .i64 0, .int .i64 0, .int .i64 0, .slice none 0 0, .slice none 0 0, .slice none 0 0]) := HZ.out.later b
  have BW : Hid (Below w.heap.size w w1) := bl_next BW.out b
  clear b
  rw [h]
  go_wp2_with (first | (with_reducible refine wpList_haltS 34 _ _ rfl ?_))
  refine Stp.go ?_
  refine wpList_stB rfl 34 _ _ rfl w.heap.size 0 rfl 34 _ HZ.out [.int .i64 id, .bool false, .int .i64 0, .int .i64 0, .slice none 0 0, .slice none 0 0, .slice none 0 0, .slice none 0 0, .int .i64 0, .int .i64 0, .int .i64 0, .int .i64 0, .int .i64 0, .int .i64 0, .int .i64 0, .int .i64 0, .int .i64 0, .slice none 0 0, .int .i64 0, .int .i64 0, .int .i64 0, .slice none 0 0, .slice none 0 0, .slice none 0 0] rfl (by simp) Try.sizeDa rfl [.int .i64 id, .bool false, .int .i64 0, .int .i64 0, .slice none 0 0, .slice none 0 0, .slice none 0 0, .slice none 0 0, .int .i64 0, .int .i64 0, .int .i64 0, .int .i64 0, .int .i64 0, .int .i64 0, .int .i64 0, .int .i64 0, .int .i64 0, .slice none 0 0, .int .i64 0, .int .i64 0, .int .i64 0, .slice none 0 0, .slice none 0 0, .slice none 0 0] rfl ?_
  intro w2 OB TB
  have BW : Hid (Below w.heap.size w w2) := BW.out.trans (TB.below (Nat.le_refl _))
  clear TB HZ
  go_wp2_with fail
  refine bodyPost_ret (results_bt Try.results7 w.heap.size 34 [.int .i64 id, .bool false, .int .i64 0, .int .i64 0, .slice none 0 0, .slice none 0 0, .slice none 0 0, .slice none 0 0, .int .i64 0, .int .i64 0, .int .i64 0, .int .i64 0, .int .i64 0, .int .i64 0, .int .i64 0, .int .i64 0, .int .i64 0, .slice none 0 0, .int .i64 0, .int .i64 0, .int .i64 0, .slice none 0 0, .slice none 0 0, .slice none 0 0] _ rfl OB Try.underlying34 rfl Try.sizeDa) rfl ?_
  exact ⟨rfl, BW.out⟩
set_option maxRecDepth 100000 in
set_option maxHeartbeats 2000000 in
theorem daemonNew_no (id : Int) (w : World) (h : decide (1 ≤ id ∧ id ≤ 5) = false) :
    Calls Try.prog 7 #[.int .i64 id] w fun e w' => e = .returned (.tuple #[.agg #[.int .i64 0, .bool false, .int .i64 0, .int .i64 0, .slice none 0 0, .slice none 0 0, .slice none 0 0, .slice none 0 0, .int .i64 0, .int .i64 0, .int .i64 0, .int .i64 0, .int .i64 0, .int .i64 0, .int .i64 0, .int .i64 0, .int .i64 0, .slice none 0 0, .int .i64 0, .int .i64 0, .int .i64 0, .slice none 0 0, .slice none 0 0, .slice none 0 0], .bool false]) ∧ Below w.heap.size w w' := by
  have HZ : Hid (Bx (w.alloc (.cells #[.int .i64 0, .bool false, .int .i64 0, .int .i64 0, .slice none 0 0, .slice none 0 0, .slice none 0 0, .slice none 0 0, .int .i64 0, .int .i64 0, .int .i64 0, .int .i64 0, .int .i64 0, .int .i64 0, .int .i64 0, .int .i64 0, .int .i64 0, .slice none 0 0, .int .i64 0, .int .i64 0, .int .i64 0, .slice none 0 0, .slice none 0 0, .slice none 0 0] 34)) w.heap.size 34 [.int .i64 0, .bool false, .int .i64 0, .int .i64 0, .slice none 0 0, .slice none 0 0, .slice none 0 0, .slice none 0 0, .int .i64 0, .int .i64 0, .int .i64 0, .int .i64 0, .int .i64 0, .int .i64 0, .int .i64 0, .int .i64 0, .int .i64 0, .slice none 0 0, .int .i64 0, .int .i64 0, .int .i64 0, .slice none 0 0, .slice none 0 0, .slice none 0 0]) := Bx.new w 34 _
  have BW : Hid (Below w.heap.size w (w.alloc (.cells #[.int .i64 0, .bool false, .int .i64 0, .int .i64 0, .slice none 0 0, .slice none 0 0, .slice none 0 0, .slice none 0 0, .int .i64 0, .int .i64 0, .int .i64 0, .int .i64 0, .int .i64 0, .int .i64 0, .int .i64 0, .int .i64 0, .int .i64 0, .slice none 0 0, .int .i64 0, .int .i64 0, .int .i64 0, .slice none 0 0, .slice none 0 0, .slice none 0 0] 34))) := (Below.refl _ _).alloc (Nat.le_refl _) _
  go_enter Try.func7, Try.ntmps7
  go_wp2_with fail
  generalize w.alloc (.cells #[.int .i64 0, .bool false, .int .i64 0, .int .i64 0, .slice none 0 0, .slice none 0 0, .slice none 0 0, .slice none 0 0, .int .i64 0, .int .i64 0, .int .i64 0, .int .i64 0, .int .i64 0, .int .i64 0, .int .i64 0, .int .i64 0, .int .i64 0, .slice none 0 0, .int .i64 0, .int .i64 0, .int .i64 0, .slice none 0 0, .slice none 0 0, .slice none 0 0] 34) = W at *
  refine (within_b id 1 5 _).mono ?_
  rintro e w1 ⟨rfl, b⟩
  have HZ : Hid (Bx w1 w.heap.size 34 [.int .i64 0, .bool false, .int .i64 0, .int .i64 0, .slice none 0 0, .slice none 0 0, .slice none 0 0, .slice none 0 0, .int .i64 0, .int .i64 0, .int .i64 0, .int .i64 0, .int .i64 0, .int .i64 0, .int .i64 0, .int .i64 0, .int .i64 0, .slice none 0 0, .int .i64 0, .int .i64 0, .int .i64 0, .slice none 0 0, .slice none 0 0, .slice none 0 0]) := HZ.out.later b
  have BW : Hid (Below w.heap.size w w1) := bl_next BW.out b
  clear b
  rw [h]
  go_wp2_with (first | (with_reducible refine wpList_haltS 34 _ _ rfl ?_))
  refine Stp.go ?_
  refine wpList_stB rfl 34 _ _ rfl w.heap.size 0 rfl 34 _ HZ.out [.int .i64 0, .bool false, .int .i64 0, .int .i64 0, .slice none 0 0, .slice none 0 0, .slice none 0 0, .slice none 0 0, .int .i64 0, .int .i64 0, .int .i64 0, .int .i64 0, .int .i64 0, .int .i64 0, .int .i64 0, .int .i64 0, .int .i64 0, .slice none 0 0, .int .i64 0, .int .i64 0, .int .i64 0, .slice none 0 0, .slice none 0 0, .slice none 0 0] rfl (by simp) Try.sizeDa rfl [.int .i64 0, .bool false, .int .i64 0, .int .i64 0, .slice none 0 0, .slice none 0 0, .slice none 0 0, .slice none 0 0, .int .i64 0, .int .i64 0, .int .i64 0, .int .i64 0, .int .i64 0, .int .i64 0, .int .i64 0, .int .i64 0, .int .i64 0, .slice none 0 0, .int .i64 0, .int .i64 0, .int .i64 0, .slice none 0 0, .slice none 0 0, .slice none 0 0] rfl ?_
  intro w2 OB TB
  have BW : Hid (Below w.heap.size w w2) := BW.out.trans (TB.below (Nat.le_refl _))
  clear TB HZ
  go_wp2_with fail
  refine bodyPost_ret (results_bt Try.results7 w.heap.size 34 [.int .i64 0, .bool false, .int .i64 0, .int .i64 0, .slice none 0 0, .slice none 0 0, .slice none 0 0, .slice none 0 0, .int .i64 0, .int .i64 0, .int .i64 0, .int .i64 0, .int .i64 0, .int .i64 0, .int .i64 0, .int .i64 0, .int .i64 0, .slice none 0 0, .int .i64 0, .int .i64 0, .int .i64 0, .slice none 0 0, .slice none 0 0, .slice none 0 0] _ rfl OB Try.underlying34 rfl Try.sizeDa) rfl ?_
  exact ⟨rfl, BW.out⟩
set_option maxRecDepth 100000 in
set_option maxHeartbeats 2000000 in
theorem spDaemonNew_yes (id : Int) (w : World) (h : decide (1 ≤ id ∧ id ≤ 5) = true) :
    Calls Try.prog 6 #[.int .i64 id] w fun e w' => e = .returned (.tuple #[.agg #[.int .i64 id, .bool false, .int .i64 0, .int .i64 0, .slice none 0 0, .slice none 0 0, .slice none 0 0, .slice none 0 0, .int .i64 0, .int .i64 0, .int .i64 0, .int .i64 0, .int .i64 0, .int .i64 0, .int .i64 0, .int .i64 0, .int .i64 0, .slice none 0 0, .int .i64 0, .int .i64 0, .int .i64 0, .slice none 0 0, .slice none 0 0, .slice none 0 0], .bool true]) ∧ Below w.heap.size w w' := by
  have HZ : Hid (Bx (w.alloc (.cells #[.int .i64 0, .bool false, .int .i64 0, .int .i64 0, .slice none 0 0, .slice none 0 0, .slice none 0 0, .slice none 0 0, .int .i64 0, .int .i64 0, .int .i64 0, .int .i64 0, .int .i64 0, .int .i64 0, .int .i64 0, .int .i64 0, .int .i64 0, .slice none 0 0, .int .i64 0, .int .i64 0, .int .i64 0, .slice none 0 0, .slice none 0 0, .slice none 0 0] 34)) w.heap.size 34 [.int .i64 0, .bool false, .int .i64 0, .int .i64 0, .slice none 0 0, .slice none 0 0, .slice none 0 0, .slice none 0 0, .int .i64 0, .int .i64 0, .int .i64 0, .int .i64 0, .int .i64 0, .int .i64 0, .int .i64 0, .int .i64 0, .int .i64 0, .slice none 0 0, .int .i64 0, .int .i64 0, .int .i64 0, .slice none 0 0, .slice none 0 0, .slice none 0 0]) := Bx.new w 34 _
  have BW : Hid (Below w.heap.size w (w.alloc (.cells #[.int .i64 0, .bool false, .int .i64 0, .int .i64 0, .slice none 0 0, .slice none 0 0, .slice none 0 0, .slice none 0 0, .int .i64 0, .int .i64 0, .int .i64 0, .int .i64 0, .int .i64 0, .int .i64 0, .int .i64 0, .int .i64 0, .int .i64 0, .slice none 0 0, .int .i64 0, .int .i64 0, .int .i64 0, .slice none 0 0, .slice none 0 0, .slice none 0 0] 34))) := (Below.refl _ _).alloc (Nat.le_refl _) _
  go_enter Try.func6, Try.ntmps6
  go_wp2_with fail
  generalize w.alloc (.cells #[.int .i64 0, .bool false, .int .i64 0, .int .i64 0, .slice none 0 0, .slice none 0 0, .slice none 0 0, .slice none 0 0, .int .i64 0, .int .i64 0, .int .i64 0, .int .i64 0, .int .i64 0, .int .i64 0, .int .i64 0, .int .i64 0, .int .i64 0, .slice none 0 0, .int .i64 0, .int .i64 0, .int .i64 0, .slice none 0 0, .slice none 0 0, .slice none 0 0] 34) = W at *
  refine (in_b id 1 5 _).mono ?_
  rintro e w1 ⟨rfl, b⟩
  have HZ : Hid (Bx w1 w.heap.size 34 [.int .i64 0, .bool false, .int .i64 0, .int .i64 0, .slice none 0 0, .slice none 0 0, .slice none 0 0, .slice none 0 0, .int .i64 0, .int .i64 0, .int .i64 0, .int .i64 0, .int .i64 0, .int .i64 0, .int .i64 0, .int .i64 0, .int .i64 0, .slice none 0 0, .int .i64 0, .int .i64 0, .int .i64 0, .slice none 0 0, .slice none 0 0, .slice none 0 0]) := HZ.out.later b
  have BW : Hid (Below w.heap.size w w1) := bl_next BW.out b
  clear b
  rw [h]
  go_wp2_with (first | (with_reducible refine wpList_haltS 34 _ _ rfl ?_))
  refine Stp.go ?_
  refine wpList_stB rfl 34 _ _ rfl w.heap.size 0 rfl 34 _ HZ.out [.int .i64 id, .bool false, .int .i64 0, .int .i64 0, .slice none 0 0, .slice none 0 0, .slice none 0 0, .slice none 0 0, .int .i64 0, .int .i64 0, .int .i64 0, .int .i64 0, .int .i64 0, .int .i64 0, .int .i64 0, .int .i64 0, .int .i64 0, .slice none 0 0, .int .i64 0, .int .i64 0, .int .i64 0, .slice none 0 0, .slice none 0 0, .slice none 0 0] rfl (by simp) Try.sizeDa rfl [.int .i64 id, .bool false, .int .i64 0, .int .i64 0, .slice none 0 0, .slice none 0 0, .slice none 0 0, .slice none 0 0, .int .i64 0, .int .i64 0, .int .i64 0, .int .i64 0, .int .i64 0, .int .i64 0, .int .i64 0, .int .i64 0, .int .i64 0, .slice none 0 0, .int .i64 0, .int .i64 0, .int .i64 0, .slice none 0 0, .slice none 0 0, .slice none 0 0] rfl ?_
  intro w2 OB TB
  have BW : Hid (Below w.heap.size w w2) := BW.out.trans (TB.below (Nat.le_refl _))
  clear TB HZ
  go_wp2_with fail
  refine bodyPost_ret (results_bt Try.results6 w.heap.size 34 [.int .i64 id, .bool false, .int .i64 0, .int .i64 0, .slice none 0 0, .slice none 0 0, .slice none 0 0, .slice none 0 0, .int .i64 0, .int .i64 0, .int .i64 0, .int .i64 0, .int .i64 0, .int .i64 0, .int .i64 0, .int .i64 0, .int .i64 0, .slice none 0 0, .int .i64 0, .int .i64 0, .int .i64 0, .slice none 0 0, .slice none 0 0, .slice none 0 0] _ rfl OB Try.underlying34 rfl Try.sizeDa) rfl ?_
  exact ⟨rfl, BW.out⟩
set_option maxRecDepth 100000 in
set_option maxHeartbeats 2000000 in
theorem spDaemonNew_no (id : Int) (w : World) (h : decide (1 ≤ id ∧ id ≤ 5) = false) :
    Calls Try.prog 6 #[.int .i64 id] w fun e w' => e = .returned (.tuple #[.agg #[.int .i64 0, .bool false, .int .i64 0, .int .i64 0, .slice none 0 0, .slice none 0 0, .slice none 0 0, .slice none 0 0, .int .i64 0, .int .i64 0, .int .i64 0, .int .i64 0, .int .i64 0, .int .i64 0, .int .i64 0, .int .i64 0, .int .i64 0, .slice none 0 0, .int .i64 0, .int .i64 0, .int .i64 0, .slice none 0 0, .slice none 0 0, .slice none 0 0], .bool false]) ∧ Below w.heap.size w w' := by
  have HZ : Hid (Bx (w.alloc (.cells #[.int .i64 0, .bool false, .int .i64 0, .int .i64 0, .slice none 0 0, .slice none 0 0, .slice none 0 0, .slice none 0 0, .int .i64 0, .int .i64 0, .int .i64 0, .int .i64 0, .int .i64 0, .int .i64 0, .int .i64 0, .int .i64 0, .int .i64 0, .slice none 0 0, .int .i64 0, .int .i64 0, .int .i64 0, .slice none 0 0, .slice none 0 0, .slice none 0 0] 34)) w.heap.size 34 [.int .i64 0, .bool false, .int .i64 0, .int .i64 0, .slice none 0 0, .slice none 0 0, .slice none 0 0, .slice none 0 0, .int .i64 0, .int .i64 0, .int .i64 0, .int .i64 0, .int .i64 0, .int .i64 0, .int .i64 0, .int .i64 0, .int .i64 0, .slice none 0 0, .int .i64 0, .int .i64 0, .int .i64 0, .slice none 0 0, .slice none 0 0, .slice none 0 0]) := Bx.new w 34 _
  have BW : Hid (Below w.heap.size w (w.alloc (.cells #[.int .i64 0, .bool false, .int .i64 0, .int .i64 0, .slice none 0 0, .slice none 0 0, .slice none 0 0, .slice none 0 0, .int .i64 0, .int .i64 0, .int .i64 0, .int .i64 0, .int .i64 0, .int .i64 0, .int .i64 0, .int .i64 0, .int .i64 0, .slice none 0 0, .int .i64 0, .int .i64 0, .int .i64 0, .slice none 0 0, .slice none 0 0, .slice none 0 0] 34))) := (Below.refl _ _).alloc (Nat.le_refl _) _
  go_enter Try.func6, Try.ntmps6
  go_wp2_with fail
  generalize w.alloc (.cells #[.int .i64 0, .bool false, .int .i64 0, .int .i64 0, .slice none 0 0, .slice none 0 0, .slice none 0 0, .slice none 0 0, .int .i64 0, .int .i64 0, .int .i64 0, .int .i64 0, .int .i64 0, .int .i64 0, .int .i64 0, .int .i64 0, .int .i64 0, .slice none 0 0, .int .i64 0, .int .i64 0, .int .i64 0, .slice none 0 0, .slice none 0 0, .slice none 0 0] 34) = W at *
  refine (in_b id 1 5 _).mono ?_
  rintro e w1 ⟨rfl, b⟩
  have HZ : Hid (Bx w1 w.heap.size 34 [.int .i64 0, .bool false, .int .i64 0, .int .i64 0, .slice none 0 0, .slice none 0 0, .slice none 0 0, .slice none 0 0, .int .i64 0, .int .i64 0, .int .i64 0, .int .i64 0, .int .i64 0, .int .i64 0, .int .i64 0, .int .i64 0, .int .i64 0, .slice none 0 0, .int .i64 0, .int .i64 0, .int .i64 0, .slice none 0 0, .slice none 0 0, .slice none 0 0]) := HZ.out.later b
  have BW : Hid (Below w.heap.size w w1) := bl_next BW.out b
  clear b
  rw [h]
  go_wp2_with (first | (with_reducible refine wpList_haltS 34 _ _ rfl ?_))
  refine Stp.go ?_
  refine wpList_stB rfl 34 _ _ rfl w.heap.size 0 rfl 34 _ HZ.out [.int .i64 0, .bool false, .int .i64 0, .int .i64 0, .slice none 0 0, .slice none 0 0, .slice none 0 0, .slice none 0 0, .int .i64 0, .int .i64 0, .int .i64 0, .int .i64 0, .int .i64 0, .int .i64 0, .int .i64 0, .int .i64 0, .int .i64 0, .slice none 0 0, .int .i64 0, .int .i64 0, .int .i64 0, .slice none 0 0, .slice none 0 0, .slice none 0 0] rfl (by simp) Try.sizeDa rfl [.int .i64 0, .bool false, .int .i64 0, .int .i64 0, .slice none 0 0, .slice none 0 0, .slice none 0 0, .slice none 0 0, .int .i64 0, .int .i64 0, .int .i64 0, .int .i64 0, .int .i64 0, .int .i64 0, .int .i64 0, .int .i64 0, .int .i64 0, .slice none 0 0, .int .i64 0, .int .i64 0, .int .i64 0, .slice none 0 0, .slice none 0 0, .slice none 0 0] rfl ?_
  intro w2 OB TB
  have BW : Hid (Below w.heap.size w w2) := BW.out.trans (TB.below (Nat.le_refl _))
  clear TB HZ
  go_wp2_with fail
  refine bodyPost_ret (results_bt Try.results6 w.heap.size 34 [.int .i64 0, .bool false, .int .i64 0, .int .i64 0, .slice none 0 0, .slice none 0 0, .slice none 0 0, .slice none 0 0, .int .i64 0, .int .i64 0, .int .i64 0, .int .i64 0, .int .i64 0, .int .i64 0, .int .i64 0, .int .i64 0, .int .i64 0, .slice none 0 0, .int .i64 0, .int .i64 0, .int .i64 0, .slice none 0 0, .slice none 0 0, .slice none 0 0] _ rfl OB Try.underlying34 rfl Try.sizeDa) rfl ?_
  exact ⟨rfl, BW.out⟩
set_option maxRecDepth 100000 in
set_option maxHeartbeats 32000000 in
theorem lawDN_0 (id : Int) (R : Dm) (OK : Bool) (w : World) (hsR : Hid (DmS R)) (SPC : Hid (∀ (W : World), Calls Try.prog 6 #[.int .i64 id] W fun e w' => ∃ y : Dm, e = .returned (.tuple #[.agg #[.int .i64 y.id, .bool y.dead, .int .i64 y.m.id, .int .i64 y.m.rid, .slice y.mv.ms.a y.mv.ms.n y.mv.ms.c, .slice y.mv.its.a y.mv.its.n y.mv.its.c, .slice y.mv.lv.a y.mv.lv.n y.mv.lv.c, .slice y.mv.tx.a y.mv.tx.n y.mv.tx.c, .int .i64 y.m.rd, .int .i64 y.m.se, .int .i64 y.m.li, .int .i64 y.m.he, .int .i64 y.m.la.c, .int .i64 y.m.la.r, .int .i64 y.m.la.q, .int .i64 y.m.la.a, .int .i64 y.m.la.b, .slice y.mv.ws.a y.mv.ws.n y.mv.ws.c, .int .i64 y.most, .int .i64 y.old, .int .i64 y.jid, .slice y.js.a y.js.n y.js.c, .slice y.bs.a y.bs.n y.bs.c, .slice y.ls.a y.ls.n y.ls.c], .bool OK]) ∧ y.Same R ∧ DmO w' W.heap.size y ∧ DmA y ∧ Below W.heap.size W w')) (IMP : Hid (∀ (W : World), Calls Try.prog 7 #[.int .i64 id] W fun e w' => ∃ y : Dm, e = .returned (.tuple #[.agg #[.int .i64 y.id, .bool y.dead, .int .i64 y.m.id, .int .i64 y.m.rid, .slice y.mv.ms.a y.mv.ms.n y.mv.ms.c, .slice y.mv.its.a y.mv.its.n y.mv.its.c, .slice y.mv.lv.a y.mv.lv.n y.mv.lv.c, .slice y.mv.tx.a y.mv.tx.n y.mv.tx.c, .int .i64 y.m.rd, .int .i64 y.m.se, .int .i64 y.m.li, .int .i64 y.m.he, .int .i64 y.m.la.c, .int .i64 y.m.la.r, .int .i64 y.m.la.q, .int .i64 y.m.la.a, .int .i64 y.m.la.b, .slice y.mv.ws.a y.mv.ws.n y.mv.ws.c, .int .i64 y.most, .int .i64 y.old, .int .i64 y.jid, .slice y.js.a y.js.n y.js.c, .slice y.bs.a y.bs.n y.bs.c, .slice y.ls.a y.ls.n y.ls.c], .bool OK]) ∧ y.Same R ∧ DmO w' W.heap.size y ∧ DmA y ∧ Below W.heap.size W w')) :
    Calls Try.prog 3 #[.int .i64 id] w fun e w' => e = .returned (.bool true) ∧ Below w.heap.size w w' := by
  have dOK : (OK != OK) = false := by simp
  go_enter Try.func3, Try.ntmps3
  have BW : Hid (Below w.heap.size w w) := Below.refl _ _
  go_wp2_with fail
  refine (SPC.out w).mono ?_
  rintro e w3 ⟨dk, rfl, ek, ok, ak, b⟩
  have KO : Hid (DmO w3 w.heap.size dk) := ok
  have EK : Hid (dk.Same R) := ek
  clear ok ek ak
  have z_w3 : w.heap.size ≤ w3.heap.size := b.size
  have BW : Hid (Below w.heap.size w w3) := bl_next BW.out b
  clear b
  have KL0 : Hid (∀ x, dk.own x → x < w3.heap.size) := fun x hx => (KO.out.olt hx).2
  have hz : Hid (Bx (w3.alloc (.cells #[.int .i64 0, .bool false, .int .i64 0, .int .i64 0, .slice none 0 0, .slice none 0 0, .slice none 0 0, .slice none 0 0, .int .i64 0, .int .i64 0, .int .i64 0, .int .i64 0, .int .i64 0, .int .i64 0, .int .i64 0, .int .i64 0, .int .i64 0, .slice none 0 0, .int .i64 0, .int .i64 0, .int .i64 0, .slice none 0 0, .slice none 0 0, .slice none 0 0] 34)) w3.heap.size 34 [.int .i64 0, .bool false, .int .i64 0, .int .i64 0, .slice none 0 0, .slice none 0 0, .slice none 0 0, .slice none 0 0, .int .i64 0, .int .i64 0, .int .i64 0, .int .i64 0, .int .i64 0, .int .i64 0, .int .i64 0, .int .i64 0, .int .i64 0, .slice none 0 0, .int .i64 0, .int .i64 0, .int .i64 0, .slice none 0 0, .slice none 0 0, .slice none 0 0]) := Bx.new w3 34 _
  go_wp2_with (first | (refine wpList_stB rfl 34 _ _ rfl w3.heap.size 0 rfl 34 _ hz.out [.int .i64 dk.id, .bool dk.dead, .int .i64 dk.m.id, .int .i64 dk.m.rid, .slice dk.mv.ms.a dk.mv.ms.n dk.mv.ms.c, .slice dk.mv.its.a dk.mv.its.n dk.mv.its.c, .slice dk.mv.lv.a dk.mv.lv.n dk.mv.lv.c, .slice dk.mv.tx.a dk.mv.tx.n dk.mv.tx.c, .int .i64 dk.m.rd, .int .i64 dk.m.se, .int .i64 dk.m.li, .int .i64 dk.m.he, .int .i64 dk.m.la.c, .int .i64 dk.m.la.r, .int .i64 dk.m.la.q, .int .i64 dk.m.la.a, .int .i64 dk.m.la.b, .slice dk.mv.ws.a dk.mv.ws.n dk.mv.ws.c, .int .i64 dk.most, .int .i64 dk.old, .int .i64 dk.jid, .slice dk.js.a dk.js.n dk.js.c, .slice dk.bs.a dk.bs.n dk.bs.c, .slice dk.ls.a dk.ls.n dk.ls.c] rfl (by simp) Try.sizeDa rfl [.int .i64 dk.id, .bool dk.dead, .int .i64 dk.m.id, .int .i64 dk.m.rid, .slice dk.mv.ms.a dk.mv.ms.n dk.mv.ms.c, .slice dk.mv.its.a dk.mv.its.n dk.mv.its.c, .slice dk.mv.lv.a dk.mv.lv.n dk.mv.lv.c, .slice dk.mv.tx.a dk.mv.tx.n dk.mv.tx.c, .int .i64 dk.m.rd, .int .i64 dk.m.se, .int .i64 dk.m.li, .int .i64 dk.m.he, .int .i64 dk.m.la.c, .int .i64 dk.m.la.r, .int .i64 dk.m.la.q, .int .i64 dk.m.la.a, .int .i64 dk.m.la.b, .slice dk.mv.ws.a dk.mv.ws.n dk.mv.ws.c, .int .i64 dk.most, .int .i64 dk.old, .int .i64 dk.jid, .slice dk.js.a dk.js.n dk.js.c, .slice dk.bs.a dk.bs.n dk.bs.c, .slice dk.ls.a dk.ls.n dk.ls.c] rfl ?_; intro WK OB TB; have b : Below w3.heap.size w3 WK := ((Below.refl _ _).alloc (Nat.le_refl _) _).trans (TB.below (Nat.le_refl _)); have KB : Hid (Bx WK w3.heap.size 34 [.int .i64 dk.id, .bool dk.dead, .int .i64 dk.m.id, .int .i64 dk.m.rid, .slice dk.mv.ms.a dk.mv.ms.n dk.mv.ms.c, .slice dk.mv.its.a dk.mv.its.n dk.mv.its.c, .slice dk.mv.lv.a dk.mv.lv.n dk.mv.lv.c, .slice dk.mv.tx.a dk.mv.tx.n dk.mv.tx.c, .int .i64 dk.m.rd, .int .i64 dk.m.se, .int .i64 dk.m.li, .int .i64 dk.m.he, .int .i64 dk.m.la.c, .int .i64 dk.m.la.r, .int .i64 dk.m.la.q, .int .i64 dk.m.la.a, .int .i64 dk.m.la.b, .slice dk.mv.ws.a dk.mv.ws.n dk.mv.ws.c, .int .i64 dk.most, .int .i64 dk.old, .int .i64 dk.jid, .slice dk.js.a dk.js.n dk.js.c, .slice dk.bs.a dk.bs.n dk.bs.c, .slice dk.ls.a dk.ls.n dk.ls.c]) := OB; have z_WK : w3.heap.size ≤ WK.heap.size := b.size; have BW : Hid (Below w.heap.size w WK) := bl_next BW.out b; have KO : Hid (DmO WK w.heap.size dk) := KO.out.below b; clear OB TB b; refine Stp.here ?_))
  refine Stp.go ?_
  clear hz
  have zl_KB : w3.heap.size < WK.heap.size := KB.out.lt
  generalize hg_KB : w3.heap.size = gKB at *
  have KL : Hid (∀ x, dk.own x → x < WK.heap.size) := fun x hx => by have := KL0.out x hx; have := KB.out.lt; omega
  clear KL0
  have zK : gKB < WK.heap.size := KB.out.lt
  have zw : w.heap.size ≤ WK.heap.size := BW.out.size
  go_wp2_with fail
  refine (IMP.out _).mono ?_
  rintro e w5 ⟨dg, rfl, eg, og, ag, b⟩
  have GO : Hid (DmO w5 WK.heap.size dg) := og
  have EG : Hid (dg.Same R) := eg
  have AG : Hid (DmA dg) := ag
  clear og eg ag
  have z_w5 : WK.heap.size ≤ w5.heap.size := b.size
  have BW : Hid (Below w.heap.size w w5) := bl_next BW.out b
  have KO : Hid (DmO w5 w.heap.size dk) := KO.out.below b
  have KB : Hid (Bx w5 gKB 34 [.int .i64 dk.id, .bool dk.dead, .int .i64 dk.m.id, .int .i64 dk.m.rid, .slice dk.mv.ms.a dk.mv.ms.n dk.mv.ms.c, .slice dk.mv.its.a dk.mv.its.n dk.mv.its.c, .slice dk.mv.lv.a dk.mv.lv.n dk.mv.lv.c, .slice dk.mv.tx.a dk.mv.tx.n dk.mv.tx.c, .int .i64 dk.m.rd, .int .i64 dk.m.se, .int .i64 dk.m.li, .int .i64 dk.m.he, .int .i64 dk.m.la.c, .int .i64 dk.m.la.r, .int .i64 dk.m.la.q, .int .i64 dk.m.la.a, .int .i64 dk.m.la.b, .slice dk.mv.ws.a dk.mv.ws.n dk.mv.ws.c, .int .i64 dk.most, .int .i64 dk.old, .int .i64 dk.jid, .slice dk.js.a dk.js.n dk.js.c, .slice dk.bs.a dk.bs.n dk.bs.c, .slice dk.ls.a dk.ls.n dk.ls.c]) := KB.out.later b
  clear b
  have GL : Hid (∀ x, dg.own x → WK.heap.size ≤ x ∧ x < w5.heap.size) := fun x hx => GO.out.olt hx
  have hz : Hid (Bx (w5.alloc (.cells #[.int .i64 0, .bool false, .int .i64 0, .int .i64 0, .slice none 0 0, .slice none 0 0, .slice none 0 0, .slice none 0 0, .int .i64 0, .int .i64 0, .int .i64 0, .int .i64 0, .int .i64 0, .int .i64 0, .int .i64 0, .int .i64 0, .int .i64 0, .slice none 0 0, .int .i64 0, .int .i64 0, .int .i64 0, .slice none 0 0, .slice none 0 0, .slice none 0 0] 34)) w5.heap.size 34 [.int .i64 0, .bool false, .int .i64 0, .int .i64 0, .slice none 0 0, .slice none 0 0, .slice none 0 0, .slice none 0 0, .int .i64 0, .int .i64 0, .int .i64 0, .int .i64 0, .int .i64 0, .int .i64 0, .int .i64 0, .int .i64 0, .int .i64 0, .slice none 0 0, .int .i64 0, .int .i64 0, .int .i64 0, .slice none 0 0, .slice none 0 0, .slice none 0 0]) := Bx.new w5 34 _
  go_wp2_with (first | (refine wpList_stB rfl 34 _ _ rfl w5.heap.size 0 rfl 34 _ hz.out [.int .i64 dg.id, .bool dg.dead, .int .i64 dg.m.id, .int .i64 dg.m.rid, .slice dg.mv.ms.a dg.mv.ms.n dg.mv.ms.c, .slice dg.mv.its.a dg.mv.its.n dg.mv.its.c, .slice dg.mv.lv.a dg.mv.lv.n dg.mv.lv.c, .slice dg.mv.tx.a dg.mv.tx.n dg.mv.tx.c, .int .i64 dg.m.rd, .int .i64 dg.m.se, .int .i64 dg.m.li, .int .i64 dg.m.he, .int .i64 dg.m.la.c, .int .i64 dg.m.la.r, .int .i64 dg.m.la.q, .int .i64 dg.m.la.a, .int .i64 dg.m.la.b, .slice dg.mv.ws.a dg.mv.ws.n dg.mv.ws.c, .int .i64 dg.most, .int .i64 dg.old, .int .i64 dg.jid, .slice dg.js.a dg.js.n dg.js.c, .slice dg.bs.a dg.bs.n dg.bs.c, .slice dg.ls.a dg.ls.n dg.ls.c] rfl (by simp) Try.sizeDa rfl [.int .i64 dg.id, .bool dg.dead, .int .i64 dg.m.id, .int .i64 dg.m.rid, .slice dg.mv.ms.a dg.mv.ms.n dg.mv.ms.c, .slice dg.mv.its.a dg.mv.its.n dg.mv.its.c, .slice dg.mv.lv.a dg.mv.lv.n dg.mv.lv.c, .slice dg.mv.tx.a dg.mv.tx.n dg.mv.tx.c, .int .i64 dg.m.rd, .int .i64 dg.m.se, .int .i64 dg.m.li, .int .i64 dg.m.he, .int .i64 dg.m.la.c, .int .i64 dg.m.la.r, .int .i64 dg.m.la.q, .int .i64 dg.m.la.a, .int .i64 dg.m.la.b, .slice dg.mv.ws.a dg.mv.ws.n dg.mv.ws.c, .int .i64 dg.most, .int .i64 dg.old, .int .i64 dg.jid, .slice dg.js.a dg.js.n dg.js.c, .slice dg.bs.a dg.bs.n dg.bs.c, .slice dg.ls.a dg.ls.n dg.ls.c] rfl ?_; intro WG OB TB; have b : Below w5.heap.size w5 WG := ((Below.refl _ _).alloc (Nat.le_refl _) _).trans (TB.below (Nat.le_refl _)); have GB : Hid (Bx WG w5.heap.size 34 [.int .i64 dg.id, .bool dg.dead, .int .i64 dg.m.id, .int .i64 dg.m.rid, .slice dg.mv.ms.a dg.mv.ms.n dg.mv.ms.c, .slice dg.mv.its.a dg.mv.its.n dg.mv.its.c, .slice dg.mv.lv.a dg.mv.lv.n dg.mv.lv.c, .slice dg.mv.tx.a dg.mv.tx.n dg.mv.tx.c, .int .i64 dg.m.rd, .int .i64 dg.m.se, .int .i64 dg.m.li, .int .i64 dg.m.he, .int .i64 dg.m.la.c, .int .i64 dg.m.la.r, .int .i64 dg.m.la.q, .int .i64 dg.m.la.a, .int .i64 dg.m.la.b, .slice dg.mv.ws.a dg.mv.ws.n dg.mv.ws.c, .int .i64 dg.most, .int .i64 dg.old, .int .i64 dg.jid, .slice dg.js.a dg.js.n dg.js.c, .slice dg.bs.a dg.bs.n dg.bs.c, .slice dg.ls.a dg.ls.n dg.ls.c]) := OB; have z_WG : w5.heap.size ≤ WG.heap.size := b.size; have BW : Hid (Below w.heap.size w WG) := bl_next BW.out b; have KO : Hid (DmO WG w.heap.size dk) := KO.out.below b; have KB : Hid (Bx WG gKB 34 [.int .i64 dk.id, .bool dk.dead, .int .i64 dk.m.id, .int .i64 dk.m.rid, .slice dk.mv.ms.a dk.mv.ms.n dk.mv.ms.c, .slice dk.mv.its.a dk.mv.its.n dk.mv.its.c, .slice dk.mv.lv.a dk.mv.lv.n dk.mv.lv.c, .slice dk.mv.tx.a dk.mv.tx.n dk.mv.tx.c, .int .i64 dk.m.rd, .int .i64 dk.m.se, .int .i64 dk.m.li, .int .i64 dk.m.he, .int .i64 dk.m.la.c, .int .i64 dk.m.la.r, .int .i64 dk.m.la.q, .int .i64 dk.m.la.a, .int .i64 dk.m.la.b, .slice dk.mv.ws.a dk.mv.ws.n dk.mv.ws.c, .int .i64 dk.most, .int .i64 dk.old, .int .i64 dk.jid, .slice dk.js.a dk.js.n dk.js.c, .slice dk.bs.a dk.bs.n dk.bs.c, .slice dk.ls.a dk.ls.n dk.ls.c]) := KB.out.later b; have GO : Hid (DmO WG WK.heap.size dg) := GO.out.below b; clear OB TB b; refine Stp.here ?_))
  refine Stp.go ?_
  clear hz
  have zl_GB : w5.heap.size < WG.heap.size := GB.out.lt
  generalize hg_GB : w5.heap.size = gGB at *
  have zG : gGB < WG.heap.size := GB.out.lt
  have SG : Hid (dg.Same dk) := EG.out.trans EK.out.symm
  have SMG : Hid (DmS dg) := EG.out.small hsR.out
  go_wp2_with (first | (refine wpList_ldG rfl 34 _ rfl gGB 0 rfl 34 _ GB.out [.int .i64 dg.id, .bool dg.dead, .int .i64 dg.m.id, .int .i64 dg.m.rid, .slice dg.mv.ms.a dg.mv.ms.n dg.mv.ms.c, .slice dg.mv.its.a dg.mv.its.n dg.mv.its.c, .slice dg.mv.lv.a dg.mv.lv.n dg.mv.lv.c, .slice dg.mv.tx.a dg.mv.tx.n dg.mv.tx.c, .int .i64 dg.m.rd, .int .i64 dg.m.se, .int .i64 dg.m.li, .int .i64 dg.m.he, .int .i64 dg.m.la.c, .int .i64 dg.m.la.r, .int .i64 dg.m.la.q, .int .i64 dg.m.la.a, .int .i64 dg.m.la.b, .slice dg.mv.ws.a dg.mv.ws.n dg.mv.ws.c, .int .i64 dg.most, .int .i64 dg.old, .int .i64 dg.jid, .slice dg.js.a dg.js.n dg.js.c, .slice dg.bs.a dg.bs.n dg.bs.c, .slice dg.ls.a dg.ls.n dg.ls.c] rfl _ Try.underlying34 rfl Try.sizeDa ?_) | (refine wpList_ldG rfl 34 _ rfl gKB 0 rfl 34 _ KB.out [.int .i64 dk.id, .bool dk.dead, .int .i64 dk.m.id, .int .i64 dk.m.rid, .slice dk.mv.ms.a dk.mv.ms.n dk.mv.ms.c, .slice dk.mv.its.a dk.mv.its.n dk.mv.its.c, .slice dk.mv.lv.a dk.mv.lv.n dk.mv.lv.c, .slice dk.mv.tx.a dk.mv.tx.n dk.mv.tx.c, .int .i64 dk.m.rd, .int .i64 dk.m.se, .int .i64 dk.m.li, .int .i64 dk.m.he, .int .i64 dk.m.la.c, .int .i64 dk.m.la.r, .int .i64 dk.m.la.q, .int .i64 dk.m.la.a, .int .i64 dk.m.la.b, .slice dk.mv.ws.a dk.mv.ws.n dk.mv.ws.c, .int .i64 dk.most, .int .i64 dk.old, .int .i64 dk.jid, .slice dk.js.a dk.js.n dk.js.c, .slice dk.bs.a dk.bs.n dk.bs.c, .slice dk.ls.a dk.ls.n dk.ls.c] rfl _ Try.underlying34 rfl Try.sizeDa ?_))
  refine (eqDaemon_any dg dk _ _ _ GO KO SG SMG).mono ?_
  rintro e w6 ⟨rfl, b⟩
  have z_w6 : WG.heap.size ≤ w6.heap.size := b.size
  have BW : Hid (Below w.heap.size w w6) := bl_next BW.out b
  have KO : Hid (DmO w6 w.heap.size dk) := KO.out.below b
  have KB : Hid (Bx w6 gKB 34 [.int .i64 dk.id, .bool dk.dead, .int .i64 dk.m.id, .int .i64 dk.m.rid, .slice dk.mv.ms.a dk.mv.ms.n dk.mv.ms.c, .slice dk.mv.its.a dk.mv.its.n dk.mv.its.c, .slice dk.mv.lv.a dk.mv.lv.n dk.mv.lv.c, .slice dk.mv.tx.a dk.mv.tx.n dk.mv.tx.c, .int .i64 dk.m.rd, .int .i64 dk.m.se, .int .i64 dk.m.li, .int .i64 dk.m.he, .int .i64 dk.m.la.c, .int .i64 dk.m.la.r, .int .i64 dk.m.la.q, .int .i64 dk.m.la.a, .int .i64 dk.m.la.b, .slice dk.mv.ws.a dk.mv.ws.n dk.mv.ws.c, .int .i64 dk.most, .int .i64 dk.old, .int .i64 dk.jid, .slice dk.js.a dk.js.n dk.js.c, .slice dk.bs.a dk.bs.n dk.bs.c, .slice dk.ls.a dk.ls.n dk.ls.c]) := KB.out.later b
  have GO : Hid (DmO w6 WK.heap.size dg) := GO.out.below b
  have GB : Hid (Bx w6 gGB 34 [.int .i64 dg.id, .bool dg.dead, .int .i64 dg.m.id, .int .i64 dg.m.rid, .slice dg.mv.ms.a dg.mv.ms.n dg.mv.ms.c, .slice dg.mv.its.a dg.mv.its.n dg.mv.its.c, .slice dg.mv.lv.a dg.mv.lv.n dg.mv.lv.c, .slice dg.mv.tx.a dg.mv.tx.n dg.mv.tx.c, .int .i64 dg.m.rd, .int .i64 dg.m.se, .int .i64 dg.m.li, .int .i64 dg.m.he, .int .i64 dg.m.la.c, .int .i64 dg.m.la.r, .int .i64 dg.m.la.q, .int .i64 dg.m.la.a, .int .i64 dg.m.la.b, .slice dg.mv.ws.a dg.mv.ws.n dg.mv.ws.c, .int .i64 dg.most, .int .i64 dg.old, .int .i64 dg.jid, .slice dg.js.a dg.js.n dg.js.c, .slice dg.bs.a dg.bs.n dg.bs.c, .slice dg.ls.a dg.ls.n dg.ls.c]) := GB.out.later b
  clear b
  go_wp2_with (first | (refine wpList_ldG rfl 34 _ rfl gGB 0 rfl 34 _ GB.out [.int .i64 dg.id, .bool dg.dead, .int .i64 dg.m.id, .int .i64 dg.m.rid, .slice dg.mv.ms.a dg.mv.ms.n dg.mv.ms.c, .slice dg.mv.its.a dg.mv.its.n dg.mv.its.c, .slice dg.mv.lv.a dg.mv.lv.n dg.mv.lv.c, .slice dg.mv.tx.a dg.mv.tx.n dg.mv.tx.c, .int .i64 dg.m.rd, .int .i64 dg.m.se, .int .i64 dg.m.li, .int .i64 dg.m.he, .int .i64 dg.m.la.c, .int .i64 dg.m.la.r, .int .i64 dg.m.la.q, .int .i64 dg.m.la.a, .int .i64 dg.m.la.b, .slice dg.mv.ws.a dg.mv.ws.n dg.mv.ws.c, .int .i64 dg.most, .int .i64 dg.old, .int .i64 dg.jid, .slice dg.js.a dg.js.n dg.js.c, .slice dg.bs.a dg.bs.n dg.bs.c, .slice dg.ls.a dg.ls.n dg.ls.c] rfl _ Try.underlying34 rfl Try.sizeDa ?_))
  refine (markDaemon_o dg _ 1 _ GO AG SMG (by omega) (by omega)).mono ?_
  rintro e w11 ⟨M, rfl, m3, m4, HD, G⟩
  have HD : Hid (HeldD w11 WK.heap.size dg 1 M) := HD
  have hM0 : decide ((M : Int) < 0) = false := by simp
  have hMM : decide ((M : Int) = (M : Int)) = true := by simp
  have zc : WK.heap.size ≤ w6.heap.size := by have := GB.out.lt; omega
  have BW : Hid (Below w.heap.size w w11) := BW.out.trans (G.below (fun x hx => by have := (GL.out x hx).1; omega) BW.out.size)
  have KB : Hid (Bx w11 gKB 34 [.int .i64 dk.id, .bool dk.dead, .int .i64 dk.m.id, .int .i64 dk.m.rid, .slice dk.mv.ms.a dk.mv.ms.n dk.mv.ms.c, .slice dk.mv.its.a dk.mv.its.n dk.mv.its.c, .slice dk.mv.lv.a dk.mv.lv.n dk.mv.lv.c, .slice dk.mv.tx.a dk.mv.tx.n dk.mv.tx.c, .int .i64 dk.m.rd, .int .i64 dk.m.se, .int .i64 dk.m.li, .int .i64 dk.m.he, .int .i64 dk.m.la.c, .int .i64 dk.m.la.r, .int .i64 dk.m.la.q, .int .i64 dk.m.la.a, .int .i64 dk.m.la.b, .slice dk.mv.ws.a dk.mv.ws.n dk.mv.ws.c, .int .i64 dk.most, .int .i64 dk.old, .int .i64 dk.jid, .slice dk.js.a dk.js.n dk.js.c, .slice dk.bs.a dk.bs.n dk.bs.c, .slice dk.ls.a dk.ls.n dk.ls.c]) := KB.out.gr G (fun h => by have := (GL.out _ h).1; omega)
  have GB : Hid (Bx w11 gGB 34 [.int .i64 dg.id, .bool dg.dead, .int .i64 dg.m.id, .int .i64 dg.m.rid, .slice dg.mv.ms.a dg.mv.ms.n dg.mv.ms.c, .slice dg.mv.its.a dg.mv.its.n dg.mv.its.c, .slice dg.mv.lv.a dg.mv.lv.n dg.mv.lv.c, .slice dg.mv.tx.a dg.mv.tx.n dg.mv.tx.c, .int .i64 dg.m.rd, .int .i64 dg.m.se, .int .i64 dg.m.li, .int .i64 dg.m.he, .int .i64 dg.m.la.c, .int .i64 dg.m.la.r, .int .i64 dg.m.la.q, .int .i64 dg.m.la.a, .int .i64 dg.m.la.b, .slice dg.mv.ws.a dg.mv.ws.n dg.mv.ws.c, .int .i64 dg.most, .int .i64 dg.old, .int .i64 dg.jid, .slice dg.js.a dg.js.n dg.js.c, .slice dg.bs.a dg.bs.n dg.bs.c, .slice dg.ls.a dg.ls.n dg.ls.c]) := GB.out.gr G (fun h => by have := (GL.out _ h).2; omega)
  have KO : Hid (DmO w11 w.heap.size dk) := KO.out.keepo fun b hb hl => G.block b hl (fun h => by have := KL.out b hb; have := (GL.out b h).1; omega)
  clear G GO AG SG
  go_wp2_with (first | (refine wpList_ldG rfl 34 _ rfl gGB 0 rfl 34 _ GB.out [.int .i64 dg.id, .bool dg.dead, .int .i64 dg.m.id, .int .i64 dg.m.rid, .slice dg.mv.ms.a dg.mv.ms.n dg.mv.ms.c, .slice dg.mv.its.a dg.mv.its.n dg.mv.its.c, .slice dg.mv.lv.a dg.mv.lv.n dg.mv.lv.c, .slice dg.mv.tx.a dg.mv.tx.n dg.mv.tx.c, .int .i64 dg.m.rd, .int .i64 dg.m.se, .int .i64 dg.m.li, .int .i64 dg.m.he, .int .i64 dg.m.la.c, .int .i64 dg.m.la.r, .int .i64 dg.m.la.q, .int .i64 dg.m.la.a, .int .i64 dg.m.la.b, .slice dg.mv.ws.a dg.mv.ws.n dg.mv.ws.c, .int .i64 dg.most, .int .i64 dg.old, .int .i64 dg.jid, .slice dg.js.a dg.js.n dg.js.c, .slice dg.bs.a dg.bs.n dg.bs.c, .slice dg.ls.a dg.ls.n dg.ls.c] rfl _ Try.underlying34 rfl Try.sizeDa ?_))
  refine (heldDaemon_o dg _ 1 M _ HD).mono ?_
  rintro e w12 ⟨rfl, b⟩
  have z_w12 : w11.heap.size ≤ w12.heap.size := b.size
  have BW : Hid (Below w.heap.size w w12) := bl_next BW.out b
  have KO : Hid (DmO w12 w.heap.size dk) := KO.out.below b
  have KB : Hid (Bx w12 gKB 34 [.int .i64 dk.id, .bool dk.dead, .int .i64 dk.m.id, .int .i64 dk.m.rid, .slice dk.mv.ms.a dk.mv.ms.n dk.mv.ms.c, .slice dk.mv.its.a dk.mv.its.n dk.mv.its.c, .slice dk.mv.lv.a dk.mv.lv.n dk.mv.lv.c, .slice dk.mv.tx.a dk.mv.tx.n dk.mv.tx.c, .int .i64 dk.m.rd, .int .i64 dk.m.se, .int .i64 dk.m.li, .int .i64 dk.m.he, .int .i64 dk.m.la.c, .int .i64 dk.m.la.r, .int .i64 dk.m.la.q, .int .i64 dk.m.la.a, .int .i64 dk.m.la.b, .slice dk.mv.ws.a dk.mv.ws.n dk.mv.ws.c, .int .i64 dk.most, .int .i64 dk.old, .int .i64 dk.jid, .slice dk.js.a dk.js.n dk.js.c, .slice dk.bs.a dk.bs.n dk.bs.c, .slice dk.ls.a dk.ls.n dk.ls.c]) := KB.out.later b
  have GB : Hid (Bx w12 gGB 34 [.int .i64 dg.id, .bool dg.dead, .int .i64 dg.m.id, .int .i64 dg.m.rid, .slice dg.mv.ms.a dg.mv.ms.n dg.mv.ms.c, .slice dg.mv.its.a dg.mv.its.n dg.mv.its.c, .slice dg.mv.lv.a dg.mv.lv.n dg.mv.lv.c, .slice dg.mv.tx.a dg.mv.tx.n dg.mv.tx.c, .int .i64 dg.m.rd, .int .i64 dg.m.se, .int .i64 dg.m.li, .int .i64 dg.m.he, .int .i64 dg.m.la.c, .int .i64 dg.m.la.r, .int .i64 dg.m.la.q, .int .i64 dg.m.la.a, .int .i64 dg.m.la.b, .slice dg.mv.ws.a dg.mv.ws.n dg.mv.ws.c, .int .i64 dg.most, .int .i64 dg.old, .int .i64 dg.jid, .slice dg.js.a dg.js.n dg.js.c, .slice dg.bs.a dg.bs.n dg.bs.c, .slice dg.ls.a dg.ls.n dg.ls.c]) := GB.out.later b
  have HD : Hid (HeldD w12 WK.heap.size dg 1 M) := HD.out.later b
  clear b
  go_wp2_with fail
  refine (IMP.out _).mono ?_
  rintro e w14 ⟨de, rfl, eg, og, ag, b⟩
  have EO : Hid (DmO w14 w12.heap.size de) := og
  have EE : Hid (de.Same dk) := eg.trans EK.out.symm
  have SME : Hid (DmS de) := eg.small hsR.out
  clear og eg ag
  have z_w14 : w12.heap.size ≤ w14.heap.size := b.size
  have BW : Hid (Below w.heap.size w w14) := bl_next BW.out b
  have KO : Hid (DmO w14 w.heap.size dk) := KO.out.below b
  have KB : Hid (Bx w14 gKB 34 [.int .i64 dk.id, .bool dk.dead, .int .i64 dk.m.id, .int .i64 dk.m.rid, .slice dk.mv.ms.a dk.mv.ms.n dk.mv.ms.c, .slice dk.mv.its.a dk.mv.its.n dk.mv.its.c, .slice dk.mv.lv.a dk.mv.lv.n dk.mv.lv.c, .slice dk.mv.tx.a dk.mv.tx.n dk.mv.tx.c, .int .i64 dk.m.rd, .int .i64 dk.m.se, .int .i64 dk.m.li, .int .i64 dk.m.he, .int .i64 dk.m.la.c, .int .i64 dk.m.la.r, .int .i64 dk.m.la.q, .int .i64 dk.m.la.a, .int .i64 dk.m.la.b, .slice dk.mv.ws.a dk.mv.ws.n dk.mv.ws.c, .int .i64 dk.most, .int .i64 dk.old, .int .i64 dk.jid, .slice dk.js.a dk.js.n dk.js.c, .slice dk.bs.a dk.bs.n dk.bs.c, .slice dk.ls.a dk.ls.n dk.ls.c]) := KB.out.later b
  have GB : Hid (Bx w14 gGB 34 [.int .i64 dg.id, .bool dg.dead, .int .i64 dg.m.id, .int .i64 dg.m.rid, .slice dg.mv.ms.a dg.mv.ms.n dg.mv.ms.c, .slice dg.mv.its.a dg.mv.its.n dg.mv.its.c, .slice dg.mv.lv.a dg.mv.lv.n dg.mv.lv.c, .slice dg.mv.tx.a dg.mv.tx.n dg.mv.tx.c, .int .i64 dg.m.rd, .int .i64 dg.m.se, .int .i64 dg.m.li, .int .i64 dg.m.he, .int .i64 dg.m.la.c, .int .i64 dg.m.la.r, .int .i64 dg.m.la.q, .int .i64 dg.m.la.a, .int .i64 dg.m.la.b, .slice dg.mv.ws.a dg.mv.ws.n dg.mv.ws.c, .int .i64 dg.most, .int .i64 dg.old, .int .i64 dg.jid, .slice dg.js.a dg.js.n dg.js.c, .slice dg.bs.a dg.bs.n dg.bs.c, .slice dg.ls.a dg.ls.n dg.ls.c]) := GB.out.later b
  have HD : Hid (HeldD w14 WK.heap.size dg 1 M) := HD.out.later b
  clear b
  have hz : Hid (Bx (w14.alloc (.cells #[.int .i64 0, .bool false, .int .i64 0, .int .i64 0, .slice none 0 0, .slice none 0 0, .slice none 0 0, .slice none 0 0, .int .i64 0, .int .i64 0, .int .i64 0, .int .i64 0, .int .i64 0, .int .i64 0, .int .i64 0, .int .i64 0, .int .i64 0, .slice none 0 0, .int .i64 0, .int .i64 0, .int .i64 0, .slice none 0 0, .slice none 0 0, .slice none 0 0] 34)) w14.heap.size 34 [.int .i64 0, .bool false, .int .i64 0, .int .i64 0, .slice none 0 0, .slice none 0 0, .slice none 0 0, .slice none 0 0, .int .i64 0, .int .i64 0, .int .i64 0, .int .i64 0, .int .i64 0, .int .i64 0, .int .i64 0, .int .i64 0, .int .i64 0, .slice none 0 0, .int .i64 0, .int .i64 0, .int .i64 0, .slice none 0 0, .slice none 0 0, .slice none 0 0]) := Bx.new w14 34 _
  go_wp2_with (first | (refine wpList_stB rfl 34 _ _ rfl w14.heap.size 0 rfl 34 _ hz.out [.int .i64 de.id, .bool de.dead, .int .i64 de.m.id, .int .i64 de.m.rid, .slice de.mv.ms.a de.mv.ms.n de.mv.ms.c, .slice de.mv.its.a de.mv.its.n de.mv.its.c, .slice de.mv.lv.a de.mv.lv.n de.mv.lv.c, .slice de.mv.tx.a de.mv.tx.n de.mv.tx.c, .int .i64 de.m.rd, .int .i64 de.m.se, .int .i64 de.m.li, .int .i64 de.m.he, .int .i64 de.m.la.c, .int .i64 de.m.la.r, .int .i64 de.m.la.q, .int .i64 de.m.la.a, .int .i64 de.m.la.b, .slice de.mv.ws.a de.mv.ws.n de.mv.ws.c, .int .i64 de.most, .int .i64 de.old, .int .i64 de.jid, .slice de.js.a de.js.n de.js.c, .slice de.bs.a de.bs.n de.bs.c, .slice de.ls.a de.ls.n de.ls.c] rfl (by simp) Try.sizeDa rfl [.int .i64 de.id, .bool de.dead, .int .i64 de.m.id, .int .i64 de.m.rid, .slice de.mv.ms.a de.mv.ms.n de.mv.ms.c, .slice de.mv.its.a de.mv.its.n de.mv.its.c, .slice de.mv.lv.a de.mv.lv.n de.mv.lv.c, .slice de.mv.tx.a de.mv.tx.n de.mv.tx.c, .int .i64 de.m.rd, .int .i64 de.m.se, .int .i64 de.m.li, .int .i64 de.m.he, .int .i64 de.m.la.c, .int .i64 de.m.la.r, .int .i64 de.m.la.q, .int .i64 de.m.la.a, .int .i64 de.m.la.b, .slice de.mv.ws.a de.mv.ws.n de.mv.ws.c, .int .i64 de.most, .int .i64 de.old, .int .i64 de.jid, .slice de.js.a de.js.n de.js.c, .slice de.bs.a de.bs.n de.bs.c, .slice de.ls.a de.ls.n de.ls.c] rfl ?_; intro WE OB TB; have b : Below w14.heap.size w14 WE := ((Below.refl _ _).alloc (Nat.le_refl _) _).trans (TB.below (Nat.le_refl _)); have EB : Hid (Bx WE w14.heap.size 34 [.int .i64 de.id, .bool de.dead, .int .i64 de.m.id, .int .i64 de.m.rid, .slice de.mv.ms.a de.mv.ms.n de.mv.ms.c, .slice de.mv.its.a de.mv.its.n de.mv.its.c, .slice de.mv.lv.a de.mv.lv.n de.mv.lv.c, .slice de.mv.tx.a de.mv.tx.n de.mv.tx.c, .int .i64 de.m.rd, .int .i64 de.m.se, .int .i64 de.m.li, .int .i64 de.m.he, .int .i64 de.m.la.c, .int .i64 de.m.la.r, .int .i64 de.m.la.q, .int .i64 de.m.la.a, .int .i64 de.m.la.b, .slice de.mv.ws.a de.mv.ws.n de.mv.ws.c, .int .i64 de.most, .int .i64 de.old, .int .i64 de.jid, .slice de.js.a de.js.n de.js.c, .slice de.bs.a de.bs.n de.bs.c, .slice de.ls.a de.ls.n de.ls.c]) := OB; have z_WE : w14.heap.size ≤ WE.heap.size := b.size; have BW : Hid (Below w.heap.size w WE) := bl_next BW.out b; have KO : Hid (DmO WE w.heap.size dk) := KO.out.below b; have KB : Hid (Bx WE gKB 34 [.int .i64 dk.id, .bool dk.dead, .int .i64 dk.m.id, .int .i64 dk.m.rid, .slice dk.mv.ms.a dk.mv.ms.n dk.mv.ms.c, .slice dk.mv.its.a dk.mv.its.n dk.mv.its.c, .slice dk.mv.lv.a dk.mv.lv.n dk.mv.lv.c, .slice dk.mv.tx.a dk.mv.tx.n dk.mv.tx.c, .int .i64 dk.m.rd, .int .i64 dk.m.se, .int .i64 dk.m.li, .int .i64 dk.m.he, .int .i64 dk.m.la.c, .int .i64 dk.m.la.r, .int .i64 dk.m.la.q, .int .i64 dk.m.la.a, .int .i64 dk.m.la.b, .slice dk.mv.ws.a dk.mv.ws.n dk.mv.ws.c, .int .i64 dk.most, .int .i64 dk.old, .int .i64 dk.jid, .slice dk.js.a dk.js.n dk.js.c, .slice dk.bs.a dk.bs.n dk.bs.c, .slice dk.ls.a dk.ls.n dk.ls.c]) := KB.out.later b; have GB : Hid (Bx WE gGB 34 [.int .i64 dg.id, .bool dg.dead, .int .i64 dg.m.id, .int .i64 dg.m.rid, .slice dg.mv.ms.a dg.mv.ms.n dg.mv.ms.c, .slice dg.mv.its.a dg.mv.its.n dg.mv.its.c, .slice dg.mv.lv.a dg.mv.lv.n dg.mv.lv.c, .slice dg.mv.tx.a dg.mv.tx.n dg.mv.tx.c, .int .i64 dg.m.rd, .int .i64 dg.m.se, .int .i64 dg.m.li, .int .i64 dg.m.he, .int .i64 dg.m.la.c, .int .i64 dg.m.la.r, .int .i64 dg.m.la.q, .int .i64 dg.m.la.a, .int .i64 dg.m.la.b, .slice dg.mv.ws.a dg.mv.ws.n dg.mv.ws.c, .int .i64 dg.most, .int .i64 dg.old, .int .i64 dg.jid, .slice dg.js.a dg.js.n dg.js.c, .slice dg.bs.a dg.bs.n dg.bs.c, .slice dg.ls.a dg.ls.n dg.ls.c]) := GB.out.later b; have HD : Hid (HeldD WE WK.heap.size dg 1 M) := HD.out.later b; have EO : Hid (DmO WE w12.heap.size de) := EO.out.below b; clear OB TB b; refine Stp.here ?_))
  refine Stp.go ?_
  clear hz
  have zl_EB : w14.heap.size < WE.heap.size := EB.out.lt
  generalize hg_EB : w14.heap.size = gEB at *
  go_wp2_with (first | (refine wpList_ldG rfl 34 _ rfl gEB 0 rfl 34 _ EB.out [.int .i64 de.id, .bool de.dead, .int .i64 de.m.id, .int .i64 de.m.rid, .slice de.mv.ms.a de.mv.ms.n de.mv.ms.c, .slice de.mv.its.a de.mv.its.n de.mv.its.c, .slice de.mv.lv.a de.mv.lv.n de.mv.lv.c, .slice de.mv.tx.a de.mv.tx.n de.mv.tx.c, .int .i64 de.m.rd, .int .i64 de.m.se, .int .i64 de.m.li, .int .i64 de.m.he, .int .i64 de.m.la.c, .int .i64 de.m.la.r, .int .i64 de.m.la.q, .int .i64 de.m.la.a, .int .i64 de.m.la.b, .slice de.mv.ws.a de.mv.ws.n de.mv.ws.c, .int .i64 de.most, .int .i64 de.old, .int .i64 de.jid, .slice de.js.a de.js.n de.js.c, .slice de.bs.a de.bs.n de.bs.c, .slice de.ls.a de.ls.n de.ls.c] rfl _ Try.underlying34 rfl Try.sizeDa ?_) | (refine wpList_ldG rfl 34 _ rfl gKB 0 rfl 34 _ KB.out [.int .i64 dk.id, .bool dk.dead, .int .i64 dk.m.id, .int .i64 dk.m.rid, .slice dk.mv.ms.a dk.mv.ms.n dk.mv.ms.c, .slice dk.mv.its.a dk.mv.its.n dk.mv.its.c, .slice dk.mv.lv.a dk.mv.lv.n dk.mv.lv.c, .slice dk.mv.tx.a dk.mv.tx.n dk.mv.tx.c, .int .i64 dk.m.rd, .int .i64 dk.m.se, .int .i64 dk.m.li, .int .i64 dk.m.he, .int .i64 dk.m.la.c, .int .i64 dk.m.la.r, .int .i64 dk.m.la.q, .int .i64 dk.m.la.a, .int .i64 dk.m.la.b, .slice dk.mv.ws.a dk.mv.ws.n dk.mv.ws.c, .int .i64 dk.most, .int .i64 dk.old, .int .i64 dk.jid, .slice dk.js.a dk.js.n dk.js.c, .slice dk.bs.a dk.bs.n dk.bs.c, .slice dk.ls.a dk.ls.n dk.ls.c] rfl _ Try.underlying34 rfl Try.sizeDa ?_))
  refine (eqDaemon_any de dk _ _ _ EO KO EE SME).mono ?_
  rintro e w15 ⟨rfl, b⟩
  have z_w15 : WE.heap.size ≤ w15.heap.size := b.size
  have BW : Hid (Below w.heap.size w w15) := bl_next BW.out b
  have KO : Hid (DmO w15 w.heap.size dk) := KO.out.below b
  have KB : Hid (Bx w15 gKB 34 [.int .i64 dk.id, .bool dk.dead, .int .i64 dk.m.id, .int .i64 dk.m.rid, .slice dk.mv.ms.a dk.mv.ms.n dk.mv.ms.c, .slice dk.mv.its.a dk.mv.its.n dk.mv.its.c, .slice dk.mv.lv.a dk.mv.lv.n dk.mv.lv.c, .slice dk.mv.tx.a dk.mv.tx.n dk.mv.tx.c, .int .i64 dk.m.rd, .int .i64 dk.m.se, .int .i64 dk.m.li, .int .i64 dk.m.he, .int .i64 dk.m.la.c, .int .i64 dk.m.la.r, .int .i64 dk.m.la.q, .int .i64 dk.m.la.a, .int .i64 dk.m.la.b, .slice dk.mv.ws.a dk.mv.ws.n dk.mv.ws.c, .int .i64 dk.most, .int .i64 dk.old, .int .i64 dk.jid, .slice dk.js.a dk.js.n dk.js.c, .slice dk.bs.a dk.bs.n dk.bs.c, .slice dk.ls.a dk.ls.n dk.ls.c]) := KB.out.later b
  have GB : Hid (Bx w15 gGB 34 [.int .i64 dg.id, .bool dg.dead, .int .i64 dg.m.id, .int .i64 dg.m.rid, .slice dg.mv.ms.a dg.mv.ms.n dg.mv.ms.c, .slice dg.mv.its.a dg.mv.its.n dg.mv.its.c, .slice dg.mv.lv.a dg.mv.lv.n dg.mv.lv.c, .slice dg.mv.tx.a dg.mv.tx.n dg.mv.tx.c, .int .i64 dg.m.rd, .int .i64 dg.m.se, .int .i64 dg.m.li, .int .i64 dg.m.he, .int .i64 dg.m.la.c, .int .i64 dg.m.la.r, .int .i64 dg.m.la.q, .int .i64 dg.m.la.a, .int .i64 dg.m.la.b, .slice dg.mv.ws.a dg.mv.ws.n dg.mv.ws.c, .int .i64 dg.most, .int .i64 dg.old, .int .i64 dg.jid, .slice dg.js.a dg.js.n dg.js.c, .slice dg.bs.a dg.bs.n dg.bs.c, .slice dg.ls.a dg.ls.n dg.ls.c]) := GB.out.later b
  have HD : Hid (HeldD w15 WK.heap.size dg 1 M) := HD.out.later b
  have EO : Hid (DmO w15 w12.heap.size de) := EO.out.below b
  have EB : Hid (Bx w15 gEB 34 [.int .i64 de.id, .bool de.dead, .int .i64 de.m.id, .int .i64 de.m.rid, .slice de.mv.ms.a de.mv.ms.n de.mv.ms.c, .slice de.mv.its.a de.mv.its.n de.mv.its.c, .slice de.mv.lv.a de.mv.lv.n de.mv.lv.c, .slice de.mv.tx.a de.mv.tx.n de.mv.tx.c, .int .i64 de.m.rd, .int .i64 de.m.se, .int .i64 de.m.li, .int .i64 de.m.he, .int .i64 de.m.la.c, .int .i64 de.m.la.r, .int .i64 de.m.la.q, .int .i64 de.m.la.a, .int .i64 de.m.la.b, .slice de.mv.ws.a de.mv.ws.n de.mv.ws.c, .int .i64 de.most, .int .i64 de.old, .int .i64 de.jid, .slice de.js.a de.js.n de.js.c, .slice de.bs.a de.bs.n de.bs.c, .slice de.ls.a de.ls.n de.ls.c]) := EB.out.later b
  clear b
  go_wp2_with (first | (refine wpList_ldG rfl 34 _ rfl gGB 0 rfl 34 _ GB.out [.int .i64 dg.id, .bool dg.dead, .int .i64 dg.m.id, .int .i64 dg.m.rid, .slice dg.mv.ms.a dg.mv.ms.n dg.mv.ms.c, .slice dg.mv.its.a dg.mv.its.n dg.mv.its.c, .slice dg.mv.lv.a dg.mv.lv.n dg.mv.lv.c, .slice dg.mv.tx.a dg.mv.tx.n dg.mv.tx.c, .int .i64 dg.m.rd, .int .i64 dg.m.se, .int .i64 dg.m.li, .int .i64 dg.m.he, .int .i64 dg.m.la.c, .int .i64 dg.m.la.r, .int .i64 dg.m.la.q, .int .i64 dg.m.la.a, .int .i64 dg.m.la.b, .slice dg.mv.ws.a dg.mv.ws.n dg.mv.ws.c, .int .i64 dg.most, .int .i64 dg.old, .int .i64 dg.jid, .slice dg.js.a dg.js.n dg.js.c, .slice dg.bs.a dg.bs.n dg.bs.c, .slice dg.ls.a dg.ls.n dg.ls.c] rfl _ Try.underlying34 rfl Try.sizeDa ?_))
  refine (heldDaemon_o dg _ 1 M _ HD).mono ?_
  rintro e w16 ⟨rfl, b⟩
  have z_w16 : w15.heap.size ≤ w16.heap.size := b.size
  have BW : Hid (Below w.heap.size w w16) := bl_next BW.out b
  have KO : Hid (DmO w16 w.heap.size dk) := KO.out.below b
  have KB : Hid (Bx w16 gKB 34 [.int .i64 dk.id, .bool dk.dead, .int .i64 dk.m.id, .int .i64 dk.m.rid, .slice dk.mv.ms.a dk.mv.ms.n dk.mv.ms.c, .slice dk.mv.its.a dk.mv.its.n dk.mv.its.c, .slice dk.mv.lv.a dk.mv.lv.n dk.mv.lv.c, .slice dk.mv.tx.a dk.mv.tx.n dk.mv.tx.c, .int .i64 dk.m.rd, .int .i64 dk.m.se, .int .i64 dk.m.li, .int .i64 dk.m.he, .int .i64 dk.m.la.c, .int .i64 dk.m.la.r, .int .i64 dk.m.la.q, .int .i64 dk.m.la.a, .int .i64 dk.m.la.b, .slice dk.mv.ws.a dk.mv.ws.n dk.mv.ws.c, .int .i64 dk.most, .int .i64 dk.old, .int .i64 dk.jid, .slice dk.js.a dk.js.n dk.js.c, .slice dk.bs.a dk.bs.n dk.bs.c, .slice dk.ls.a dk.ls.n dk.ls.c]) := KB.out.later b
  have GB : Hid (Bx w16 gGB 34 [.int .i64 dg.id, .bool dg.dead, .int .i64 dg.m.id, .int .i64 dg.m.rid, .slice dg.mv.ms.a dg.mv.ms.n dg.mv.ms.c, .slice dg.mv.its.a dg.mv.its.n dg.mv.its.c, .slice dg.mv.lv.a dg.mv.lv.n dg.mv.lv.c, .slice dg.mv.tx.a dg.mv.tx.n dg.mv.tx.c, .int .i64 dg.m.rd, .int .i64 dg.m.se, .int .i64 dg.m.li, .int .i64 dg.m.he, .int .i64 dg.m.la.c, .int .i64 dg.m.la.r, .int .i64 dg.m.la.q, .int .i64 dg.m.la.a, .int .i64 dg.m.la.b, .slice dg.mv.ws.a dg.mv.ws.n dg.mv.ws.c, .int .i64 dg.most, .int .i64 dg.old, .int .i64 dg.jid, .slice dg.js.a dg.js.n dg.js.c, .slice dg.bs.a dg.bs.n dg.bs.c, .slice dg.ls.a dg.ls.n dg.ls.c]) := GB.out.later b
  have HD : Hid (HeldD w16 WK.heap.size dg 1 M) := HD.out.later b
  have EO : Hid (DmO w16 w12.heap.size de) := EO.out.below b
  have EB : Hid (Bx w16 gEB 34 [.int .i64 de.id, .bool de.dead, .int .i64 de.m.id, .int .i64 de.m.rid, .slice de.mv.ms.a de.mv.ms.n de.mv.ms.c, .slice de.mv.its.a de.mv.its.n de.mv.its.c, .slice de.mv.lv.a de.mv.lv.n de.mv.lv.c, .slice de.mv.tx.a de.mv.tx.n de.mv.tx.c, .int .i64 de.m.rd, .int .i64 de.m.se, .int .i64 de.m.li, .int .i64 de.m.he, .int .i64 de.m.la.c, .int .i64 de.m.la.r, .int .i64 de.m.la.q, .int .i64 de.m.la.a, .int .i64 de.m.la.b, .slice de.mv.ws.a de.mv.ws.n de.mv.ws.c, .int .i64 de.most, .int .i64 de.old, .int .i64 de.jid, .slice de.js.a de.js.n de.js.c, .slice de.bs.a de.bs.n de.bs.c, .slice de.ls.a de.ls.n de.ls.c]) := EB.out.later b
  clear b
  go_wp2_with fail
  go_ret
  exact ⟨rfl, BW.out⟩
theorem lawDaemonNew (id : Int) (w : World) : Calls Try.prog 3 #[.int .i64 id] w fun e w' => e = .returned (.bool true) ∧ Below w.heap.size w w' := by
  cases h : decide (1 ≤ id ∧ id ≤ 5) with
  | true => exact lawDN_0 id (zDm id) true w (zDm_s id) (fun W => (spDaemonNew_yes id W h).mono fun e w' ⟨a, b⟩ => ⟨zDm id, a, Dm.Same.rfl' _, zDm_o _ _ _, zDm_a _, b⟩) (fun W => (daemonNew_yes id W h).mono fun e w' ⟨a, b⟩ => ⟨zDm id, a, Dm.Same.rfl' _, zDm_o _ _ _, zDm_a _, b⟩)
  | false => exact lawDN_0 id (zDm 0) false w (zDm_s 0) (fun W => (spDaemonNew_no id W h).mono fun e w' ⟨a, b⟩ => ⟨zDm 0, a, Dm.Same.rfl' _, zDm_o _ _ _, zDm_a _, b⟩) (fun W => (daemonNew_no id W h).mono fun e w' ⟨a, b⟩ => ⟨zDm 0, a, Dm.Same.rfl' _, zDm_o _ _ _, zDm_a _, b⟩)
end Go.Proofs.Ytbecahikjekccaa


