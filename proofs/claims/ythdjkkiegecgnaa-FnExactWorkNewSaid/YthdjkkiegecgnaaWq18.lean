/- Joined texts: CGtl CHf CShr CSla CLem14 CGem CGef CGes CGew CGtw CLwn. -/
import Derived.Test.YthdjkkiegecgnaaWq15
import Derived.Test.YthdjkkiegecgnaaWq16
import Derived.Test.YthdjkkiegecgnaaWq14
import Derived.Test.YthdjkkiegecgnaaWq8
import Derived.Test.YthdjkkiegecgnaaWq13
import Derived.Test.YthdjkkiegecgnaaWq5
import Derived.Test.YthdjkkiegecgnaaWq17
/- The places of a new ring at work: where each lies, that none is there twice. -/
namespace Go.Proofs.Ythdjkkiegecgnaa
open Go.RowKit Pl
set_option linter.unusedVariables false
set_option linter.unusedSimpArgs false

theorem flat_get {α : Type} {s : Nat} : ∀ (rs : List (List α)) (h : ∀ r ∈ rs, r.length = s) (i t : Nat) (hi : i < rs.length) (ht : t < s), rs.flatten[i * s + t]? = (rs[i]'hi)[t]?
  | r :: rs, h, 0, t, hi, ht => by
    simp only [List.flatten_cons, Nat.zero_mul, Nat.zero_add, List.getElem_cons_zero]
    rw [List.getElem?_append_left (by rw [h r (List.mem_cons_self ..)]; exact ht)]
  | r :: rs, h, i + 1, t, hi, ht => by
    have hr := h r (List.mem_cons_self ..)
    simp only [List.flatten_cons, List.getElem_cons_succ]
    rw [List.getElem?_append_right (by rw [hr, Nat.succ_mul]; omega), hr, show (i + 1) * s + t - s = i * s + t by rw [Nat.succ_mul]; omega]
    exact flat_get rs (fun x hx => h x (List.mem_cons_of_mem _ hx)) i t (by simpa using hi) ht
def isp (g n : Nat) : List Spot := (List.range n).map fun t => (g, t, 0)
theorem isp_len (g n : Nat) : (isp g n).length = n := by simp [isp]
theorem isp_at {g n t : Nat} (h : t < n) : (isp g n)[t]? = some (g, t, 0) := by simp [isp, h]
theorem isp_mem {g n : Nat} {s : Spot} (h : s ∈ isp g n) : s.1 = g ∧ s.2.1 < n := by
  unfold isp at h
  obtain ⟨t, ht, rfl⟩ := List.mem_map.1 h
  exact ⟨rfl, List.mem_range.1 ht⟩
theorem isp_nd (g n : Nat) : (isp g n).Pairwise fun a b => ¬ (a.1 = b.1 ∧ a.2.1 = b.2.1) := by
  unfold isp
  rw [List.pairwise_map]
  exact List.Pairwise.imp (fun h => fun e => by have := e.2; simp at this; omega) List.pairwise_lt_range
def mtl (g o : Nat) : List Spot := [(g, o + 6, 0), (g, o + 7, 0), (g, o + 8, 0), (g, o + 9, 0), (g, o + 10, 0), (g, o + 11, 0), (g, o + 12, 0), (g, o + 13, 0), (g, o + 14, 0)]
def msp (g o b n : Nat) : List Spot := [(g, o, 0), (g, o + 1, 0)] ++ (isp b n ++ mtl g o)
def fsp (g o : Nat) : List Spot := [(g, o, 0), (g, o + 1, 1), (g, o + 2, 0), (g, o + 3, 0), (g, o + 4, 0), (g, o + 5, 0), (g, o + 6, 0), (g, o + 8, 0), (g, o + 9, 0), (g, o + 10, 0), (g, o + 11, 2)]
theorem msp_len (g o b n : Nat) : (msp g o b n).length = 11 + n := by simp [msp, isp_len, mtl]; omega
theorem msp_in {g o b n t : Nat} (h : t < n) : (msp g o b n)[2 + t]? = some (b, t, 0) := by
  unfold msp
  rw [List.getElem?_append_right (by simp), List.getElem?_append_left (by simp [isp_len]; omega)]
  simp only [List.length_cons, List.length_nil, Nat.zero_add, Nat.reduceAdd, Nat.add_sub_cancel_left]
  exact isp_at h
theorem msp_end {g o b n c : Nat} : (msp g o b n)[2 + n + c]? = (mtl g o)[c]? := by
  unfold msp
  rw [List.getElem?_append_right (by simp; omega), List.getElem?_append_right (by simp [isp_len]; omega)]
  congr 1
  simp [isp_len]
  omega
theorem msp_mem {g o b n : Nat} {s : Spot} (h : s ∈ msp g o b n) : (s.1 = b ∧ s.2.1 < n) ∨ (s.1 = g ∧ ∃ c, s.2.1 = o + c ∧ (c = 0 ∨ c = 1 ∨ (6 ≤ c ∧ c ≤ 14))) := by
  unfold msp at h
  rcases List.mem_append.1 h with h | h
  · simp at h
    rcases h with rfl | rfl
    · exact .inr ⟨rfl, 0, rfl, by omega⟩
    · exact .inr ⟨rfl, 1, rfl, by omega⟩
  · rcases List.mem_append.1 h with h | h
    · exact .inl (isp_mem h)
    · unfold mtl at h
      simp at h
      rcases h with rfl | rfl | rfl | rfl | rfl | rfl | rfl | rfl | rfl
      · exact .inr ⟨rfl, 6, rfl, by omega⟩
      · exact .inr ⟨rfl, 7, rfl, by omega⟩
      · exact .inr ⟨rfl, 8, rfl, by omega⟩
      · exact .inr ⟨rfl, 9, rfl, by omega⟩
      · exact .inr ⟨rfl, 10, rfl, by omega⟩
      · exact .inr ⟨rfl, 11, rfl, by omega⟩
      · exact .inr ⟨rfl, 12, rfl, by omega⟩
      · exact .inr ⟨rfl, 13, rfl, by omega⟩
      · exact .inr ⟨rfl, 14, rfl, by omega⟩
theorem msp_nd {g o b n : Nat} (h : g ≠ b) : (msp g o b n).Pairwise fun a b => ¬ (a.1 = b.1 ∧ a.2.1 = b.2.1) := by
  unfold msp
  refine List.pairwise_append.2 ⟨by simp, List.pairwise_append.2 ⟨isp_nd _ _, by simp [mtl], fun x hx y hy e => ?_⟩, fun x hx y hy e => ?_⟩
  · have h1 := (isp_mem hx).1
    unfold mtl at hy
    simp at hy
    have h2 : y.1 = g := by rcases hy with rfl | rfl | rfl | rfl | rfl | rfl | rfl | rfl | rfl <;> rfl
    omega
  · simp at hx
    have h1 : x.1 = g ∧ x.2.1 ≤ o + 1 := by rcases hx with rfl | rfl <;> exact ⟨rfl, by simp⟩
    rcases List.mem_append.1 hy with hy | hy
    · have h2 := (isp_mem hy).1
      omega
    · unfold mtl at hy
      simp at hy
      have h2 : o + 6 ≤ y.2.1 := by rcases hy with rfl | rfl | rfl | rfl | rfl | rfl | rfl | rfl | rfl <;> simp
      omega
theorem fsp_mem {g o : Nat} {s : Spot} (h : s ∈ fsp g o) : s.1 = g ∧ ∃ c, s.2.1 = o + c ∧ c ≤ 11 ∧ c ≠ 7 := by
  unfold fsp at h
  simp at h
  rcases h with rfl | rfl | rfl | rfl | rfl | rfl | rfl | rfl | rfl | rfl | rfl
  · exact ⟨rfl, 0, rfl, by omega, by omega⟩
  · exact ⟨rfl, 1, rfl, by omega, by omega⟩
  · exact ⟨rfl, 2, rfl, by omega, by omega⟩
  · exact ⟨rfl, 3, rfl, by omega, by omega⟩
  · exact ⟨rfl, 4, rfl, by omega, by omega⟩
  · exact ⟨rfl, 5, rfl, by omega, by omega⟩
  · exact ⟨rfl, 6, rfl, by omega, by omega⟩
  · exact ⟨rfl, 8, rfl, by omega, by omega⟩
  · exact ⟨rfl, 9, rfl, by omega, by omega⟩
  · exact ⟨rfl, 10, rfl, by omega, by omega⟩
  · exact ⟨rfl, 11, rfl, by omega, by omega⟩
/-- a ring's members, a list of members with theirs, one that is on the way. -/
def pcs (g off n : Nat) (bs : List Nat) : List (List Spot) := (List.range bs.length).map fun j => msp g (off + j * 16) (bs.getD j 0) n
def TLw (b0 n g off f fo : Nat) (bs : List Nat) : List Spot := isp b0 n ++ ((pcs g off n bs).flatten ++ fsp f fo)
theorem pcs_len {g off n : Nat} {bs : List Nat} : ∀ r ∈ pcs g off n bs, r.length = 11 + n := fun r hr => by
  unfold pcs at hr
  obtain ⟨j, _, rfl⟩ := List.mem_map.1 hr
  exact msp_len _ _ _ _
theorem pcs_flat {g off n : Nat} {bs : List Nat} : (pcs g off n bs).flatten.length = bs.length * (11 + n) := by
  rw [List.length_flatten]
  have : (pcs g off n bs).map List.length = List.replicate bs.length (11 + n) := by
    apply List.ext_getElem
    · simp [pcs]
    · intro i h1 h2
      simp [pcs, msp_len]
  rw [this]
  simp
theorem TLw_len (b0 n g off f fo : Nat) (bs : List Nat) : (TLw b0 n g off f fo bs).length = n + bs.length * (11 + n) + 11 := by
  unfold TLw
  rw [List.length_append, List.length_append, isp_len, pcs_flat]
  simp [fsp]
  omega
section
variable {b0 n g off f fo : Nat} {bs : List Nat}
theorem TLw_ring {t : Nat} (h : t < n) : (TLw b0 n g off f fo bs)[t]? = some (b0, t, 0) := by
  unfold TLw
  rw [List.getElem?_append_left (by rw [isp_len]; exact h)]
  exact isp_at h
theorem TLw_mate {j r : Nat} (hj : j < bs.length) (hr : r < 11 + n) : (TLw b0 n g off f fo bs)[n + j * (11 + n) + r]? = (msp g (off + j * 16) (bs.getD j 0) n)[r]? := by
  have hx : j * (11 + n) + r < bs.length * (11 + n) := by
    have : (j + 1) * (11 + n) ≤ bs.length * (11 + n) := Nat.mul_le_mul_right _ hj
    rw [Nat.succ_mul] at this
    omega
  unfold TLw
  rw [List.getElem?_append_right (by rw [isp_len]; omega), isp_len, show n + j * (11 + n) + r - n = j * (11 + n) + r by omega, List.getElem?_append_left (by rw [pcs_flat]; exact hx), flat_get _ pcs_len j r (by simpa [pcs] using hj) hr]
  simp [pcs]
theorem TLw_fly {r : Nat} : (TLw b0 n g off f fo bs)[n + bs.length * (11 + n) + r]? = (fsp f fo)[r]? := by
  unfold TLw
  rw [List.getElem?_append_right (by rw [isp_len]; omega), isp_len, List.getElem?_append_right (by rw [pcs_flat]; omega), pcs_flat]
  congr 1
  omega
theorem TLw_mem {s : Spot} (h : s ∈ TLw b0 n g off f fo bs) : (s.1 = b0 ∧ s.2.1 < n) ∨ (∃ j, j < bs.length ∧ ((s.1 = bs.getD j 0 ∧ s.2.1 < n) ∨ (s.1 = g ∧ ∃ c, s.2.1 = off + j * 16 + c ∧ (c = 0 ∨ c = 1 ∨ (6 ≤ c ∧ c ≤ 14))))) ∨ (s.1 = f ∧ ∃ c, s.2.1 = fo + c ∧ c ≤ 11 ∧ c ≠ 7) := by
  unfold TLw at h
  rcases List.mem_append.1 h with h | h
  · exact .inl (isp_mem h)
  · rcases List.mem_append.1 h with h | h
    · obtain ⟨l, hl, hs⟩ := List.mem_flatten.1 h
      unfold pcs at hl
      obtain ⟨j, hj, rfl⟩ := List.mem_map.1 hl
      exact .inr (.inl ⟨j, List.mem_range.1 hj, msp_mem hs⟩)
    · exact .inr (.inr (fsp_mem h))
theorem TLw_nd (hg : ∀ b ∈ bs, b ≠ g ∧ b ≠ f ∧ b0 < b) (h0 : b0 ≠ g ∧ b0 ≠ f ∧ g ≠ f) (ha : bs.Pairwise (· < ·)) : (TLw b0 n g off f fo bs).Pairwise fun a b => ¬ (a.1 = b.1 ∧ a.2.1 = b.2.1) := by
  have hb : ∀ j, j < bs.length → bs.getD j 0 ∈ bs := fun j hj => by simp [List.getD, hj]
  unfold TLw
  refine List.pairwise_append.2 ⟨isp_nd _ _, List.pairwise_append.2 ⟨List.pairwise_flatten.2 ⟨fun l hl => ?_, ?_⟩, by simp [fsp], fun x hx y hy e => ?_⟩, fun x hx y hy e => ?_⟩
  · unfold pcs at hl
    obtain ⟨j, hj, rfl⟩ := List.mem_map.1 hl
    exact msp_nd (hg _ (hb j (List.mem_range.1 hj))).1.symm
  · unfold pcs
    rw [List.pairwise_map]
    refine List.Pairwise.imp_of_mem (fun {a b} hma hmb hab x hx y hy e => ?_) List.pairwise_lt_range
    have ha1 := List.mem_range.1 hma
    have hb1 := List.mem_range.1 hmb
    have q1 := hg _ (hb a ha1)
    have q2 := hg _ (hb b hb1)
    have q3 : bs.getD a 0 < bs.getD b 0 := by
      have := List.pairwise_iff_getElem.1 ha a b ha1 hb1 hab
      simpa [List.getD, ha1, hb1] using this
    rcases msp_mem hx with ⟨x1, x2⟩ | ⟨x1, c, x2, x3⟩ <;> rcases msp_mem hy with ⟨y1, y2⟩ | ⟨y1, d, y2, y3⟩ <;> omega
  · obtain ⟨l, hl, hs⟩ := List.mem_flatten.1 hx
    unfold pcs at hl
    obtain ⟨j, hj, rfl⟩ := List.mem_map.1 hl
    have q1 := hg _ (hb j (List.mem_range.1 hj))
    have y1 := (fsp_mem hy).1
    rcases msp_mem hs with ⟨x1, x2⟩ | ⟨x1, c, x2, x3⟩ <;> omega
  · have x1 := (isp_mem hx).1
    rcases List.mem_append.1 hy with hy | hy
    · obtain ⟨l, hl, hs⟩ := List.mem_flatten.1 hy
      unfold pcs at hl
      obtain ⟨j, hj, rfl⟩ := List.mem_map.1 hl
      have q1 := hg _ (hb j (List.mem_range.1 hj))
      rcases msp_mem hs with ⟨y1, y2⟩ | ⟨y1, c, y2, y3⟩ <;> omega
    · have y1 := (fsp_mem hy).1
      omega
end
end Go.Proofs.Ythdjkkiegecgnaa


/- Hear. -/
namespace Go.Proofs.Ythdjkkiegecgnaa
open Go.RowKit Pl
set_option linter.unusedVariables false
set_option linter.unusedSimpArgs false

/-- the member behind it. -/
def Mt.hadH (m : Mt) : Mt := m.setH (m.he + m.hear.length)

end Go.Proofs.Ythdjkkiegecgnaa


/- What a member hears: the specification's Hear, where the member is right. Written by gen_shr.py. -/
namespace Go.Proofs.Ythdjkkiegecgnaa
open Go.RowKit Pl
set_option linter.unusedVariables false
set_option linter.unusedSimpArgs false

end Go.Proofs.Ythdjkkiegecgnaa


/- What a token wants yet: the specification's Lacks. Written by gen_sla.py. -/
namespace Go.Proofs.Ythdjkkiegecgnaa
open Go.RowKit Pl
set_option linter.unusedVariables false
set_option linter.unusedSimpArgs false

/-- whether a number is wanted yet. -/
def slB (ws lk : List Int) (its : List It) (n : Int) : Bool := (!hasP its n && inB ws n) || inB lk n
def slGo (ws lk : List Int) (its : List It) : Nat → Nat → List Int → List Int
  | 0, _, acc => acc
  | f + 1, n, acc => if acc.length < 20 then slGo ws lk its f (n + 1) (if slB ws lk its (n : Int) = true then acc ++ [(n : Int)] else acc) else acc
def slackP (ws : List Int) (its : List It) (q : Int) : List Int := slGo ws (missP its q) its 60 1 []
end Go.Proofs.Ythdjkkiegecgnaa


/- Small lemmas of round 14: rows that are read in drawn regions, lists cut, lengths of slices. -/
namespace Go.Proofs.Ythdjkkiegecgnaa
open Go.RowKit Pl
set_option linter.unusedVariables false
set_option linter.unusedSimpArgs false

theorem ldN_yield {P : Program} {ops : Array Oper} {o : Oper} {a : Act} {S : World → Prop} (hw : Region.wanted o (yielded ops a.tmps) = true) (ty : TypeId) (x : Operand) (ho : o.op = .load ty x) (g off : Nat) (hx : a.eval x = .pointer (some ⟨g, off, none⟩)) (cs : List Value) (hS : ∀ w, S w → w.rangeAt g off cs)
    (d : TypeDesc) (hu : P.underlying ty = some d) (hd : d.isRow = true) (hi : (P.info? ty).map (·.size) = some cs.length) : YieldsIf P ops S o (.agg cs.toArray) a :=
  yieldsIf_load_mid hw ty x ho g off hx cs d hS hu hd hi
theorem range_later {w w' : World} {g off : Nat} {cs : List Value} (h : w.rangeAt g off cs) (hg : g < w.heap.size) (b : Below w.heap.size w w') : w'.rangeAt g off cs := fun j v hv => (b.cell (p := ⟨g, off + j, none⟩) hg).trans (h j v hv)
theorem SlI.len {w : World} {B : Nat} {s : Sv} {ts : List It} (h : SlI w B s.v ts) : s.n = ts.length := by obtain ⟨a, c, h1⟩ := Sl.form h; simp only [Sv.v, Value.slice.injEq] at h1; exact h1.2.1
theorem SlI.at {w : World} {B : Nat} {s : Sv} {ts : List It} (h : SlI w B s.v ts) {k : Nat} (hk : k < ts.length) : ∃ g off, s.a = some ⟨g, off, none⟩ ∧ B ≤ g ∧ g < w.heap.size ∧ w.rangeAt g (off + k * 4) [.int .i64 ts[k].1, .int .i64 ts[k].2.1, .int .i64 ts[k].2.2.1, .string ts[k].2.2.2] := by
  obtain ⟨ao, cap, h1, h2⟩ := h.rit
  have hh := h
  obtain ⟨g, off, e, hlt, c0, c1, c2, c3⟩ := h2 k hk
  simp only [Sv.v, Value.slice.injEq] at h1
  refine ⟨g, off, by rw [h1.1, e], ?_, hlt, ?_⟩
  · exact (h.lt g (by simp [Sv.v, Value.ownBlock, h1.1, e])).1
  · intro j v hv
    match j, hv with
    | 0, hv => simp at hv; subst hv; simpa using c0
    | 1, hv => simp at hv; subst hv; simpa using c1
    | 2, hv => simp at hv; subst hv; simpa using c2
    | 3, hv => simp at hv; subst hv; simpa using c3
end Go.Proofs.Ythdjkkiegecgnaa


/- Lists of members, held against each other. Written by gen_gs.py. -/
namespace Go.Proofs.Ythdjkkiegecgnaa
open Go.RowKit Pl
set_option linter.unusedVariables false
set_option linter.unusedSimpArgs false

set_option maxRecDepth 100000 in
set_option maxHeartbeats 4000000 in
theorem eqmates_sp (ao bo : Option Addr) (len c1 c2 : Nat) (r1 r2 : Nat → List Value) (w : World) (h1 : Hid (∀ j, j < len → ∃ g off, ao = some ⟨g, off, none⟩ ∧ g < w.heap.size ∧ (r1 j).length = 16 ∧ w.rangeAt g (off + j * 16) (r1 j))) (h2 : Hid (∀ j, j < len → ∃ g off, bo = some ⟨g, off, none⟩ ∧ g < w.heap.size ∧ (r2 j).length = 16 ∧ w.rangeAt g (off + j * 16) (r2 j))) (hE : Hid (∀ j, j < len → ∀ W, Below w.heap.size w W → Calls Try.prog 139 #[.agg (r1 j).toArray, .agg (r2 j).toArray] W fun e w' => e = .returned (.bool true) ∧ Below W.heap.size W w')) (hl : len ≤ 4999990) :
    Calls Try.prog 86 #[.slice ao len c1, .slice bo len c2] w fun e w' => e = .returned (.bool true) ∧ Below w.heap.size w w' := by
  go_enter Try.func86, Try.ntmps86
  go_wp2_with fail
  go_loopw [5] (fun i wr => ∃ (j : Nat), j ≤ len ∧ i = .int .i64 (j : Int) ∧ Hid (Below w.heap.size w wr)) (fun i _ => len - (intOf i).toNat)
  case atStart => exact ⟨0, by omega, rfl, Below.refl _ _⟩
  case round =>
    obtain ⟨j, hj, rfl, HB⟩ := hrel
    by_cases hlt : j < len
    · obtain ⟨g1, o1, rfl, l1, n1, x1⟩ := h1.out j hlt
      obtain ⟨g2, o2, rfl, l2, n2, x2⟩ := h2.out j hlt
      have X1 : Hid (w.rangeAt g1 (o1 + j * 16) (r1 j)) := x1
      have X2 : Hid (w.rangeAt g2 (o2 + j * 16) (r2 j)) := x2
      have N1 : Hid ((Try.prog.info? 32).map (·.size) = some (r1 j).length) := (by rw [n1]; exact Try.sizeM : _ = _)
      have N2 : Hid ((Try.prog.info? 32).map (·.size) = some (r2 j).length) := (by rw [n2]; exact Try.sizeM : _ = _)
      clear x1 x2 n1 n2
      have EJ : Hid _ := hE.out j hlt
      have i0 : (0 : Int) ≤ (j : Int) := by omega
      have i1 : (j : Int) < (len : Int) := by omega
      go_wp2_with fail
      have c : Below w.heap.size w wr.drew := HB.out.drew
      refine wp_region_held_drew (S := fun w' => Below w.heap.size w w') (by kernel_rfl) c (fun hHeld => ?_)
      refine wpAnyH_take (i := 0) (v := ?v0b1) rfl (by kernel_rfl) (by kernel_rfl) (by kernel_rfl) (fun _ _ _ h => h) (Or.inl ⟨by rfl, ?hy0b1⟩) (by assumption) ?_
      case hy0b1 => (intro w hSw; (try dsimp only at hSw); simp only [List.getElem_toArray, List.getElem_cons_zero, List.getElem_cons_succ]; go_simp; try with_reducible rfl)
      try simp only [Act.put, List.getElem_toArray, List.getElem_cons_zero, List.getElem_cons_succ, List.setIfInBounds_toArray, List.set_cons_zero, List.set_cons_succ]
      refine wpAnyH_take (i := 1) (v := ?v1b2) rfl (by kernel_rfl) (by kernel_rfl) (by kernel_rfl) (fun _ _ _ h => h) (Or.inl ⟨by rfl, ?hy1b2⟩) (by assumption) ?_
      case hy1b2 => (intro w hSw; (try dsimp only at hSw); simp only [List.getElem_toArray, List.getElem_cons_zero, List.getElem_cons_succ]; go_simp; try with_reducible rfl)
      try simp only [Act.put, List.getElem_toArray, List.getElem_cons_zero, List.getElem_cons_succ, List.setIfInBounds_toArray, List.set_cons_zero, List.set_cons_succ]
      refine wpAnyH_take (i := 2) (v := ?v2b3) rfl (by kernel_rfl) (by kernel_rfl) (by kernel_rfl) (fun _ _ _ h => h) (Or.inl ⟨by rfl, ?hy2b3⟩) (by assumption) ?_
      case hy2b3 => (intro w hSw; (try dsimp only at hSw); simp only [List.getElem_toArray, List.getElem_cons_zero, List.getElem_cons_succ]; go_simp; try with_reducible rfl)
      try simp only [Act.put, List.getElem_toArray, List.getElem_cons_zero, List.getElem_cons_succ, List.setIfInBounds_toArray, List.set_cons_zero, List.set_cons_succ]
      refine wpAnyH_take (i := 3) (v := _) rfl (by kernel_rfl) (by kernel_rfl) (by kernel_rfl) (fun _ _ _ h => h) (ldN_yield (by rfl) 32 _ rfl g1 (o1 + j * 16) (by rfl) (r1 j) (fun w hS => range_later X1.out l1 hS) _ Try.underlying32 rfl N1.out) (by assumption) ?_
      try simp only [Act.put, List.setIfInBounds_toArray, List.set_cons_zero, List.set_cons_succ]
      refine wpAnyH_take (i := 4) (v := ?v4b5) rfl (by kernel_rfl) (by kernel_rfl) (by kernel_rfl) (fun _ _ _ h => h) (Or.inl ⟨by rfl, ?hy4b5⟩) (by assumption) ?_
      case hy4b5 => (intro w hSw; (try dsimp only at hSw); simp only [List.getElem_toArray, List.getElem_cons_zero, List.getElem_cons_succ]; go_simp; try with_reducible rfl)
      try simp only [Act.put, List.getElem_toArray, List.getElem_cons_zero, List.getElem_cons_succ, List.setIfInBounds_toArray, List.set_cons_zero, List.set_cons_succ]
      refine wpAnyH_take (i := 5) (v := ?v5b6) rfl (by kernel_rfl) (by kernel_rfl) (by kernel_rfl) (fun _ _ _ h => h) (Or.inl ⟨by rfl, ?hy5b6⟩) (by assumption) ?_
      case hy5b6 => (intro w hSw; (try dsimp only at hSw); simp only [List.getElem_toArray, List.getElem_cons_zero, List.getElem_cons_succ]; go_simp; try with_reducible rfl)
      try simp only [Act.put, List.getElem_toArray, List.getElem_cons_zero, List.getElem_cons_succ, List.setIfInBounds_toArray, List.set_cons_zero, List.set_cons_succ]
      refine wpAnyH_take (i := 6) (v := ?v6b7) rfl (by kernel_rfl) (by kernel_rfl) (by kernel_rfl) (fun _ _ _ h => h) (Or.inl ⟨by rfl, ?hy6b7⟩) (by assumption) ?_
      case hy6b7 => (intro w hSw; (try dsimp only at hSw); simp only [List.getElem_toArray, List.getElem_cons_zero, List.getElem_cons_succ]; go_simp; try with_reducible rfl)
      try simp only [Act.put, List.getElem_toArray, List.getElem_cons_zero, List.getElem_cons_succ, List.setIfInBounds_toArray, List.set_cons_zero, List.set_cons_succ]
      refine wpAnyH_take (i := 7) (v := _) rfl (by kernel_rfl) (by kernel_rfl) (by kernel_rfl) (fun _ _ _ h => h) (ldN_yield (by rfl) 32 _ rfl g2 (o2 + j * 16) (by rfl) (r2 j) (fun w hS => range_later X2.out l2 hS) _ Try.underlying32 rfl N2.out) (by assumption) ?_
      try simp only [Act.put, List.setIfInBounds_toArray, List.set_cons_zero, List.set_cons_succ]
      refine wpAnyH_ready (rs := [8]) (by kernel_rfl) (by simp) ?_
      refine AllReadyH.cons (i := 8) rfl (fun K hK => ?_) AllReadyH.nil
      rw [if_pos (by rfl)]
      simp only [List.getElem_toArray, List.getElem_cons_zero, List.getElem_cons_succ]
      go_simp
      refine (EJ.out _ c).mono ?_
      rintro e y1 ⟨rfl, d1⟩
      have c1 : Below w.heap.size w y1 := bl_next c d1
      refine hK.out _ _ (c1) (fun hHeld => ?_)
      clear hK K
      try simp only [Act.put, List.getElem_toArray, List.getElem_cons_zero, List.getElem_cons_succ, List.setIfInBounds_toArray, List.set_cons_zero, List.set_cons_succ]
      clear d1
      refine wpAnyH_take (i := 9) (v := ?v9b9) rfl (by kernel_rfl) (by kernel_rfl) (by kernel_rfl) (fun _ _ _ h => h) (Or.inl ⟨by rfl, ?hy9b9⟩) (by assumption) ?_
      case hy9b9 => (intro w hSw; (try dsimp only at hSw); simp only [List.getElem_toArray, List.getElem_cons_zero, List.getElem_cons_succ]; go_simp; try with_reducible rfl)
      try simp only [Act.put, List.getElem_toArray, List.getElem_cons_zero, List.getElem_cons_succ, List.setIfInBounds_toArray, List.set_cons_zero, List.set_cons_succ]
      refine wpAnyH_done (by kernel_rfl) ?_ _
      have HB1 : Hid (Below w.heap.size w y1) := c1
      clear c c1 hHeld HB EJ X1 X2
      go_wp2_with fail
      go_roundw
      case rel => exact ⟨j + 1, by omega, by go_num, HB1⟩
      case measure => simp [intOf]; omega
    · obtain rfl : j = len := by omega
      go_wp2_with fail
      go_ret
      exact ⟨rfl, HB.out⟩
end Go.Proofs.Ythdjkkiegecgnaa


/- Lists of what is on the way, held against each other. Written by gen_gs.py. -/
namespace Go.Proofs.Ythdjkkiegecgnaa
open Go.RowKit Pl
set_option linter.unusedVariables false
set_option linter.unusedSimpArgs false

set_option maxRecDepth 100000 in
set_option maxHeartbeats 4000000 in
theorem eqflys_sp (ao bo : Option Addr) (len c1 c2 : Nat) (r1 r2 : Nat → List Value) (w : World) (h1 : Hid (∀ j, j < len → ∃ g off, ao = some ⟨g, off, none⟩ ∧ g < w.heap.size ∧ (r1 j).length = 12 ∧ w.rangeAt g (off + j * 12) (r1 j))) (h2 : Hid (∀ j, j < len → ∃ g off, bo = some ⟨g, off, none⟩ ∧ g < w.heap.size ∧ (r2 j).length = 12 ∧ w.rangeAt g (off + j * 12) (r2 j))) (hE : Hid (∀ j, j < len → ∀ W, Below w.heap.size w W → Calls Try.prog 140 #[.agg (r1 j).toArray, .agg (r2 j).toArray] W fun e w' => e = .returned (.bool true) ∧ Below W.heap.size W w')) (hl : len ≤ 4999990) :
    Calls Try.prog 87 #[.slice ao len c1, .slice bo len c2] w fun e w' => e = .returned (.bool true) ∧ Below w.heap.size w w' := by
  go_enter Try.func87, Try.ntmps87
  go_wp2_with fail
  go_loopw [5] (fun i wr => ∃ (j : Nat), j ≤ len ∧ i = .int .i64 (j : Int) ∧ Hid (Below w.heap.size w wr)) (fun i _ => len - (intOf i).toNat)
  case atStart => exact ⟨0, by omega, rfl, Below.refl _ _⟩
  case round =>
    obtain ⟨j, hj, rfl, HB⟩ := hrel
    by_cases hlt : j < len
    · obtain ⟨g1, o1, rfl, l1, n1, x1⟩ := h1.out j hlt
      obtain ⟨g2, o2, rfl, l2, n2, x2⟩ := h2.out j hlt
      have X1 : Hid (w.rangeAt g1 (o1 + j * 12) (r1 j)) := x1
      have X2 : Hid (w.rangeAt g2 (o2 + j * 12) (r2 j)) := x2
      have N1 : Hid ((Try.prog.info? 91).map (·.size) = some (r1 j).length) := (by rw [n1]; exact Try.sizeFl : _ = _)
      have N2 : Hid ((Try.prog.info? 91).map (·.size) = some (r2 j).length) := (by rw [n2]; exact Try.sizeFl : _ = _)
      clear x1 x2 n1 n2
      have EJ : Hid _ := hE.out j hlt
      have i0 : (0 : Int) ≤ (j : Int) := by omega
      have i1 : (j : Int) < (len : Int) := by omega
      go_wp2_with fail
      have c : Below w.heap.size w wr.drew := HB.out.drew
      refine wp_region_held_drew (S := fun w' => Below w.heap.size w w') (by kernel_rfl) c (fun hHeld => ?_)
      refine wpAnyH_take (i := 0) (v := ?v0b10) rfl (by kernel_rfl) (by kernel_rfl) (by kernel_rfl) (fun _ _ _ h => h) (Or.inl ⟨by rfl, ?hy0b10⟩) (by assumption) ?_
      case hy0b10 => (intro w hSw; (try dsimp only at hSw); simp only [List.getElem_toArray, List.getElem_cons_zero, List.getElem_cons_succ]; go_simp; try with_reducible rfl)
      try simp only [Act.put, List.getElem_toArray, List.getElem_cons_zero, List.getElem_cons_succ, List.setIfInBounds_toArray, List.set_cons_zero, List.set_cons_succ]
      refine wpAnyH_take (i := 1) (v := ?v1b11) rfl (by kernel_rfl) (by kernel_rfl) (by kernel_rfl) (fun _ _ _ h => h) (Or.inl ⟨by rfl, ?hy1b11⟩) (by assumption) ?_
      case hy1b11 => (intro w hSw; (try dsimp only at hSw); simp only [List.getElem_toArray, List.getElem_cons_zero, List.getElem_cons_succ]; go_simp; try with_reducible rfl)
      try simp only [Act.put, List.getElem_toArray, List.getElem_cons_zero, List.getElem_cons_succ, List.setIfInBounds_toArray, List.set_cons_zero, List.set_cons_succ]
      refine wpAnyH_take (i := 2) (v := ?v2b12) rfl (by kernel_rfl) (by kernel_rfl) (by kernel_rfl) (fun _ _ _ h => h) (Or.inl ⟨by rfl, ?hy2b12⟩) (by assumption) ?_
      case hy2b12 => (intro w hSw; (try dsimp only at hSw); simp only [List.getElem_toArray, List.getElem_cons_zero, List.getElem_cons_succ]; go_simp; try with_reducible rfl)
      try simp only [Act.put, List.getElem_toArray, List.getElem_cons_zero, List.getElem_cons_succ, List.setIfInBounds_toArray, List.set_cons_zero, List.set_cons_succ]
      refine wpAnyH_take (i := 3) (v := _) rfl (by kernel_rfl) (by kernel_rfl) (by kernel_rfl) (fun _ _ _ h => h) (ldN_yield (by rfl) 91 _ rfl g1 (o1 + j * 12) (by rfl) (r1 j) (fun w hS => range_later X1.out l1 hS) _ Try.underlying91 rfl N1.out) (by assumption) ?_
      try simp only [Act.put, List.setIfInBounds_toArray, List.set_cons_zero, List.set_cons_succ]
      refine wpAnyH_take (i := 4) (v := ?v4b14) rfl (by kernel_rfl) (by kernel_rfl) (by kernel_rfl) (fun _ _ _ h => h) (Or.inl ⟨by rfl, ?hy4b14⟩) (by assumption) ?_
      case hy4b14 => (intro w hSw; (try dsimp only at hSw); simp only [List.getElem_toArray, List.getElem_cons_zero, List.getElem_cons_succ]; go_simp; try with_reducible rfl)
      try simp only [Act.put, List.getElem_toArray, List.getElem_cons_zero, List.getElem_cons_succ, List.setIfInBounds_toArray, List.set_cons_zero, List.set_cons_succ]
      refine wpAnyH_take (i := 5) (v := ?v5b15) rfl (by kernel_rfl) (by kernel_rfl) (by kernel_rfl) (fun _ _ _ h => h) (Or.inl ⟨by rfl, ?hy5b15⟩) (by assumption) ?_
      case hy5b15 => (intro w hSw; (try dsimp only at hSw); simp only [List.getElem_toArray, List.getElem_cons_zero, List.getElem_cons_succ]; go_simp; try with_reducible rfl)
      try simp only [Act.put, List.getElem_toArray, List.getElem_cons_zero, List.getElem_cons_succ, List.setIfInBounds_toArray, List.set_cons_zero, List.set_cons_succ]
      refine wpAnyH_take (i := 6) (v := ?v6b16) rfl (by kernel_rfl) (by kernel_rfl) (by kernel_rfl) (fun _ _ _ h => h) (Or.inl ⟨by rfl, ?hy6b16⟩) (by assumption) ?_
      case hy6b16 => (intro w hSw; (try dsimp only at hSw); simp only [List.getElem_toArray, List.getElem_cons_zero, List.getElem_cons_succ]; go_simp; try with_reducible rfl)
      try simp only [Act.put, List.getElem_toArray, List.getElem_cons_zero, List.getElem_cons_succ, List.setIfInBounds_toArray, List.set_cons_zero, List.set_cons_succ]
      refine wpAnyH_take (i := 7) (v := _) rfl (by kernel_rfl) (by kernel_rfl) (by kernel_rfl) (fun _ _ _ h => h) (ldN_yield (by rfl) 91 _ rfl g2 (o2 + j * 12) (by rfl) (r2 j) (fun w hS => range_later X2.out l2 hS) _ Try.underlying91 rfl N2.out) (by assumption) ?_
      try simp only [Act.put, List.setIfInBounds_toArray, List.set_cons_zero, List.set_cons_succ]
      refine wpAnyH_ready (rs := [8]) (by kernel_rfl) (by simp) ?_
      refine AllReadyH.cons (i := 8) rfl (fun K hK => ?_) AllReadyH.nil
      rw [if_pos (by rfl)]
      simp only [List.getElem_toArray, List.getElem_cons_zero, List.getElem_cons_succ]
      go_simp
      refine (EJ.out _ c).mono ?_
      rintro e y1 ⟨rfl, d1⟩
      have c1 : Below w.heap.size w y1 := bl_next c d1
      refine hK.out _ _ (c1) (fun hHeld => ?_)
      clear hK K
      try simp only [Act.put, List.getElem_toArray, List.getElem_cons_zero, List.getElem_cons_succ, List.setIfInBounds_toArray, List.set_cons_zero, List.set_cons_succ]
      clear d1
      refine wpAnyH_take (i := 9) (v := ?v9b18) rfl (by kernel_rfl) (by kernel_rfl) (by kernel_rfl) (fun _ _ _ h => h) (Or.inl ⟨by rfl, ?hy9b18⟩) (by assumption) ?_
      case hy9b18 => (intro w hSw; (try dsimp only at hSw); simp only [List.getElem_toArray, List.getElem_cons_zero, List.getElem_cons_succ]; go_simp; try with_reducible rfl)
      try simp only [Act.put, List.getElem_toArray, List.getElem_cons_zero, List.getElem_cons_succ, List.setIfInBounds_toArray, List.set_cons_zero, List.set_cons_succ]
      refine wpAnyH_done (by kernel_rfl) ?_ _
      have HB1 : Hid (Below w.heap.size w y1) := c1
      clear c c1 hHeld HB EJ X1 X2
      go_wp2_with fail
      go_roundw
      case rel => exact ⟨j + 1, by omega, by go_num, HB1⟩
      case measure => simp [intOf]; omega
    · obtain rfl : j = len := by omega
      go_wp2_with fail
      go_ret
      exact ⟨rfl, HB.out⟩
end Go.Proofs.Ythdjkkiegecgnaa


/- Lists of lists of items, held against each other. Written by gen_gs.py. -/
namespace Go.Proofs.Ythdjkkiegecgnaa
open Go.RowKit Pl
set_option linter.unusedVariables false
set_option linter.unusedSimpArgs false

set_option maxRecDepth 100000 in
set_option maxHeartbeats 4000000 in
theorem eqss_sp (ao bo : Option Addr) (len c1 c2 : Nat) (r1 r2 : Nat → Value) (w : World) (h1 : Hid (∀ j, j < len → ∃ g off, ao = some ⟨g, off, none⟩ ∧ g < w.heap.size ∧ w.cell? ⟨g, off + j, none⟩ = some (r1 j))) (h2 : Hid (∀ j, j < len → ∃ g off, bo = some ⟨g, off, none⟩ ∧ g < w.heap.size ∧ w.cell? ⟨g, off + j, none⟩ = some (r2 j))) (hE : Hid (∀ j, j < len → ∀ W, Below w.heap.size w W → Calls Try.prog 88 #[(r1 j), (r2 j)] W fun e w' => e = .returned (.bool true) ∧ Below W.heap.size W w')) (hl : len ≤ 4999990) :
    Calls Try.prog 39 #[.slice ao len c1, .slice bo len c2] w fun e w' => e = .returned (.bool true) ∧ Below w.heap.size w w' := by
  go_enter Try.func39, Try.ntmps39
  go_wp2_with fail
  go_loopw [5] (fun i wr => ∃ (j : Nat), j ≤ len ∧ i = .int .i64 (j : Int) ∧ Hid (Below w.heap.size w wr)) (fun i _ => len - (intOf i).toNat)
  case atStart => exact ⟨0, by omega, rfl, Below.refl _ _⟩
  case round =>
    obtain ⟨j, hj, rfl, HB⟩ := hrel
    by_cases hlt : j < len
    · obtain ⟨g1, o1, rfl, l1, x1⟩ := h1.out j hlt
      obtain ⟨g2, o2, rfl, l2, x2⟩ := h2.out j hlt
      have X1 : Hid _ := x1
      have X2 : Hid _ := x2
      clear x1 x2
      have EJ : Hid _ := hE.out j hlt
      have i0 : (0 : Int) ≤ (j : Int) := by omega
      have i1 : (j : Int) < (len : Int) := by omega
      go_wp2_with fail
      have c : Below w.heap.size w wr.drew := HB.out.drew
      refine wp_region_held_drew (S := fun w' => Below w.heap.size w w') (by kernel_rfl) c (fun hHeld => ?_)
      refine wpAnyH_take (i := 0) (v := ?v0b19) rfl (by kernel_rfl) (by kernel_rfl) (by kernel_rfl) (fun _ _ _ h => h) (Or.inl ⟨by rfl, ?hy0b19⟩) (by assumption) ?_
      case hy0b19 => (intro w hSw; (try dsimp only at hSw); simp only [List.getElem_toArray, List.getElem_cons_zero, List.getElem_cons_succ]; go_simp; try with_reducible rfl)
      try simp only [Act.put, List.getElem_toArray, List.getElem_cons_zero, List.getElem_cons_succ, List.setIfInBounds_toArray, List.set_cons_zero, List.set_cons_succ]
      refine wpAnyH_take (i := 1) (v := ?v1b20) rfl (by kernel_rfl) (by kernel_rfl) (by kernel_rfl) (fun _ _ _ h => h) (Or.inl ⟨by rfl, ?hy1b20⟩) (by assumption) ?_
      case hy1b20 => (intro w hSw; (try dsimp only at hSw); simp only [List.getElem_toArray, List.getElem_cons_zero, List.getElem_cons_succ]; go_simp; try with_reducible rfl)
      try simp only [Act.put, List.getElem_toArray, List.getElem_cons_zero, List.getElem_cons_succ, List.setIfInBounds_toArray, List.set_cons_zero, List.set_cons_succ]
      refine wpAnyH_take (i := 2) (v := ?v2b21) rfl (by kernel_rfl) (by kernel_rfl) (by kernel_rfl) (fun _ _ _ h => h) (Or.inl ⟨by rfl, ?hy2b21⟩) (by assumption) ?_
      case hy2b21 => (intro w hSw; (try dsimp only at hSw); simp only [List.getElem_toArray, List.getElem_cons_zero, List.getElem_cons_succ]; go_simp; try with_reducible rfl)
      try simp only [Act.put, List.getElem_toArray, List.getElem_cons_zero, List.getElem_cons_succ, List.setIfInBounds_toArray, List.set_cons_zero, List.set_cons_succ]
      refine wpAnyH_take (i := 3) (v := r1 j) rfl (by kernel_rfl) (by kernel_rfl) (by kernel_rfl) (fun _ _ _ h => h) (ldC_yield (by rfl) 27 _ rfl g1 (o1 + j) (by first | rfl | (simp; done) | go_simp) (r1 j) (fun w hS => (hS.cell (p := ⟨g1, o1 + j, none⟩) l1).trans X1.out) _ Try.underlying27 rfl) (by assumption) ?_
      try simp only [Act.put, List.setIfInBounds_toArray, List.set_cons_zero, List.set_cons_succ]
      refine wpAnyH_take (i := 4) (v := ?v4b23) rfl (by kernel_rfl) (by kernel_rfl) (by kernel_rfl) (fun _ _ _ h => h) (Or.inl ⟨by rfl, ?hy4b23⟩) (by assumption) ?_
      case hy4b23 => (intro w hSw; (try dsimp only at hSw); simp only [List.getElem_toArray, List.getElem_cons_zero, List.getElem_cons_succ]; go_simp; try with_reducible rfl)
      try simp only [Act.put, List.getElem_toArray, List.getElem_cons_zero, List.getElem_cons_succ, List.setIfInBounds_toArray, List.set_cons_zero, List.set_cons_succ]
      refine wpAnyH_take (i := 5) (v := ?v5b24) rfl (by kernel_rfl) (by kernel_rfl) (by kernel_rfl) (fun _ _ _ h => h) (Or.inl ⟨by rfl, ?hy5b24⟩) (by assumption) ?_
      case hy5b24 => (intro w hSw; (try dsimp only at hSw); simp only [List.getElem_toArray, List.getElem_cons_zero, List.getElem_cons_succ]; go_simp; try with_reducible rfl)
      try simp only [Act.put, List.getElem_toArray, List.getElem_cons_zero, List.getElem_cons_succ, List.setIfInBounds_toArray, List.set_cons_zero, List.set_cons_succ]
      refine wpAnyH_take (i := 6) (v := ?v6b25) rfl (by kernel_rfl) (by kernel_rfl) (by kernel_rfl) (fun _ _ _ h => h) (Or.inl ⟨by rfl, ?hy6b25⟩) (by assumption) ?_
      case hy6b25 => (intro w hSw; (try dsimp only at hSw); simp only [List.getElem_toArray, List.getElem_cons_zero, List.getElem_cons_succ]; go_simp; try with_reducible rfl)
      try simp only [Act.put, List.getElem_toArray, List.getElem_cons_zero, List.getElem_cons_succ, List.setIfInBounds_toArray, List.set_cons_zero, List.set_cons_succ]
      refine wpAnyH_take (i := 7) (v := r2 j) rfl (by kernel_rfl) (by kernel_rfl) (by kernel_rfl) (fun _ _ _ h => h) (ldC_yield (by rfl) 27 _ rfl g2 (o2 + j) (by first | rfl | (simp; done) | go_simp) (r2 j) (fun w hS => (hS.cell (p := ⟨g2, o2 + j, none⟩) l2).trans X2.out) _ Try.underlying27 rfl) (by assumption) ?_
      try simp only [Act.put, List.setIfInBounds_toArray, List.set_cons_zero, List.set_cons_succ]
      refine wpAnyH_ready (rs := [8]) (by kernel_rfl) (by simp) ?_
      refine AllReadyH.cons (i := 8) rfl (fun K hK => ?_) AllReadyH.nil
      rw [if_pos (by rfl)]
      simp only [List.getElem_toArray, List.getElem_cons_zero, List.getElem_cons_succ]
      go_simp
      refine (EJ.out _ c).mono ?_
      rintro e y1 ⟨rfl, d1⟩
      have c1 : Below w.heap.size w y1 := bl_next c d1
      refine hK.out _ _ (c1) (fun hHeld => ?_)
      clear hK K
      try simp only [Act.put, List.getElem_toArray, List.getElem_cons_zero, List.getElem_cons_succ, List.setIfInBounds_toArray, List.set_cons_zero, List.set_cons_succ]
      clear d1
      refine wpAnyH_take (i := 9) (v := ?v9b27) rfl (by kernel_rfl) (by kernel_rfl) (by kernel_rfl) (fun _ _ _ h => h) (Or.inl ⟨by rfl, ?hy9b27⟩) (by assumption) ?_
      case hy9b27 => (intro w hSw; (try dsimp only at hSw); simp only [List.getElem_toArray, List.getElem_cons_zero, List.getElem_cons_succ]; go_simp; try with_reducible rfl)
      try simp only [Act.put, List.getElem_toArray, List.getElem_cons_zero, List.getElem_cons_succ, List.setIfInBounds_toArray, List.set_cons_zero, List.set_cons_succ]
      refine wpAnyH_done (by kernel_rfl) ?_ _
      have HB1 : Hid (Below w.heap.size w y1) := c1
      clear c c1 hHeld HB EJ X1 X2
      go_wp2_with fail
      go_roundw
      case rel => exact ⟨j + 1, by omega, by go_num, HB1⟩
      case measure => simp [intOf]; omega
    · obtain rfl : j = len := by omega
      go_wp2_with fail
      go_ret
      exact ⟨rfl, HB.out⟩
end Go.Proofs.Ythdjkkiegecgnaa


/- Members, what is on the way, rings at work: held against each other. -/
namespace Go.Proofs.Ythdjkkiegecgnaa
open Go.RowKit Pl
set_option linter.unusedVariables false
set_option linter.unusedSimpArgs false

set_option maxRecDepth 100000 in
set_option maxHeartbeats 4000000 in
theorem eqMate_p (m : Mt) (u v : Mv) (w : World) (h1 : Hid (MtP w m u)) (h2 : Hid (MtP w m v)) (hs : Hid (MtS m)) :
    Calls Try.prog 139 #[.agg #[.int .i64 m.id, .int .i64 m.rid, .slice u.ms.a u.ms.n u.ms.c, .slice u.its.a u.its.n u.its.c, .slice u.lv.a u.lv.n u.lv.c, .slice u.tx.a u.tx.n u.tx.c, .int .i64 m.rd, .int .i64 m.se, .int .i64 m.li, .int .i64 m.he, .int .i64 m.la.c, .int .i64 m.la.r, .int .i64 m.la.q, .int .i64 m.la.a, .int .i64 m.la.b, .slice u.ws.a u.ws.n u.ws.c], .agg #[.int .i64 m.id, .int .i64 m.rid, .slice v.ms.a v.ms.n v.ms.c, .slice v.its.a v.its.n v.its.c, .slice v.lv.a v.lv.n v.lv.c, .slice v.tx.a v.tx.n v.tx.c, .int .i64 m.rd, .int .i64 m.se, .int .i64 m.li, .int .i64 m.he, .int .i64 m.la.c, .int .i64 m.la.r, .int .i64 m.la.q, .int .i64 m.la.a, .int .i64 m.la.b, .slice v.ws.a v.ws.n v.ws.c]] w fun e w' => e = .returned (.bool true) ∧ Below w.heap.size w w' := by
  have hn1 : (w.alloc (.cells #[.int .i64 m.id, .int .i64 m.rid, .slice u.ms.a u.ms.n u.ms.c, .slice u.its.a u.its.n u.its.c, .slice u.lv.a u.lv.n u.lv.c, .slice u.tx.a u.tx.n u.tx.c, .int .i64 m.rd, .int .i64 m.se, .int .i64 m.li, .int .i64 m.he, .int .i64 m.la.c, .int .i64 m.la.r, .int .i64 m.la.q, .int .i64 m.la.a, .int .i64 m.la.b, .slice u.ws.a u.ws.n u.ws.c] 32)).heap.size = w.heap.size + 1 := by simp
  have HA : Hid (MtB ((w.alloc (.cells #[.int .i64 m.id, .int .i64 m.rid, .slice u.ms.a u.ms.n u.ms.c, .slice u.its.a u.its.n u.its.c, .slice u.lv.a u.lv.n u.lv.c, .slice u.tx.a u.tx.n u.tx.c, .int .i64 m.rd, .int .i64 m.se, .int .i64 m.li, .int .i64 m.he, .int .i64 m.la.c, .int .i64 m.la.r, .int .i64 m.la.q, .int .i64 m.la.a, .int .i64 m.la.b, .slice u.ws.a u.ws.n u.ws.c] 32)).alloc (.cells #[.int .i64 m.id, .int .i64 m.rid, .slice v.ms.a v.ms.n v.ms.c, .slice v.its.a v.its.n v.its.c, .slice v.lv.a v.lv.n v.lv.c, .slice v.tx.a v.tx.n v.tx.c, .int .i64 m.rd, .int .i64 m.se, .int .i64 m.li, .int .i64 m.he, .int .i64 m.la.c, .int .i64 m.la.r, .int .i64 m.la.q, .int .i64 m.la.a, .int .i64 m.la.b, .slice v.ws.a v.ws.n v.ws.c] 32)) w.heap.size 32 m u) := by
    have h := Bx.new w 32 [.int .i64 m.id, .int .i64 m.rid, .slice u.ms.a u.ms.n u.ms.c, .slice u.its.a u.its.n u.its.c, .slice u.lv.a u.lv.n u.lv.c, .slice u.tx.a u.tx.n u.tx.c, .int .i64 m.rd, .int .i64 m.se, .int .i64 m.li, .int .i64 m.he, .int .i64 m.la.c, .int .i64 m.la.r, .int .i64 m.la.q, .int .i64 m.la.a, .int .i64 m.la.b, .slice u.ws.a u.ws.n u.ws.c]
    exact h.stays (B := w.heap.size + 1) ((Below.refl _ _).alloc (by rw [hn1]; exact Nat.le_refl _) _) (by omega)
  have HC : Hid (MtB ((w.alloc (.cells #[.int .i64 m.id, .int .i64 m.rid, .slice u.ms.a u.ms.n u.ms.c, .slice u.its.a u.its.n u.its.c, .slice u.lv.a u.lv.n u.lv.c, .slice u.tx.a u.tx.n u.tx.c, .int .i64 m.rd, .int .i64 m.se, .int .i64 m.li, .int .i64 m.he, .int .i64 m.la.c, .int .i64 m.la.r, .int .i64 m.la.q, .int .i64 m.la.a, .int .i64 m.la.b, .slice u.ws.a u.ws.n u.ws.c] 32)).alloc (.cells #[.int .i64 m.id, .int .i64 m.rid, .slice v.ms.a v.ms.n v.ms.c, .slice v.its.a v.its.n v.its.c, .slice v.lv.a v.lv.n v.lv.c, .slice v.tx.a v.tx.n v.tx.c, .int .i64 m.rd, .int .i64 m.se, .int .i64 m.li, .int .i64 m.he, .int .i64 m.la.c, .int .i64 m.la.r, .int .i64 m.la.q, .int .i64 m.la.a, .int .i64 m.la.b, .slice v.ws.a v.ws.n v.ws.c] 32)) (w.heap.size + 1) 32 m v) := by
    have h := Bx.new (w.alloc (.cells #[.int .i64 m.id, .int .i64 m.rid, .slice u.ms.a u.ms.n u.ms.c, .slice u.its.a u.its.n u.its.c, .slice u.lv.a u.lv.n u.lv.c, .slice u.tx.a u.tx.n u.tx.c, .int .i64 m.rd, .int .i64 m.se, .int .i64 m.li, .int .i64 m.he, .int .i64 m.la.c, .int .i64 m.la.r, .int .i64 m.la.q, .int .i64 m.la.a, .int .i64 m.la.b, .slice u.ws.a u.ws.n u.ws.c] 32)) 32 [.int .i64 m.id, .int .i64 m.rid, .slice v.ms.a v.ms.n v.ms.c, .slice v.its.a v.its.n v.its.c, .slice v.lv.a v.lv.n v.lv.c, .slice v.tx.a v.tx.n v.tx.c, .int .i64 m.rd, .int .i64 m.se, .int .i64 m.li, .int .i64 m.he, .int .i64 m.la.c, .int .i64 m.la.r, .int .i64 m.la.q, .int .i64 m.la.a, .int .i64 m.la.b, .slice v.ws.a v.ws.n v.ws.c]
    rw [hn1] at h
    exact h
  have HB : Hid (Below w.heap.size w ((w.alloc (.cells #[.int .i64 m.id, .int .i64 m.rid, .slice u.ms.a u.ms.n u.ms.c, .slice u.its.a u.its.n u.its.c, .slice u.lv.a u.lv.n u.lv.c, .slice u.tx.a u.tx.n u.tx.c, .int .i64 m.rd, .int .i64 m.se, .int .i64 m.li, .int .i64 m.he, .int .i64 m.la.c, .int .i64 m.la.r, .int .i64 m.la.q, .int .i64 m.la.a, .int .i64 m.la.b, .slice u.ws.a u.ws.n u.ws.c] 32)).alloc (.cells #[.int .i64 m.id, .int .i64 m.rid, .slice v.ms.a v.ms.n v.ms.c, .slice v.its.a v.its.n v.its.c, .slice v.lv.a v.lv.n v.lv.c, .slice v.tx.a v.tx.n v.tx.c, .int .i64 m.rd, .int .i64 m.se, .int .i64 m.li, .int .i64 m.he, .int .i64 m.la.c, .int .i64 m.la.r, .int .i64 m.la.q, .int .i64 m.la.a, .int .i64 m.la.b, .slice v.ws.a v.ws.n v.ws.c] 32))) := ((Below.refl _ _).alloc (Nat.le_refl _) _).alloc (by simp) _
  have H1 : Hid (MtP ((w.alloc (.cells #[.int .i64 m.id, .int .i64 m.rid, .slice u.ms.a u.ms.n u.ms.c, .slice u.its.a u.its.n u.its.c, .slice u.lv.a u.lv.n u.lv.c, .slice u.tx.a u.tx.n u.tx.c, .int .i64 m.rd, .int .i64 m.se, .int .i64 m.li, .int .i64 m.he, .int .i64 m.la.c, .int .i64 m.la.r, .int .i64 m.la.q, .int .i64 m.la.a, .int .i64 m.la.b, .slice u.ws.a u.ws.n u.ws.c] 32)).alloc (.cells #[.int .i64 m.id, .int .i64 m.rid, .slice v.ms.a v.ms.n v.ms.c, .slice v.its.a v.its.n v.its.c, .slice v.lv.a v.lv.n v.lv.c, .slice v.tx.a v.tx.n v.tx.c, .int .i64 m.rd, .int .i64 m.se, .int .i64 m.li, .int .i64 m.he, .int .i64 m.la.c, .int .i64 m.la.r, .int .i64 m.la.q, .int .i64 m.la.a, .int .i64 m.la.b, .slice v.ws.a v.ws.n v.ws.c] 32)) m u) := h1.out.later HB.out
  have H2 : Hid (MtP ((w.alloc (.cells #[.int .i64 m.id, .int .i64 m.rid, .slice u.ms.a u.ms.n u.ms.c, .slice u.its.a u.its.n u.its.c, .slice u.lv.a u.lv.n u.lv.c, .slice u.tx.a u.tx.n u.tx.c, .int .i64 m.rd, .int .i64 m.se, .int .i64 m.li, .int .i64 m.he, .int .i64 m.la.c, .int .i64 m.la.r, .int .i64 m.la.q, .int .i64 m.la.a, .int .i64 m.la.b, .slice u.ws.a u.ws.n u.ws.c] 32)).alloc (.cells #[.int .i64 m.id, .int .i64 m.rid, .slice v.ms.a v.ms.n v.ms.c, .slice v.its.a v.its.n v.its.c, .slice v.lv.a v.lv.n v.lv.c, .slice v.tx.a v.tx.n v.tx.c, .int .i64 m.rd, .int .i64 m.se, .int .i64 m.li, .int .i64 m.he, .int .i64 m.la.c, .int .i64 m.la.r, .int .i64 m.la.q, .int .i64 m.la.a, .int .i64 m.la.b, .slice v.ws.a v.ws.n v.ws.c] 32)) m v) := h2.out.later HB.out
  obtain ⟨⟨c0, c1, c2, c3, c4, c5⟩, ⟨c6, c7, c8, c9⟩, c10, c11, c12, c13, c14, c15⟩ := HA.out.cells
  obtain ⟨⟨d0, d1, d2, d3, d4, d5⟩, ⟨d6, d7, d8, d9⟩, d10, d11, d12, d13, d14, d15⟩ := HC.out.cells
  clear h1 h2 hn1
  go_enter Try.func139, Try.ntmps139
  go_wp2_with fail
  generalize ((w.alloc (.cells #[.int .i64 m.id, .int .i64 m.rid, .slice u.ms.a u.ms.n u.ms.c, .slice u.its.a u.its.n u.its.c, .slice u.lv.a u.lv.n u.lv.c, .slice u.tx.a u.tx.n u.tx.c, .int .i64 m.rd, .int .i64 m.se, .int .i64 m.li, .int .i64 m.he, .int .i64 m.la.c, .int .i64 m.la.r, .int .i64 m.la.q, .int .i64 m.la.a, .int .i64 m.la.b, .slice u.ws.a u.ws.n u.ws.c] 32)).alloc (.cells #[.int .i64 m.id, .int .i64 m.rid, .slice v.ms.a v.ms.n v.ms.c, .slice v.its.a v.its.n v.its.c, .slice v.lv.a v.lv.n v.lv.c, .slice v.tx.a v.tx.n v.tx.c, .int .i64 m.rd, .int .i64 m.se, .int .i64 m.li, .int .i64 m.he, .int .i64 m.la.c, .int .i64 m.la.r, .int .i64 m.la.q, .int .i64 m.la.a, .int .i64 m.la.b, .slice v.ws.a v.ws.n v.ws.c] 32)) = W at *
  clear c0 c1 c2 c3 c4 c5 c6 c7 c8 c9 c10 c11 c12 c13 c14 c15 d0 d1 d2 d3 d4 d5 d6 d7 d8 d9 d10 d11 d12 d13 d14 d15
  refine (eqRing_same m.rid u.ms.v v.ms.v m.ms 0 0 _ H1.out.ms H2.out.ms hs.out.ms).mono ?_
  rintro e w1 ⟨rfl, b⟩
  have HA : Hid (MtB w1 w.heap.size 32 m u) := Bx.later HA.out b
  have HC : Hid (MtB w1 (w.heap.size + 1) 32 m v) := Bx.later HC.out b
  have H1 : Hid (MtP w1 m u) := H1.out.later b
  have H2 : Hid (MtP w1 m v) := H2.out.later b
  have HB : Hid (Below w.heap.size w w1) := bl_next HB.out b
  clear b
  obtain ⟨⟨c0, c1, c2, c3, c4, c5⟩, ⟨c6, c7, c8, c9⟩, c10, c11, c12, c13, c14, c15⟩ := HA.out.cells
  obtain ⟨⟨d0, d1, d2, d3, d4, d5⟩, ⟨d6, d7, d8, d9⟩, d10, d11, d12, d13, d14, d15⟩ := HC.out.cells
  go_wp2_with fail
  clear c0 c1 c2 c3 c4 c5 c6 c7 c8 c9 c10 c11 c12 c13 c14 c15 d0 d1 d2 d3 d4 d5 d6 d7 d8 d9 d10 d11 d12 d13 d14 d15
  refine (eqItems_sl u.its.v v.its.v m.its 0 0 _ H1.out.its H2.out.its hs.out.its).mono ?_
  rintro e w2 ⟨rfl, b⟩
  have HA : Hid (MtB w2 w.heap.size 32 m u) := Bx.later HA.out b
  have HC : Hid (MtB w2 (w.heap.size + 1) 32 m v) := Bx.later HC.out b
  have H1 : Hid (MtP w2 m u) := H1.out.later b
  have H2 : Hid (MtP w2 m v) := H2.out.later b
  have HB : Hid (Below w.heap.size w w2) := bl_next HB.out b
  clear b
  obtain ⟨⟨c0, c1, c2, c3, c4, c5⟩, ⟨c6, c7, c8, c9⟩, c10, c11, c12, c13, c14, c15⟩ := HA.out.cells
  obtain ⟨⟨d0, d1, d2, d3, d4, d5⟩, ⟨d6, d7, d8, d9⟩, d10, d11, d12, d13, d14, d15⟩ := HC.out.cells
  go_wp2_with fail
  clear c0 c1 c2 c3 c4 c5 c6 c7 c8 c9 c10 c11 c12 c13 c14 c15 d0 d1 d2 d3 d4 d5 d6 d7 d8 d9 d10 d11 d12 d13 d14 d15
  refine (eqI_same u.lv.v v.lv.v m.lv 0 0 _ H1.out.lv H2.out.lv hs.out.lv).mono ?_
  rintro e w3 ⟨rfl, b⟩
  have HA : Hid (MtB w3 w.heap.size 32 m u) := Bx.later HA.out b
  have HC : Hid (MtB w3 (w.heap.size + 1) 32 m v) := Bx.later HC.out b
  have H1 : Hid (MtP w3 m u) := H1.out.later b
  have H2 : Hid (MtP w3 m v) := H2.out.later b
  have HB : Hid (Below w.heap.size w w3) := bl_next HB.out b
  clear b
  obtain ⟨⟨c0, c1, c2, c3, c4, c5⟩, ⟨c6, c7, c8, c9⟩, c10, c11, c12, c13, c14, c15⟩ := HA.out.cells
  obtain ⟨⟨d0, d1, d2, d3, d4, d5⟩, ⟨d6, d7, d8, d9⟩, d10, d11, d12, d13, d14, d15⟩ := HC.out.cells
  go_wp2_with fail
  clear c0 c1 c2 c3 c4 c5 c6 c7 c8 c9 c10 c11 c12 c13 c14 c15 d0 d1 d2 d3 d4 d5 d6 d7 d8 d9 d10 d11 d12 d13 d14 d15
  refine (eqS_same u.tx.v v.tx.v m.tx 0 0 _ H1.out.tx H2.out.tx (by have := hs.out.tx; omega)).mono ?_
  rintro e w4 ⟨rfl, b⟩
  have HA : Hid (MtB w4 w.heap.size 32 m u) := Bx.later HA.out b
  have HC : Hid (MtB w4 (w.heap.size + 1) 32 m v) := Bx.later HC.out b
  have H1 : Hid (MtP w4 m u) := H1.out.later b
  have H2 : Hid (MtP w4 m v) := H2.out.later b
  have HB : Hid (Below w.heap.size w w4) := bl_next HB.out b
  clear b
  obtain ⟨⟨c0, c1, c2, c3, c4, c5⟩, ⟨c6, c7, c8, c9⟩, c10, c11, c12, c13, c14, c15⟩ := HA.out.cells
  obtain ⟨⟨d0, d1, d2, d3, d4, d5⟩, ⟨d6, d7, d8, d9⟩, d10, d11, d12, d13, d14, d15⟩ := HC.out.cells
  go_wp2_with fail
  clear c0 c1 c2 c3 c4 c5 c6 c7 c8 c9 c10 c11 c12 c13 c14 c15 d0 d1 d2 d3 d4 d5 d6 d7 d8 d9 d10 d11 d12 d13 d14 d15
  refine (eqTok_same m.la.c m.la.r m.la.q m.la.a m.la.b u.ws.v v.ws.v m.la.ws 0 0 _ H1.out.ws H2.out.ws hs.out.ws).mono ?_
  rintro e w5 ⟨rfl, b⟩
  have HA : Hid (MtB w5 w.heap.size 32 m u) := Bx.later HA.out b
  have HC : Hid (MtB w5 (w.heap.size + 1) 32 m v) := Bx.later HC.out b
  have H1 : Hid (MtP w5 m u) := H1.out.later b
  have H2 : Hid (MtP w5 m v) := H2.out.later b
  have HB : Hid (Below w.heap.size w w5) := bl_next HB.out b
  clear b
  obtain ⟨⟨c0, c1, c2, c3, c4, c5⟩, ⟨c6, c7, c8, c9⟩, c10, c11, c12, c13, c14, c15⟩ := HA.out.cells
  obtain ⟨⟨d0, d1, d2, d3, d4, d5⟩, ⟨d6, d7, d8, d9⟩, d10, d11, d12, d13, d14, d15⟩ := HC.out.cells
  go_wp2_with fail
  go_ret
  exact ⟨rfl, HB.out⟩

theorem twoB (w : World) (T : Nat) (c1 c2 : List Value) : Hid (Bx ((w.alloc (.cells c1.toArray T)).alloc (.cells c2.toArray T)) w.heap.size T c1) ∧ Hid (Bx ((w.alloc (.cells c1.toArray T)).alloc (.cells c2.toArray T)) (w.heap.size + 1) T c2) ∧ Hid (Below w.heap.size w ((w.alloc (.cells c1.toArray T)).alloc (.cells c2.toArray T))) :=
  ⟨(Bx.new w T _).later ((Below.refl _ _).alloc (Nat.le_refl _) _), (by have h := Bx.new (w.alloc (.cells c1.toArray T)) T c2; rw [show (w.alloc (.cells c1.toArray T)).heap.size = w.heap.size + 1 by simp] at h; exact h : Bx _ _ _ _), (((Below.refl _ _).alloc (Nat.le_refl _) _).alloc (by simp) _ : Below _ _ _)⟩

set_option maxRecDepth 100000 in
set_option maxHeartbeats 4000000 in
theorem eqFly_p (f : Fl) (s1 s2 : Sv) (w : World) (h1 : Hid (OwnI w 0 s1.v f.t.ws)) (h2 : Hid (OwnI w 0 s2.v f.t.ws)) (hl : f.t.ws.length ≤ 1048576) :
    Calls Try.prog 140 #[.agg #[.int .i64 f.to, .bool f.tk, .int .i64 f.t.c, .int .i64 f.t.r, .int .i64 f.t.q, .int .i64 f.t.a, .int .i64 f.t.b, .slice s1.a s1.n s1.c, .int .i64 f.x.1, .int .i64 f.x.2.1, .int .i64 f.x.2.2.1, .string f.x.2.2.2], .agg #[.int .i64 f.to, .bool f.tk, .int .i64 f.t.c, .int .i64 f.t.r, .int .i64 f.t.q, .int .i64 f.t.a, .int .i64 f.t.b, .slice s2.a s2.n s2.c, .int .i64 f.x.1, .int .i64 f.x.2.1, .int .i64 f.x.2.2.1, .string f.x.2.2.2]] w fun e w' => e = .returned (.bool true) ∧ Below w.heap.size w w' := by
  obtain ⟨HA, HC, HB⟩ := twoB w 91 [.int .i64 f.to, .bool f.tk, .int .i64 f.t.c, .int .i64 f.t.r, .int .i64 f.t.q, .int .i64 f.t.a, .int .i64 f.t.b, .slice s1.a s1.n s1.c, .int .i64 f.x.1, .int .i64 f.x.2.1, .int .i64 f.x.2.2.1, .string f.x.2.2.2] [.int .i64 f.to, .bool f.tk, .int .i64 f.t.c, .int .i64 f.t.r, .int .i64 f.t.q, .int .i64 f.t.a, .int .i64 f.t.b, .slice s2.a s2.n s2.c, .int .i64 f.x.1, .int .i64 f.x.2.1, .int .i64 f.x.2.2.1, .string f.x.2.2.2]
  have H1 : Hid (OwnI ((w.alloc (.cells #[.int .i64 f.to, .bool f.tk, .int .i64 f.t.c, .int .i64 f.t.r, .int .i64 f.t.q, .int .i64 f.t.a, .int .i64 f.t.b, .slice s1.a s1.n s1.c, .int .i64 f.x.1, .int .i64 f.x.2.1, .int .i64 f.x.2.2.1, .string f.x.2.2.2] 91)).alloc (.cells #[.int .i64 f.to, .bool f.tk, .int .i64 f.t.c, .int .i64 f.t.r, .int .i64 f.t.q, .int .i64 f.t.a, .int .i64 f.t.b, .slice s2.a s2.n s2.c, .int .i64 f.x.1, .int .i64 f.x.2.1, .int .i64 f.x.2.2.1, .string f.x.2.2.2] 91)) 0 s1.v f.t.ws) := h1.out.keep fun _ _ hk => HB.out.block _ hk
  have H2 : Hid (OwnI ((w.alloc (.cells #[.int .i64 f.to, .bool f.tk, .int .i64 f.t.c, .int .i64 f.t.r, .int .i64 f.t.q, .int .i64 f.t.a, .int .i64 f.t.b, .slice s1.a s1.n s1.c, .int .i64 f.x.1, .int .i64 f.x.2.1, .int .i64 f.x.2.2.1, .string f.x.2.2.2] 91)).alloc (.cells #[.int .i64 f.to, .bool f.tk, .int .i64 f.t.c, .int .i64 f.t.r, .int .i64 f.t.q, .int .i64 f.t.a, .int .i64 f.t.b, .slice s2.a s2.n s2.c, .int .i64 f.x.1, .int .i64 f.x.2.1, .int .i64 f.x.2.2.1, .string f.x.2.2.2] 91)) 0 s2.v f.t.ws) := h2.out.keep fun _ _ hk => HB.out.block _ hk
  have c0 := HA.out.cell 0
  have c1 := HA.out.cell 1
  have d0 := HC.out.cell 0
  have d1 := HC.out.cell 1
  clear h1 h2
  go_enter Try.func140, Try.ntmps140
  go_wp2_with (first | (refine wpList_ldG rfl 30 _ rfl w.heap.size 2 rfl 91 _ HA.out [.int .i64 f.t.c, .int .i64 f.t.r, .int .i64 f.t.q, .int .i64 f.t.a, .int .i64 f.t.b, .slice s1.a s1.n s1.c] rfl _ Try.underlying30 rfl Try.sizeT ?_) | (refine wpList_ldG rfl 30 _ rfl (w.heap.size + 1) 2 rfl 91 _ HC.out [.int .i64 f.t.c, .int .i64 f.t.r, .int .i64 f.t.q, .int .i64 f.t.a, .int .i64 f.t.b, .slice s2.a s2.n s2.c] rfl _ Try.underlying30 rfl Try.sizeT ?_))
  generalize ((w.alloc (.cells #[.int .i64 f.to, .bool f.tk, .int .i64 f.t.c, .int .i64 f.t.r, .int .i64 f.t.q, .int .i64 f.t.a, .int .i64 f.t.b, .slice s1.a s1.n s1.c, .int .i64 f.x.1, .int .i64 f.x.2.1, .int .i64 f.x.2.2.1, .string f.x.2.2.2] 91)).alloc (.cells #[.int .i64 f.to, .bool f.tk, .int .i64 f.t.c, .int .i64 f.t.r, .int .i64 f.t.q, .int .i64 f.t.a, .int .i64 f.t.b, .slice s2.a s2.n s2.c, .int .i64 f.x.1, .int .i64 f.x.2.1, .int .i64 f.x.2.2.1, .string f.x.2.2.2] 91)) = W at *
  refine (eqTok_same f.t.c f.t.r f.t.q f.t.a f.t.b s1.v s2.v f.t.ws 0 0 _ H1 H2 hl).mono ?_
  rintro e w1 ⟨rfl, b⟩
  have HA : Hid (Bx w1 w.heap.size 91 [.int .i64 f.to, .bool f.tk, .int .i64 f.t.c, .int .i64 f.t.r, .int .i64 f.t.q, .int .i64 f.t.a, .int .i64 f.t.b, .slice s1.a s1.n s1.c, .int .i64 f.x.1, .int .i64 f.x.2.1, .int .i64 f.x.2.2.1, .string f.x.2.2.2]) := HA.out.later b
  have HC : Hid (Bx w1 (w.heap.size + 1) 91 [.int .i64 f.to, .bool f.tk, .int .i64 f.t.c, .int .i64 f.t.r, .int .i64 f.t.q, .int .i64 f.t.a, .int .i64 f.t.b, .slice s2.a s2.n s2.c, .int .i64 f.x.1, .int .i64 f.x.2.1, .int .i64 f.x.2.2.1, .string f.x.2.2.2]) := HC.out.later b
  have HB : Hid (Below w.heap.size w w1) := bl_next HB.out b
  clear b H1 H2 c0 c1 d0 d1
  go_wp2_with (first | (refine wpList_ldG rfl 38 _ rfl w.heap.size 8 rfl 91 _ HA.out [.int .i64 f.x.1, .int .i64 f.x.2.1, .int .i64 f.x.2.2.1, .string f.x.2.2.2] rfl _ Try.underlying38 rfl Try.sizeI ?_) | (refine wpList_ldG rfl 38 _ rfl (w.heap.size + 1) 8 rfl 91 _ HC.out [.int .i64 f.x.1, .int .i64 f.x.2.1, .int .i64 f.x.2.2.1, .string f.x.2.2.2] rfl _ Try.underlying38 rfl Try.sizeI ?_))
  refine (eqItem_same f.x.1 f.x.2.1 f.x.2.2.1 f.x.2.2.2 _).mono ?_
  rintro e w2 ⟨rfl, b⟩
  have HB : Hid (Below w.heap.size w w2) := bl_next HB.out b
  clear b
  go_wp2_with fail
  go_ret
  exact ⟨rfl, HB.out⟩

theorem slnLen {w : World} {T size B : Nat} {s : Sv} {rows : List (List Value)} (h : SlN w T size B s.v rows) : s.n = rows.length := by
  obtain ⟨s', e, hn⟩ := h.form
  simp only [Sv.v, Value.slice.injEq] at e
  omega
theorem slnRows {w : World} {T size B : Nat} {s : Sv} {rows : List (List Value)} (h : SlN w T size B s.v rows) (j : Nat) (hj : j < rows.length) : ∃ g off, s.a = some ⟨g, off, none⟩ ∧ g < w.heap.size ∧ ((rows[j]?).getD []).length = size ∧ w.rangeAt g (off + j * size) ((rows[j]?).getD []) := by
  obtain ⟨g, off, c, h1, h2, h3, h4⟩ := h.read hj
  simp only [Sv.v, Value.slice.injEq] at h1
  rw [List.getElem?_eq_getElem hj]
  exact ⟨g, off, h1.1, h3, h.lens _ (List.getElem_mem hj), h4⟩
theorem ssRows {w : World} {B : Nat} {s : Sv} {es : List (List It × Sv)} (h : SlN w 27 1 B s.v (es.map hcel)) (j : Nat) (hj : j < es.length) : ∃ g off, s.a = some ⟨g, off, none⟩ ∧ g < w.heap.size ∧ w.cell? ⟨g, off + j, none⟩ = some ((((es.map hcel)[j]?).getD [])[0]?.getD undef) := by
  obtain ⟨g, off, h1, h2, _, h4⟩ := slnRows h j (by simpa using hj)
  refine ⟨g, off, h1, h2, ?_⟩
  have e : ((es.map hcel)[j]?).getD [] = hcel es[j] := by simp [hj]
  rw [e] at h4 ⊢
  have := h4 0 _ rfl
  simpa [hcel] using this
/-- the same, in plain words. -/
structure Same (k q : Wv) : Prop where
  rid : k.rid = q.rid
  ms : k.ms = q.ms
  ma : k.ma.map (·.1) = q.ma.map (·.1)
  fl : k.fl.map (·.1) = q.fl.map (·.1)
  he : k.he.map (·.1) = q.he.map (·.1)
  sa : k.sa = q.sa
structure Small (k : Wv) : Prop where
  ms : k.ms.length ≤ 1048576
  ma : k.ma.length ≤ 1048576
  mas : ∀ e ∈ k.ma, MtS e.1
  fl : k.fl.length ≤ 1048576
  fls : ∀ e ∈ k.fl, e.1.t.ws.length ≤ 1048576
  he : k.he.length ≤ 1048576
  hes : ∀ e ∈ k.he, e.1.length ≤ 1048576
  sa : k.sa.length ≤ 1048576
theorem at_map {α β : Type} {f : α → β} {xs : List α} {j : Nat} (hj : j < xs.length) (d : β) : ((xs.map f)[j]?).getD d = f xs[j] := by simp [hj]
theorem same_at {α β : Type} {xs ys : List (α × β)} (h : xs.map (·.1) = ys.map (·.1)) {j : Nat} (hj : j < xs.length) : ∃ h2 : j < ys.length, (xs[j]).1 = (ys[j]).1 := by
  have hl : xs.length = ys.length := by have := congrArg List.length h; simpa using this
  refine ⟨by omega, ?_⟩
  have := congrArg (fun l => l[j]?) h
  simp [hj, show j < ys.length by omega] at this
  exact this

set_option maxRecDepth 100000 in
set_option maxHeartbeats 4000000 in
theorem eqWork_p (k q : Wv) (w : World) (h1 : Hid (WkP w k)) (h2 : Hid (WkP w q)) (hS : Hid (Same k q)) (hz : Hid (Small k)) :
    Calls Try.prog 31 #[.agg #[.int .i64 k.rid, .slice k.mv.a k.mv.n k.mv.c, .slice k.mav.a k.mav.n k.mav.c, .slice k.flv.a k.flv.n k.flv.c, .slice k.hev.a k.hev.n k.hev.c, .slice k.sav.a k.sav.n k.sav.c], .agg #[.int .i64 q.rid, .slice q.mv.a q.mv.n q.mv.c, .slice q.mav.a q.mav.n q.mav.c, .slice q.flv.a q.flv.n q.flv.c, .slice q.hev.a q.hev.n q.hev.c, .slice q.sav.a q.sav.n q.sav.c]] w fun e w' => e = .returned (.bool true) ∧ Below w.heap.size w w' := by
  obtain ⟨HA, HC, HB⟩ := twoB w 65 [.int .i64 k.rid, .slice k.mv.a k.mv.n k.mv.c, .slice k.mav.a k.mav.n k.mav.c, .slice k.flv.a k.flv.n k.flv.c, .slice k.hev.a k.hev.n k.hev.c, .slice k.sav.a k.sav.n k.sav.c] [.int .i64 q.rid, .slice q.mv.a q.mv.n q.mv.c, .slice q.mav.a q.mav.n q.mav.c, .slice q.flv.a q.flv.n q.flv.c, .slice q.hev.a q.hev.n q.hev.c, .slice q.sav.a q.sav.n q.sav.c]
  have H1 : Hid (WkP ((w.alloc (.cells #[.int .i64 k.rid, .slice k.mv.a k.mv.n k.mv.c, .slice k.mav.a k.mav.n k.mav.c, .slice k.flv.a k.flv.n k.flv.c, .slice k.hev.a k.hev.n k.hev.c, .slice k.sav.a k.sav.n k.sav.c] 65)).alloc (.cells #[.int .i64 q.rid, .slice q.mv.a q.mv.n q.mv.c, .slice q.mav.a q.mav.n q.mav.c, .slice q.flv.a q.flv.n q.flv.c, .slice q.hev.a q.hev.n q.hev.c, .slice q.sav.a q.sav.n q.sav.c] 65)) k) := h1.out.below HB.out
  have H2 : Hid (WkP ((w.alloc (.cells #[.int .i64 k.rid, .slice k.mv.a k.mv.n k.mv.c, .slice k.mav.a k.mav.n k.mav.c, .slice k.flv.a k.flv.n k.flv.c, .slice k.hev.a k.hev.n k.hev.c, .slice k.sav.a k.sav.n k.sav.c] 65)).alloc (.cells #[.int .i64 q.rid, .slice q.mv.a q.mv.n q.mv.c, .slice q.mav.a q.mav.n q.mav.c, .slice q.flv.a q.flv.n q.flv.c, .slice q.hev.a q.hev.n q.hev.c, .slice q.sav.a q.sav.n q.sav.c] 65)) q) := h2.out.below HB.out
  have lm : q.mav.n = k.mav.n := by have e1 := slnLen h1.out.ma.1; have e2 := slnLen h2.out.ma.1; have e3 := congrArg List.length hS.out.ma; simp at e1 e2 e3; omega
  have lf : q.flv.n = k.flv.n := by have e1 := slnLen h1.out.fl.1; have e2 := slnLen h2.out.fl.1; have e3 := congrArg List.length hS.out.fl; simp at e1 e2 e3; omega
  have lh : q.hev.n = k.hev.n := by have e1 := slnLen h1.out.he.1; have e2 := slnLen h2.out.he.1; have e3 := congrArg List.length hS.out.he; simp at e1 e2 e3; omega
  have NM : Hid (k.mav.n = k.ma.length) := (by have e1 := slnLen h1.out.ma.1; simpa using e1 : _ = _)
  have NF : Hid (k.flv.n = k.fl.length) := (by have e1 := slnLen h1.out.fl.1; simpa using e1 : _ = _)
  have NH : Hid (k.hev.n = k.he.length) := (by have e1 := slnLen h1.out.he.1; simpa using e1 : _ = _)
  have SR : Hid (OwnI ((w.alloc (.cells #[.int .i64 k.rid, .slice k.mv.a k.mv.n k.mv.c, .slice k.mav.a k.mav.n k.mav.c, .slice k.flv.a k.flv.n k.flv.c, .slice k.hev.a k.hev.n k.hev.c, .slice k.sav.a k.sav.n k.sav.c] 65)).alloc (.cells #[.int .i64 q.rid, .slice q.mv.a q.mv.n q.mv.c, .slice q.mav.a q.mav.n q.mav.c, .slice q.flv.a q.flv.n q.flv.c, .slice q.hev.a q.hev.n q.hev.c, .slice q.sav.a q.sav.n q.sav.c] 65)) 0 q.mv.v k.ms) := (by have h := H2.out.ring; rw [← hS.out.ms] at h; exact h : OwnI _ _ _ _)
  have ER : Hid (k.rid = q.rid) := hS.out.rid
  have LM : Hid _ := lm
  have LF : Hid _ := lf
  have LH : Hid _ := lh
  clear lm lf lh h1 h2
  go_enter Try.func31, Try.ntmps31
  go_wp2_with (first | (refine wpList_ldG rfl 26 _ rfl w.heap.size 0 rfl 65 _ HA.out [.int .i64 k.rid, .slice k.mv.a k.mv.n k.mv.c] rfl _ Try.underlying26 rfl Try.sizeR ?_) | (refine wpList_ldG rfl 26 _ rfl (w.heap.size + 1) 0 rfl 65 _ HC.out [.int .i64 q.rid, .slice q.mv.a q.mv.n q.mv.c] rfl _ Try.underlying26 rfl Try.sizeR ?_))
  generalize ((w.alloc (.cells #[.int .i64 k.rid, .slice k.mv.a k.mv.n k.mv.c, .slice k.mav.a k.mav.n k.mav.c, .slice k.flv.a k.flv.n k.flv.c, .slice k.hev.a k.hev.n k.hev.c, .slice k.sav.a k.sav.n k.sav.c] 65)).alloc (.cells #[.int .i64 q.rid, .slice q.mv.a q.mv.n q.mv.c, .slice q.mav.a q.mav.n q.mav.c, .slice q.flv.a q.flv.n q.flv.c, .slice q.hev.a q.hev.n q.hev.c, .slice q.sav.a q.sav.n q.sav.c] 65)) = W at *
  rw [← ER.out]
  refine (eqRing_same k.rid k.mv.v q.mv.v k.ms 0 0 _ H1.out.ring SR hz.out.ms).mono ?_
  rintro e w1 ⟨rfl, b⟩
  have HA : Hid (Bx w1 w.heap.size 65 [.int .i64 k.rid, .slice k.mv.a k.mv.n k.mv.c, .slice k.mav.a k.mav.n k.mav.c, .slice k.flv.a k.flv.n k.flv.c, .slice k.hev.a k.hev.n k.hev.c, .slice k.sav.a k.sav.n k.sav.c]) := HA.out.later b
  have HC : Hid (Bx w1 (w.heap.size + 1) 65 [.int .i64 q.rid, .slice q.mv.a q.mv.n q.mv.c, .slice q.mav.a q.mav.n q.mav.c, .slice q.flv.a q.flv.n q.flv.c, .slice q.hev.a q.hev.n q.hev.c, .slice q.sav.a q.sav.n q.sav.c]) := HC.out.later b
  have H1 : Hid (WkP w1 k) := H1.out.below b
  have H2 : Hid (WkP w1 q) := H2.out.below b
  have HB : Hid (Below w.heap.size w w1) := bl_next HB.out b
  clear b
  have c2 := HA.out.cell 2
  have d2 := HC.out.cell 2
  go_wp2_with fail
  clear c2 d2 SR
  rw [LM.out]
  refine (eqmates_sp k.mav.a q.mav.a k.mav.n k.mav.c q.mav.c (fun j => ((k.ma.map mcel)[j]?).getD []) (fun j => ((q.ma.map mcel)[j]?).getD []) _ (fun j hj => slnRows H1.out.ma.1 j (by have := NM.out; simp; omega)) (fun j hj => slnRows H2.out.ma.1 j (by have := NM.out; have e3 := congrArg List.length hS.out.ma; simp at e3 ⊢; omega)) (fun j hj W' hb => ?_) (by have := NM.out; have := hz.out.ma; omega)).mono ?_
  · have hj1 : j < k.ma.length := by have := NM.out; omega
    obtain ⟨hj2, e⟩ := same_at hS.out.ma hj1
    have p1 := (H1.out.ma.2 _ (List.getElem_mem hj1)).later hb
    have p2 := (H2.out.ma.2 _ (List.getElem_mem hj2)).later hb
    have hm := hz.out.mas _ (List.getElem_mem hj1)
    try dsimp only
    rw [at_map hj1, at_map hj2]
    obtain ⟨⟨m1, u1⟩, x1⟩ : ∃ x, k.ma[j] = x := ⟨_, rfl⟩
    obtain ⟨⟨m2, u2⟩, x2⟩ : ∃ x, q.ma[j] = x := ⟨_, rfl⟩
    rw [x1] at p1 e hm ⊢
    rw [x2] at p2 e ⊢
    have e : m1 = m2 := e
    subst e
    exact eqMate_p m1 u1 u2 W' p1 p2 hm
  rintro e w2 ⟨rfl, b⟩
  have HA : Hid (Bx w2 w.heap.size 65 [.int .i64 k.rid, .slice k.mv.a k.mv.n k.mv.c, .slice k.mav.a k.mav.n k.mav.c, .slice k.flv.a k.flv.n k.flv.c, .slice k.hev.a k.hev.n k.hev.c, .slice k.sav.a k.sav.n k.sav.c]) := HA.out.later b
  have HC : Hid (Bx w2 (w.heap.size + 1) 65 [.int .i64 q.rid, .slice q.mv.a q.mv.n q.mv.c, .slice q.mav.a q.mav.n q.mav.c, .slice q.flv.a q.flv.n q.flv.c, .slice q.hev.a q.hev.n q.hev.c, .slice q.sav.a q.sav.n q.sav.c]) := HC.out.later b
  have H1 : Hid (WkP w2 k) := H1.out.below b
  have H2 : Hid (WkP w2 q) := H2.out.below b
  have HB : Hid (Below w.heap.size w w2) := bl_next HB.out b
  clear b
  have c3 := HA.out.cell 3
  have d3 := HC.out.cell 3
  go_wp2_with fail
  clear c3 d3
  rw [LF.out]
  refine (eqflys_sp k.flv.a q.flv.a k.flv.n k.flv.c q.flv.c (fun j => ((k.fl.map fcel)[j]?).getD []) (fun j => ((q.fl.map fcel)[j]?).getD []) _ (fun j hj => slnRows H1.out.fl.1 j (by have := NF.out; simp; omega)) (fun j hj => slnRows H2.out.fl.1 j (by have := NF.out; have e3 := congrArg List.length hS.out.fl; simp at e3 ⊢; omega)) (fun j hj W' hb => ?_) (by have := NF.out; have := hz.out.fl; omega)).mono ?_
  · have hj1 : j < k.fl.length := by have := NF.out; omega
    obtain ⟨hj2, e⟩ := same_at hS.out.fl hj1
    have p1 := (H1.out.fl.2 _ (List.getElem_mem hj1)).keep fun _ _ hk => hb.block _ hk
    have p2 := (H2.out.fl.2 _ (List.getElem_mem hj2)).keep fun _ _ hk => hb.block _ hk
    have hm := hz.out.fls _ (List.getElem_mem hj1)
    try dsimp only
    rw [at_map hj1, at_map hj2]
    obtain ⟨⟨m1, u1⟩, x1⟩ : ∃ x, k.fl[j] = x := ⟨_, rfl⟩
    obtain ⟨⟨m2, u2⟩, x2⟩ : ∃ x, q.fl[j] = x := ⟨_, rfl⟩
    rw [x1] at p1 e hm ⊢
    rw [x2] at p2 e ⊢
    have e : m1 = m2 := e
    subst e
    exact eqFly_p m1 u1 u2 W' p1 p2 hm
  rintro e w3 ⟨rfl, b⟩
  have HA : Hid (Bx w3 w.heap.size 65 [.int .i64 k.rid, .slice k.mv.a k.mv.n k.mv.c, .slice k.mav.a k.mav.n k.mav.c, .slice k.flv.a k.flv.n k.flv.c, .slice k.hev.a k.hev.n k.hev.c, .slice k.sav.a k.sav.n k.sav.c]) := HA.out.later b
  have HC : Hid (Bx w3 (w.heap.size + 1) 65 [.int .i64 q.rid, .slice q.mv.a q.mv.n q.mv.c, .slice q.mav.a q.mav.n q.mav.c, .slice q.flv.a q.flv.n q.flv.c, .slice q.hev.a q.hev.n q.hev.c, .slice q.sav.a q.sav.n q.sav.c]) := HC.out.later b
  have H1 : Hid (WkP w3 k) := H1.out.below b
  have H2 : Hid (WkP w3 q) := H2.out.below b
  have HB : Hid (Below w.heap.size w w3) := bl_next HB.out b
  clear b
  have c4 := HA.out.cell 4
  have d4 := HC.out.cell 4
  go_wp2_with fail
  clear c4 d4
  rw [LH.out]
  refine (eqss_sp k.hev.a q.hev.a k.hev.n k.hev.c q.hev.c (fun j => (((k.he.map hcel)[j]?).getD [])[0]?.getD undef) (fun j => (((q.he.map hcel)[j]?).getD [])[0]?.getD undef) _ (fun j hj => ssRows H1.out.he.1 j (by have := NH.out; omega)) (fun j hj => ssRows H2.out.he.1 j (by have := NH.out; have e3 := congrArg List.length hS.out.he; simp at e3; omega)) (fun j hj W' hb => ?_) (by have := NH.out; have := hz.out.he; omega)).mono ?_
  · have hj1 : j < k.he.length := by have := NH.out; omega
    obtain ⟨hj2, e⟩ := same_at hS.out.he hj1
    have p1 := (H1.out.he.2 _ (List.getElem_mem hj1)).below hb
    have p2 := (H2.out.he.2 _ (List.getElem_mem hj2)).below hb
    have hm := hz.out.hes _ (List.getElem_mem hj1)
    try dsimp only
    rw [at_map hj1, at_map hj2]
    obtain ⟨⟨m1, u1⟩, x1⟩ : ∃ x, k.he[j] = x := ⟨_, rfl⟩
    obtain ⟨⟨m2, u2⟩, x2⟩ : ∃ x, q.he[j] = x := ⟨_, rfl⟩
    rw [x1] at p1 e hm ⊢
    rw [x2] at p2 e ⊢
    have e : m1 = m2 := e
    subst e
    exact eqItems_sl u1.v u2.v m1 0 0 W' p1 p2 hm
  rintro e w4 ⟨rfl, b⟩
  have HA : Hid (Bx w4 w.heap.size 65 [.int .i64 k.rid, .slice k.mv.a k.mv.n k.mv.c, .slice k.mav.a k.mav.n k.mav.c, .slice k.flv.a k.flv.n k.flv.c, .slice k.hev.a k.hev.n k.hev.c, .slice k.sav.a k.sav.n k.sav.c]) := HA.out.later b
  have HC : Hid (Bx w4 (w.heap.size + 1) 65 [.int .i64 q.rid, .slice q.mv.a q.mv.n q.mv.c, .slice q.mav.a q.mav.n q.mav.c, .slice q.flv.a q.flv.n q.flv.c, .slice q.hev.a q.hev.n q.hev.c, .slice q.sav.a q.sav.n q.sav.c]) := HC.out.later b
  have H1 : Hid (WkP w4 k) := H1.out.below b
  have H2 : Hid (WkP w4 q) := H2.out.below b
  have HB : Hid (Below w.heap.size w w4) := bl_next HB.out b
  clear b
  have c5 := HA.out.cell 5
  have d5 := HC.out.cell 5
  have S2 : Hid (SlI w4 0 q.sav.v k.sa) := (by have h := H2.out.sa; rw [← hS.out.sa] at h; exact h : SlI _ _ _ _)
  go_wp2_with fail
  clear c5 d5
  refine (eqItems_sl k.sav.v q.sav.v k.sa 0 0 _ H1.out.sa S2.out hz.out.sa).mono ?_
  rintro e w5 ⟨rfl, b⟩
  have HB : Hid (Below w.heap.size w w5) := bl_next HB.out b
  clear b
  go_wp2_with fail
  go_ret
  exact ⟨rfl, HB.out⟩
end Go.Proofs.Ythdjkkiegecgnaa


/- The places of a new ring at work, as the program makes it. -/
namespace Go.Proofs.Ythdjkkiegecgnaa
open Go.RowKit Pl
set_option linter.unusedVariables false
set_option linter.unusedSimpArgs false

def blkOf (s : Sv) : Nat := (s.v.ownBlock).getD 0
/-- a list of rows, cell by cell. -/
theorem slnCells {w : World} {T size B : Nat} {s : Sv} {rows : List (List Value)} (h : SlN w T size B s.v rows) (h0 : 0 < rows.length) : ∃ g off, s.a = some ⟨g, off, none⟩ ∧ B ≤ g ∧ g < w.heap.size ∧ (∃ cs, w.heap[g]? = some (.cells cs T (0, 0))) ∧ (∀ j r u, j < rows.length → ((rows[j]?).getD [])[r]? = some u → w.cell? ⟨g, off + j * size + r, none⟩ = some u) ∧ ∀ o, w.frozen? ⟨g, o, none⟩ = false := by
  obtain ⟨g, off, cap, hv, hb, hlt, hc, hf⟩ := h.1.read h0
  simp only [Sv.v, Value.slice.injEq] at hv
  refine ⟨g, off, hv.1, hb, hlt, h.blk (by simp [Sv.v, hv.1, Value.ownBlock]), fun j r u hj hu => ?_, hf⟩
  rw [List.getElem?_eq_getElem hj] at hu
  simp only [Option.getD_some] at hu
  have hr : r < size := by rw [← h.lens _ (List.getElem_mem hj)]; exact (List.getElem?_eq_some_iff.1 hu).1
  have := hc (j * size + r) u (by rw [flat_get rows h.lens j r hj hr]; exact hu)
  rw [Nat.add_assoc]
  exact this
theorem seg_one {TL : List Spot} {n len g off d : Nat} (h : ∀ i, i < len → TL[n + i]? = some (g, off + i, d)) : Seg TL n (some ⟨g, off, none⟩) len [d] := fun i hi => ⟨g, off, rfl, fun r e hr => by
  have hr0 : r = 0 := by have := (List.getElem?_eq_some_iff.1 hr).1; simp at this; omega
  subst hr0
  simp at hr
  subst hr
  simpa using h i hi⟩
theorem seg_nil (TL : List Spot) (n : Nat) (ao : Option Addr) (ds : List Nat) : Seg TL n ao 0 ds := fun i hi => absurd hi (Nat.not_lt_zero _)
theorem ty_ne {w : World} {a b S T : Nat} (h1 : ∃ cs, w.heap[a]? = some (.cells cs S (0, 0))) (h2 : ∃ cs, w.heap[b]? = some (.cells cs T (0, 0))) (hn : S ≠ T) : a ≠ b := fun e => by
  obtain ⟨c, h1⟩ := h1
  obtain ⟨d, h2⟩ := h2
  subst e
  rw [h1] at h2
  simp at h2
  exact hn h2.2
theorem IWk.keepx {w w1 w2 : World} {i : Int} {ms : List Int} {k : Wv} (h : IWk w w1 i ms k) (hz : w1.heap.size ≤ w2.heap.size) (hk : ∀ b, w.heap.size ≤ b → b < w1.heap.size → w2.heap[b]? = w1.heap[b]?) : IWk w w2 i ms k := by
  obtain ⟨lo, h1, h2, h3⟩ := h.lo
  have q1 : OwnI w2 w.heap.size k.mv.v ms := h.ring.keep fun b hb hl => hk b (h.ring.lt b hb).1 hl
  have q2 : SlN w2 32 16 w.heap.size k.mav.v (k.ma.map mcel) := h.ma.keep fun b hb hl => hk b (h.ma.lt b hb).1 hl
  have q3 : SlN w2 91 12 w.heap.size k.flv.v (k.fl.map fcel) := h.fl.keep fun b hb hl => hk b (h.fl.lt b hb).1 hl
  have q4 : SlN w2 27 1 w.heap.size k.hev.v (k.he.map hcel) := h.he.keep fun b hb hl => hk b (h.he.lt b hb).1 hl
  refine ⟨⟨by have e := h.nw.2.1; rw [e]; exact q1.down (Nat.zero_le _), ⟨q2.down (Nat.zero_le _), fun e he => ?_⟩, ⟨q3.down (Nat.zero_le _), fun e he => ?_⟩, ⟨q4.down (Nat.zero_le _), fun e he => ?_⟩, ?_⟩, q1, q2, q3, q4, ⟨lo, h1, h2.up hz, h3⟩, h.fz, h.sz, h.nw⟩
  · have u := h2.1 e he
    have p := h.p.ma.2 e he
    have hm : OwnI w2 0 e.2.ms.v e.1.ms := p.ms.keep fun b hb hl => hk b (by have := (u.2 b hb).1; omega) hl
    obtain ⟨m, ⟨a, b, c, d, x⟩⟩ := e
    have u1 := u.1
    simp only [Mv.mk.injEq] at u1
    obtain ⟨_, rfl, rfl, rfl, rfl⟩ := u1
    exact ⟨hm, p.its.keep fun _ hb => (by cases hb), p.lv.keep fun _ hb => (by cases hb), p.tx.keep' fun _ hb => (by cases hb), p.ws.keep fun _ hb => (by cases hb)⟩
  · have p := h.p.fl.2 e he
    have hz2 : e.2 = zSv := by
      have : e.2 ∈ k.fl.map (·.2) := List.mem_map.2 ⟨e, he, rfl⟩
      rw [h.fz] at this
      simpa using this
    rw [hz2] at p ⊢
    exact p.keep fun _ hb => by cases hb
  · have u := h2.2.2 e he
    exact (h.p.he.2 e he).keep fun b hb hl => hk b (by have := (u.2 b hb).1; omega) hl
  · have p := h.p.sa
    rw [h.sz] at p ⊢
    exact p.keep fun _ hb => by cases hb
def noMv : Mv := ⟨zSv, zSv, zSv, zSv, zSv⟩
theorem IWk.places {w w' : World} {i : Int} {ms : List Int} {k : Wv} (h : IWk w w' i ms k) (h0 : 0 < ms.length) (h5 : ms.length ≤ 5) :
    ∃ (TL : List Spot) (us : Nat → Mv) (N1 : Nat → Nat) (vs : Nat → Sv) (N2 : Nat → Nat) (xs : Nat → Sv) (N3 : Nat → Nat), TLok w' TL ∧ WkSeg w' TL k us N1 vs N2 xs N3 ∧ (∀ s ∈ TL, w.heap.size ≤ s.1) ∧ (∀ s ∈ TL, ∃ T, (∃ cs, w'.heap[s.1]? = some (.cells cs T (0, 0))) ∧ T ≠ 65) ∧ TL.length ≤ 1000 := by
  obtain ⟨n, hn⟩ : ∃ n, n = ms.length := ⟨_, rfl⟩
  obtain ⟨b0, cap0, e0, hb0, hl0, hc0, hf0⟩ := h.ring.some h0
  have t0 := own_is_i h.ring (k := b0) (by rw [e0]; rfl)
  simp only [Sv.v, Value.slice.injEq] at e0
  obtain ⟨lo, hlo1, ⟨ub1, ub2, ub3⟩, hlo2⟩ := h.lo
  have hb0l : b0 < lo := hlo2 b0 (by simp [Sv.v, e0.1, Value.ownBlock])
  obtain ⟨nw1, nw2, ⟨nw3, nw4⟩, nw5, nw6⟩ := h.nw
  have hml : k.ma.length = n := by have := congrArg List.length nw3; simp at this; omega
  have hhl : k.he.length = n := by have := congrArg List.length nw4; simp at this; omega
  have hfl : k.fl.length = 1 := by have := congrArg List.length nw6; simpa using this
  obtain ⟨g, off, eg, hbg, hlg, tg, cg, fg⟩ := slnCells h.ma (by simp; omega)
  obtain ⟨f, fo, ef, hbf, hlf, tf, cf, ff⟩ := slnCells h.fl (by simp; omega)
  obtain ⟨q, qo, eq, hbq, hlq, tq, cq, fq⟩ := slnCells h.he (by simp; omega)
  -- one member
  have one : ∀ j (hj : j < k.ma.length), ∃ b cap, (k.ma[j]).2 = ⟨⟨some ⟨b, 0, none⟩, n, cap⟩, zSv, zSv, zSv, zSv⟩ ∧ lo ≤ b ∧ b < w'.heap.size ∧ (∃ cs, w'.heap[b]? = some (.cells cs 3 (0, 0))) ∧ (∀ t, t < n → ∃ u, w'.cell? ⟨b, t, none⟩ = some u) ∧ ∀ t, w'.frozen? ⟨b, t, none⟩ = false := fun j hj => by
    have hm : (k.ma[j]).1.ms = ms := by
      have e := congrArg (fun l => l[j]?) nw3
      have hj2 : j < ms.length := by omega
      simp [hj, hj2] at e
      rw [e]
      rfl
    have ho := (h.p.ma.2 _ (List.getElem_mem hj)).ms
    rw [hm] at ho
    obtain ⟨b, cap, e1, _, hl1, hc1, hf1⟩ := ho.some h0
    have u1 := ub1 _ (List.getElem_mem hj)
    have tb := own_is_i ho (k := b) (by rw [e1]; rfl)
    have hx := u1.2 b (by rw [e1]; rfl)
    refine ⟨b, cap, ?_, hx.1, hl1, tb, fun t ht => ⟨_, hc1 t (by omega)⟩, hf1⟩
    rw [u1.1]
    congr 1
    obtain ⟨⟨a, c, d⟩, hs⟩ : ∃ s, (k.ma[j]).2.ms = s := ⟨_, rfl⟩
    rw [hs] at e1 ⊢
    simp only [Sv.v, Value.slice.injEq] at e1
    rw [e1.1, e1.2.1, e1.2.2, hn]
  obtain ⟨bs, hbs⟩ : ∃ bs, bs = k.ma.map fun e => blkOf e.2.ms := ⟨_, rfl⟩
  have hbl : bs.length = n := by rw [hbs]; simpa using hml
  have hbj : ∀ j (hj : j < k.ma.length), bs.getD j 0 = blkOf (k.ma[j]).2.ms := fun j hj => by rw [hbs]; simp [List.getD, hj]
  have hbm : ∀ b ∈ bs, lo ≤ b ∧ b < w'.heap.size ∧ ∃ cs, w'.heap[b]? = some (.cells cs 3 (0, 0)) := fun b hb => by
    rw [hbs] at hb
    obtain ⟨e, he, rfl⟩ := List.mem_map.1 hb
    obtain ⟨j, hj, rfl⟩ := List.mem_iff_getElem.1 he
    obtain ⟨b, cap, e1, h1, h2, h3, _⟩ := one j hj
    have e2 : blkOf (k.ma[j]).2.ms = b := by rw [e1]; rfl
    rw [e2]
    exact ⟨h1, h2, h3⟩
  have hasc : bs.Pairwise (· < ·) := by
    rw [hbs, List.pairwise_map]
    refine List.Pairwise.imp_of_mem (fun {a b} ha hb hab => ?_) ub2
    obtain ⟨j, hj, rfl⟩ := List.mem_iff_getElem.1 ha
    obtain ⟨j2, hj2, rfl⟩ := List.mem_iff_getElem.1 hb
    obtain ⟨x, c1, e1, _⟩ := one j hj
    obtain ⟨y, c2, e2, _⟩ := one j2 hj2
    have := hab x y (by rw [e1]; rfl) (by rw [e2]; rfl)
    rw [e1, e2]
    exact this
  have d0 : b0 ≠ g ∧ b0 ≠ f ∧ g ≠ f := ⟨ty_ne t0 tg (by decide), ty_ne t0 tf (by decide), ty_ne tg tf (by decide)⟩
  have dq : b0 ≠ q ∧ g ≠ q ∧ f ≠ q := ⟨ty_ne t0 tq (by decide), ty_ne tg tq (by decide), ty_ne tf tq (by decide)⟩
  have db : ∀ b ∈ bs, b ≠ g ∧ b ≠ f ∧ b0 < b := fun b hb => ⟨ty_ne (hbm b hb).2.2 tg (by decide), ty_ne (hbm b hb).2.2 tf (by decide), by have := (hbm b hb).1; omega⟩
  have dbq : ∀ b ∈ bs, b ≠ q := fun b hb => ty_ne (hbm b hb).2.2 tq (by decide)
  have hgd : ∀ j, j < bs.length → bs.getD j 0 ∈ bs := fun j hj => by simp [List.getD, hj]
  have rowM : ∀ j (hj : j < k.ma.length) r u, (mcel k.ma[j])[r]? = some u → w'.cell? ⟨g, off + j * 16 + r, none⟩ = some u := fun j hj r u hu => cg j r u (by simpa using hj) (by simpa [hj] using hu)
  have rowF : ∀ r u, (fcel (k.fl[0]'(by omega)))[r]? = some u → w'.cell? ⟨f, fo + r, none⟩ = some u := fun r u hu => by have := cf 0 r u (by simp; omega) (by simpa [show 0 < k.fl.length by omega] using hu); simpa using this
  refine ⟨TLw b0 n g off f fo bs, fun j => ((k.ma[j]?).map (·.2)).getD noMv, fun j => n + j * (11 + n), fun _ => zSv, fun j => n + n * (11 + n) + j * 11, fun j => ((k.he[j]?).map (·.2)).getD zSv, fun _ => n + n * (11 + n) + 11, ⟨TLw_nd db d0 hasc, fun s hs => ?_, fun s hs => ?_, fun s hs => ?_⟩, ?_, fun s hs => ?_, fun s hs => ?_, ?_⟩
  · rcases TLw_mem hs with ⟨e, _⟩ | ⟨j, hj, ⟨e, _⟩ | ⟨e, _⟩⟩ | ⟨e, _⟩
    · omega
    · have := (hbm _ (hgd j hj)).2.1; omega
    · omega
    · omega
  · rcases TLw_mem hs with ⟨e, e2⟩ | ⟨j, hj, ⟨e, e2⟩ | ⟨e, c, e2, e3⟩⟩ | ⟨e, c, e2, e3⟩
    · rw [e]; exact ⟨_, hc0 _ (by omega)⟩
    · have hj2 : j < k.ma.length := by omega
      obtain ⟨b, cap, e4, _, _, _, h7, _⟩ := one j hj2
      rw [e, hbj j hj2, e4]
      exact h7 _ e2
    · have hj2 : j < k.ma.length := by omega
      obtain ⟨u, hu⟩ : ∃ u, (mcel k.ma[j])[c]? = some u := ⟨(mcel k.ma[j])[c]'(by show c < 16; omega), List.getElem?_eq_getElem _⟩
      rw [e, e2]
      exact ⟨_, rowM j hj2 c u hu⟩
    · obtain ⟨u, hu⟩ : ∃ u, (fcel (k.fl[0]'(by omega)))[c]? = some u := ⟨(fcel (k.fl[0]'(by omega)))[c]'(by show c < 12; omega), List.getElem?_eq_getElem _⟩
      rw [e, e2]
      exact ⟨_, rowF c u hu⟩
  · rcases TLw_mem hs with ⟨e, e2⟩ | ⟨j, hj, ⟨e, e2⟩ | ⟨e, c, e2, e3⟩⟩ | ⟨e, c, e2, e3⟩
    · rw [e]; exact hf0 _
    · have hj2 : j < k.ma.length := by omega
      obtain ⟨b, cap, e4, _, _, _, _, h8⟩ := one j hj2
      rw [e, hbj j hj2, e4]
      exact h8 _
    · rw [e]; exact fg _
    · rw [e]; exact ff _
  · have hmn : k.mav.n = n := by have := slnLen h.ma; simp at this; omega
    have hfn : k.flv.n = 1 := by have := slnLen h.fl; simp at this; omega
    have hhn : k.hev.n = n := by have := slnLen h.he; simp at this; omega
    have hm0 : n + 0 * (11 + n) = k.mv.n := by rw [Nat.zero_mul, e0.2.1]; omega
    have hf0' : n + n * (11 + n) + 0 * 11 = n + k.mav.n * (11 + n) := by rw [hmn, Nat.zero_mul, Nat.add_zero]
    have hh0 : n + n * (11 + n) + 11 = n + n * (11 + n) + k.flv.n * 11 := by rw [hfn]
    refine { ring := ?_, ma := ⟨fun j hj => ?_, fun j hj => ?_⟩, m0 := hm0, fl := ⟨fun j hj => ?_, fun j hj => ?_⟩, f0 := hf0', he := ⟨fun j hj => ?_, fun j hj => ?_⟩, h0 := hh0, sa := by rw [h.sz]; exact seg_nil _ _ _ _, ln := by rw [TLw_len, hbl, h.sz]; simp [zSv] }
    · rw [e0.1, e0.2.1, ← hn]
      exact seg_one fun i hi => by have := TLw_ring (b0 := b0) (g := g) (off := off) (f := f) (fo := fo) (bs := bs) hi; simpa using this
    · rw [hmn] at hj
      have hj2 : j < k.ma.length := by omega
      have hj3 : j < bs.length := by omega
      obtain ⟨b, cap, e4, _, hbw, _, _, _⟩ := one j hj2
      have hbb : bs.getD j 0 = b := by rw [hbj j hj2, e4]; rfl
      have hu : ((k.ma[j]?).map (·.2)).getD noMv = (k.ma[j]).2 := by simp [hj2]
      refine ⟨g, off, eg, ?_⟩
      try dsimp only
      rw [hu]
      have ua : (k.ma[j]).2.ms.a = some ⟨b, 0, none⟩ := by rw [e4]
      have un : (k.ma[j]).2.ms.n = n := by rw [e4]
      have i0 : (k.ma[j]).2.its.n = 0 := by rw [e4]; rfl
      have l0 : (k.ma[j]).2.lv.n = 0 := by rw [e4]; rfl
      have x0 : (k.ma[j]).2.tx.n = 0 := by rw [e4]; rfl
      have w0 : (k.ma[j]).2.ws.n = 0 := by rw [e4]; rfl
      have hM : ∀ c, c < 9 → (TLw b0 n g off f fo bs)[n + j * (11 + n) + (2 + n + c)]? = (mtl g (off + j * 16))[c]? := fun c hc => by rw [TLw_mate hj3 (by omega), msp_end]
      have hq : ∀ c, (c = 2 ∨ c = 3 ∨ c = 4 ∨ c = 5 ∨ c = 15) → ∀ s ∈ TLw b0 n g off f fo bs, ¬ (s.1 = g ∧ s.2.1 = off + j * 16 + c) := fun c hc s hs e => by
        rcases TLw_mem hs with ⟨e1, e2⟩ | ⟨j', hj', ⟨e1, e2⟩ | ⟨e1, c', e2, e3⟩⟩ | ⟨e1, c', e2, e3⟩
        · omega
        · have := (db _ (hgd j' hj')).1; omega
        · omega
        · omega
      exact { gl := hlg, p0 := by have := TLw_mate (b0 := b0) (g := g) (off := off) (f := f) (fo := fo) hj3 (r := 0) (n := n) (by omega); exact this, p1 := by have := TLw_mate (b0 := b0) (g := g) (off := off) (f := f) (fo := fo) hj3 (r := 1) (n := n) (by omega); exact this, h2 := rowM j hj2 2 _ rfl, q2 := hq 2 (by omega), s2 := by rw [ua, un]; exact seg_one (fun i hi => by rw [show n + j * (11 + n) + 1 + 1 + i = n + j * (11 + n) + (2 + i) by omega, TLw_mate hj3 (by omega), msp_in hi, hbb, Nat.zero_add]), h3 := rowM j hj2 3 _ rfl, q3 := hq 3 (by omega), s3 := by rw [i0]; exact seg_nil _ _ _ _, h4 := rowM j hj2 4 _ rfl, q4 := hq 4 (by omega), s4 := by rw [l0]; exact seg_nil _ _ _ _, h5 := rowM j hj2 5 _ rfl, q5 := hq 5 (by omega), s5 := by rw [x0]; exact seg_nil _ _ _ _, p6 := by refine Eq.trans (congrArg (fun x => (TLw b0 n g off f fo bs)[x]?) (?_ : _ = n + j * (11 + n) + (2 + n + 0))) (hM 0 (by omega)); rw [un, i0, l0, x0]; omega, p7 := by refine Eq.trans (congrArg (fun x => (TLw b0 n g off f fo bs)[x]?) (?_ : _ = n + j * (11 + n) + (2 + n + 1))) (hM 1 (by omega)); rw [un, i0, l0, x0]; omega, p8 := by refine Eq.trans (congrArg (fun x => (TLw b0 n g off f fo bs)[x]?) (?_ : _ = n + j * (11 + n) + (2 + n + 2))) (hM 2 (by omega)); rw [un, i0, l0, x0]; omega, p9 := by refine Eq.trans (congrArg (fun x => (TLw b0 n g off f fo bs)[x]?) (?_ : _ = n + j * (11 + n) + (2 + n + 3))) (hM 3 (by omega)); rw [un, i0, l0, x0]; omega, p10 := by refine Eq.trans (congrArg (fun x => (TLw b0 n g off f fo bs)[x]?) (?_ : _ = n + j * (11 + n) + (2 + n + 4))) (hM 4 (by omega)); rw [un, i0, l0, x0]; omega, p11 := by refine Eq.trans (congrArg (fun x => (TLw b0 n g off f fo bs)[x]?) (?_ : _ = n + j * (11 + n) + (2 + n + 5))) (hM 5 (by omega)); rw [un, i0, l0, x0]; omega, p12 := by refine Eq.trans (congrArg (fun x => (TLw b0 n g off f fo bs)[x]?) (?_ : _ = n + j * (11 + n) + (2 + n + 6))) (hM 6 (by omega)); rw [un, i0, l0, x0]; omega, p13 := by refine Eq.trans (congrArg (fun x => (TLw b0 n g off f fo bs)[x]?) (?_ : _ = n + j * (11 + n) + (2 + n + 7))) (hM 7 (by omega)); rw [un, i0, l0, x0]; omega, p14 := by refine Eq.trans (congrArg (fun x => (TLw b0 n g off f fo bs)[x]?) (?_ : _ = n + j * (11 + n) + (2 + n + 8))) (hM 8 (by omega)); rw [un, i0, l0, x0]; omega, h15 := rowM j hj2 15 _ rfl, q15 := hq 15 (by omega), s15 := by rw [w0]; exact seg_nil _ _ _ _ }
    · rw [hmn] at hj
      have hj2 : j < k.ma.length := by omega
      obtain ⟨b, cap, e4, _⟩ := one j hj2
      have hu : ((k.ma[j]?).map (·.2)).getD noMv = (k.ma[j]).2 := by simp [hj2]
      try dsimp only
      rw [hu, e4, Nat.succ_mul]
      unfold MtSeg.len
      simp [zSv]
      omega
    · have hj0 : j = 0 := by omega
      subst hj0
      have hz : (k.fl[0]'(by omega)).2 = zSv := by
        have e := congrArg (fun l => l[0]?) h.fz
        simp [show 0 < k.fl.length by omega] at e
        exact e
      have hF : ∀ r, (TLw b0 n g off f fo bs)[n + n * (11 + n) + r]? = (fsp f fo)[r]? := fun r => by have := TLw_fly (b0 := b0) (n := n) (g := g) (off := off) (f := f) (fo := fo) (bs := bs) (r := r); rw [hbl] at this; exact this
      have p0 := hF 0
      have p1 := hF 1
      have p2 := hF 2
      have p3 := hF 3
      have p4 := hF 4
      have p5 := hF 5
      have p6 := hF 6
      have p8 := hF 7
      have p9 := hF 8
      have p10 := hF 9
      have p11 := hF 10
      have h7 := rowF 7 (.slice zSv.a zSv.n zSv.c) (by rw [← hz]; rfl)
      have q7 : ∀ s ∈ TLw b0 n g off f fo bs, ¬ (s.1 = f ∧ s.2.1 = fo + 7) := fun s hs e => by
        rcases TLw_mem hs with ⟨e1, e2⟩ | ⟨j', hj', ⟨e1, e2⟩ | ⟨e1, c', e2, e3⟩⟩ | ⟨e1, c', e2, e3⟩
        · omega
        · have := (db _ (hgd j' hj')).2.1; omega
        · omega
        · omega
      have hS : FlSeg w' (TLw b0 n g off f fo bs) (n + n * (11 + n)) f fo zSv := ⟨hlf, p0, p1, p2, p3, p4, p5, p6, h7, q7, seg_nil _ _ _ _, p8, p9, p10, p11⟩
      refine ⟨f, fo, ef, ?_⟩
      simpa using hS
    · have hj0 : j = 0 := by omega
      subst hj0
      simp [FlSeg.len, zSv]
    · rw [hhn] at hj
      have hj2 : j < k.he.length := by omega
      have hu : ((k.he[j]?).map (·.2)).getD zSv = (k.he[j]).2 := by simp [hj2]
      have hx := (ub3 _ (List.getElem_mem hj2)).1
      refine ⟨q, qo, eq, ?_⟩
      try dsimp only
      rw [hu]
      have c0 := cq j 0 (.slice (k.he[j]).2.a (k.he[j]).2.n (k.he[j]).2.c) (by simpa using hj2) (by simp [hj2, hcel])
      have q0 : ∀ s ∈ TLw b0 n g off f fo bs, ¬ (s.1 = q ∧ s.2.1 = qo + j) := fun s hs e => by
        rcases TLw_mem hs with ⟨e1, e2⟩ | ⟨j', hj', ⟨e1, e2⟩ | ⟨e1, c', e2, e3⟩⟩ | ⟨e1, c', e2, e3⟩
        · omega
        · have := dbq _ (hgd j' hj'); omega
        · omega
        · omega
      exact ⟨hlq, by simpa using c0, q0, by rw [hx]; exact seg_nil _ _ _ _⟩
    · rw [hhn] at hj
      have hj2 : j < k.he.length := by omega
      have hu : ((k.he[j]?).map (·.2)).getD zSv = (k.he[j]).2 := by simp [hj2]
      have hx := (ub3 _ (List.getElem_mem hj2)).1
      try dsimp only
      rw [hu]
      unfold SsSeg.len
      rw [hx]
  · rcases TLw_mem hs with ⟨e, e2⟩ | ⟨j, hj, ⟨e, e2⟩ | ⟨e, c, e2, e3⟩⟩ | ⟨e, c, e2, e3⟩
    · omega
    · have := (hbm _ (hgd j hj)).1; omega
    · omega
    · omega
  · rcases TLw_mem hs with ⟨e, e2⟩ | ⟨j, hj, ⟨e, e2⟩ | ⟨e, c, e2, e3⟩⟩ | ⟨e, c, e2, e3⟩
    · rw [e]; exact ⟨3, t0, by decide⟩
    · rw [e]; exact ⟨3, (hbm _ (hgd j hj)).2.2, by decide⟩
    · rw [e]; exact ⟨32, tg, by decide⟩
    · rw [e]; exact ⟨91, tf, by decide⟩
  · rw [TLw_len, hbl]
    have : n * (11 + n) ≤ 5 * (11 + n) := Nat.mul_le_mul_right _ (by omega)
    omega
end Go.Proofs.Ythdjkkiegecgnaa


/- The law on WorkNew. Written by gen_lwn.py. -/
namespace Go.Proofs.Ythdjkkiegecgnaa
open Go.RowKit Pl
set_option linter.unusedVariables false
set_option linter.unusedSimpArgs false

set_option maxRecDepth 100000 in
set_option maxHeartbeats 1000000 in
theorem workNew_no (i : Int) (s : Sv) (ms : List Int) (w : World) (h : Hid (RI w s.v ms)) (hl : ms.length ≤ 1048576) (hr : Hid (ringB i ms = false)) :
    Calls Try.prog 30 #[.agg #[.int .i64 i, .slice s.a s.n s.c]] w fun e w' => e = .returned (.tuple #[.agg #[.int .i64 0, .slice none 0 0, .slice none 0 0, .slice none 0 0, .slice none 0 0, .slice none 0 0], .bool false]) ∧ Below w.heap.size w w' := by
  have hn1 : (w.alloc (.cells #[.int .i64 i, .slice s.a s.n s.c] 26)).heap.size = w.heap.size + 1 := by simp
  have HR : Hid (Bx ((w.alloc (.cells #[.int .i64 i, .slice s.a s.n s.c] 26)).alloc (.cells #[.int .i64 0, .slice none 0 0, .slice none 0 0, .slice none 0 0, .slice none 0 0, .slice none 0 0] 65)) (w.heap.size + 1) 65 [.int .i64 0, .slice none 0 0, .slice none 0 0, .slice none 0 0, .slice none 0 0, .slice none 0 0]) := by
    have h := Bx.new (w.alloc (.cells #[.int .i64 i, .slice s.a s.n s.c] 26)) 65 [.int .i64 0, .slice none 0 0, .slice none 0 0, .slice none 0 0, .slice none 0 0, .slice none 0 0]
    rw [hn1] at h
    exact h
  have HB : Hid (Below w.heap.size w ((w.alloc (.cells #[.int .i64 i, .slice s.a s.n s.c] 26)).alloc (.cells #[.int .i64 0, .slice none 0 0, .slice none 0 0, .slice none 0 0, .slice none 0 0, .slice none 0 0] 65))) := ((Below.refl _ _).alloc (Nat.le_refl _) _).alloc (by simp) _
  have HX : Hid (RI ((w.alloc (.cells #[.int .i64 i, .slice s.a s.n s.c] 26)).alloc (.cells #[.int .i64 0, .slice none 0 0, .slice none 0 0, .slice none 0 0, .slice none 0 0, .slice none 0 0] 65)) s.v ms) := h.out.stays HB.out
  clear h hn1
  go_enter Try.func30, Try.ntmps30
  go_wp2_with fail
  generalize ((w.alloc (.cells #[.int .i64 i, .slice s.a s.n s.c] 26)).alloc (.cells #[.int .i64 0, .slice none 0 0, .slice none 0 0, .slice none 0 0, .slice none 0 0, .slice none 0 0] 65)) = W at *
  refine (ringOk_r i ms HX hl).mono ?_
  rintro e w1 ⟨rfl, b1⟩
  rw [hr.out]
  have R1 : Hid (Bx w1 (w.heap.size + 1) 65 [.int .i64 0, .slice none 0 0, .slice none 0 0, .slice none 0 0, .slice none 0 0, .slice none 0 0]) := HR.out.later b1
  have B1 : Hid (Below w.heap.size w w1) := bl_next HB.out b1
  clear HR HB HX b1 hr
  go_wp2_with (first | (refine wpList_stB rfl 65 _ _ rfl (w.heap.size + 1) 0 rfl 65 _ R1.out [.int .i64 0, .slice none 0 0, .slice none 0 0, .slice none 0 0, .slice none 0 0, .slice none 0 0] rfl (by simp) Try.sizeWk rfl [.int .i64 0, .slice none 0 0, .slice none 0 0, .slice none 0 0, .slice none 0 0, .slice none 0 0] rfl ?_; intro w3 R3 T3))
  have B3 := B1.out.trans (T3.below (by omega))
  refine bodyPost_ret (results_bt Try.results30 (w.heap.size + 1) 65 [.int .i64 0, .slice none 0 0, .slice none 0 0, .slice none 0 0, .slice none 0 0, .slice none 0 0] _ rfl R3 Try.underlying65 rfl Try.sizeWk) rfl ?_
  exact ⟨rfl, B3⟩
theorem workNew_yes (i : Int) (s : Sv) (ms : List Int) (w : World) (h : Hid (RI w s.v ms)) (hl : ms.length ≤ 1048576) (hr : Hid (ringB i ms = true)) :
    Calls Try.prog 30 #[.agg #[.int .i64 i, .slice s.a s.n s.c]] w fun e w' => ∃ k : Wv, e = .returned (.tuple #[.agg k.cells.toArray, .bool true]) ∧ IWk w w' i ms k ∧ Below w.heap.size w w' := by
  have h0 : 0 < ms.length := by
    have := hr.out
    unfold ringB at this
    simp at this
    exact this.2.1
  obtain ⟨ao, cap, hv, hx⟩ := h.out
  obtain ⟨b, off, e, _, _⟩ := hx 0 h0
  subst e
  cases s
  simp [Sv.v] at hv
  obtain ⟨rfl, rfl, rfl⟩ := hv
  exact workNew_at i b off ms.length _ ms w hx (rfl : ms.length = ms.length) hl hr h0
theorem WkSeg.marked {w0 ws w : World} {TL : List Spot} {K m : Nat} {k : Wv} {us : Nat → Mv} {N1 : Nat → Nat} {vs : Nat → Sv} {N2 : Nat → Nat} {xs : Nat → Sv} {N3 : Nat → Nat} (h : WkSeg w0 TL k us N1 vs N2 xs N3) (q : MkI w0 ws TL K m w) : WkSeg w TL k us N1 vs N2 xs N3 :=
  { h with ma := h.ma.marked q, fl := h.fl.marked q, he := h.he.marked q }
theorem IWk.later {w w1 w2 : World} {i : Int} {ms : List Int} {k : Wv} (h : IWk w w1 i ms k) (b : Below w1.heap.size w1 w2) : IWk w w2 i ms k := h.keepx b.size fun c _ hl => b.block c hl
def zWv : Wv := ⟨0, [], zSv, [], zSv, [], zSv, [], zSv, [], zSv⟩
theorem zWk (w : World) : WkP w zWv := ⟨ownI_nil _ _, ⟨SlN.nil _ _ _ _, fun e h => (by cases h)⟩, ⟨SlN.nil _ _ _ _, fun e h => (by cases h)⟩, ⟨SlN.nil _ _ _ _, fun e h => (by cases h)⟩, own_nilIt _ _⟩
theorem zSmall : Small zWv := ⟨by decide, by decide, fun e h => (by cases h), by decide, fun e h => (by cases h), by decide, fun e h => (by cases h), by decide⟩
theorem zPlaces (w : World) : TLok w [] ∧ WkSeg w [] zWv (fun _ => noMv) (fun _ => 0) (fun _ => zSv) (fun _ => 0) (fun _ => zSv) (fun _ => 0) :=
  ⟨⟨List.Pairwise.nil, fun s h => (by cases h), fun s h => (by cases h), fun s h => (by cases h)⟩, ⟨seg_nil _ _ _ _, ⟨fun j h => absurd h (Nat.not_lt_zero _), fun j h => absurd h (Nat.not_lt_zero _)⟩, rfl, ⟨fun j h => absurd h (Nat.not_lt_zero _), fun j h => absurd h (Nat.not_lt_zero _)⟩, rfl, ⟨fun j h => absurd h (Nat.not_lt_zero _), fun j h => absurd h (Nat.not_lt_zero _)⟩, rfl, seg_nil _ _ _ _, rfl⟩⟩
theorem new_small {i : Int} {ms : List Int} {k : Wv} (hn : k.rid = i ∧ k.ms = ms ∧ newW i ms ms.length k.ma k.he ∧ k.sa = [] ∧ k.fl.map (·.1) = [⟨ms.getD 0 0, true, ⟨i, 1, 0, 0, 0, []⟩, zIt⟩]) (hl : ms.length ≤ 5) : Small k := by
  obtain ⟨n1, n2, ⟨n3, n4⟩, n5, n6⟩ := hn
  have l1 := congrArg List.length n3
  have l2 := congrArg List.length n4
  have l3 := congrArg List.length n6
  simp at l1 l2 l3
  refine ⟨by rw [n2]; omega, by omega, fun e he => ?_, by omega, fun e he => ?_, by omega, fun e he => ?_, by rw [n5]; decide⟩
  · have h1 : e.1 ∈ k.ma.map (·.1) := List.mem_map.2 ⟨e, he, rfl⟩
    rw [n3] at h1
    obtain ⟨d, _, e2⟩ := List.mem_map.1 h1
    rw [← e2]
    exact mts_new d i (by omega)
  · have h1 : e.1 ∈ k.fl.map (·.1) := List.mem_map.2 ⟨e, he, rfl⟩
    rw [n6] at h1
    simp at h1
    rw [h1]
    exact Nat.zero_le _
  · have h1 : e.1 ∈ k.he.map (·.1) := List.mem_map.2 ⟨e, he, rfl⟩
    rw [n4] at h1
    have := (List.mem_replicate.1 h1).2
    rw [this]
    exact Nat.zero_le _
theorem new_same {i : Int} {ms : List Int} {k q : Wv} (hn : k.rid = i ∧ k.ms = ms ∧ newW i ms ms.length k.ma k.he ∧ k.sa = [] ∧ k.fl.map (·.1) = [⟨ms.getD 0 0, true, ⟨i, 1, 0, 0, 0, []⟩, zIt⟩]) (hq : q.rid = i ∧ q.ms = ms ∧ newW i ms ms.length q.ma q.he ∧ q.sa = [] ∧ q.fl.map (·.1) = [⟨ms.getD 0 0, true, ⟨i, 1, 0, 0, 0, []⟩, zIt⟩]) : Same k q :=
  ⟨hn.1.trans hq.1.symm, hn.2.1.trans hq.2.1.symm, hn.2.2.1.1.trans hq.2.2.1.1.symm, hn.2.2.2.2.trans hq.2.2.2.2.symm, hn.2.2.1.2.trans hq.2.2.1.2.symm, hn.2.2.2.1.trans hq.2.2.2.1.symm⟩
set_option maxRecDepth 100000 in
set_option maxHeartbeats 16000000 in
theorem lawWN_no (i : Int) (s : Sv) (ws : List Int) (w : World) (hx0 : Hid (RI w s.v ws)) (hl2 : ws.length ≤ 1048576) (HN : Hid (ws.length = s.n)) (hr : Hid (ringB i ws = false)) :
    Calls Try.prog 6 #[.agg #[.int .i64 i, .slice s.a s.n s.c]] w fun e w' => e = .returned (.bool true) ∧ Below w.heap.size w w' := by
  have HL0 : Hid (Bx (w.alloc (.cells #[.int .i64 i, .slice s.a s.n s.c] 50)) w.heap.size 50 [.int .i64 i, .slice s.a s.n s.c]) := Bx.new w 50 _
  have HB0 : Hid (Below w.heap.size w (w.alloc (.cells #[.int .i64 i, .slice s.a s.n s.c] 50))) := (Below.refl _ _).alloc (Nat.le_refl _) _
  have HX0 : Hid (RI (w.alloc (.cells #[.int .i64 i, .slice s.a s.n s.c] 50)) s.v ws) := hx0.out.stays HB0.out
  go_enter Try.func6, Try.ntmps6
  go_wp2_with fail
  generalize w.alloc (.cells #[.int .i64 i, .slice s.a s.n s.c] 50) = W0 at *
  have hz0 : s.n ≤ 1048576 := by have := HN.out; omega
  refine (szRing_any i s.a s.n s.c _ hz0).mono ?_
  rintro e w1 ⟨rfl, b⟩
  have HL0 : Hid (Bx w1 w.heap.size 50 [.int .i64 i, .slice s.a s.n s.c]) := HL0.out.later b
  have HB0 : Hid (Below w.heap.size w w1) := bl_next HB0.out b
  have HX0 : Hid (RI w1 s.v ws) := HX0.out.stays b
  have hz : decide (((1048576 - s.n : Nat) : Int) < 0) = false := by simp
  clear b
  have l0 := HL0.out.cell 0
  have l1 := HL0.out.cell 1
  go_wp2_with fail
  clear l0 l1
  clear hz hz0
  refine (toRing_r i s ws _ HX0 hl2).mono ?_
  rintro e w2 ⟨s2, rfl, o2, b⟩
  have HL0 : Hid (Bx w2 w.heap.size 50 [.int .i64 i, .slice s.a s.n s.c]) := HL0.out.later b
  have HB0 : Hid (Below w.heap.size w w2) := bl_next HB0.out b
  have HX0 : Hid (RI w2 s.v ws) := HX0.out.stays b
  have X2 : Hid (RI w2 s2.v ws) := o2.ri
  clear b o2
  go_wp2_with fail
  refine (spWorkNew_no i s2 ws _ X2 hl2 hr).mono ?_
  rintro e w3 ⟨rfl, b⟩
  have HL0 : Hid (Bx w3 w.heap.size 50 [.int .i64 i, .slice s.a s.n s.c]) := HL0.out.later b
  have HB0 : Hid (Below w.heap.size w w3) := bl_next HB0.out b
  have HX0 : Hid (RI w3 s.v ws) := HX0.out.stays b
  clear b X2
  have HLX : Hid (w.heap.size < w3.heap.size) := HL0.out.lt
  have hz : Hid (Bx (w3.alloc (.cells #[.int .i64 0, .slice none 0 0, .slice none 0 0, .slice none 0 0, .slice none 0 0, .slice none 0 0] 65)) w3.heap.size 65 [.int .i64 0, .slice none 0 0, .slice none 0 0, .slice none 0 0, .slice none 0 0, .slice none 0 0]) := Bx.new w3 65 _
  go_wp2_with (first | (refine wpList_stB rfl 65 _ _ rfl w3.heap.size 0 rfl 65 _ hz.out [.int .i64 0, .slice none 0 0, .slice none 0 0, .slice none 0 0, .slice none 0 0, .slice none 0 0] rfl (by simp) Try.sizeWk rfl [.int .i64 0, .slice none 0 0, .slice none 0 0, .slice none 0 0, .slice none 0 0, .slice none 0 0] rfl ?_; intro WK OB TB; have b : Below w3.heap.size w3 WK := ((Below.refl _ _).alloc (Nat.le_refl _) _).trans (TB.below (Nat.le_refl _)); have WKB : Hid (Bx WK w3.heap.size 65 [.int .i64 0, .slice none 0 0, .slice none 0 0, .slice none 0 0, .slice none 0 0, .slice none 0 0]) := OB; have HL0 : Hid (Bx WK w.heap.size 50 [.int .i64 i, .slice s.a s.n s.c]) := HL0.out.later b; have HB0 : Hid (Below w.heap.size w WK) := bl_next HB0.out b; have HX0 : Hid (RI WK s.v ws) := HX0.out.stays b; have l0 := HL0.out.cell 0; have l1 := HL0.out.cell 1; clear OB TB b; refine Stp.here ?_))
  refine Stp.go ?_
  clear hz
  have z_WK : w3.heap.size < WK.heap.size := WKB.out.lt
  generalize w3.heap.size = gWKB at *
  go_wp2_with fail
  clear l0 l1
  have BK : Hid (Below WK.heap.size WK WK) := Below.refl _ _
  have zLK : w.heap.size < WK.heap.size := HL0.out.lt
  refine (toRing_r i s ws _ HX0 hl2).mono ?_
  rintro e w4 ⟨sX, rfl, o4, b⟩
  have HL0 : Hid (Bx w4 w.heap.size 50 [.int .i64 i, .slice s.a s.n s.c]) := HL0.out.later b
  have HB0 : Hid (Below w.heap.size w w4) := bl_next HB0.out b
  have HX0 : Hid (RI w4 s.v ws) := HX0.out.stays b
  have WKB : Hid (Bx w4 gWKB 65 [.int .i64 0, .slice none 0 0, .slice none 0 0, .slice none 0 0, .slice none 0 0, .slice none 0 0]) := WKB.out.later b
  have BK : Hid (Below WK.heap.size WK w4) := BK.out.trans ((b).mono BK.out.size)
  have XO : Hid (OwnI w4 WK.heap.size sX.v ws) := o4
  clear b o4
  have XL : Hid (∀ k, sX.v.ownBlock = some k → WK.heap.size ≤ k ∧ k < w4.heap.size) := XO.out.lt
  have zW4 : WK.heap.size ≤ w4.heap.size := BK.out.size
  have hz : Hid (Bx (w4.alloc (.cells #[.int .i64 0, .slice none 0 0] 26)) w4.heap.size 26 [.int .i64 0, .slice none 0 0]) := Bx.new w4 26 _
  go_wp2_with (first | (refine wpList_stB rfl 26 _ _ rfl w4.heap.size 0 rfl 26 _ hz.out [.int .i64 i, .slice sX.a sX.n sX.c] rfl (by simp) Try.sizeR rfl [.int .i64 i, .slice sX.a sX.n sX.c] rfl ?_; intro WX OB TB; have b : Below w4.heap.size w4 WX := ((Below.refl _ _).alloc (Nat.le_refl _) _).trans (TB.below (Nat.le_refl _)); have WXB : Hid (Bx WX w4.heap.size 26 [.int .i64 i, .slice sX.a sX.n sX.c]) := OB; have HL0 : Hid (Bx WX w.heap.size 50 [.int .i64 i, .slice s.a s.n s.c]) := HL0.out.later b; have HB0 : Hid (Below w.heap.size w WX) := bl_next HB0.out b; have HX0 : Hid (RI WX s.v ws) := HX0.out.stays b; have WKB : Hid (Bx WX gWKB 65 [.int .i64 0, .slice none 0 0, .slice none 0 0, .slice none 0 0, .slice none 0 0, .slice none 0 0]) := WKB.out.later b; have BK : Hid (Below WK.heap.size WK WX) := BK.out.trans ((b).mono BK.out.size); have XO : Hid (OwnI WX WK.heap.size sX.v ws) := XO.out.keep fun _ _ hk => (b).block _ hk; have x0 := WXB.out.cell 0; have x1 := WXB.out.cell 1; clear OB TB b; refine Stp.here ?_))
  refine Stp.go ?_
  clear hz
  have z_WX : w4.heap.size < WX.heap.size := WXB.out.lt
  generalize w4.heap.size = gWXB at *
  go_wp2_with fail
  clear x0 x1
  have zX : gWXB < WX.heap.size := WXB.out.lt
  refine (workNew_no i sX ws _ (show Hid (RI WX sX.v ws) from XO.out.ri) hl2 hr).mono ?_
  rintro e w5 ⟨rfl, b⟩
  have HL0 : Hid (Bx w5 w.heap.size 50 [.int .i64 i, .slice s.a s.n s.c]) := HL0.out.later b
  have HB0 : Hid (Below w.heap.size w w5) := bl_next HB0.out b
  have HX0 : Hid (RI w5 s.v ws) := HX0.out.stays b
  have WKB : Hid (Bx w5 gWKB 65 [.int .i64 0, .slice none 0 0, .slice none 0 0, .slice none 0 0, .slice none 0 0, .slice none 0 0]) := WKB.out.later b
  have BK : Hid (Below WK.heap.size WK w5) := BK.out.trans ((b).mono BK.out.size)
  have XO : Hid (OwnI w5 WK.heap.size sX.v ws) := XO.out.keep fun _ _ hk => (b).block _ hk
  have WXB : Hid (Bx w5 gWXB 26 [.int .i64 i, .slice sX.a sX.n sX.c]) := WXB.out.later b
  have zX5 : WX.heap.size ≤ w5.heap.size := b.size
  clear b
  have hz : Hid (Bx (w5.alloc (.cells #[.int .i64 0, .slice none 0 0, .slice none 0 0, .slice none 0 0, .slice none 0 0, .slice none 0 0] 65)) w5.heap.size 65 [.int .i64 0, .slice none 0 0, .slice none 0 0, .slice none 0 0, .slice none 0 0, .slice none 0 0]) := Bx.new w5 65 _
  go_wp2_with (first | (refine wpList_stB rfl 65 _ _ rfl w5.heap.size 0 rfl 65 _ hz.out [.int .i64 0, .slice none 0 0, .slice none 0 0, .slice none 0 0, .slice none 0 0, .slice none 0 0] rfl (by simp) Try.sizeWk rfl [.int .i64 0, .slice none 0 0, .slice none 0 0, .slice none 0 0, .slice none 0 0, .slice none 0 0] rfl ?_; intro WG OB TB; have b : Below w5.heap.size w5 WG := ((Below.refl _ _).alloc (Nat.le_refl _) _).trans (TB.below (Nat.le_refl _)); have WGB : Hid (Bx WG w5.heap.size 65 [.int .i64 0, .slice none 0 0, .slice none 0 0, .slice none 0 0, .slice none 0 0, .slice none 0 0]) := OB; have HL0 : Hid (Bx WG w.heap.size 50 [.int .i64 i, .slice s.a s.n s.c]) := HL0.out.later b; have HB0 : Hid (Below w.heap.size w WG) := bl_next HB0.out b; have HX0 : Hid (RI WG s.v ws) := HX0.out.stays b; have WKB : Hid (Bx WG gWKB 65 [.int .i64 0, .slice none 0 0, .slice none 0 0, .slice none 0 0, .slice none 0 0, .slice none 0 0]) := WKB.out.later b; have BK : Hid (Below WK.heap.size WK WG) := BK.out.trans ((b).mono BK.out.size); have XO : Hid (OwnI WG WK.heap.size sX.v ws) := XO.out.keep fun _ _ hk => (b).block _ hk; have WXB : Hid (Bx WG gWXB 26 [.int .i64 i, .slice sX.a sX.n sX.c]) := WXB.out.later b; clear OB TB b; refine Stp.here ?_))
  refine Stp.go ?_
  clear hz
  have z_WG : w5.heap.size < WG.heap.size := WGB.out.lt
  generalize w5.heap.size = gWGB at *
  go_wp2_with (first | (refine wpList_ldG rfl 65 _ rfl gWGB 0 rfl 65 _ WGB.out [.int .i64 0, .slice none 0 0, .slice none 0 0, .slice none 0 0, .slice none 0 0, .slice none 0 0] rfl _ Try.underlying65 rfl Try.sizeWk ?_) | (refine wpList_ldG rfl 65 _ rfl gWKB 0 rfl 65 _ WKB.out [.int .i64 0, .slice none 0 0, .slice none 0 0, .slice none 0 0, .slice none 0 0, .slice none 0 0] rfl _ Try.underlying65 rfl Try.sizeWk ?_))
  refine (eqWork_p zWv zWv _ (zWk WG) (zWk WG) (⟨rfl, rfl, rfl, rfl, rfl, rfl⟩ : Same zWv zWv) zSmall).mono ?_
  rintro e w6 ⟨rfl, b⟩
  have HL0 : Hid (Bx w6 w.heap.size 50 [.int .i64 i, .slice s.a s.n s.c]) := HL0.out.later b
  have HB0 : Hid (Below w.heap.size w w6) := bl_next HB0.out b
  have HX0 : Hid (RI w6 s.v ws) := HX0.out.stays b
  have WKB : Hid (Bx w6 gWKB 65 [.int .i64 0, .slice none 0 0, .slice none 0 0, .slice none 0 0, .slice none 0 0, .slice none 0 0]) := WKB.out.later b
  have BK : Hid (Below WK.heap.size WK w6) := BK.out.trans ((b).mono BK.out.size)
  have XO : Hid (OwnI w6 WK.heap.size sX.v ws) := XO.out.keep fun _ _ hk => (b).block _ hk
  have WXB : Hid (Bx w6 gWXB 26 [.int .i64 i, .slice sX.a sX.n sX.c]) := WXB.out.later b
  have WGB : Hid (Bx w6 gWGB 65 [.int .i64 0, .slice none 0 0, .slice none 0 0, .slice none 0 0, .slice none 0 0, .slice none 0 0]) := WGB.out.later b
  clear b
  have HH : Hid (∀ w', Below w6.heap.size w6 w' → ((w'.cell? ⟨gWXB, 0, none⟩ = some (.int .i64 i) ∧ w'.cell? ⟨gWXB, 1, none⟩ = some (.slice sX.a sX.n sX.c)) ∧ (w'.cell? ⟨w.heap.size, 0, none⟩ = some (.int .i64 i) ∧ w'.cell? ⟨w.heap.size, 1, none⟩ = some (.slice s.a s.n s.c))) ∧ Hid (Below w6.heap.size w6 w')) := fun w' hb => ⟨⟨⟨(WXB.out.later hb).cell 0, (WXB.out.later hb).cell 1⟩, (HL0.out.later hb).cell 0, (HL0.out.later hb).cell 1⟩, hb⟩
  have HI := HH.out w6.drew (Below.refl _ _).drew
  have X6d : Hid (RI w6.drew s.v ws) := HX0.out.stays (Below.refl _ _).drew
  go_wp2_with fail
  go_region_held3 (fun w' => ((w'.cell? ⟨gWXB, 0, none⟩ = some (.int .i64 i) ∧ w'.cell? ⟨gWXB, 1, none⟩ = some (.slice sX.a sX.n sX.c)) ∧ (w'.cell? ⟨w.heap.size, 0, none⟩ = some (.int .i64 i) ∧ w'.cell? ⟨w.heap.size, 1, none⟩ = some (.slice s.a s.n s.c))) ∧ Hid (Below w6.heap.size w6 w')) (first | exact HI | assumption) (first | (go_at_call 25; refine (toRing_r i s ws _ X6d hl2).mono ?_; rintro e w7 ⟨s7, rfl, o7, b7⟩; have hk7 := HH.out w7 ((Below.refl w6.heap.size w6).drew.trans b7)) | (go_at_call 28; refine (eqRing_same i sX.v s7.v ws _ _ _ (show Hid (OwnI _ _ _ ws) from XO.out.keep fun _ _ hk => hk7.2.out.block _ hk) (show Hid (OwnI _ _ _ ws) from o7) hl2).mono ?_; rintro e w8 ⟨rfl, b8⟩; have hk8 := HH.out w8 (hk7.2.out.trans (b8.mono hk7.2.out.size))))
  have b : Below w6.heap.size w6 w8 := hk8.2.out
  have HL0 : Hid (Bx w8 w.heap.size 50 [.int .i64 i, .slice s.a s.n s.c]) := HL0.out.later b
  have HB0 : Hid (Below w.heap.size w w8) := bl_next HB0.out b
  have HX0 : Hid (RI w8 s.v ws) := HX0.out.stays b
  have WKB : Hid (Bx w8 gWKB 65 [.int .i64 0, .slice none 0 0, .slice none 0 0, .slice none 0 0, .slice none 0 0, .slice none 0 0]) := WKB.out.later b
  have BK : Hid (Below WK.heap.size WK w8) := BK.out.trans ((b).mono BK.out.size)
  have XO : Hid (OwnI w8 WK.heap.size sX.v ws) := XO.out.keep fun _ _ hk => (b).block _ hk
  have WXB : Hid (Bx w8 gWXB 26 [.int .i64 i, .slice sX.a sX.n sX.c]) := WXB.out.later b
  have WGB : Hid (Bx w8 gWGB 65 [.int .i64 0, .slice none 0 0, .slice none 0 0, .slice none 0 0, .slice none 0 0, .slice none 0 0]) := WGB.out.later b
  clear b hk8 b8 hk7 o7 b7 HH HI X6d
  have x0 := WXB.out.cell 0
  have x1 := WXB.out.cell 1
  go_wp2_with fail
  clear x0 x1
  have zK8 : WK.heap.size ≤ w8.heap.size := BK.out.size
  have zG8 : gWGB < w8.heap.size := WGB.out.lt
  refine (markRing_any i sX.v ws WK.heap.size 1 _ XO (by omega) (by omega)).mono ?_
  rintro e w9 ⟨rfl, _, G9⟩
  have HB0 : Hid (Below w.heap.size w w9) := HB0.out.grown G9 HB0.out.size (fun k hk => by have := (XL.out k hk).1; omega)
  have HL0 : Hid (Bx w9 w.heap.size 50 [.int .i64 i, .slice s.a s.n s.c]) := HL0.out.grown G9 (fun e => by have := (XL.out _ e.symm).1; omega)
  have HX0 : Hid (RI w9 s.v ws) := hx0.out.stays HB0.out
  have WKB : Hid (Bx w9 gWKB 65 [.int .i64 0, .slice none 0 0, .slice none 0 0, .slice none 0 0, .slice none 0 0, .slice none 0 0]) := WKB.out.grown G9 (fun e => by have := (XL.out _ e.symm).1; omega)
  have WGB : Hid (Bx w9 gWGB 65 [.int .i64 0, .slice none 0 0, .slice none 0 0, .slice none 0 0, .slice none 0 0, .slice none 0 0]) := WGB.out.grown G9 (fun e => by have := (XL.out _ e.symm).2; omega)
  have BK : Hid (Below WK.heap.size WK w9) := BK.out.grown G9 BK.out.size (fun k hk => (XL.out k hk).1)
  obtain ⟨z9, hz9⟩ : ∃ z9 : Nat, 1 + ws.length = z9 := ⟨_, rfl⟩
  rw [hz9]
  have hz9 : decide ((z9 : Int) < 0) = false := by simp
  clear WXB XO G9
  go_wp2_with (first | (refine wpList_ldG rfl 65 _ rfl gWGB 0 rfl 65 _ WGB.out [.int .i64 0, .slice none 0 0, .slice none 0 0, .slice none 0 0, .slice none 0 0, .slice none 0 0] rfl _ Try.underlying65 rfl Try.sizeWk ?_) | (refine wpList_ldG rfl 65 _ rfl gWKB 0 rfl 65 _ WKB.out [.int .i64 0, .slice none 0 0, .slice none 0 0, .slice none 0 0, .slice none 0 0, .slice none 0 0] rfl _ Try.underlying65 rfl Try.sizeWk ?_))
  refine (eqWork_p zWv zWv _ (zWk w9) (zWk w9) (⟨rfl, rfl, rfl, rfl, rfl, rfl⟩ : Same zWv zWv) zSmall).mono ?_
  rintro e w10 ⟨rfl, b⟩
  have HL0 : Hid (Bx w10 w.heap.size 50 [.int .i64 i, .slice s.a s.n s.c]) := HL0.out.later b
  have HB0 : Hid (Below w.heap.size w w10) := bl_next HB0.out b
  have HX0 : Hid (RI w10 s.v ws) := HX0.out.stays b
  have WKB : Hid (Bx w10 gWKB 65 [.int .i64 0, .slice none 0 0, .slice none 0 0, .slice none 0 0, .slice none 0 0, .slice none 0 0]) := WKB.out.later b
  have BK : Hid (Below WK.heap.size WK w10) := BK.out.trans ((b).mono BK.out.size)
  have WGB : Hid (Bx w10 gWGB 65 [.int .i64 0, .slice none 0 0, .slice none 0 0, .slice none 0 0, .slice none 0 0, .slice none 0 0]) := WGB.out.later b
  clear b
  clear hz9
  go_wp2_with (first | (refine wpList_ldG rfl 65 _ rfl gWGB 0 rfl 65 _ WGB.out [.int .i64 0, .slice none 0 0, .slice none 0 0, .slice none 0 0, .slice none 0 0, .slice none 0 0] rfl _ Try.underlying65 rfl Try.sizeWk ?_))
  obtain ⟨tok, seg⟩ := zPlaces w10
  have nl : zWv.mav.n ≤ 1048576 ∧ zWv.flv.n ≤ 1048576 ∧ zWv.hev.n ≤ 1048576 := ⟨by decide, by decide, by decide⟩
  have TOK : Hid (TLok w10 []) := tok
  have SEG : Hid (WkSeg w10 [] zWv (fun _ => noMv) (fun _ => 0) (fun _ => zSv) (fun _ => 0) (fun _ => zSv) (fun _ => 0)) := seg
  clear tok seg
  have hL : ([] : List Spot).length ≤ 1000 := by decide
  refine (markwork_bv w10 [] 1 zWv (fun _ => noMv) (fun _ => 0) (fun _ => zSv) (fun _ => 0) (fun _ => zSv) (fun _ => 0) w10 TOK (MkI.start w10 [] 1) SEG (by omega) (by omega) nl.1 nl.2.1 nl.2.2).mono ?_
  rintro e w11 ⟨rfl, mk⟩
  have HD : Hid (Held w11 [] 1) := mk.held TOK.out
  have SEG : Hid (WkSeg w11 [] zWv (fun _ => noMv) (fun _ => 0) (fun _ => zSv) (fun _ => 0) (fun _ => zSv) (fun _ => 0)) := SEG.out.marked mk
  have zX10 : WX.heap.size ≤ w10.heap.size := by have := HB0.out.size; have := WGB.out.lt; omega
  have bX : Below WX.heap.size w10 w11 := mk.below WX.heap.size (fun s h => by cases h) zX10
  have HB0 : Hid (Below w.heap.size w w11) := HB0.out.trans (bX.mono (by omega))
  have HL0 : Hid (Bx w11 w.heap.size 50 [.int .i64 i, .slice s.a s.n s.c]) := HL0.out.stays bX (by omega)
  have HX0 : Hid (RI w11 s.v ws) := hx0.out.stays HB0.out
  have WKB : Hid (Bx w11 gWKB 65 [.int .i64 0, .slice none 0 0, .slice none 0 0, .slice none 0 0, .slice none 0 0, .slice none 0 0]) := WKB.out.stays bX (by omega)
  have BK : Hid (Below WK.heap.size WK w11) := BK.out.trans (bX.mono (by omega))
  have WGB : Hid (Bx w11 gWGB 65 [.int .i64 0, .slice none 0 0, .slice none 0 0, .slice none 0 0, .slice none 0 0, .slice none 0 0]) := (mk.blk gWGB WGB.out.lt (fun s hs => by cases hs)).trans WGB.out
  clear mk bX
  obtain ⟨M, hM⟩ : ∃ M : Nat, 1 + ([] : List Spot).length = M := ⟨_, rfl⟩
  rw [hM]
  have HM : Hid (1 + ([] : List Spot).length = M) := hM
  have hM0 : decide ((M : Int) < 0) = false := by simp
  clear hM
  go_wp2_with (first | (refine wpList_ldG rfl 65 _ rfl gWGB 0 rfl 65 _ WGB.out [.int .i64 0, .slice none 0 0, .slice none 0 0, .slice none 0 0, .slice none 0 0, .slice none 0 0] rfl _ Try.underlying65 rfl Try.sizeWk ?_))
  refine (heldwork_bv [] 1 zWv (fun _ => noMv) (fun _ => 0) (fun _ => zSv) (fun _ => 0) (fun _ => zSv) (fun _ => 0) _ HD SEG (by omega) (by omega) nl.1 nl.2.1 nl.2.2).mono ?_
  rintro e w12 ⟨rfl, b⟩
  have HL0 : Hid (Bx w12 w.heap.size 50 [.int .i64 i, .slice s.a s.n s.c]) := HL0.out.later b
  have HB0 : Hid (Below w.heap.size w w12) := bl_next HB0.out b
  have HX0 : Hid (RI w12 s.v ws) := HX0.out.stays b
  have WKB : Hid (Bx w12 gWKB 65 [.int .i64 0, .slice none 0 0, .slice none 0 0, .slice none 0 0, .slice none 0 0, .slice none 0 0]) := WKB.out.later b
  have BK : Hid (Below WK.heap.size WK w12) := BK.out.trans ((b).mono BK.out.size)
  have WGB : Hid (Bx w12 gWGB 65 [.int .i64 0, .slice none 0 0, .slice none 0 0, .slice none 0 0, .slice none 0 0, .slice none 0 0]) := WGB.out.later b
  have HD : Hid (Held w12 [] 1) := HD.out.later b
  have SEG : Hid (WkSeg w12 [] zWv (fun _ => noMv) (fun _ => 0) (fun _ => zSv) (fun _ => 0) (fun _ => zSv) (fun _ => 0)) := SEG.out.later b
  clear b
  rw [HM.out]
  have l0 := HL0.out.cell 0
  have l1 := HL0.out.cell 1
  go_wp2_with fail
  clear l0 l1
  refine (toRing_r i s ws _ HX0 hl2).mono ?_
  rintro e w13 ⟨s13, rfl, o13, b⟩
  have HL0 : Hid (Bx w13 w.heap.size 50 [.int .i64 i, .slice s.a s.n s.c]) := HL0.out.later b
  have HB0 : Hid (Below w.heap.size w w13) := bl_next HB0.out b
  have HX0 : Hid (RI w13 s.v ws) := HX0.out.stays b
  have WKB : Hid (Bx w13 gWKB 65 [.int .i64 0, .slice none 0 0, .slice none 0 0, .slice none 0 0, .slice none 0 0, .slice none 0 0]) := WKB.out.later b
  have BK : Hid (Below WK.heap.size WK w13) := BK.out.trans ((b).mono BK.out.size)
  have WGB : Hid (Bx w13 gWGB 65 [.int .i64 0, .slice none 0 0, .slice none 0 0, .slice none 0 0, .slice none 0 0, .slice none 0 0]) := WGB.out.later b
  have HD : Hid (Held w13 [] 1) := HD.out.later b
  have SEG : Hid (WkSeg w13 [] zWv (fun _ => noMv) (fun _ => 0) (fun _ => zSv) (fun _ => 0) (fun _ => zSv) (fun _ => 0)) := SEG.out.later b
  have X13 : Hid (RI w13 s13.v ws) := o13.ri
  clear b o13
  go_wp2_with fail
  refine (workNew_no i s13 ws _ X13 hl2 hr).mono ?_
  rintro e w14 ⟨rfl, b⟩
  have HL0 : Hid (Bx w14 w.heap.size 50 [.int .i64 i, .slice s.a s.n s.c]) := HL0.out.later b
  have HB0 : Hid (Below w.heap.size w w14) := bl_next HB0.out b
  have HX0 : Hid (RI w14 s.v ws) := HX0.out.stays b
  have WKB : Hid (Bx w14 gWKB 65 [.int .i64 0, .slice none 0 0, .slice none 0 0, .slice none 0 0, .slice none 0 0, .slice none 0 0]) := WKB.out.later b
  have BK : Hid (Below WK.heap.size WK w14) := BK.out.trans ((b).mono BK.out.size)
  have WGB : Hid (Bx w14 gWGB 65 [.int .i64 0, .slice none 0 0, .slice none 0 0, .slice none 0 0, .slice none 0 0, .slice none 0 0]) := WGB.out.later b
  have HD : Hid (Held w14 [] 1) := HD.out.later b
  have SEG : Hid (WkSeg w14 [] zWv (fun _ => noMv) (fun _ => 0) (fun _ => zSv) (fun _ => 0) (fun _ => zSv) (fun _ => 0)) := SEG.out.later b
  clear b X13
  have hz : Hid (Bx (w14.alloc (.cells #[.int .i64 0, .slice none 0 0, .slice none 0 0, .slice none 0 0, .slice none 0 0, .slice none 0 0] 65)) w14.heap.size 65 [.int .i64 0, .slice none 0 0, .slice none 0 0, .slice none 0 0, .slice none 0 0, .slice none 0 0]) := Bx.new w14 65 _
  go_wp2_with (first | (refine wpList_stB rfl 65 _ _ rfl w14.heap.size 0 rfl 65 _ hz.out [.int .i64 0, .slice none 0 0, .slice none 0 0, .slice none 0 0, .slice none 0 0, .slice none 0 0] rfl (by simp) Try.sizeWk rfl [.int .i64 0, .slice none 0 0, .slice none 0 0, .slice none 0 0, .slice none 0 0, .slice none 0 0] rfl ?_; intro WE OB TB; have b : Below w14.heap.size w14 WE := ((Below.refl _ _).alloc (Nat.le_refl _) _).trans (TB.below (Nat.le_refl _)); have WEB : Hid (Bx WE w14.heap.size 65 [.int .i64 0, .slice none 0 0, .slice none 0 0, .slice none 0 0, .slice none 0 0, .slice none 0 0]) := OB; have HL0 : Hid (Bx WE w.heap.size 50 [.int .i64 i, .slice s.a s.n s.c]) := HL0.out.later b; have HB0 : Hid (Below w.heap.size w WE) := bl_next HB0.out b; have HX0 : Hid (RI WE s.v ws) := HX0.out.stays b; have WKB : Hid (Bx WE gWKB 65 [.int .i64 0, .slice none 0 0, .slice none 0 0, .slice none 0 0, .slice none 0 0, .slice none 0 0]) := WKB.out.later b; have BK : Hid (Below WK.heap.size WK WE) := BK.out.trans ((b).mono BK.out.size); have WGB : Hid (Bx WE gWGB 65 [.int .i64 0, .slice none 0 0, .slice none 0 0, .slice none 0 0, .slice none 0 0, .slice none 0 0]) := WGB.out.later b; have HD : Hid (Held WE [] 1) := HD.out.later b; have SEG : Hid (WkSeg WE [] zWv (fun _ => noMv) (fun _ => 0) (fun _ => zSv) (fun _ => 0) (fun _ => zSv) (fun _ => 0)) := SEG.out.later b; clear OB TB b; refine Stp.here ?_))
  refine Stp.go ?_
  clear hz
  have z_WE : w14.heap.size < WE.heap.size := WEB.out.lt
  generalize w14.heap.size = gWEB at *
  go_wp2_with (first | (refine wpList_ldG rfl 65 _ rfl gWEB 0 rfl 65 _ WEB.out [.int .i64 0, .slice none 0 0, .slice none 0 0, .slice none 0 0, .slice none 0 0, .slice none 0 0] rfl _ Try.underlying65 rfl Try.sizeWk ?_) | (refine wpList_ldG rfl 65 _ rfl gWKB 0 rfl 65 _ WKB.out [.int .i64 0, .slice none 0 0, .slice none 0 0, .slice none 0 0, .slice none 0 0, .slice none 0 0] rfl _ Try.underlying65 rfl Try.sizeWk ?_))
  refine (eqWork_p zWv zWv _ (zWk WE) (zWk WE) (⟨rfl, rfl, rfl, rfl, rfl, rfl⟩ : Same zWv zWv) zSmall).mono ?_
  rintro e w15 ⟨rfl, b⟩
  have HL0 : Hid (Bx w15 w.heap.size 50 [.int .i64 i, .slice s.a s.n s.c]) := HL0.out.later b
  have HB0 : Hid (Below w.heap.size w w15) := bl_next HB0.out b
  have HX0 : Hid (RI w15 s.v ws) := HX0.out.stays b
  have WKB : Hid (Bx w15 gWKB 65 [.int .i64 0, .slice none 0 0, .slice none 0 0, .slice none 0 0, .slice none 0 0, .slice none 0 0]) := WKB.out.later b
  have BK : Hid (Below WK.heap.size WK w15) := BK.out.trans ((b).mono BK.out.size)
  have WGB : Hid (Bx w15 gWGB 65 [.int .i64 0, .slice none 0 0, .slice none 0 0, .slice none 0 0, .slice none 0 0, .slice none 0 0]) := WGB.out.later b
  have HD : Hid (Held w15 [] 1) := HD.out.later b
  have SEG : Hid (WkSeg w15 [] zWv (fun _ => noMv) (fun _ => 0) (fun _ => zSv) (fun _ => 0) (fun _ => zSv) (fun _ => 0)) := SEG.out.later b
  have WEB : Hid (Bx w15 gWEB 65 [.int .i64 0, .slice none 0 0, .slice none 0 0, .slice none 0 0, .slice none 0 0, .slice none 0 0]) := WEB.out.later b
  clear b
  go_wp2_with (first | (refine wpList_ldG rfl 65 _ rfl gWGB 0 rfl 65 _ WGB.out [.int .i64 0, .slice none 0 0, .slice none 0 0, .slice none 0 0, .slice none 0 0, .slice none 0 0] rfl _ Try.underlying65 rfl Try.sizeWk ?_))
  refine (heldwork_bv [] 1 zWv (fun _ => noMv) (fun _ => 0) (fun _ => zSv) (fun _ => 0) (fun _ => zSv) (fun _ => 0) _ HD SEG (by omega) (by omega) nl.1 nl.2.1 nl.2.2).mono ?_
  rintro e w16 ⟨rfl, b⟩
  have HL0 : Hid (Bx w16 w.heap.size 50 [.int .i64 i, .slice s.a s.n s.c]) := HL0.out.later b
  have HB0 : Hid (Below w.heap.size w w16) := bl_next HB0.out b
  have HX0 : Hid (RI w16 s.v ws) := HX0.out.stays b
  have WKB : Hid (Bx w16 gWKB 65 [.int .i64 0, .slice none 0 0, .slice none 0 0, .slice none 0 0, .slice none 0 0, .slice none 0 0]) := WKB.out.later b
  have BK : Hid (Below WK.heap.size WK w16) := BK.out.trans ((b).mono BK.out.size)
  have WGB : Hid (Bx w16 gWGB 65 [.int .i64 0, .slice none 0 0, .slice none 0 0, .slice none 0 0, .slice none 0 0, .slice none 0 0]) := WGB.out.later b
  have HD : Hid (Held w16 [] 1) := HD.out.later b
  have SEG : Hid (WkSeg w16 [] zWv (fun _ => noMv) (fun _ => 0) (fun _ => zSv) (fun _ => 0) (fun _ => zSv) (fun _ => 0)) := SEG.out.later b
  have WEB : Hid (Bx w16 gWEB 65 [.int .i64 0, .slice none 0 0, .slice none 0 0, .slice none 0 0, .slice none 0 0, .slice none 0 0]) := WEB.out.later b
  clear b
  rw [HM.out]
  go_wp2_with fail
  go_ret
  exact ⟨rfl, HB0.out⟩
set_option maxRecDepth 100000 in
set_option maxHeartbeats 16000000 in
theorem lawWN_yes (i : Int) (s : Sv) (ws : List Int) (w : World) (hx0 : Hid (RI w s.v ws)) (hl2 : ws.length ≤ 1048576) (HN : Hid (ws.length = s.n)) (hr : Hid (ringB i ws = true)) :
    Calls Try.prog 6 #[.agg #[.int .i64 i, .slice s.a s.n s.c]] w fun e w' => e = .returned (.bool true) ∧ Below w.heap.size w w' := by
  have HL0 : Hid (Bx (w.alloc (.cells #[.int .i64 i, .slice s.a s.n s.c] 50)) w.heap.size 50 [.int .i64 i, .slice s.a s.n s.c]) := Bx.new w 50 _
  have HB0 : Hid (Below w.heap.size w (w.alloc (.cells #[.int .i64 i, .slice s.a s.n s.c] 50))) := (Below.refl _ _).alloc (Nat.le_refl _) _
  have HX0 : Hid (RI (w.alloc (.cells #[.int .i64 i, .slice s.a s.n s.c] 50)) s.v ws) := hx0.out.stays HB0.out
  have H5 : Hid (0 < ws.length ∧ ws.length ≤ 5) := ⟨(ring_len hr.out).1, (ring_len hr.out).2.1⟩
  go_enter Try.func6, Try.ntmps6
  go_wp2_with fail
  generalize w.alloc (.cells #[.int .i64 i, .slice s.a s.n s.c] 50) = W0 at *
  have hz0 : s.n ≤ 1048576 := by have := HN.out; omega
  refine (szRing_any i s.a s.n s.c _ hz0).mono ?_
  rintro e w1 ⟨rfl, b⟩
  have HL0 : Hid (Bx w1 w.heap.size 50 [.int .i64 i, .slice s.a s.n s.c]) := HL0.out.later b
  have HB0 : Hid (Below w.heap.size w w1) := bl_next HB0.out b
  have HX0 : Hid (RI w1 s.v ws) := HX0.out.stays b
  have hz : decide (((1048576 - s.n : Nat) : Int) < 0) = false := by simp
  clear b
  have l0 := HL0.out.cell 0
  have l1 := HL0.out.cell 1
  go_wp2_with fail
  clear l0 l1
  clear hz hz0
  refine (toRing_r i s ws _ HX0 hl2).mono ?_
  rintro e w2 ⟨s2, rfl, o2, b⟩
  have HL0 : Hid (Bx w2 w.heap.size 50 [.int .i64 i, .slice s.a s.n s.c]) := HL0.out.later b
  have HB0 : Hid (Below w.heap.size w w2) := bl_next HB0.out b
  have HX0 : Hid (RI w2 s.v ws) := HX0.out.stays b
  have X2 : Hid (RI w2 s2.v ws) := o2.ri
  clear b o2
  go_wp2_with fail
  refine (spWorkNew_yes i s2 ws _ X2 hl2 hr).mono ?_
  rintro e w3 ⟨kK, rfl, pk, b, nk⟩
  have HL0 : Hid (Bx w3 w.heap.size 50 [.int .i64 i, .slice s.a s.n s.c]) := HL0.out.later b
  have HB0 : Hid (Below w.heap.size w w3) := bl_next HB0.out b
  have HX0 : Hid (RI w3 s.v ws) := HX0.out.stays b
  have KP : Hid (WkP w3 kK) := pk
  have NK : Hid _ := nk
  clear b pk nk X2
  have HLX : Hid (w.heap.size < w3.heap.size) := HL0.out.lt
  have hz : Hid (Bx (w3.alloc (.cells #[.int .i64 0, .slice none 0 0, .slice none 0 0, .slice none 0 0, .slice none 0 0, .slice none 0 0] 65)) w3.heap.size 65 [.int .i64 0, .slice none 0 0, .slice none 0 0, .slice none 0 0, .slice none 0 0, .slice none 0 0]) := Bx.new w3 65 _
  go_wp2_with (first | (refine wpList_stB rfl 65 _ _ rfl w3.heap.size 0 rfl 65 _ hz.out [.int .i64 kK.rid, .slice kK.mv.a kK.mv.n kK.mv.c, .slice kK.mav.a kK.mav.n kK.mav.c, .slice kK.flv.a kK.flv.n kK.flv.c, .slice kK.hev.a kK.hev.n kK.hev.c, .slice kK.sav.a kK.sav.n kK.sav.c] rfl (by simp) Try.sizeWk rfl [.int .i64 kK.rid, .slice kK.mv.a kK.mv.n kK.mv.c, .slice kK.mav.a kK.mav.n kK.mav.c, .slice kK.flv.a kK.flv.n kK.flv.c, .slice kK.hev.a kK.hev.n kK.hev.c, .slice kK.sav.a kK.sav.n kK.sav.c] rfl ?_; intro WK OB TB; have b : Below w3.heap.size w3 WK := ((Below.refl _ _).alloc (Nat.le_refl _) _).trans (TB.below (Nat.le_refl _)); have WKB : Hid (Bx WK w3.heap.size 65 [.int .i64 kK.rid, .slice kK.mv.a kK.mv.n kK.mv.c, .slice kK.mav.a kK.mav.n kK.mav.c, .slice kK.flv.a kK.flv.n kK.flv.c, .slice kK.hev.a kK.hev.n kK.hev.c, .slice kK.sav.a kK.sav.n kK.sav.c]) := OB; have HL0 : Hid (Bx WK w.heap.size 50 [.int .i64 i, .slice s.a s.n s.c]) := HL0.out.later b; have HB0 : Hid (Below w.heap.size w WK) := bl_next HB0.out b; have HX0 : Hid (RI WK s.v ws) := HX0.out.stays b; have l0 := HL0.out.cell 0; have l1 := HL0.out.cell 1; have KP : Hid (WkP WK kK) := KP.out.below b; clear OB TB b; refine Stp.here ?_))
  refine Stp.go ?_
  clear hz
  have z_WK : w3.heap.size < WK.heap.size := WKB.out.lt
  generalize w3.heap.size = gWKB at *
  go_wp2_with fail
  clear l0 l1
  have BK : Hid (Below WK.heap.size WK WK) := Below.refl _ _
  have zLK : w.heap.size < WK.heap.size := HL0.out.lt
  refine (toRing_r i s ws _ HX0 hl2).mono ?_
  rintro e w4 ⟨sX, rfl, o4, b⟩
  have HL0 : Hid (Bx w4 w.heap.size 50 [.int .i64 i, .slice s.a s.n s.c]) := HL0.out.later b
  have HB0 : Hid (Below w.heap.size w w4) := bl_next HB0.out b
  have HX0 : Hid (RI w4 s.v ws) := HX0.out.stays b
  have WKB : Hid (Bx w4 gWKB 65 [.int .i64 kK.rid, .slice kK.mv.a kK.mv.n kK.mv.c, .slice kK.mav.a kK.mav.n kK.mav.c, .slice kK.flv.a kK.flv.n kK.flv.c, .slice kK.hev.a kK.hev.n kK.hev.c, .slice kK.sav.a kK.sav.n kK.sav.c]) := WKB.out.later b
  have BK : Hid (Below WK.heap.size WK w4) := BK.out.trans ((b).mono BK.out.size)
  have XO : Hid (OwnI w4 WK.heap.size sX.v ws) := o4
  clear b o4
  have XL : Hid (∀ k, sX.v.ownBlock = some k → WK.heap.size ≤ k ∧ k < w4.heap.size) := XO.out.lt
  have zW4 : WK.heap.size ≤ w4.heap.size := BK.out.size
  have hz : Hid (Bx (w4.alloc (.cells #[.int .i64 0, .slice none 0 0] 26)) w4.heap.size 26 [.int .i64 0, .slice none 0 0]) := Bx.new w4 26 _
  go_wp2_with (first | (refine wpList_stB rfl 26 _ _ rfl w4.heap.size 0 rfl 26 _ hz.out [.int .i64 i, .slice sX.a sX.n sX.c] rfl (by simp) Try.sizeR rfl [.int .i64 i, .slice sX.a sX.n sX.c] rfl ?_; intro WX OB TB; have b : Below w4.heap.size w4 WX := ((Below.refl _ _).alloc (Nat.le_refl _) _).trans (TB.below (Nat.le_refl _)); have WXB : Hid (Bx WX w4.heap.size 26 [.int .i64 i, .slice sX.a sX.n sX.c]) := OB; have HL0 : Hid (Bx WX w.heap.size 50 [.int .i64 i, .slice s.a s.n s.c]) := HL0.out.later b; have HB0 : Hid (Below w.heap.size w WX) := bl_next HB0.out b; have HX0 : Hid (RI WX s.v ws) := HX0.out.stays b; have WKB : Hid (Bx WX gWKB 65 [.int .i64 kK.rid, .slice kK.mv.a kK.mv.n kK.mv.c, .slice kK.mav.a kK.mav.n kK.mav.c, .slice kK.flv.a kK.flv.n kK.flv.c, .slice kK.hev.a kK.hev.n kK.hev.c, .slice kK.sav.a kK.sav.n kK.sav.c]) := WKB.out.later b; have BK : Hid (Below WK.heap.size WK WX) := BK.out.trans ((b).mono BK.out.size); have XO : Hid (OwnI WX WK.heap.size sX.v ws) := XO.out.keep fun _ _ hk => (b).block _ hk; have x0 := WXB.out.cell 0; have x1 := WXB.out.cell 1; clear OB TB b; refine Stp.here ?_))
  refine Stp.go ?_
  clear hz
  have z_WX : w4.heap.size < WX.heap.size := WXB.out.lt
  generalize w4.heap.size = gWXB at *
  go_wp2_with fail
  clear x0 x1
  have zX : gWXB < WX.heap.size := WXB.out.lt
  refine (workNew_yes i sX ws _ (show Hid (RI WX sX.v ws) from XO.out.ri) hl2 hr).mono ?_
  rintro e w5 ⟨kG, rfl, iw, b⟩
  have HL0 : Hid (Bx w5 w.heap.size 50 [.int .i64 i, .slice s.a s.n s.c]) := HL0.out.later b
  have HB0 : Hid (Below w.heap.size w w5) := bl_next HB0.out b
  have HX0 : Hid (RI w5 s.v ws) := HX0.out.stays b
  have WKB : Hid (Bx w5 gWKB 65 [.int .i64 kK.rid, .slice kK.mv.a kK.mv.n kK.mv.c, .slice kK.mav.a kK.mav.n kK.mav.c, .slice kK.flv.a kK.flv.n kK.flv.c, .slice kK.hev.a kK.hev.n kK.hev.c, .slice kK.sav.a kK.sav.n kK.sav.c]) := WKB.out.later b
  have BK : Hid (Below WK.heap.size WK w5) := BK.out.trans ((b).mono BK.out.size)
  have XO : Hid (OwnI w5 WK.heap.size sX.v ws) := XO.out.keep fun _ _ hk => (b).block _ hk
  have WXB : Hid (Bx w5 gWXB 26 [.int .i64 i, .slice sX.a sX.n sX.c]) := WXB.out.later b
  have GI : Hid (IWk WX w5 i ws kG) := iw
  have HS : Hid (Same kG kK) := new_same iw.nw NK.out
  have SM : Hid (Small kG) := new_small iw.nw H5.out.2
  have zX5 : WX.heap.size ≤ w5.heap.size := b.size
  clear b iw
  have hz : Hid (Bx (w5.alloc (.cells #[.int .i64 0, .slice none 0 0, .slice none 0 0, .slice none 0 0, .slice none 0 0, .slice none 0 0] 65)) w5.heap.size 65 [.int .i64 0, .slice none 0 0, .slice none 0 0, .slice none 0 0, .slice none 0 0, .slice none 0 0]) := Bx.new w5 65 _
  go_wp2_with (first | (refine wpList_stB rfl 65 _ _ rfl w5.heap.size 0 rfl 65 _ hz.out [.int .i64 kG.rid, .slice kG.mv.a kG.mv.n kG.mv.c, .slice kG.mav.a kG.mav.n kG.mav.c, .slice kG.flv.a kG.flv.n kG.flv.c, .slice kG.hev.a kG.hev.n kG.hev.c, .slice kG.sav.a kG.sav.n kG.sav.c] rfl (by simp) Try.sizeWk rfl [.int .i64 kG.rid, .slice kG.mv.a kG.mv.n kG.mv.c, .slice kG.mav.a kG.mav.n kG.mav.c, .slice kG.flv.a kG.flv.n kG.flv.c, .slice kG.hev.a kG.hev.n kG.hev.c, .slice kG.sav.a kG.sav.n kG.sav.c] rfl ?_; intro WG OB TB; have b : Below w5.heap.size w5 WG := ((Below.refl _ _).alloc (Nat.le_refl _) _).trans (TB.below (Nat.le_refl _)); have WGB : Hid (Bx WG w5.heap.size 65 [.int .i64 kG.rid, .slice kG.mv.a kG.mv.n kG.mv.c, .slice kG.mav.a kG.mav.n kG.mav.c, .slice kG.flv.a kG.flv.n kG.flv.c, .slice kG.hev.a kG.hev.n kG.hev.c, .slice kG.sav.a kG.sav.n kG.sav.c]) := OB; have HL0 : Hid (Bx WG w.heap.size 50 [.int .i64 i, .slice s.a s.n s.c]) := HL0.out.later b; have HB0 : Hid (Below w.heap.size w WG) := bl_next HB0.out b; have HX0 : Hid (RI WG s.v ws) := HX0.out.stays b; have WKB : Hid (Bx WG gWKB 65 [.int .i64 kK.rid, .slice kK.mv.a kK.mv.n kK.mv.c, .slice kK.mav.a kK.mav.n kK.mav.c, .slice kK.flv.a kK.flv.n kK.flv.c, .slice kK.hev.a kK.hev.n kK.hev.c, .slice kK.sav.a kK.sav.n kK.sav.c]) := WKB.out.later b; have BK : Hid (Below WK.heap.size WK WG) := BK.out.trans ((b).mono BK.out.size); have XO : Hid (OwnI WG WK.heap.size sX.v ws) := XO.out.keep fun _ _ hk => (b).block _ hk; have WXB : Hid (Bx WG gWXB 26 [.int .i64 i, .slice sX.a sX.n sX.c]) := WXB.out.later b; have GI : Hid (IWk WX WG i ws kG) := GI.out.later b; clear OB TB b; refine Stp.here ?_))
  refine Stp.go ?_
  clear hz
  have z_WG : w5.heap.size < WG.heap.size := WGB.out.lt
  generalize w5.heap.size = gWGB at *
  go_wp2_with (first | (refine wpList_ldG rfl 65 _ rfl gWGB 0 rfl 65 _ WGB.out [.int .i64 kG.rid, .slice kG.mv.a kG.mv.n kG.mv.c, .slice kG.mav.a kG.mav.n kG.mav.c, .slice kG.flv.a kG.flv.n kG.flv.c, .slice kG.hev.a kG.hev.n kG.hev.c, .slice kG.sav.a kG.sav.n kG.sav.c] rfl _ Try.underlying65 rfl Try.sizeWk ?_) | (refine wpList_ldG rfl 65 _ rfl gWKB 0 rfl 65 _ WKB.out [.int .i64 kK.rid, .slice kK.mv.a kK.mv.n kK.mv.c, .slice kK.mav.a kK.mav.n kK.mav.c, .slice kK.flv.a kK.flv.n kK.flv.c, .slice kK.hev.a kK.hev.n kK.hev.c, .slice kK.sav.a kK.sav.n kK.sav.c] rfl _ Try.underlying65 rfl Try.sizeWk ?_))
  refine (eqWork_p kG kK _ (show Hid (WkP WG kG) from GI.out.p) (show Hid (WkP WG kK) from KP.out.below BK.out) HS SM).mono ?_
  rintro e w6 ⟨rfl, b⟩
  have HL0 : Hid (Bx w6 w.heap.size 50 [.int .i64 i, .slice s.a s.n s.c]) := HL0.out.later b
  have HB0 : Hid (Below w.heap.size w w6) := bl_next HB0.out b
  have HX0 : Hid (RI w6 s.v ws) := HX0.out.stays b
  have WKB : Hid (Bx w6 gWKB 65 [.int .i64 kK.rid, .slice kK.mv.a kK.mv.n kK.mv.c, .slice kK.mav.a kK.mav.n kK.mav.c, .slice kK.flv.a kK.flv.n kK.flv.c, .slice kK.hev.a kK.hev.n kK.hev.c, .slice kK.sav.a kK.sav.n kK.sav.c]) := WKB.out.later b
  have BK : Hid (Below WK.heap.size WK w6) := BK.out.trans ((b).mono BK.out.size)
  have XO : Hid (OwnI w6 WK.heap.size sX.v ws) := XO.out.keep fun _ _ hk => (b).block _ hk
  have WXB : Hid (Bx w6 gWXB 26 [.int .i64 i, .slice sX.a sX.n sX.c]) := WXB.out.later b
  have GI : Hid (IWk WX w6 i ws kG) := GI.out.later b
  have WGB : Hid (Bx w6 gWGB 65 [.int .i64 kG.rid, .slice kG.mv.a kG.mv.n kG.mv.c, .slice kG.mav.a kG.mav.n kG.mav.c, .slice kG.flv.a kG.flv.n kG.flv.c, .slice kG.hev.a kG.hev.n kG.hev.c, .slice kG.sav.a kG.sav.n kG.sav.c]) := WGB.out.later b
  clear b
  have HH : Hid (∀ w', Below w6.heap.size w6 w' → ((w'.cell? ⟨gWXB, 0, none⟩ = some (.int .i64 i) ∧ w'.cell? ⟨gWXB, 1, none⟩ = some (.slice sX.a sX.n sX.c)) ∧ (w'.cell? ⟨w.heap.size, 0, none⟩ = some (.int .i64 i) ∧ w'.cell? ⟨w.heap.size, 1, none⟩ = some (.slice s.a s.n s.c))) ∧ Hid (Below w6.heap.size w6 w')) := fun w' hb => ⟨⟨⟨(WXB.out.later hb).cell 0, (WXB.out.later hb).cell 1⟩, (HL0.out.later hb).cell 0, (HL0.out.later hb).cell 1⟩, hb⟩
  have HI := HH.out w6.drew (Below.refl _ _).drew
  have X6d : Hid (RI w6.drew s.v ws) := HX0.out.stays (Below.refl _ _).drew
  go_wp2_with fail
  go_region_held3 (fun w' => ((w'.cell? ⟨gWXB, 0, none⟩ = some (.int .i64 i) ∧ w'.cell? ⟨gWXB, 1, none⟩ = some (.slice sX.a sX.n sX.c)) ∧ (w'.cell? ⟨w.heap.size, 0, none⟩ = some (.int .i64 i) ∧ w'.cell? ⟨w.heap.size, 1, none⟩ = some (.slice s.a s.n s.c))) ∧ Hid (Below w6.heap.size w6 w')) (first | exact HI | assumption) (first | (go_at_call 25; refine (toRing_r i s ws _ X6d hl2).mono ?_; rintro e w7 ⟨s7, rfl, o7, b7⟩; have hk7 := HH.out w7 ((Below.refl w6.heap.size w6).drew.trans b7)) | (go_at_call 28; refine (eqRing_same i sX.v s7.v ws _ _ _ (show Hid (OwnI _ _ _ ws) from XO.out.keep fun _ _ hk => hk7.2.out.block _ hk) (show Hid (OwnI _ _ _ ws) from o7) hl2).mono ?_; rintro e w8 ⟨rfl, b8⟩; have hk8 := HH.out w8 (hk7.2.out.trans (b8.mono hk7.2.out.size))))
  have b : Below w6.heap.size w6 w8 := hk8.2.out
  have HL0 : Hid (Bx w8 w.heap.size 50 [.int .i64 i, .slice s.a s.n s.c]) := HL0.out.later b
  have HB0 : Hid (Below w.heap.size w w8) := bl_next HB0.out b
  have HX0 : Hid (RI w8 s.v ws) := HX0.out.stays b
  have WKB : Hid (Bx w8 gWKB 65 [.int .i64 kK.rid, .slice kK.mv.a kK.mv.n kK.mv.c, .slice kK.mav.a kK.mav.n kK.mav.c, .slice kK.flv.a kK.flv.n kK.flv.c, .slice kK.hev.a kK.hev.n kK.hev.c, .slice kK.sav.a kK.sav.n kK.sav.c]) := WKB.out.later b
  have BK : Hid (Below WK.heap.size WK w8) := BK.out.trans ((b).mono BK.out.size)
  have XO : Hid (OwnI w8 WK.heap.size sX.v ws) := XO.out.keep fun _ _ hk => (b).block _ hk
  have WXB : Hid (Bx w8 gWXB 26 [.int .i64 i, .slice sX.a sX.n sX.c]) := WXB.out.later b
  have GI : Hid (IWk WX w8 i ws kG) := GI.out.later b
  have WGB : Hid (Bx w8 gWGB 65 [.int .i64 kG.rid, .slice kG.mv.a kG.mv.n kG.mv.c, .slice kG.mav.a kG.mav.n kG.mav.c, .slice kG.flv.a kG.flv.n kG.flv.c, .slice kG.hev.a kG.hev.n kG.hev.c, .slice kG.sav.a kG.sav.n kG.sav.c]) := WGB.out.later b
  clear b hk8 b8 hk7 o7 b7 HH HI X6d
  have x0 := WXB.out.cell 0
  have x1 := WXB.out.cell 1
  go_wp2_with fail
  clear x0 x1
  have zK8 : WK.heap.size ≤ w8.heap.size := BK.out.size
  have zG8 : gWGB < w8.heap.size := WGB.out.lt
  refine (markRing_any i sX.v ws WK.heap.size 1 _ XO (by omega) (by omega)).mono ?_
  rintro e w9 ⟨rfl, _, G9⟩
  have HB0 : Hid (Below w.heap.size w w9) := HB0.out.grown G9 HB0.out.size (fun k hk => by have := (XL.out k hk).1; omega)
  have HL0 : Hid (Bx w9 w.heap.size 50 [.int .i64 i, .slice s.a s.n s.c]) := HL0.out.grown G9 (fun e => by have := (XL.out _ e.symm).1; omega)
  have HX0 : Hid (RI w9 s.v ws) := hx0.out.stays HB0.out
  have WKB : Hid (Bx w9 gWKB 65 [.int .i64 kK.rid, .slice kK.mv.a kK.mv.n kK.mv.c, .slice kK.mav.a kK.mav.n kK.mav.c, .slice kK.flv.a kK.flv.n kK.flv.c, .slice kK.hev.a kK.hev.n kK.hev.c, .slice kK.sav.a kK.sav.n kK.sav.c]) := WKB.out.grown G9 (fun e => by have := (XL.out _ e.symm).1; omega)
  have WGB : Hid (Bx w9 gWGB 65 [.int .i64 kG.rid, .slice kG.mv.a kG.mv.n kG.mv.c, .slice kG.mav.a kG.mav.n kG.mav.c, .slice kG.flv.a kG.flv.n kG.flv.c, .slice kG.hev.a kG.hev.n kG.hev.c, .slice kG.sav.a kG.sav.n kG.sav.c]) := WGB.out.grown G9 (fun e => by have := (XL.out _ e.symm).2; omega)
  have BK : Hid (Below WK.heap.size WK w9) := BK.out.grown G9 BK.out.size (fun k hk => (XL.out k hk).1)
  have GI : Hid (IWk WX w9 i ws kG) := GI.out.keepx G9.size fun c hc hl => G9.block c hl (fun e => by have := (XL.out _ e.symm).2; omega)
  obtain ⟨z9, hz9⟩ : ∃ z9 : Nat, 1 + ws.length = z9 := ⟨_, rfl⟩
  rw [hz9]
  have hz9 : decide ((z9 : Int) < 0) = false := by simp
  clear WXB XO G9
  go_wp2_with (first | (refine wpList_ldG rfl 65 _ rfl gWGB 0 rfl 65 _ WGB.out [.int .i64 kG.rid, .slice kG.mv.a kG.mv.n kG.mv.c, .slice kG.mav.a kG.mav.n kG.mav.c, .slice kG.flv.a kG.flv.n kG.flv.c, .slice kG.hev.a kG.hev.n kG.hev.c, .slice kG.sav.a kG.sav.n kG.sav.c] rfl _ Try.underlying65 rfl Try.sizeWk ?_) | (refine wpList_ldG rfl 65 _ rfl gWKB 0 rfl 65 _ WKB.out [.int .i64 kK.rid, .slice kK.mv.a kK.mv.n kK.mv.c, .slice kK.mav.a kK.mav.n kK.mav.c, .slice kK.flv.a kK.flv.n kK.flv.c, .slice kK.hev.a kK.hev.n kK.hev.c, .slice kK.sav.a kK.sav.n kK.sav.c] rfl _ Try.underlying65 rfl Try.sizeWk ?_))
  refine (eqWork_p kG kK _ (show Hid (WkP w9 kG) from GI.out.p) (show Hid (WkP w9 kK) from KP.out.below BK.out) HS SM).mono ?_
  rintro e w10 ⟨rfl, b⟩
  have HL0 : Hid (Bx w10 w.heap.size 50 [.int .i64 i, .slice s.a s.n s.c]) := HL0.out.later b
  have HB0 : Hid (Below w.heap.size w w10) := bl_next HB0.out b
  have HX0 : Hid (RI w10 s.v ws) := HX0.out.stays b
  have WKB : Hid (Bx w10 gWKB 65 [.int .i64 kK.rid, .slice kK.mv.a kK.mv.n kK.mv.c, .slice kK.mav.a kK.mav.n kK.mav.c, .slice kK.flv.a kK.flv.n kK.flv.c, .slice kK.hev.a kK.hev.n kK.hev.c, .slice kK.sav.a kK.sav.n kK.sav.c]) := WKB.out.later b
  have BK : Hid (Below WK.heap.size WK w10) := BK.out.trans ((b).mono BK.out.size)
  have GI : Hid (IWk WX w10 i ws kG) := GI.out.later b
  have WGB : Hid (Bx w10 gWGB 65 [.int .i64 kG.rid, .slice kG.mv.a kG.mv.n kG.mv.c, .slice kG.mav.a kG.mav.n kG.mav.c, .slice kG.flv.a kG.flv.n kG.flv.c, .slice kG.hev.a kG.hev.n kG.hev.c, .slice kG.sav.a kG.sav.n kG.sav.c]) := WGB.out.later b
  clear b
  clear hz9
  go_wp2_with (first | (refine wpList_ldG rfl 65 _ rfl gWGB 0 rfl 65 _ WGB.out [.int .i64 kG.rid, .slice kG.mv.a kG.mv.n kG.mv.c, .slice kG.mav.a kG.mav.n kG.mav.c, .slice kG.flv.a kG.flv.n kG.flv.c, .slice kG.hev.a kG.hev.n kG.hev.c, .slice kG.sav.a kG.sav.n kG.sav.c] rfl _ Try.underlying65 rfl Try.sizeWk ?_))
  obtain ⟨TL, us, N1, vs, N2, xs, N3, tok, seg, hB, hT, hL⟩ := GI.out.places H5.out.1 H5.out.2
  have nl : kG.mav.n ≤ 1048576 ∧ kG.flv.n ≤ 1048576 ∧ kG.hev.n ≤ 1048576 := ⟨by have := slnLen GI.out.ma; have := SM.out.ma; simp at *; omega, by have := slnLen GI.out.fl; have := SM.out.fl; simp at *; omega, by have := slnLen GI.out.he; have := SM.out.he; simp at *; omega⟩
  have TOK : Hid (TLok w10 TL) := tok
  have SEG : Hid (WkSeg w10 TL kG us N1 vs N2 xs N3) := seg
  clear tok seg
  refine (markwork_bv w10 TL 1 kG us N1 vs N2 xs N3 w10 TOK (MkI.start w10 TL 1) SEG (by omega) (by omega) nl.1 nl.2.1 nl.2.2).mono ?_
  rintro e w11 ⟨rfl, mk⟩
  have HD : Hid (Held w11 TL 1) := mk.held TOK.out
  have SEG : Hid (WkSeg w11 TL kG us N1 vs N2 xs N3) := SEG.out.marked mk
  have zX10 : WX.heap.size ≤ w10.heap.size := by have := GI.out.lo; have := WGB.out.lt; omega
  have bX : Below WX.heap.size w10 w11 := mk.below WX.heap.size hB zX10
  have HB0 : Hid (Below w.heap.size w w11) := HB0.out.trans (bX.mono (by omega))
  have HL0 : Hid (Bx w11 w.heap.size 50 [.int .i64 i, .slice s.a s.n s.c]) := HL0.out.stays bX (by omega)
  have HX0 : Hid (RI w11 s.v ws) := hx0.out.stays HB0.out
  have WKB : Hid (Bx w11 gWKB 65 [.int .i64 kK.rid, .slice kK.mv.a kK.mv.n kK.mv.c, .slice kK.mav.a kK.mav.n kK.mav.c, .slice kK.flv.a kK.flv.n kK.flv.c, .slice kK.hev.a kK.hev.n kK.hev.c, .slice kK.sav.a kK.sav.n kK.sav.c]) := WKB.out.stays bX (by omega)
  have BK : Hid (Below WK.heap.size WK w11) := BK.out.trans (bX.mono (by omega))
  have WGB : Hid (Bx w11 gWGB 65 [.int .i64 kG.rid, .slice kG.mv.a kG.mv.n kG.mv.c, .slice kG.mav.a kG.mav.n kG.mav.c, .slice kG.flv.a kG.flv.n kG.flv.c, .slice kG.hev.a kG.hev.n kG.hev.c, .slice kG.sav.a kG.sav.n kG.sav.c]) := (mk.blk gWGB WGB.out.lt (fun s hs => by obtain ⟨T, hc, hn⟩ := hT s hs; exact ty_ne hc ⟨_, WGB.out⟩ hn)).trans WGB.out
  clear mk bX GI hB hT
  obtain ⟨M, hM⟩ : ∃ M : Nat, 1 + (TL : List Spot).length = M := ⟨_, rfl⟩
  rw [hM]
  have HM : Hid (1 + (TL : List Spot).length = M) := hM
  have hM0 : decide ((M : Int) < 0) = false := by simp
  clear hM
  go_wp2_with (first | (refine wpList_ldG rfl 65 _ rfl gWGB 0 rfl 65 _ WGB.out [.int .i64 kG.rid, .slice kG.mv.a kG.mv.n kG.mv.c, .slice kG.mav.a kG.mav.n kG.mav.c, .slice kG.flv.a kG.flv.n kG.flv.c, .slice kG.hev.a kG.hev.n kG.hev.c, .slice kG.sav.a kG.sav.n kG.sav.c] rfl _ Try.underlying65 rfl Try.sizeWk ?_))
  refine (heldwork_bv TL 1 kG us N1 vs N2 xs N3 _ HD SEG (by omega) (by omega) nl.1 nl.2.1 nl.2.2).mono ?_
  rintro e w12 ⟨rfl, b⟩
  have HL0 : Hid (Bx w12 w.heap.size 50 [.int .i64 i, .slice s.a s.n s.c]) := HL0.out.later b
  have HB0 : Hid (Below w.heap.size w w12) := bl_next HB0.out b
  have HX0 : Hid (RI w12 s.v ws) := HX0.out.stays b
  have WKB : Hid (Bx w12 gWKB 65 [.int .i64 kK.rid, .slice kK.mv.a kK.mv.n kK.mv.c, .slice kK.mav.a kK.mav.n kK.mav.c, .slice kK.flv.a kK.flv.n kK.flv.c, .slice kK.hev.a kK.hev.n kK.hev.c, .slice kK.sav.a kK.sav.n kK.sav.c]) := WKB.out.later b
  have BK : Hid (Below WK.heap.size WK w12) := BK.out.trans ((b).mono BK.out.size)
  have WGB : Hid (Bx w12 gWGB 65 [.int .i64 kG.rid, .slice kG.mv.a kG.mv.n kG.mv.c, .slice kG.mav.a kG.mav.n kG.mav.c, .slice kG.flv.a kG.flv.n kG.flv.c, .slice kG.hev.a kG.hev.n kG.hev.c, .slice kG.sav.a kG.sav.n kG.sav.c]) := WGB.out.later b
  have HD : Hid (Held w12 TL 1) := HD.out.later b
  have SEG : Hid (WkSeg w12 TL kG us N1 vs N2 xs N3) := SEG.out.later b
  clear b
  rw [HM.out]
  have l0 := HL0.out.cell 0
  have l1 := HL0.out.cell 1
  go_wp2_with fail
  clear l0 l1
  refine (toRing_r i s ws _ HX0 hl2).mono ?_
  rintro e w13 ⟨s13, rfl, o13, b⟩
  have HL0 : Hid (Bx w13 w.heap.size 50 [.int .i64 i, .slice s.a s.n s.c]) := HL0.out.later b
  have HB0 : Hid (Below w.heap.size w w13) := bl_next HB0.out b
  have HX0 : Hid (RI w13 s.v ws) := HX0.out.stays b
  have WKB : Hid (Bx w13 gWKB 65 [.int .i64 kK.rid, .slice kK.mv.a kK.mv.n kK.mv.c, .slice kK.mav.a kK.mav.n kK.mav.c, .slice kK.flv.a kK.flv.n kK.flv.c, .slice kK.hev.a kK.hev.n kK.hev.c, .slice kK.sav.a kK.sav.n kK.sav.c]) := WKB.out.later b
  have BK : Hid (Below WK.heap.size WK w13) := BK.out.trans ((b).mono BK.out.size)
  have WGB : Hid (Bx w13 gWGB 65 [.int .i64 kG.rid, .slice kG.mv.a kG.mv.n kG.mv.c, .slice kG.mav.a kG.mav.n kG.mav.c, .slice kG.flv.a kG.flv.n kG.flv.c, .slice kG.hev.a kG.hev.n kG.hev.c, .slice kG.sav.a kG.sav.n kG.sav.c]) := WGB.out.later b
  have HD : Hid (Held w13 TL 1) := HD.out.later b
  have SEG : Hid (WkSeg w13 TL kG us N1 vs N2 xs N3) := SEG.out.later b
  have X13 : Hid (RI w13 s13.v ws) := o13.ri
  clear b o13
  go_wp2_with fail
  refine (workNew_yes i s13 ws _ X13 hl2 hr).mono ?_
  rintro e w14 ⟨kE, rfl, iw, b⟩
  have HL0 : Hid (Bx w14 w.heap.size 50 [.int .i64 i, .slice s.a s.n s.c]) := HL0.out.later b
  have HB0 : Hid (Below w.heap.size w w14) := bl_next HB0.out b
  have HX0 : Hid (RI w14 s.v ws) := HX0.out.stays b
  have WKB : Hid (Bx w14 gWKB 65 [.int .i64 kK.rid, .slice kK.mv.a kK.mv.n kK.mv.c, .slice kK.mav.a kK.mav.n kK.mav.c, .slice kK.flv.a kK.flv.n kK.flv.c, .slice kK.hev.a kK.hev.n kK.hev.c, .slice kK.sav.a kK.sav.n kK.sav.c]) := WKB.out.later b
  have BK : Hid (Below WK.heap.size WK w14) := BK.out.trans ((b).mono BK.out.size)
  have WGB : Hid (Bx w14 gWGB 65 [.int .i64 kG.rid, .slice kG.mv.a kG.mv.n kG.mv.c, .slice kG.mav.a kG.mav.n kG.mav.c, .slice kG.flv.a kG.flv.n kG.flv.c, .slice kG.hev.a kG.hev.n kG.hev.c, .slice kG.sav.a kG.sav.n kG.sav.c]) := WGB.out.later b
  have HD : Hid (Held w14 TL 1) := HD.out.later b
  have SEG : Hid (WkSeg w14 TL kG us N1 vs N2 xs N3) := SEG.out.later b
  have PE : Hid (WkP w14 kE) := iw.p
  have HSE : Hid (Same kE kK) := new_same iw.nw NK.out
  have SME : Hid (Small kE) := new_small iw.nw H5.out.2
  clear b iw X13
  have hz : Hid (Bx (w14.alloc (.cells #[.int .i64 0, .slice none 0 0, .slice none 0 0, .slice none 0 0, .slice none 0 0, .slice none 0 0] 65)) w14.heap.size 65 [.int .i64 0, .slice none 0 0, .slice none 0 0, .slice none 0 0, .slice none 0 0, .slice none 0 0]) := Bx.new w14 65 _
  go_wp2_with (first | (refine wpList_stB rfl 65 _ _ rfl w14.heap.size 0 rfl 65 _ hz.out [.int .i64 kE.rid, .slice kE.mv.a kE.mv.n kE.mv.c, .slice kE.mav.a kE.mav.n kE.mav.c, .slice kE.flv.a kE.flv.n kE.flv.c, .slice kE.hev.a kE.hev.n kE.hev.c, .slice kE.sav.a kE.sav.n kE.sav.c] rfl (by simp) Try.sizeWk rfl [.int .i64 kE.rid, .slice kE.mv.a kE.mv.n kE.mv.c, .slice kE.mav.a kE.mav.n kE.mav.c, .slice kE.flv.a kE.flv.n kE.flv.c, .slice kE.hev.a kE.hev.n kE.hev.c, .slice kE.sav.a kE.sav.n kE.sav.c] rfl ?_; intro WE OB TB; have b : Below w14.heap.size w14 WE := ((Below.refl _ _).alloc (Nat.le_refl _) _).trans (TB.below (Nat.le_refl _)); have WEB : Hid (Bx WE w14.heap.size 65 [.int .i64 kE.rid, .slice kE.mv.a kE.mv.n kE.mv.c, .slice kE.mav.a kE.mav.n kE.mav.c, .slice kE.flv.a kE.flv.n kE.flv.c, .slice kE.hev.a kE.hev.n kE.hev.c, .slice kE.sav.a kE.sav.n kE.sav.c]) := OB; have HL0 : Hid (Bx WE w.heap.size 50 [.int .i64 i, .slice s.a s.n s.c]) := HL0.out.later b; have HB0 : Hid (Below w.heap.size w WE) := bl_next HB0.out b; have HX0 : Hid (RI WE s.v ws) := HX0.out.stays b; have WKB : Hid (Bx WE gWKB 65 [.int .i64 kK.rid, .slice kK.mv.a kK.mv.n kK.mv.c, .slice kK.mav.a kK.mav.n kK.mav.c, .slice kK.flv.a kK.flv.n kK.flv.c, .slice kK.hev.a kK.hev.n kK.hev.c, .slice kK.sav.a kK.sav.n kK.sav.c]) := WKB.out.later b; have BK : Hid (Below WK.heap.size WK WE) := BK.out.trans ((b).mono BK.out.size); have WGB : Hid (Bx WE gWGB 65 [.int .i64 kG.rid, .slice kG.mv.a kG.mv.n kG.mv.c, .slice kG.mav.a kG.mav.n kG.mav.c, .slice kG.flv.a kG.flv.n kG.flv.c, .slice kG.hev.a kG.hev.n kG.hev.c, .slice kG.sav.a kG.sav.n kG.sav.c]) := WGB.out.later b; have HD : Hid (Held WE TL 1) := HD.out.later b; have SEG : Hid (WkSeg WE TL kG us N1 vs N2 xs N3) := SEG.out.later b; have PE : Hid (WkP WE kE) := PE.out.below b; clear OB TB b; refine Stp.here ?_))
  refine Stp.go ?_
  clear hz
  have z_WE : w14.heap.size < WE.heap.size := WEB.out.lt
  generalize w14.heap.size = gWEB at *
  go_wp2_with (first | (refine wpList_ldG rfl 65 _ rfl gWEB 0 rfl 65 _ WEB.out [.int .i64 kE.rid, .slice kE.mv.a kE.mv.n kE.mv.c, .slice kE.mav.a kE.mav.n kE.mav.c, .slice kE.flv.a kE.flv.n kE.flv.c, .slice kE.hev.a kE.hev.n kE.hev.c, .slice kE.sav.a kE.sav.n kE.sav.c] rfl _ Try.underlying65 rfl Try.sizeWk ?_) | (refine wpList_ldG rfl 65 _ rfl gWKB 0 rfl 65 _ WKB.out [.int .i64 kK.rid, .slice kK.mv.a kK.mv.n kK.mv.c, .slice kK.mav.a kK.mav.n kK.mav.c, .slice kK.flv.a kK.flv.n kK.flv.c, .slice kK.hev.a kK.hev.n kK.hev.c, .slice kK.sav.a kK.sav.n kK.sav.c] rfl _ Try.underlying65 rfl Try.sizeWk ?_))
  refine (eqWork_p kE kK _ (show Hid (WkP WE kE) from PE.out) (show Hid (WkP WE kK) from KP.out.below BK.out) HSE SME).mono ?_
  rintro e w15 ⟨rfl, b⟩
  have HL0 : Hid (Bx w15 w.heap.size 50 [.int .i64 i, .slice s.a s.n s.c]) := HL0.out.later b
  have HB0 : Hid (Below w.heap.size w w15) := bl_next HB0.out b
  have HX0 : Hid (RI w15 s.v ws) := HX0.out.stays b
  have WKB : Hid (Bx w15 gWKB 65 [.int .i64 kK.rid, .slice kK.mv.a kK.mv.n kK.mv.c, .slice kK.mav.a kK.mav.n kK.mav.c, .slice kK.flv.a kK.flv.n kK.flv.c, .slice kK.hev.a kK.hev.n kK.hev.c, .slice kK.sav.a kK.sav.n kK.sav.c]) := WKB.out.later b
  have BK : Hid (Below WK.heap.size WK w15) := BK.out.trans ((b).mono BK.out.size)
  have WGB : Hid (Bx w15 gWGB 65 [.int .i64 kG.rid, .slice kG.mv.a kG.mv.n kG.mv.c, .slice kG.mav.a kG.mav.n kG.mav.c, .slice kG.flv.a kG.flv.n kG.flv.c, .slice kG.hev.a kG.hev.n kG.hev.c, .slice kG.sav.a kG.sav.n kG.sav.c]) := WGB.out.later b
  have HD : Hid (Held w15 TL 1) := HD.out.later b
  have SEG : Hid (WkSeg w15 TL kG us N1 vs N2 xs N3) := SEG.out.later b
  have WEB : Hid (Bx w15 gWEB 65 [.int .i64 kE.rid, .slice kE.mv.a kE.mv.n kE.mv.c, .slice kE.mav.a kE.mav.n kE.mav.c, .slice kE.flv.a kE.flv.n kE.flv.c, .slice kE.hev.a kE.hev.n kE.hev.c, .slice kE.sav.a kE.sav.n kE.sav.c]) := WEB.out.later b
  clear b
  go_wp2_with (first | (refine wpList_ldG rfl 65 _ rfl gWGB 0 rfl 65 _ WGB.out [.int .i64 kG.rid, .slice kG.mv.a kG.mv.n kG.mv.c, .slice kG.mav.a kG.mav.n kG.mav.c, .slice kG.flv.a kG.flv.n kG.flv.c, .slice kG.hev.a kG.hev.n kG.hev.c, .slice kG.sav.a kG.sav.n kG.sav.c] rfl _ Try.underlying65 rfl Try.sizeWk ?_))
  refine (heldwork_bv TL 1 kG us N1 vs N2 xs N3 _ HD SEG (by omega) (by omega) nl.1 nl.2.1 nl.2.2).mono ?_
  rintro e w16 ⟨rfl, b⟩
  have HL0 : Hid (Bx w16 w.heap.size 50 [.int .i64 i, .slice s.a s.n s.c]) := HL0.out.later b
  have HB0 : Hid (Below w.heap.size w w16) := bl_next HB0.out b
  have HX0 : Hid (RI w16 s.v ws) := HX0.out.stays b
  have WKB : Hid (Bx w16 gWKB 65 [.int .i64 kK.rid, .slice kK.mv.a kK.mv.n kK.mv.c, .slice kK.mav.a kK.mav.n kK.mav.c, .slice kK.flv.a kK.flv.n kK.flv.c, .slice kK.hev.a kK.hev.n kK.hev.c, .slice kK.sav.a kK.sav.n kK.sav.c]) := WKB.out.later b
  have BK : Hid (Below WK.heap.size WK w16) := BK.out.trans ((b).mono BK.out.size)
  have WGB : Hid (Bx w16 gWGB 65 [.int .i64 kG.rid, .slice kG.mv.a kG.mv.n kG.mv.c, .slice kG.mav.a kG.mav.n kG.mav.c, .slice kG.flv.a kG.flv.n kG.flv.c, .slice kG.hev.a kG.hev.n kG.hev.c, .slice kG.sav.a kG.sav.n kG.sav.c]) := WGB.out.later b
  have HD : Hid (Held w16 TL 1) := HD.out.later b
  have SEG : Hid (WkSeg w16 TL kG us N1 vs N2 xs N3) := SEG.out.later b
  have WEB : Hid (Bx w16 gWEB 65 [.int .i64 kE.rid, .slice kE.mv.a kE.mv.n kE.mv.c, .slice kE.mav.a kE.mav.n kE.mav.c, .slice kE.flv.a kE.flv.n kE.flv.c, .slice kE.hev.a kE.hev.n kE.hev.c, .slice kE.sav.a kE.sav.n kE.sav.c]) := WEB.out.later b
  clear b
  rw [HM.out]
  go_wp2_with fail
  go_ret
  exact ⟨rfl, HB0.out⟩
theorem lawWorkNew (i : Int) (ao : Option Addr) (cap : Nat) (ws : List Int) (w : World) (hx : IntsAt w ao ws) (hl : ws.length ≤ maxLen) :
    Calls Try.prog 6 #[.agg #[.int .i64 i, .slice ao ws.length cap]] w fun e w' => e = .returned (.bool true) ∧ Below w.heap.size w w' := by
  unfold maxLen at hl
  by_cases hl1 : 1048576 < ws.length
  · go_enter Try.func6, Try.ntmps6
    go_wp2_with fail
    refine (szRing_long i ao ws.length cap _ hl1 (by omega)).mono ?_
    rintro e w1 ⟨rfl, hb1⟩
    go_wp2_with fail
    go_ret
    exact ⟨rfl, ((Below.refl _ _).alloc (Nat.le_refl _) _).trans (hb1.mono (by simp))⟩
  have hr : Hid (RI w (Sv.mk ao ws.length cap).v ws) := ⟨ao, cap, rfl, hx⟩
  cases h : ringB i ws with
  | true => exact lawWN_yes i ⟨ao, ws.length, cap⟩ ws w hr (by omega) (rfl : ws.length = ws.length) h
  | false => exact lawWN_no i ⟨ao, ws.length, cap⟩ ws w hr (by omega) (rfl : ws.length = ws.length) h
end Go.Proofs.Ythdjkkiegecgnaa


