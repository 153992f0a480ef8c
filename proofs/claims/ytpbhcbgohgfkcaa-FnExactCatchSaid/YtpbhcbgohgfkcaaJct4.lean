/- Joined texts: Cl Nu Step Fig Dec Mk Tx. -/
import Derived.Test.YtpbhcbgohgfkcaaJct1
import Derived.Test.YtpbhcbgohgfkcaaJct2
import Derived.Test.YtpbhcbgohgfkcaaJct3
import Derived.Test.YtpbhcbgohgfkcaaChecked
import Derived.WalkKit
import Derived.WalkSpells
import Derived.WalkLawsBesides
import Derived.Lib.Strings
import Derived.Lib.BufferWrite
import Derived.Lib.UnsafeStr
import Derived.Laws.MakeOwn
import Derived.Deep.RegionLaw
import Derived.Deep.AppendLies
import Derived.Deep.RegionHeld3
import Derived.Deep.QuietTactic
import Derived.BigQuiet
/- The walk over strings.Clone. -/
namespace Go.Proofs.Ytpbhcbgohgfkcaa
open Go.RowKit
set_option linter.unusedVariables false

theorem Try.cells5 : Try.prog.cellsOf 5 = 1 := by kernel_rfl
theorem Try.info5 : (Try.prog.info? 5).map (fun i => (i.zero, i.size, i.bytes)) = some (some (.int .u8 0), 1, 1) := by kernel_rfl

set_option maxHeartbeats 1000000 in
set_option maxRecDepth 100000 in
theorem cloneLite (s : ByteArray) (w : World) (hlim : s.size ≤ 1048576) :
    Calls Try.prog 118 #[.string s] w fun e w' => e = .returned (.string s) ∧ Below w.heap.size w w' := by
  by_cases h0 : s.size = 0
  · obtain rfl : s = ⟨#[]⟩ := ByteArray.ext (Array.eq_empty_of_size_eq_zero h0)
    go_enter Try.func118, Try.ntmps118
    go_wp2
    go_ret
    exact ⟨rfl, Below.refl _ _⟩
  · obtain ⟨i0, hi, hz0, hz1, hz2⟩ := info_parts Try.info5
    have hinfo : (Try.prog.info? 5).map (·.size) = some 1 := by rw [hi]; simp [hz1]
    obtain ⟨M, hM⟩ : ∃ M, M = madeCells (Value.int .u8 0).cells (((s.size : Nat) : Int).toNat * i0.size) := ⟨_, rfl⟩
    have hMs : M.size = s.size := by rw [hM, size_madeCells, hz1]; simp
    have hmk : ∀ W : World, (Instr.makeSlice 22 (.int .i64 (s.size : Int)) (.int .i64 (s.size : Int))).run Try.prog W = .ok (.slice (some ⟨W.heap.size, 0, none⟩) s.size s.size) (W.alloc (.cells M 5)) := fun W => by
      have h := run_make (P := Try.prog) W 22 5 i0 (.int .u8 0) Try.underlying22 hi hz0 .i64 .i64 (s.size : Int) (s.size : Int) (by omega) (by omega) (by rw [hz2]; omega) (by omega)
      rw [← hM] at h
      simpa using h
    clear hM
    have hcp := Lib.run_copy_row_string (P := Try.prog) (w.alloc (.cells M 5)) 22 9 3 5 w.heap.size 0 s.size s.size s M 5 Try.underlying22 hinfo (heap_alloc_new w _) (Nat.le_refl _) (by omega)
    obtain ⟨Y, hY⟩ : ∃ Y, Y = (M.toList.take 0 ++ Lib.byteCells s.data.toList ++ M.toList.drop (0 + s.size)).toArray := ⟨_, rfl⟩
    rw [← hY] at hcp
    have hYl : Y.toList = Lib.byteCells s.data.toList := by
      rw [hY, List.toList_toArray, List.take_zero, List.nil_append, List.drop_of_length_le (by rw [Array.length_toList]; omega), List.append_nil]
    have hYs : Y.size = s.size := by rw [← Array.length_toList, hYl, Lib.byteCells_length, ← Lib.size_eq]
    have hgY : ((w.alloc (.cells M 5)).setRow w.heap.size Y).heap[w.heap.size]? = some (.cells Y 5 (0, 0)) := setRow_heap _ _ M _ 5 (0, 0) (heap_alloc_new w _)
    have hne : s.data.toList ≠ [] := fun e => h0 (by rw [Lib.size_eq, e]; rfl)
    have hUS := Lib.run_unsafeString_row (P := Try.prog) ((w.alloc (.cells M 5)).setRow w.heap.size Y) 174 3 9 5 Try.underlying174 Try.cells5 w.heap.size Y.size (by unfold World.shape?; rw [hgY]) s.data.toList hne (by rw [← Lib.size_eq]; omega) (by rw [← Lib.size_eq]; omega)
      (fun j x hx => Lib.cells_of_row hgY Y.size j _ (by rw [List.take_of_length_le (by rw [Array.length_toList]; exact Nat.le_refl _), hYl]; simp [Lib.byteCells, hx]))
    rw [← Lib.size_eq] at hUS
    clear hY
    go_enter Try.func118, Try.ntmps118
    go_wp2
    go_ret
    have hb1 : Below w.heap.size w (w.alloc (.cells M 5)) := (Below.refl _ w).alloc (Nat.le_refl _) _
    have hb2 : Below w.heap.size (w.alloc (.cells M 5)) ((w.alloc (.cells M 5)).setRow w.heap.size Y) := ⟨rfl, rfl, rfl, by simp, fun k hk => setRow_other _ _ _ _ (by omega)⟩
    exact ⟨rfl, Lib.below_freeze (hb1.trans hb2) (p := ⟨w.heap.size, 0, none⟩) (Nat.le_refl _) _⟩

set_option maxHeartbeats 400000 in
theorem clone_any (s : ByteArray) (w : World) (hlim : s.size ≤ 1048576) :
    Calls Try.prog 63 #[.string s] w fun e w' => e = .returned (.string s) ∧ Below w.heap.size w w' := by
  go_enter Try.func63, Try.ntmps63
  go_wp2_with (first | (go_at_call 118; refine (cloneLite s _ hlim).mono ?_; rintro e w1 ⟨rfl, hb1⟩))
  go_ret
  exact ⟨rfl, hb1⟩
end Go.Proofs.Ytpbhcbgohgfkcaa

/- Numbers of items, by the interface; slices of items. -/
namespace Go.Proofs.Ytpbhcbgohgfkcaa
open Go.RowKit Pl
set_option linter.unusedVariables false

theorem met_str {P : Program} {w : World} {n : Nat} {t : TypeId} {d : TypeDesc} {name : String} {m : Method} {f : FuncId} {v : Value} (hi : ((P.info? t).bind fun i => i.methods.find? (·.name == name)) = some m) (hp : m.path = #[]) (hf : m.func = some (f, false)) (hu : P.underlying t = some d) (hd : ∀ e, d ≠ .pointer e) :
    (method (n + 1) t v name).run P w = .ok (f, v) w := by
  obtain ⟨i, hi1, hi2⟩ := Option.bind_eq_some_iff.1 hi
  unfold method
  cases d with
  | pointer e => exact absurd rfl (hd e)
  | _ => simp [typeInfo, hi1, hi2, hp, hf, follow, receiverAt, run_underlying hu, Place.get]
theorem mNum (w : World) (v : Value) : (method 330 38 v "loop.example/g00183/impl.number").run Try.prog w = .ok (206, v) w :=
  met_str (m := ⟨ "loop.example/g00183/impl.number", 116, #[], some (206, false)⟩) (by kernel_rfl) rfl rfl Try.underlying38 (by intro e h; cases h)

set_option maxRecDepth 100000 in
set_option maxHeartbeats 1000000 in
theorem number_any (q f l : Int) (t : ByteArray) (w : World) :
    Calls Try.prog 206 #[.agg #[.int .i64 q, .int .i64 f, .int .i64 l, .string t]] w fun e w' => e = .returned (.int .i64 q) ∧ Below w.heap.size w w' := by
  go_enter Try.func206, Try.ntmps206
  go_wp2_with fail
  go_ret
  exact ⟨rfl, (Below.refl _ _).alloc (Nat.le_refl _) _⟩

/-- an item as a value. -/
def agg (x : It) : Value := .agg #[.int .i64 x.1, .int .i64 x.2.1, .int .i64 x.2.2.1, .string x.2.2.2]
/-- the item of which all is zero. -/
def zIt : It := (0, 0, 0, ⟨#[]⟩)
/-- an item's cells. -/
def cel (x : It) : List Value := [.int .i64 x.1, .int .i64 x.2.1, .int .i64 x.2.2.1, .string x.2.2.2]
/-- items' cells. -/
def cels (ts : List It) : List Value := ts.flatMap cel
theorem cels_nil : cels [] = [] := rfl
theorem cels_cons (x : It) (ts : List It) : cels (x :: ts) = cel x ++ cels ts := rfl
theorem cels_append (a b : List It) : cels (a ++ b) = cels a ++ cels b := by simp [cels]
theorem cels_length : ∀ (ts : List It), (cels ts).length = ts.length * 4
  | [] => rfl
  | x :: ts => by rw [cels_cons, List.length_append, cels_length ts, List.length_cons]; show 4 + ts.length * 4 = _; omega
theorem cels_drop : ∀ (ts : List It) (k : Nat), (cels ts).drop (k * 4) = cels (ts.drop k)
  | ts, 0 => by simp
  | [], k + 1 => by simp [cels]
  | x :: ts, k + 1 => by
    rw [cels_cons, show (k + 1) * 4 = 4 + k * 4 by omega, ← List.drop_drop, List.drop_succ_cons, ← cels_drop ts k]
    rfl
theorem cels_take : ∀ (ts : List It) (k : Nat), (cels ts).take (k * 4) = cels (ts.take k)
  | ts, 0 => by simp [cels]
  | [], k + 1 => by simp [cels]
  | x :: ts, k + 1 => by
    rw [cels_cons, show (k + 1) * 4 = k * 4 + 1 + 1 + 1 + 1 by omega, List.take_succ_cons, cels_cons, ← cels_take ts k]
    rfl
theorem cels_at {ts : List It} {i : Nat} (h : i < ts.length) : (cels ts)[i * 4]? = some (.int .i64 ts[i].1) ∧ (cels ts)[i * 4 + 1]? = some (.int .i64 ts[i].2.1) ∧ (cels ts)[i * 4 + 2]? = some (.int .i64 ts[i].2.2.1) ∧ (cels ts)[i * 4 + 3]? = some (.string ts[i].2.2.2) := by
  have e : ∀ j, (cels ts)[i * 4 + j]? = (cels (ts.drop i))[j]? := fun j => by rw [← cels_drop, List.getElem?_drop]
  have e0 := e 0
  rw [Nat.add_zero] at e0
  rw [e0, e 1, e 2, e 3, List.drop_eq_getElem_cons h, cels_cons]
  exact ⟨rfl, rfl, rfl, rfl⟩
theorem cels_one {ts : List It} : ∀ u ∈ cels ts, u.oneCell' = true := by
  intro u hu
  obtain ⟨x, _, hx⟩ := List.mem_flatMap.1 hu
  simp [cel] at hx
  rcases hx with rfl | rfl | rfl | rfl <;> rfl
theorem cels_inj : ∀ {a b : List It}, cels a = cels b → a = b
  | [], [], _ => rfl
  | [], _ :: _, h => by simp [cels, cel] at h
  | _ :: _, [], h => by simp [cels, cel] at h
  | x :: a, y :: b, h => by
    rw [cels_cons, cels_cons] at h
    obtain ⟨x0, x1, x2, x3⟩ := x
    obtain ⟨y0, y1, y2, y3⟩ := y
    simp [cel] at h
    obtain ⟨rfl, rfl, rfl, rfl, h⟩ := h
    rw [cels_inj h]

/-- the slice v lies in a block from B on and holds the items ts. -/
def SlI (w : World) (B : Nat) (v : Value) (ts : List It) : Prop := Sl w 38 4 B v ts.length (cels ts)
section
variable {w w' : World} {B : Nat} {v : Value} {ts : List It}
theorem SlI.lt (h : SlI w B v ts) : ∀ k, v.ownBlock = some k → B ≤ k ∧ k < w.heap.size := Sl.lt h
theorem SlI.keep (h : SlI w B v ts) (hk : ∀ k, v.ownBlock = some k → k < w.heap.size → w'.heap[k]? = w.heap[k]?) : SlI w' B v ts := Sl.keep h hk
theorem SlI.below (h : SlI w B v ts) (hb : Below w.heap.size w w') : SlI w' B v ts := Sl.below h hb
theorem SlI.down {B' : Nat} (h : SlI w B v ts) (hB : B' ≤ B) : SlI w B' v ts := Sl.down h hB
theorem SlI.kept {row : Option Nat} (h : SlI w B v ts) (hg : w.grownBy w' row) (hne : ∀ k, v.ownBlock = some k → some k ≠ row) : SlI w' B v ts := Sl.kept h hg hne
theorem SlI.drew (h : SlI w B v ts) : SlI w.drew B v ts := Sl.keep h fun _ _ _ => rfl
theorem SlI.drewN (h : SlI w B v ts) (m : Nat) : SlI (w.drewN m) B v ts := Sl.keep h fun _ _ _ => by rw [World.heap_drewN]
theorem SlI.made (w : World) (B : Nat) (hb : B ≤ w.heap.size) : SlI (w.alloc (.cells #[] 38)) B (.slice (some ⟨w.heap.size, 0, none⟩) 0 0) [] := Sl.made w 38 4 B hb
/-- it is read as a list that was handed in. -/
theorem SlI.items (h : SlI w B v ts) : ∃ ao cap, v = .slice ao ts.length cap ∧ ItemsAt w ao ts := by
  by_cases h0 : 0 < ts.length
  · obtain ⟨g, off, cap, rfl, h1, h2, h3, h4⟩ := Sl.read h h0
    refine ⟨_, cap, rfl, fun i hi => ⟨g, off, rfl, h2, ?_⟩⟩
    obtain ⟨c0, c1, c2, c3⟩ := cels_at hi
    refine ⟨h3 _ _ c0, ?_, ?_, ?_⟩
    · rw [Nat.add_assoc]; exact h3 _ _ c1
    · rw [Nat.add_assoc]; exact h3 _ _ c2
    · rw [Nat.add_assoc]; exact h3 _ _ c3
  · obtain ⟨ao, cap, rfl⟩ := Sl.form h
    exact ⟨ao, cap, rfl, fun i hi => by omega⟩
end
/-- a row of items is a slice. -/
theorem RowIt.sl {w : World} {g n B : Nat} {ts : List It} (h : RowIt w g n ts n) (hn : ts.length = n) (hm : n ≤ 1048576) (hB : B ≤ g) : SlI w B (.slice (some ⟨g, 0, none⟩) n n) ts := by
  obtain ⟨arr, h1, h2, h3⟩ := h
  subst hn
  refine ⟨cels_length ts, .inr ⟨g, 0, ts.length, arr, rfl, hB, h1, Nat.le_refl _, by unfold maxLen; omega, by omega, fun j hj => ?_⟩⟩
  rw [Nat.zero_add]
  obtain ⟨i, r, hr, rfl⟩ : ∃ i r, r < 4 ∧ j = i * 4 + r := ⟨j / 4, j % 4, by omega, by omega⟩
  have hi : i < ts.length := by omega
  obtain ⟨a0, a1, a2, a3⟩ := h3 i hi hi
  obtain ⟨c0, c1, c2, c3⟩ := cels_at hi
  match r, hr with
  | 0, _ => rw [Nat.add_zero, a0, c0]
  | 1, _ => rw [a1, c1]
  | 2, _ => rw [a2, c2]
  | 3, _ => rw [a3, c3]

/-- what an append takes: a slice of one item, new. -/
theorem src_one (w : World) (t : TypeId) (ht : Try.prog.underlying t = some (.slice 38)) (x : It) : Src Try.prog 4 t (.slice (some ⟨w.heap.size, 0, none⟩) 1 1) 1 (cels [x]) (w.alloc (.cells #[.int .i64 x.1, .int .i64 x.2.1, .int .i64 x.2.2.1, .string x.2.2.2] 38)) := by
  refine Src.ofSlice _ ht ⟨w.heap.size, 0, none⟩ 1 1 (cels [x]) rfl (fun j u hu => ?_) cels_one
  rw [Addr.add_lit, Nat.zero_add, cell_of_row _ _ _ _ 38 (0, 0) (heap_alloc_new w _), ← hu]
  have hj : j < 4 := (List.getElem?_eq_some_iff.1 hu).1
  match j, hj with
  | 0, _ => rfl
  | 1, _ => rfl
  | 2, _ => rfl
  | 3, _ => rfl
/-- .. and of items that lie there. -/
theorem src_items {w : World} {ao : Option Addr} {ts : List It} (t : TypeId) (ht : Try.prog.underlying t = some (.slice 38)) (cap : Nat) (h : ItemsAt w ao ts) : Src Try.prog 4 t (.slice ao ts.length cap) ts.length (cels ts) w := by
  by_cases h0 : 0 < ts.length
  · obtain ⟨b, off, rfl, _⟩ := h 0 h0
    refine Src.ofSlice _ ht ⟨b, off, none⟩ ts.length cap (cels ts) (cels_length ts) (fun j u hu => ?_) cels_one
    have hj : j < ts.length * 4 := by rw [← cels_length]; exact (List.getElem?_eq_some_iff.1 hu).1
    obtain ⟨i, r, hr, rfl⟩ : ∃ i r, r < 4 ∧ j = i * 4 + r := ⟨j / 4, j % 4, by omega, by omega⟩
    have hi : i < ts.length := by omega
    obtain ⟨b', off', e, _, a0, a1, a2, a3⟩ := h i hi
    simp at e
    obtain ⟨rfl, rfl⟩ := e
    obtain ⟨c0, c1, c2, c3⟩ := cels_at hi
    rw [Addr.add_lit, ← hu]
    match r, hr with
    | 0, _ => rw [Nat.add_zero, a0, c0]
    | 1, _ => rw [← Nat.add_assoc, a1, c1]
    | 2, _ => rw [← Nat.add_assoc, a2, c2]
    | 3, _ => rw [← Nat.add_assoc, a3, c3]
  · have : ts = [] := List.eq_nil_of_length_eq_zero (by omega)
    subst this
    cases ao with
    | none => exact Src.ofNil _ ht cap
    | some a => exact Src.ofSlice _ ht a 0 cap [] rfl (fun j u hu => by simp at hu) (fun u hu => by simp at hu)

theorem wpList_pushIt {w : World} {ops : Array Oper} {rest : List Oper} {o : Oper} {a : Act} {Q : Exit → Act → World → Prop}
    (hgd : o.guard = none) (s x : Operand) (t : TypeId) (ho : o.op = .call { callee := .builtin .append, args := #[s, x], argTypes := #[t, t] })
    (ht : Try.prog.underlying t = some (.slice 38)) (B : Nat) (v : Value) (ts : List It) (hs : a.eval s = v) (hown : SlI w B v ts) (y : It)
    (hx : a.eval x = .slice (some ⟨w.heap.size, 0, none⟩) 1 1) (hn : ts.length ≤ 1048576) (hB : B ≤ w.heap.size)
    (h : ∀ v' w', SlI w' B v' (ts ++ [y]) → w.grownBy w' v.ownBlock → Below B w w' → (v'.ownBlock = v.ownBlock ∨ v'.ownBlock = some (w.heap.size + 1)) → wpList Try.prog ops Q rest (a.put o.dst v') w') :
    wpList Try.prog ops Q (o :: rest) a (w.alloc (.cells #[.int .i64 y.1, .int .i64 y.2.1, .int .i64 y.2.2.1, .string y.2.2.2] 38)) := by
  refine wpList_appendS hgd s x t ho _ 40 ht Try.infoI rfl hs (Sl.alloc hown _) _ 1 (cels [y]) hx (src_one w t ht y) (by unfold maxLen; omega) (by omega) (by simp; omega) ?_
  intro v' w' h1 h2 h3
  have hg : w.grownBy w' v.ownBlock := ⟨h2.os, h2.tape, h2.output, Nat.le_trans (by simp) h2.size, fun k hk hne => (h2.block k (by simp; omega) hne).trans (heap_alloc_old w _ hk)⟩
  refine h v' w' ?_ hg ?_ ?_
  · unfold SlI
    rw [List.length_append, cels_append]
    exact h1
  · exact ((Below.refl B w).alloc hB _).grown h2 (by simp; omega) (fun k hk => (Sl.lt hown k hk).1)
  · simpa using h3
end Go.Proofs.Ytpbhcbgohgfkcaa

/- A law for bytes appended inside a statement that leaves its order open; no program is named here. -/
namespace Go.Proofs.Ytpbhcbgohgfkcaa.Pl
open Go Go.RowKit

theorem step_pushB {P : Program} {ops : Array Oper} {o : Oper} {a : Act} {W : World} {K : Act → World → Prop} {Q : Exit → Act → World → Prop} {E : Prop}
    (hg : o.guard = none) (s x : Operand) (t e : TypeId) (hop : o.op = Op.call { callee := Callee.builtin Builtin.append, args := #[s, x], argTypes := #[t, t] })
    (ht : P.underlying t = some (.slice e)) (hinfo : (P.info? e).map (fun i => (i.zero, i.size, i.bytes)) = some (some (.int .u8 0), 1, 1))
    (B : Nat) (v : Value) (xs : List Int) (hs : a.eval s = v) (hown : OwnB W B e v xs)
    (bs : List Int) (ad : Addr) (m c : Nat) (hx : a.eval x = .slice (some ad) m c) (hm : bs.length = m)
    (hc : ∀ j u, (bs.map (Value.int .u8))[j]? = some u → W.cell? (ad.add j) = some u)
    (hn : xs.length + m < 70368744177664) (hB : B ≤ W.heap.size)
    (hK : ∀ v' w', OwnB w' B e v' (xs ++ bs) → Below B W w' → K (a.put o.dst v') w') :
    if Region.wanted o (yielded ops a.tmps) = true then Oper.wp P o a W K Q else E := by
  have hw : Region.wanted o (yielded ops a.tmps) = true := by simp [Region.wanted, hg]
  rw [if_pos hw]
  obtain ⟨i0, hi, hz0, hz1, hz2⟩ := info_parts hinfo
  refine wp_append_own W s x t hop B e i0 (.int .u8 0) 1 1 ht hi hz0 hz1 hz2 rfl (by decide) v xs.length (xs.map (Value.int .u8)) hs hown ad m c (bs.map (Value.int .u8)) hx (by simp [hm]) hc (ints_oneCell _ _) (by unfold maxLen; omega) (by omega) hB ?_
  intro v' w' hown' hgr _
  refine hK v' w' ?_ ?_
  · subst hm
    simpa [OwnB] using hown'
  · exact (Below.refl B W).grown hgr hB fun k hk => (World.ownsRow.lt hown k hk).1

theorem OwnB.drew {w : World} {B : Nat} {e : TypeId} {v : Value} {xs : List Int} (h : OwnB w B e v xs) : OwnB w.drew B e v xs := World.ownsRow.drew h

/-- a figure of base 16. -/
def figI (x : Nat) : Int := if x < 10 then 48 + (x : Int) else 87 + (x : Int)

/-- two figures for each byte. -/
def hexI (l : List UInt8) : List Int := l.flatMap fun c => [figI (c.toNat / 16), figI (c.toNat % 16)]

theorem hexI_length (l : List UInt8) : (hexI l).length = 2 * l.length := by
  induction l with
  | nil => rfl
  | cons c l ih => simp [hexI] at ih ⊢; omega

theorem take_snoc (s : ByteArray) (k : Nat) (h : k < s.size) : s.data.toList.take (k + 1) = s.data.toList.take k ++ [s[k]] := by
  rw [List.take_succ_eq_append_getElem (by simpa using h)]; rfl

theorem hexI_snoc (s : ByteArray) (k : Nat) (h : k < s.size) :
    hexI (s.data.toList.take (k + 1)) = hexI (s.data.toList.take k) ++ [figI ((s[k]'h).toNat / 16), figI ((s[k]'h).toNat % 16)] := by
  rw [take_snoc s k h]; simp [hexI]

def hexS (s : ByteArray) : ByteArray := strOfNums (hexI s.data.toList)

end Go.Proofs.Ytpbhcbgohgfkcaa.Pl

/- Plain facts on figures and what they stand for; no program is named here. -/
namespace Go.Proofs.Ytpbhcbgohgfkcaa.Pl
open Go Go.RowKit

theorem OwnB.form {w : World} {B : Nat} {e : TypeId} {v : Value} {xs : List Int} (h : OwnB w B e v xs) : ∃ ao cap, v = .slice ao xs.length cap := by
  rcases h.2 with ⟨rfl, hn⟩ | ⟨g, cap, cur, rfl, _⟩
  · exact ⟨none, 0, by rw [hn]⟩
  · exact ⟨_, cap, rfl⟩

theorem OwnB.some {w : World} {B : Nat} {e : TypeId} {v : Value} {xs : List Int} (h : OwnB w B e v xs) (h0 : 0 < xs.length) :
    ∃ g cap, v = .slice (some ⟨g, 0, none⟩) xs.length cap ∧ B ≤ g ∧ g < w.heap.size ∧ ∀ j, j < xs.length → w.cell? ⟨g, j, none⟩ = some (.int .u8 (xs.getD j 0)) := by
  rcases h.2 with ⟨rfl, hn⟩ | ⟨g, cap, cur, rfl, hb, hg, _⟩
  · omega
  · refine ⟨g, cap, rfl, hb, (Array.getElem?_eq_some_iff.1 hg).1, fun j hj => ?_⟩
    have := World.ownsRow.cellAt h j (by omega)
    rw [this]
    simp [hj]

/-- is the byte a figure: of base 10, or, with letters, of base 16? -/
def figOk (lt : Bool) (c : Nat) : Bool := (decide (48 ≤ c) && decide (c ≤ 57)) || (lt && (decide (97 ≤ c) && decide (c ≤ 102)))
def figVal (c : Nat) : Int := if c ≤ 57 then (c : Int) - 48 else (c : Int) - 87

/-- the first k bytes are figures. -/
def AllFig (lt : Bool) (s : ByteArray) (k : Nat) : Prop := ∀ j, (h : j < s.size) → j < k → figOk lt (s[j]'h).toNat = true
def vals (s : ByteArray) (k : Nat) : List Int := (s.data.toList.take k).map fun c => figVal c.toNat

theorem allFig_zero (lt : Bool) (s : ByteArray) : AllFig lt s 0 := fun _ _ h => by omega
theorem allFig_step {lt : Bool} {s : ByteArray} {k : Nat} (h : AllFig lt s k) (hk : k < s.size) (hc : figOk lt (s[k]'hk).toNat = true) : AllFig lt s (k + 1) := by
  intro j hj hlt
  by_cases e : j = k
  · subst e; exact hc
  · exact h j hj (by omega)
theorem vals_step (s : ByteArray) (k : Nat) (hk : k < s.size) : vals s (k + 1) = vals s k ++ [figVal (s[k]'hk).toNat] := by
  unfold vals; rw [take_snoc s k hk]; simp
theorem vals_length (s : ByteArray) (k : Nat) (hk : k ≤ s.size) : (vals s k).length = k := by
  have : s.data.size = s.size := rfl
  simp [vals]; omega
theorem vals_all (s : ByteArray) (k : Nat) (hk : ¬ k < s.size) (hk2 : k ≤ s.size) : k = s.size := by omega
theorem vals_at (s : ByteArray) (j : Nat) (hj : j < s.size) : (vals s s.size).getD j 0 = figVal (s[j]'hj).toNat := by
  have : s.data.size = s.size := rfl
  simp [vals, hj]
  rfl
theorem figVal_bd {lt : Bool} {c : Nat} (h : figOk lt c = true) : 0 ≤ figVal c ∧ figVal c ≤ 15 := by
  unfold figOk at h
  simp at h
  unfold figVal
  split <;> omega
theorem figVal_dec {c : Nat} (h : figOk false c = true) : figVal c = (c : Int) - 48 ∧ 48 ≤ c ∧ c ≤ 57 := by
  unfold figOk at h
  simp at h
  unfold figVal
  split <;> omega
theorem fig_digit {lt : Bool} {c : Nat} (h1 : 48 ≤ c) (h2 : c ≤ 57) : figOk lt c = true ∧ figVal c = (c : Int) - 48 := by
  refine ⟨by simp [figOk]; omega, by rw [figVal, if_pos h2]⟩
theorem fig_letter {c : Nat} (h1 : 97 ≤ c) (h2 : c ≤ 102) : figOk true c = true ∧ figVal c = (c : Int) - 87 := by
  refine ⟨by simp [figOk]; omega, by rw [figVal, if_neg (by omega)]⟩

/-- the bytes that pairs of figures stand for. -/
def pairs : List Int → List Int
  | a :: b :: r => (a * 16 + b) :: pairs r
  | _ => []
theorem pairs_snoc : ∀ (n : Nat) (l : List Int) (a b : Int), l.length = 2 * n → pairs (l ++ [a, b]) = pairs l ++ [a * 16 + b] := by
  intro n
  induction n with
  | zero =>
    intro l a b h
    obtain rfl : l = [] := List.eq_nil_of_length_eq_zero (by omega)
    rfl
  | succ n ih =>
    intro l a b h
    match l, h with
    | x :: y :: r, h =>
      simp only [List.length_cons] at h
      simp only [List.cons_append, pairs]
      rw [ih r a b (by omega)]
theorem pairs_length : ∀ (n : Nat) (l : List Int), l.length = 2 * n → (pairs l).length = n := by
  intro n
  induction n with
  | zero =>
    intro l h
    obtain rfl : l = [] := List.eq_nil_of_length_eq_zero (by omega)
    rfl
  | succ n ih =>
    intro l h
    match l, h with
    | x :: y :: r, h =>
      simp only [List.length_cons] at h
      simp only [pairs, List.length_cons]
      rw [ih r (by omega)]
theorem pairs_step (s : ByteArray) (k : Nat) (h : 2 * k + 1 < s.size) :
    pairs (vals s (2 * (k + 1))) = pairs (vals s (2 * k)) ++ [figVal (s[2 * k]'(by omega)).toNat * 16 + figVal (s[2 * k + 1]'h).toNat] := by
  have e : 2 * (k + 1) = 2 * k + 1 + 1 := by omega
  rw [e, vals_step s (2 * k + 1) h, vals_step s (2 * k) (by omega), List.append_assoc]
  exact pairs_snoc k _ _ _ (vals_length s _ (by omega))

end Go.Proofs.Ytpbhcbgohgfkcaa.Pl

/- Plain facts on decimal figures; no program is named here. -/
namespace Go.Proofs.Ytpbhcbgohgfkcaa.Pl
open Go Go.RowKit

/-- the decimal figures of n, none of 0. -/
def decF : Nat → Nat → List Int
  | 0, _ => []
  | f + 1, n => if n = 0 then [] else decF f (n / 10) ++ [48 + ((n % 10 : Nat) : Int)]

theorem decF_eq : ∀ (f g n : Nat), n ≤ f → n ≤ g → decF f n = decF g n := by
  intro f
  induction f with
  | zero =>
    intro g n hf _
    obtain rfl : n = 0 := by omega
    cases g with
    | zero => rfl
    | succ g => simp [decF]
  | succ f ih =>
    intro g n hf hg
    cases g with
    | zero =>
      obtain rfl : n = 0 := by omega
      simp [decF]
    | succ g =>
      simp only [decF]
      by_cases h : n = 0
      · rw [if_pos h, if_pos h]
      · rw [if_neg h, if_neg h, ih g (n / 10) (by omega) (by omega)]

def decR (n : Nat) : List Int := decF n n
theorem decR_zero : decR 0 = [] := rfl
theorem decR_pos {n : Nat} (h : n ≠ 0) : decR n = decR (n / 10) ++ [48 + ((n % 10 : Nat) : Int)] := by
  obtain ⟨m, rfl⟩ : ∃ m, n = m + 1 := ⟨n - 1, by omega⟩
  unfold decR
  rw [decF, if_neg h, decF_eq m ((m + 1) / 10) ((m + 1) / 10) (by omega) (Nat.le_refl _)]

def decL (n : Nat) : List Int := if n = 0 then [48] else decR n
def decS (n : Nat) : ByteArray := strOfNums (decL n)

theorem decR_length (n : Nat) : (decR n).length ≤ n := by
  induction n using Nat.strongRecOn with
  | ind n ih =>
    by_cases h : n = 0
    · subst h; simp [decR_zero]
    · rw [decR_pos h]
      have := ih (n / 10) (by omega)
      simp
      omega

theorem decR_mem (n : Nat) : ∀ x ∈ decR n, 48 ≤ x ∧ x ≤ 57 := by
  induction n using Nat.strongRecOn with
  | ind n ih =>
    intro x hx
    by_cases h : n = 0
    · subst h; simp [decR_zero] at hx
    · rw [decR_pos h] at hx
      rcases List.mem_append.1 hx with hx | hx
      · exact ih (n / 10) (by omega) x hx
      · simp at hx; omega

theorem decR_head (n : Nat) : ∀ (x : Int) (xs : List Int), decR n = x :: xs → x ≠ 48 := by
  induction n using Nat.strongRecOn with
  | ind n ih =>
    intro x xs hx
    by_cases h : n = 0
    · subst h; simp [decR_zero] at hx
    · rw [decR_pos h] at hx
      by_cases h2 : n / 10 = 0
      · rw [h2, decR_zero] at hx
        simp at hx
        omega
      · cases hd : decR (n / 10) with
        | nil =>
          rw [decR_pos h2] at hd
          simp at hd
        | cons y ys =>
          rw [hd] at hx
          simp at hx
          rw [← hx.1]
          exact ih (n / 10) (by omega) y ys hd

/-- what the first k figures of s stand for. -/
def dv (s : ByteArray) (k : Nat) : Nat := (s.data.toList.take k).foldl (fun n c => 10 * n + (c.toNat - 48)) 0
theorem dv_step (s : ByteArray) (k : Nat) (hk : k < s.size) : dv s (k + 1) = 10 * dv s k + ((s[k]'hk).toNat - 48) := by
  unfold dv; rw [take_snoc s k hk]; simp

theorem dv_bd {s : ByteArray} : ∀ k, k ≤ s.size → AllFig false s k → dv s k < 10 ^ k := by
  intro k
  induction k with
  | zero => intro _ _; simp [dv]
  | succ k ih =>
    intro hk h
    have h1 := ih (by omega) (fun j hj hlt => h j hj (by omega))
    have h2 := (figVal_dec (h k (by omega) (by omega))).2
    rw [dv_step s k (by omega), Nat.pow_succ]
    omega
theorem dv_le {s : ByteArray} {k : Nat} (hk : k ≤ s.size) (h : AllFig false s k) (h10 : k ≤ 10) : dv s k ≤ 9999999999 := by
  have h1 := dv_bd k hk h
  have h2 : 10 ^ k ≤ 10 ^ 10 := Nat.pow_le_pow_right (by omega) h10
  omega

def bytesN (s : ByteArray) (k : Nat) : List Int := (s.data.toList.take k).map fun c => (c.toNat : Int)
theorem bytesN_step (s : ByteArray) (k : Nat) (hk : k < s.size) : bytesN s (k + 1) = bytesN s k ++ [((s[k]'hk).toNat : Int)] := by
  unfold bytesN; rw [take_snoc s k hk]; simp

theorem dec_lead {s : ByteArray} (h0 : 0 < s.size) (hne : (s[0]'h0).toNat ≠ 48) : ∀ k, 0 < k → k ≤ s.size → AllFig false s k → 0 < dv s k ∧ decR (dv s k) = bytesN s k := by
  intro k
  induction k with
  | zero => intro h; omega
  | succ k ih =>
    intro _ hk h
    have hf := (figVal_dec (h k (by omega) (by omega))).2
    by_cases hk0 : k = 0
    · subst hk0
      have e0 : dv s 0 = 0 := rfl
      rw [dv_step s 0 h0, e0, bytesN_step s 0 h0]
      have hp : 10 * 0 + ((s[0]'h0).toNat - 48) ≠ 0 := by omega
      refine ⟨by omega, ?_⟩
      rw [decR_pos hp]
      have e1 : (10 * 0 + ((s[0]'h0).toNat - 48)) / 10 = 0 := by omega
      have e2 : (10 * 0 + ((s[0]'h0).toNat - 48)) % 10 = (s[0]'h0).toNat - 48 := by omega
      rw [e1, e2, decR_zero]
      simp [bytesN]
      omega
    · obtain ⟨i1, i2⟩ := ih (by omega) (by omega) (fun j hj hlt => h j hj (by omega))
      rw [dv_step s k (by omega), bytesN_step s k (by omega)]
      have hp : 10 * dv s k + ((s[k]'(by omega)).toNat - 48) ≠ 0 := by omega
      refine ⟨by omega, ?_⟩
      rw [decR_pos hp]
      have e1 : (10 * dv s k + ((s[k]'(by omega)).toNat - 48)) / 10 = dv s k := by omega
      have e2 : (10 * dv s k + ((s[k]'(by omega)).toNat - 48)) % 10 = (s[k]'(by omega)).toNat - 48 := by omega
      rw [e1, e2, i2]
      have e3 : (48 : Int) + (((s[k]'(by omega)).toNat - 48 : Nat) : Int) = ((s[k]'(by omega)).toNat : Int) := by omega
      rw [e3]

theorem bytesN_all (s : ByteArray) : (bytesN s s.size).map (fun n => UInt8.ofNat n.toNat) = s.data.toList := by
  unfold bytesN
  have e : s.data.toList.length = s.size := rfl
  rw [List.take_of_length_le (by omega), List.map_map]
  conv => rhs; rw [← List.map_id s.data.toList]
  apply List.map_congr_left
  intro c _
  simp

theorem decS_list (n : Nat) : (decS n).toList = (decL n).map fun n => UInt8.ofNat n.toNat := by
  rw [ByteArray.toList_eq]; rfl

/-- a text of figures is the decimal of what it stands for, but for an empty one and one with needless noughts. -/
theorem dec_same {s : ByteArray} (hall : AllFig false s s.size) (h0 : 0 < s.size) (hok : ¬ ((s[0]'h0).toNat = 48 ∧ 1 < s.size)) :
    ((decS (dv s s.size)).toList == s.toList) = true := by
  rw [decS_list, ByteArray.toList_eq, beq_iff_eq, ← bytesN_all s]
  congr 1
  by_cases hz : (s[0]'h0).toNat = 48
  · have h1 : s.size = 1 := by omega
    have e : dv s s.size = 0 := by
      have e0 : dv s 0 = 0 := rfl
      rw [h1, show (1 : Nat) = 0 + 1 from rfl, dv_step s 0 h0, e0, hz]
    rw [e, h1, bytesN_step s 0 h0]
    simp [decL, bytesN]
    omega
  · obtain ⟨i1, i2⟩ := dec_lead h0 hz s.size h0 (Nat.le_refl _) hall
    rw [decL, if_neg (by omega), i2]

theorem dec_other {s : ByteArray} (hbad : s.size = 0 ∨ ∃ h0 : 0 < s.size, (s[0]'h0).toNat = 48 ∧ 1 < s.size) (n : Nat) :
    ((decS n).toList == s.toList) = false := by
  rw [decS_list, ByteArray.toList_eq, beq_eq_false_iff_ne]
  intro heq
  have hlen := congrArg List.length heq
  have e : s.data.toList.length = s.size := rfl
  rw [e, List.length_map] at hlen
  rcases hbad with hs | ⟨h0, hz, h1⟩
  · by_cases hn : n = 0
    · subst hn; simp [decL] at hlen; omega
    · rw [decL, if_neg hn, decR_pos hn] at hlen
      simp at hlen
      omega
  · by_cases hn : n = 0
    · subst hn; simp [decL] at hlen; omega
    · rw [decL, if_neg hn] at heq
      have hd : s.data.toList = s[0] :: s.data.toList.drop 1 := by
        exact List.drop_eq_getElem_cons (l := s.data.toList) (i := 0) (by omega)
      cases hc : decR n with
      | nil =>
        rw [decR_pos hn] at hc
        simp at hc
      | cons x xs =>
        rw [hc, hd] at heq
        simp only [List.map_cons, List.cons.injEq] at heq
        have hx := decR_head n x xs hc
        have hm := decR_mem n x (by rw [hc]; simp)
        have h2 := congrArg UInt8.toNat heq.1
        rw [hz] at h2
        simp at h2
        omega

end Go.Proofs.Ytpbhcbgohgfkcaa.Pl

/- What a law writes over items, and looks at again. -/
namespace Go.Proofs.Ytpbhcbgohgfkcaa
open Go.RowKit Pl
set_option linter.unusedVariables false

theorem strOfNums_append (xs ys : List Int) : strOfNums xs ++ strOfNums ys = strOfNums (xs ++ ys) := by
  unfold strOfNums
  rw [ByteArray.mk_append_mk, List.map_append]

/-- what markText writes. -/
def markS (k : Nat) : ByteArray := strOfNums (109 :: decR k)

theorem strOf_one' {w : World} {b : Int} : (convert 22 9 (.slice (some ⟨w.heap.size, 0, none⟩) 1 1)).run Try.prog (w.alloc (.cells #[.int .u8 b] 5)) = .ok (.string (strOfNums [b])) (w.alloc (.cells #[.int .u8 b] 5)) := by
  refine run_convert_bytes_arg _ 22 5 Try.underlying22 Try.underlying5 w.heap.size 0 1 1 [b] rfl ?_ 9 Try.underlying9
  intro i hi
  obtain rfl : i = 0 := by omega
  simp

set_option maxRecDepth 100000 in
set_option maxHeartbeats 1000000 in
theorem markT_any (N : Nat) (w : World) (hN : N ≤ 5000000) (h0 : 0 < N) :
    Calls Try.prog 135 #[.int .i64 N] w fun e w' => e = .returned (.string (markS N)) ∧ Below w.heap.size w w' := by
  have hN0 : decide ((N : Int) ≤ 0) = false := by simp; omega
  go_enter Try.func135, Try.ntmps135
  go_wp2
  go_loopw [0, 3] (fun n v wr => ∃ (m : Nat) (xs : List Int), n = .int .i64 m ∧ m ≤ N ∧ v = .string (strOfNums xs) ∧ xs.length + m ≤ N ∧ Hid (decR m ++ xs = decR N) ∧ Below w.heap.size w wr) (fun n _ _ => (intOf n).toNat)
  case atStart => exact ⟨N, [], rfl, Nat.le_refl _, rfl, by simp, List.append_nil _, Below.refl _ _⟩
  case round =>
    obtain ⟨m, xs, rfl, hm, rfl, hx, hst, hb⟩ := hrel
    have hsz := hb.size
    have hss := strOfNums_size xs
    have hnn : ¬ 9223372036854775807 < 1 + xs.length := by omega
    by_cases hm0 : m = 0
    · subst hm0
      go_wp2
      go_ret
      have e1 : decR N = xs := by rw [← hst.out, decR_zero]; rfl
      refine ⟨?_, hb⟩
      rw [markS, e1, show strOfNums (109 :: xs) = (⟨#[109]⟩ : ByteArray) ++ strOfNums xs from (strOfNums_append [109] xs).symm]
      rfl
    · have hmp : 0 < m := by omega
      have hs1 : ∀ b : Int, (strOfNums [b]).size = 1 := fun b => rfl
      have hone := fun b => strOf_one' (w := wr) (b := b)
      go_wp2
      go_roundw
      case rel =>
        refine ⟨m / 10, (48 + ((m % 10 : Nat) : Int)) :: xs, by go_num, by omega, ?_, by simp; omega, ?_, hb.alloc hsz _⟩
        · show Value.string _ = Value.string (strOfNums ([48 + ((m % 10 : Nat) : Int)] ++ xs))
          rw [← strOfNums_append]; rfl
        · show decR (m / 10) ++ (48 + ((m % 10 : Nat) : Int)) :: xs = decR N
          rw [← hst.out, decR_pos hm0]
          simp
      case measure => simp [intOf]; omega

theorem ret_int' {k : IntKind} {a b : Int} (h : a = b) : Ending.returned (.int k a) = .returned (.int k b) := by rw [h]

theorem mark_at (a : Int) (w : World) (h0 : 0 < a) (h1 : a ≤ 5000000) :
    Calls Try.prog 135 #[.int .i64 a] w fun e w' => e = .returned (.string (markS a.toNat)) ∧ Below w.heap.size w w' := by
  obtain ⟨N, rfl⟩ : ∃ N : Nat, a = N := ⟨a.toNat, by omega⟩
  exact markT_any N w (by omega) (by omega)


/-- the n items that are written from K on. -/
def mkI (K n : Nat) : List It := (List.range n).map fun j => (((K + 4 * j : Nat) : Int), ((K + 4 * j + 1 : Nat) : Int), ((K + 4 * j + 2 : Nat) : Int), markS (K + 4 * j + 3))
theorem mkI_length (K n : Nat) : (mkI K n).length = n := by simp [mkI]
theorem mkI_succ (K n : Nat) : mkI K (n + 1) = mkI K n ++ [(((K + 4 * n : Nat) : Int), ((K + 4 * n + 1 : Nat) : Int), ((K + 4 * n + 2 : Nat) : Int), markS (K + 4 * n + 3))] := by
  unfold mkI
  rw [List.range_succ, List.map_append]
  rfl
theorem mkI_at (K n : Nat) {j : Nat} (h : j < (mkI K n).length) : (mkI K n)[j] = (((K + 4 * j : Nat) : Int), ((K + 4 * j + 1 : Nat) : Int), ((K + 4 * j + 2 : Nat) : Int), markS (K + 4 * j + 3)) := by
  simp [mkI]
theorem set_right {α : Type} (a b : List α) (n : Nat) (h : a.length = n) (j : Nat) (x : α) : (a ++ b).set (n + j) x = a ++ b.set j x := by
  subst h
  rw [List.set_append_right _ _ (by omega)]
  congr 2
  omega
theorem cels_set (L R : List It) (x y : It) (k : Nat) (hL : L.length = k) : ((((cels (L ++ x :: R)).set (k * 4) (.int .i64 y.1)).set (k * 4 + 1) (.int .i64 y.2.1)).set (k * 4 + 2) (.int .i64 y.2.2.1)).set (k * 4 + 3) (.string y.2.2.2) = cels (L ++ y :: R) := by
  have hl : (cels L).length = k * 4 := by rw [cels_length, hL]
  have e := set_right (cels L) (cels (x :: R)) (k * 4) hl
  have e0 := e 0 (.int .i64 y.1)
  rw [Nat.add_zero] at e0
  rw [cels_append, e0, set_right _ _ _ hl, set_right _ _ _ hl, set_right _ _ _ hl, cels_append]
  rfl
theorem SlI.grow {w w' : World} {B : Nat} {v : Value} {ts : List It} (h : SlI w B v ts) (hg : w.grownBy w' none) : SlI w' B v ts := h.kept hg (fun k _ => by simp)
theorem grown_tr {a b c : World} {row : Option Nat} (h : a.grownBy b row) (k : b.grownBy c row) : a.grownBy c row :=
  ⟨k.os.trans h.os, k.tape.trans h.tape, k.output.trans h.output, Nat.le_trans h.size k.size, fun i hi hn => (k.block i (Nat.lt_of_lt_of_le hi h.size) hn).trans (h.block i hi hn)⟩
theorem grown_blM {a b : World} {row : Option Nat} (h : Below a.heap.size a b) : a.grownBy b row := ⟨h.os, h.tape, h.output, h.size, fun k hk _ => h.block k hk⟩

set_option maxRecDepth 100000 in
set_option maxHeartbeats 2000000 in
theorem markItems_any (v : Value) (ts : List It) (B K : Nat) (w : World) (h : Hid (SlI w B v ts)) (hl : K + 4 * ts.length ≤ 4999990) (hK : 0 < K) :
    Calls Try.prog 86 #[v, .int .i64 K] w fun e w' => e = .returned (.int .i64 ((K + 4 * ts.length : Nat) : Int)) ∧ SlI w' B v (mkI K ts.length) ∧ w.grownBy w' v.ownBlock := by
  obtain ⟨ao, cap, rfl⟩ := Sl.form h.out
  go_enter Try.func86, Try.ntmps86
  go_wp2
  go_loopw [1, 5] (fun n i wr => ∃ (k : Nat), k ≤ ts.length ∧ n = .int .i64 ((K + 4 * k : Nat) : Int) ∧ i = .int .i64 k ∧ Hid (Sl wr 38 4 B (.slice ao ts.length cap) ts.length (cels (mkI K k ++ ts.drop k))) ∧ Hid (w.grownBy wr (Value.slice ao ts.length cap).ownBlock)) (fun _ i _ => ts.length - (intOf i).toNat)
  case atStart => exact ⟨0, Nat.zero_le _, rfl, rfl, h.out, World.grownBy.refl _ _⟩
  case round =>
    obtain ⟨k, hk, rfl, rfl, hS, hg⟩ := hrel
    by_cases hlt : k < ts.length
    · have HN : Hid (∀ y : It, cels (mkI K k ++ y :: ts.drop (k + 1)) = ((((cels (mkI K k ++ ts.drop k)).set (k * 4) (.int .i64 y.1)).set (k * 4 + 1) (.int .i64 y.2.1)).set (k * 4 + 2) (.int .i64 y.2.2.1)).set (k * 4 + 3) (.string y.2.2.2)) := fun y => by
        rw [List.drop_eq_getElem_cons hlt, cels_set _ _ _ _ k (mkI_length K k)]
      have hlen : (cels (mkI K k ++ ts.drop k)).length = ts.length * 4 := hS.out.1
      obtain ⟨g, off, cap', hv, hBg, hgl, hc, hf⟩ := Sl.read hS.out (by omega)
      simp at hv
      obtain ⟨rfl, rfl⟩ := hv
      have hcr : ∀ r, r < 4 → ∃ u, wr.cell? ⟨g, off + k * 4 + r, none⟩ = some u := fun r hr => by
        have hj : k * 4 + r < (cels (mkI K k ++ ts.drop k)).length := by omega
        refine ⟨(cels (mkI K k ++ ts.drop k))[k * 4 + r], ?_⟩
        rw [Nat.add_assoc]
        exact hc (k * 4 + r) _ (List.getElem?_eq_getElem hj)
      obtain ⟨a0, z0⟩ := hcr 0 (by omega)
      obtain ⟨a1, z1⟩ := hcr 1 (by omega)
      obtain ⟨a2, z2⟩ := hcr 2 (by omega)
      obtain ⟨a3, z3⟩ := hcr 3 (by omega)
      rw [Nat.add_zero] at z0
      have f0 := hf (off + k * 4)
      have f1 := hf (off + k * 4 + 1)
      have f2 := hf (off + k * 4 + 2)
      have f3 := hf (off + k * 4 + 3)
      obtain ⟨M, hM⟩ : ∃ M : Nat, M = K + 4 * k := ⟨_, rfl⟩
      rw [← hM]
      have HM : Hid (M = K + 4 * k) := hM
      have hMl : M ≤ 4999986 := by omega
      have hM0 : 0 < M := by omega
      clear hM hcr hc hf hlen
      have S3 : Hid (Sl (((wr.setCell ⟨g, off + k * 4, none⟩ (.int .i64 (M : Int))).setCell ⟨g, off + k * 4 + 1, none⟩ (.int .i64 ((M : Int) + 1))).setCell ⟨g, off + k * 4 + 2, none⟩ (.int .i64 ((M : Int) + 1 + 1))) 38 4 B (.slice (some ⟨g, off, none⟩) ts.length cap) ts.length (((((cels (mkI K k ++ ts.drop k)).set (k * 4) (.int .i64 (M : Int))).set (k * 4 + 1) (.int .i64 ((M : Int) + 1))).set (k * 4 + 2) (.int .i64 ((M : Int) + 1 + 1))))) := by
        have q0 := Sl.put hS.out (k * 4) (.int .i64 (M : Int))
        have q1 := Sl.put q0 (k * 4 + 1) (.int .i64 ((M : Int) + 1))
        have q2 := Sl.put q1 (k * 4 + 2) (.int .i64 ((M : Int) + 1 + 1))
        rw [← Nat.add_assoc, ← Nat.add_assoc] at q2
        exact q2
      have G3 : Hid (w.grownBy (((wr.setCell ⟨g, off + k * 4, none⟩ (.int .i64 (M : Int))).setCell ⟨g, off + k * 4 + 1, none⟩ (.int .i64 ((M : Int) + 1))).setCell ⟨g, off + k * 4 + 2, none⟩ (.int .i64 ((M : Int) + 1 + 1))) (some g)) := grown_tr (grown_tr (grown_tr hg.out (grown_cell _ _ _ _)) (grown_cell _ _ _ _)) (grown_cell _ _ _ _)
      go_wp2_with fail
      clear z0 z1 z2 z3 f0 f1 f2 f3 hS hg
      generalize ((wr.setCell ⟨g, off + k * 4, none⟩ (.int .i64 (M : Int))).setCell ⟨g, off + k * 4 + 1, none⟩ (.int .i64 ((M : Int) + 1))).setCell ⟨g, off + k * 4 + 2, none⟩ (.int .i64 ((M : Int) + 1 + 1)) = W3 at *
      refine (mark_at ((M : Int) + 1 + 1 + 1) W3 (by omega) (by omega)).mono ?_
      rintro e w4 ⟨rfl, hb4⟩
      rw [show ((M : Int) + 1 + 1 + 1).toNat = M + 3 by omega]
      have S4 := Sl.below S3.out hb4
      have G4 : Hid (w.grownBy w4 (some g)) := grown_tr G3.out (grown_blM hb4)
      have hlen4 := S4.1
      have z3 : ∃ u, w4.cell? ⟨g, off + k * 4 + 3, none⟩ = some u := by
        obtain ⟨g', off', cap', hv, _, _, hc, _⟩ := Sl.read S4 (by omega)
        simp at hv
        obtain ⟨⟨rfl, rfl⟩, rfl⟩ := hv
        rw [Nat.add_assoc]
        exact ⟨_, hc (k * 4 + 3) _ (List.getElem?_eq_getElem (by rw [hlen4]; omega))⟩
      have f3 : w4.frozen? ⟨g, off + k * 4 + 3, none⟩ = false := by
        obtain ⟨g', off', cap', hv, _, _, _, hf⟩ := Sl.read S4 (by omega)
        simp at hv
        obtain ⟨⟨rfl, rfl⟩, rfl⟩ := hv
        exact hf _
      obtain ⟨a3, z3⟩ := z3
      have S5 : Hid (Sl (w4.setCell ⟨g, off + k * 4 + 3, none⟩ (.string (markS (M + 3)))) 38 4 B (.slice (some ⟨g, off, none⟩) ts.length cap) ts.length (cels (mkI K (k + 1) ++ ts.drop (k + 1)))) := by
        have q := Sl.put S4 (k * 4 + 3) (.string (markS (M + 3)))
        rw [← Nat.add_assoc] at q
        have e := HN.out ((M : Int), (M : Int) + 1, (M : Int) + 1 + 1, markS (M + 3))
        dsimp only at e
        rw [← e] at q
        rw [mkI_succ, List.append_assoc]
        have hM := HM.out
        have e2 : (((K + 4 * k : Nat) : Int), ((K + 4 * k + 1 : Nat) : Int), ((K + 4 * k + 2 : Nat) : Int), markS (K + 4 * k + 3)) = ((M : Int), (M : Int) + 1, (M : Int) + 1 + 1, markS (M + 3)) := by
          subst hM
          refine Prod.ext rfl (Prod.ext ?_ (Prod.ext ?_ rfl))
          · show ((K + 4 * k + 1 : Nat) : Int) = ((K + 4 * k : Nat) : Int) + 1; omega
          · show ((K + 4 * k + 2 : Nat) : Int) = ((K + 4 * k : Nat) : Int) + 1 + 1; omega
        rw [e2]
        exact q
      have G5 : Hid (w.grownBy (w4.setCell ⟨g, off + k * 4 + 3, none⟩ (.string (markS (M + 3)))) (some g)) := grown_tr G4.out (grown_cell _ _ _ _)
      clear S4 G4 hb4 hlen4 S3 G3 HN
      go_wp2_with fail
      go_roundw
      case rel => exact ⟨k + 1, by omega, by have := HM.out; congr 1; omega, by go_num, S5, G5⟩
      case measure => simp [intOf]; omega
    · obtain rfl : k = ts.length := by omega
      go_wp2_with fail
      go_ret
      refine ⟨rfl, ?_, hg.out⟩
      have := hS.out
      rw [List.drop_length, List.append_nil] at this
      unfold SlI
      rw [mkI_length]
      exact this

theorem mkS_q (N : Nat) (w : World) (hN : N ≤ 5000000) (h0 : 0 < N) : Calls Try.prog 135 #[.int .i64 (N : Int)] w fun e w' => e = .returned (.string (markS N)) ∧ Below w.heap.size w w' := markT_any N w hN h0

set_option maxRecDepth 100000 in
set_option maxHeartbeats 2000000 in
theorem heldItems_any (v : Value) (n B K : Nat) (w : World) (h : Hid (SlI w B v (mkI K n))) (hl : K + 4 * n ≤ 4999990) (hK : 0 < K) :
    Calls Try.prog 90 #[v, .int .i64 K] w fun e w' => e = .returned (.int .i64 ((K + 4 * n : Nat) : Int)) ∧ Below w.heap.size w w' := by
  obtain ⟨ao, cap, rfl, hx⟩ := h.out.items
  have HX : Hid (ItemsAt w ao (mkI K n)) := hx
  have hml := mkI_length K n
  rw [hml]
  clear hml hx h
  go_enter Try.func90, Try.ntmps90
  go_wp2
  go_loopw [1, 5] (fun m i wr => ∃ (k : Nat), k ≤ n ∧ m = .int .i64 ((K + 4 * k : Nat) : Int) ∧ i = .int .i64 k ∧ Hid (Below w.heap.size w wr)) (fun _ i _ => n - (intOf i).toNat)
  case atStart => exact ⟨0, Nat.zero_le _, rfl, rfl, Below.refl _ _⟩
  case round =>
    obtain ⟨k, hk, rfl, rfl, hb⟩ := hrel
    by_cases hlt : k < n
    · obtain ⟨b, off, rfl, hbb, h0, h1, h2, h3⟩ := HX.out.stays hb.out k (by rw [mkI_length]; exact hlt)
      rw [mkI_at] at h0 h1 h2 h3
      dsimp only at h0 h1 h2 h3
      obtain ⟨M, hM⟩ : ∃ M : Nat, M = K + 4 * k := ⟨_, rfl⟩
      rw [← hM] at h0 h1 h2 h3 ⊢
      have HM : Hid (M = K + 4 * k) := hM
      have hMl : M ≤ 4999986 := by omega
      have hM0 : 0 < M := by omega
      clear hM
      rw [show ((M + 1 : Nat) : Int) = (M : Int) + 1 by omega] at h1
      rw [show ((M + 2 : Nat) : Int) = (M : Int) + 1 + 1 by omega] at h2
      have i0 : (0 : Int) ≤ (k : Int) := by omega
      have i1 : (k : Int) < (n : Int) := by omega
      have hmk : ((M : Int) + 1 + 1 + 1) = ((M + 3 : Nat) : Int) := by omega
      go_wp2_with fail
      refine quietC (C := (fun w' => w'.cell? ⟨b, off + k * 4 + 3, none⟩ = some (.string (markS (M + 3))) ∧ Hid (Below wr.heap.size wr w'))) (by kernel_rfl) (by kernel_rfl) ⟨h3, (Below.refl _ _).drew⟩ ?_
      go_big_quiet_want
      go_big_quiet_op
      go_big_quiet_on
      go_big_quiet_want
      go_big_quiet_op
      go_big_quiet_on
      go_big_quiet_want
      refine q_val (.pointer (some ⟨b, off + k * 4, none⟩)) (fun w' hw' => by go_simp) ?_
      go_big_quiet_on
      simp only [Act.put, List.setIfInBounds_toArray, List.set_cons_zero, List.set_cons_succ]
      go_big_quiet_want
      refine q_val (.pointer (some ⟨b, off + k * 4 + 3, none⟩)) (fun w' hw' => by go_simp) ?_
      go_big_quiet_on
      simp only [Act.put, List.setIfInBounds_toArray, List.set_cons_zero, List.set_cons_succ]
      go_big_quiet_want
      refine q_val (.string (markS (M + 3))) (fun w' hw' => by obtain ⟨g3, _⟩ := hw'; go_simp) ?_
      go_big_quiet_on
      simp only [Act.put, List.setIfInBounds_toArray, List.set_cons_zero, List.set_cons_succ]
      go_big_quiet_want
      go_big_quiet_op
      go_big_quiet_on
      go_big_quiet_want
      refine q_call (.string (markS (M + 3))) 135 #[.int .i64 ((M : Int) + 1 + 1 + 1)] (fun w' hw' => by go_simp) (fun w' hw' => (mark_at ((M : Int) + 1 + 1 + 1) w' (by omega) (by omega)).mono fun e w'' ⟨he, hb1⟩ => ⟨by rw [he, show ((M : Int) + 1 + 1 + 1).toNat = M + 3 by omega], (hb1.cell (p := ⟨b, off + k * 4 + 3, none⟩) (Nat.lt_of_lt_of_le hbb hw'.2.out.size)).trans hw'.1, hw'.2.out.trans (hb1.mono hw'.2.out.size)⟩) ?_
      go_big_quiet_on
      simp only [Act.put, List.setIfInBounds_toArray, List.set_cons_zero, List.set_cons_succ]
      go_big_quiet_want
      refine q_val (.bool false) (fun w' hw' => by go_simp) ?_
      go_big_quiet_on
      simp only [Act.put, List.setIfInBounds_toArray, List.set_cons_zero, List.set_cons_succ]
      refine wpQuiet_nil ?_
      intro w1 hcw
      have B1 : Hid (Below w.heap.size w w1) := hb.out.trans (hcw.2.out.mono hb.out.size)
      clear hcw h0 h1 h2 h3
      go_wp2_with fail
      go_roundw
      case rel => exact ⟨k + 1, by omega, by have := HM.out; congr 1; omega, by go_num, B1⟩
      case measure => simp [intOf]; omega
    · obtain rfl : k = n := by omega
      go_wp2_with fail
      go_ret
      exact ⟨rfl, hb.out⟩
end Go.Proofs.Ytpbhcbgohgfkcaa

/- Lists of texts that a law sizes, copies, compares and writes over. -/
namespace Go.Proofs.Ytpbhcbgohgfkcaa
open Go.RowKit Pl
set_option linter.unusedVariables false

theorem Try.info9 : (Try.prog.info? 9).map (fun i => (i.zero, i.size, i.bytes)) = some (some (.string ⟨#[]⟩), 1, 16) := by kernel_rfl

set_option maxRecDepth 100000 in
set_option maxHeartbeats 1000000 in
theorem szS_any (w : World) (ao : Option Addr) (cap L : Nat) (ts : List ByteArray) (hx : Hid (TextsAt w ao ts)) (hlen : ts.length ≤ maxLen) (hsz : Hid (∀ t ∈ ts, t.size ≤ maxLen)) (hL : L ≤ 1048576) :
    Calls Try.prog 95 #[.slice ao ts.length cap, .int .i64 L] w fun e w' => (e = .returned (.int .i64 (-1)) ∨ ∃ r : Nat, e = .returned (.int .i64 r) ∧ Hid (r + ts.length ≤ L ∧ ∀ t ∈ ts, t.size ≤ 1048576)) ∧ w' = w := by
  unfold maxLen at hlen
  by_cases h : ts.length ≤ L
  · go_enter Try.func95, Try.ntmps95
    go_wp2
    go_loop [1, 5] (fun l i => ∃ k r : Nat, k ≤ ts.length ∧ i = .int .i64 k ∧ l = .int .i64 r ∧ r + ts.length ≤ L ∧ Hid (∀ j (hj : j < ts.length), j < k → ts[j].size ≤ 1048576)) (fun _ i => ts.length - (intOf i).toNat)
    case atStart => exact ⟨0, L - ts.length, by omega, rfl, by go_num, by omega, fun j _ hj => by omega⟩
    case round =>
      obtain ⟨k, r, hk, rfl, rfl, hr, hst⟩ := hrel
      by_cases hlt : k < ts.length
      · obtain ⟨b, off, rfl, hb, hc⟩ := hx.out k hlt
        have hm : (ts[k]).size ≤ 9223372036854775807 := by
          have := hsz.out _ (List.getElem_mem hlt)
          unfold maxLen at this
          omega
        obtain ⟨t, ht⟩ : ∃ t, t = ts[k] := ⟨_, rfl⟩
        rw [← ht] at hc hm
        have HT : Hid (t = ts[k]) := ht
        clear ht
        by_cases hle : t.size ≤ r
        · go_wp2
          go_round
          case rel =>
            refine ⟨k + 1, r - t.size, by omega, by go_num, by go_num, by omega, ?_⟩
            show ∀ j (hj : j < ts.length), j < k + 1 → _
            intro j hj hjk
            by_cases e : j = k
            · subst e; rw [← HT.out]; omega
            · exact hst.out j hj (by omega)
          case measure => simp [intOf]; omega
        · go_wp2
          go_ret
          exact ⟨.inl rfl, rfl⟩
      · go_wp2
        go_ret
        refine ⟨.inr ⟨r, rfl, ?_⟩, rfl⟩
        refine ⟨hr, fun t ht => ?_⟩
        obtain ⟨j, hj, rfl⟩ := List.getElem_of_mem ht
        exact hst.out j hj (by omega)
  · go_enter Try.func95, Try.ntmps95
    go_wp2
    go_ret
    exact ⟨.inl rfl, rfl⟩

set_option maxRecDepth 100000 in
set_option maxHeartbeats 1000000 in
theorem toS_any (w : World) (ao : Option Addr) (cap : Nat) (ts : List ByteArray) (hx : Hid (TextsAt w ao ts)) (hl : ts.length ≤ 1048576) :
    Calls Try.prog 102 #[.slice ao ts.length cap] w fun e w' => ∃ v, e = .returned v ∧ OwnS w' w.heap.size v ts ∧ Below w.heap.size w w' := by
  obtain ⟨i0, hi, hz0, hz1, hz2⟩ := info_parts Try.info9
  have hM : madeCells (Value.string ⟨#[]⟩).cells ts.length = ((List.replicate ts.length (⟨#[]⟩ : ByteArray)).map Value.string).toArray := by
    apply Array.ext'
    rw [show (Value.string ⟨#[]⟩).cells = #[Value.string ⟨#[]⟩] from rfl, toList_madeCells_one]
    simp
  have hmk : ∀ W : World, (Instr.makeSlice 28 (.int .i64 (ts.length : Int)) (.int .i64 (ts.length : Int))).run Try.prog W = .ok (.slice (some ⟨W.heap.size, 0, none⟩) ts.length ts.length) (W.alloc (.cells ((List.replicate ts.length (⟨#[]⟩ : ByteArray)).map Value.string).toArray 9)) := fun W => by
    have h := run_make (P := Try.prog) W 28 9 i0 (.string ⟨#[]⟩) Try.underlying28 hi hz0 .i64 .i64 (ts.length : Int) (ts.length : Int) (by omega) (by omega) (by rw [hz2]; omega) (by omega)
    rw [hz1, Int.toNat_natCast, Nat.mul_one, hM] at h
    simpa using h
  clear hM
  have H0 : Hid (OwnS (w.alloc (.cells ((List.replicate ts.length (⟨#[]⟩ : ByteArray)).map Value.string).toArray 9)) w.heap.size (.slice (some ⟨w.heap.size, 0, none⟩) ts.length ts.length) (List.replicate ts.length ⟨#[]⟩)) := by
    have := OwnS.lit w w.heap.size (List.replicate ts.length ⟨#[]⟩) (Nat.le_refl _) (by rw [List.length_replicate]; omega)
    rw [List.length_replicate] at this
    exact this
  generalize hA : ((List.replicate ts.length (⟨#[]⟩ : ByteArray)).map Value.string).toArray = A at hmk H0
  clear hA
  go_enter Try.func102, Try.ntmps102
  go_wp2
  go_loopw [4] (fun i wr => ∃ (k : Nat) (xs : List ByteArray), k ≤ ts.length ∧ i = .int .i64 k ∧ Hid (xs.length = ts.length) ∧ Hid (xs.take k = ts.take k) ∧ Hid (OwnS wr w.heap.size (.slice (some ⟨w.heap.size, 0, none⟩) ts.length ts.length) xs) ∧ w.heap.size < wr.heap.size ∧ Below w.heap.size w wr) (fun i _ => ts.length - (intOf i).toNat)
  case atStart => exact ⟨0, _, by omega, rfl, List.length_replicate, rfl, H0.out, by simp, (Below.refl _ _).alloc (Nat.le_refl _) _⟩
  case round =>
    obtain ⟨k, xs, hk, rfl, hxl, htk, hown, hsz, hb⟩ := hrel
    by_cases hlt : k < ts.length
    · obtain ⟨b, off, rfl, hbb, hc⟩ := hx.out k hlt
      have hc' : wr.cell? ⟨b, off + k, none⟩ = some (.string ts[k]) := (hb.cell (p := ⟨b, off + k, none⟩) hbb).trans hc
      obtain ⟨t, ht⟩ : ∃ t, t = ts[k] := ⟨_, rfl⟩
      rw [← ht] at hc'
      have HT : Hid (t = ts[k]) := ht
      clear ht hc
      have hown2 : OwnS wr w.heap.size (.slice (some ⟨w.heap.size, 0, none⟩) xs.length ts.length) xs := by rw [hxl.out]; exact hown.out
      obtain ⟨x, hce⟩ : ∃ x, wr.cell? ⟨w.heap.size, k, none⟩ = some (.string x) := ⟨xs[k]'(by rw [hxl.out]; exact hlt), by
        have := World.ownsRow.cellAt hown2 k (by rw [hxl.out]; omega)
        rw [this]
        simp [hxl.out, hlt]⟩
      have hfz : wr.frozen? ⟨w.heap.size, k, none⟩ = false := World.ownsRow.frozenAt hown2 k
      have HO : Hid _ := hown2.store k t
      clear hown2
      go_wp2
      go_roundw
      case rel =>
        refine ⟨k + 1, xs.set k t, by omega, by go_num, by rw [List.length_set]; exact hxl.out, ?_, ?_, ?_, hb.setCell (Nat.le_refl _) _⟩
        · show (xs.set k t).take (k + 1) = ts.take (k + 1)
          have hkx : k < xs.length := by rw [hxl.out]; exact hlt
          rw [List.take_succ_eq_append_getElem (by rw [List.length_set]; exact hkx), List.take_succ_eq_append_getElem hlt, List.take_set_of_le (Nat.le_refl _), htk.out, HT.out]
          simp
        · show OwnS _ _ _ _
          have := HO.out.1
          rw [hxl.out] at this
          exact this
        · have := HO.out.2.size
          omega
      case measure => simp [intOf]; omega
    · obtain rfl : k = ts.length := by omega
      go_wp2
      go_ret
      refine ⟨_, rfl, ?_, hb⟩
      have e : xs = ts := by
        have := htk.out
        rwa [List.take_of_length_le (by rw [hxl.out]; exact Nat.le_refl _), List.take_of_length_le (Nat.le_refl _)] at this
      rw [← e, hxl.out]
      exact hown.out



set_option maxRecDepth 100000 in
set_option maxHeartbeats 1000000 in
theorem eqS_same (v1 v2 : Value) (ss : List ByteArray) (B1 B2 : Nat) (w : World) (h1 : OwnS w B1 v1 ss) (h2 : OwnS w B2 v2 ss) (hl : ss.length ≤ 1048577) :
    Calls Try.prog 83 #[v1, v2] w fun e w' => e = .returned (.bool true) ∧ Below w.heap.size w w' := by
  by_cases h0 : ss.length = 0
  · obtain ⟨ao1, cap1, rfl⟩ := h1.form
    obtain ⟨ao2, cap2, rfl⟩ := h2.form
    rw [h0]
    clear h1 h2
    go_enter Try.func83, Try.ntmps83
    go_wp2
    refine wp_loop_rounds 1 ?_
    rw [rounds_succ]
    go_wp2
    go_ret
    exact ⟨rfl, Below.refl _ _⟩
  · obtain ⟨g1, cap1, rfl, _, hg1, hc1, _⟩ := h1.some (by omega)
    obtain ⟨g2, cap2, rfl, _, hg2, hc2, _⟩ := h2.some (by omega)
    clear h1 h2
    go_enter Try.func83, Try.ntmps83
    go_wp2
    go_loopw [5] (fun i wr => ∃ k : Nat, k ≤ ss.length ∧ i = .int .i64 k ∧ Below w.heap.size w wr) (fun i _ => ss.length - (intOf i).toNat)
    case atStart => exact ⟨0, by omega, rfl, Below.refl _ _⟩
    case round =>
      obtain ⟨k, hk, rfl, hb⟩ := hrel
      by_cases hlt : k < ss.length
      · have hce1 : wr.cell? ⟨g1, k, none⟩ = some (.string ss[k]) := (hb.cell (p := ⟨g1, k, none⟩) hg1).trans (hc1 k hlt)
        have hce2 : wr.cell? ⟨g2, k, none⟩ = some (.string ss[k]) := (hb.cell (p := ⟨g2, k, none⟩) hg2).trans (hc2 k hlt)
        have hq1 : (0 : Int) ≤ (k : Int) := by omega
        have hq2 : (k : Int) < (ss.length : Int) := by omega
        clear hc1 hc2
        go_wp2
        go_quiet (fail)
        go_wp2
        go_roundw
        case rel => exact ⟨k + 1, by omega, by go_num, below_drewK hb _⟩
        case measure => simp [intOf]; omega
      · go_wp2
        go_ret
        exact ⟨rfl, hb⟩

set_option maxRecDepth 100000 in
set_option maxHeartbeats 1000000 in
theorem markSt_any (v : Value) (ss : List ByteArray) (B K : Nat) (w : World) (h1 : OwnS w B v ss) (hl : K + ss.length ≤ 4999990) (hK : 0 < K) :
    Calls Try.prog 87 #[v, .int .i64 K] w fun e w' => e = .returned (.int .i64 ((K + ss.length : Nat) : Int)) ∧ w.grownBy w' v.ownBlock := by
  by_cases h0 : ss.length = 0
  · obtain ⟨ao1, cap1, rfl⟩ := h1.form
    clear h1
    rw [h0]
    go_enter Try.func87, Try.ntmps87
    go_wp2
    refine wp_loop_rounds 1 ?_
    rw [rounds_succ]
    go_wp2
    go_ret
    exact ⟨rfl, World.grownBy.refl _ _⟩
  · obtain ⟨g, cap, rfl, hB, hg, hc, hf⟩ := h1.some (by omega)
    clear hc hf
    have HOWN : Hid (OwnS w B (.slice (some ⟨g, 0, none⟩) ss.length cap) ss) := h1
    clear h1
    go_enter Try.func87, Try.ntmps87
    go_wp2
    go_loopw [1, 5] (fun kk i wr => ∃ (j : Nat) (xs : List ByteArray), j ≤ ss.length ∧ i = .int .i64 j ∧ kk = .int .i64 ((K + j : Nat) : Int) ∧ Hid (xs.length = ss.length) ∧ OwnS wr B (.slice (some ⟨g, 0, none⟩) ss.length cap) xs ∧ g < wr.heap.size ∧ Hid (w.grownBy wr (some g))) (fun _ i _ => ss.length - (intOf i).toNat)
    case atStart => exact ⟨0, ss, by omega, rfl, rfl, rfl, HOWN.out, hg, World.grownBy.refl _ _⟩
    case round =>
      obtain ⟨j, xs, hj, rfl, rfl, hxl, hown, hgs, hgr⟩ := hrel
      by_cases hlt : j < ss.length
      · have hxl' := hxl.out
        have hown' : OwnS wr B (.slice (some ⟨g, 0, none⟩) xs.length cap) xs := by rw [hxl']; exact hown
        have hjx : j < xs.length := by omega
        obtain ⟨x, hce⟩ : ∃ x, wr.cell? ⟨g, j, none⟩ = some (.string x) := ⟨xs[j], by
          have := World.ownsRow.cellAt hown' j (by omega)
          rw [this]
          simp [hjx]⟩
        have hfz : wr.frozen? ⟨g, j, none⟩ = false := World.ownsRow.frozenAt hown' j
        clear hxl' hown'
        go_wp2_with (first | (go_at_call 135; refine (mark_at _ _ (by omega) (by omega)).mono ?_; rintro e w3 ⟨rfl, hb3⟩; have hce3 : w3.cell? ⟨g, j, none⟩ = some (.string x) := (hb3.cell (p := ⟨g, j, none⟩) hgs).trans hce; have hfz3 : w3.frozen? ⟨g, j, none⟩ = false := (hb3.frozen (p := ⟨g, j, none⟩) hgs).trans hfz))
        go_roundw
        case rel =>
          have hxl' := hxl.out
          have hown3 : OwnS w3 B (.slice (some ⟨g, 0, none⟩) xs.length cap) xs := by
            rw [hxl']
            exact hown.stays hb3 (fun t ht => by cases ht; exact hgs)
          have hst := hown3.store j (markS (K + j))
          have hs1 := hst.1
          rw [hxl'] at hs1
          refine ⟨j + 1, xs.set j (markS (K + j)), by omega, by go_num, by go_num, ?_, hs1, ?_, ?_⟩
          · show (xs.set j (markS (K + j))).length = ss.length
            rw [List.length_set]; exact hxl'
          · have h2 := hb3.size
            have h3 := hst.2.size
            omega
          · exact grown_transC hgr.out (grown_transC (grown_bl hb3) hst.2)
        case measure => simp [intOf]; omega
      · obtain rfl : j = ss.length := by omega
        go_wp2
        go_ret
        exact ⟨ret_int' (by omega), hgr.out⟩

theorem ownS_kept {w w' : World} {row : Option Nat} {B : Nat} {v : Value} {ss : List ByteArray} (h : OwnS w B v ss) (hg : w.grownBy w' row) (hne : ∀ k, v.ownBlock = Option.some k → Option.some k ≠ row) : OwnS w' B v ss := by
  refine ⟨h.1, ?_⟩
  rcases h.2 with hn | ⟨g, cap, cur, rfl, hbg, hk, rest⟩
  · exact .inl hn
  · exact .inr ⟨g, cap, cur, rfl, hbg, (hg.block g (Array.getElem?_eq_some_iff.1 hk).1 (hne g rfl)).trans hk, rest⟩
theorem ownS_later {w w' : World} {B : Nat} {v : Value} {ss : List ByteArray} (h : OwnS w B v ss) (hb : Below w.heap.size w w') : OwnS w' B v ss := h.stays hb (fun k hk => (h.lt k hk).2)
end Go.Proofs.Ytpbhcbgohgfkcaa

