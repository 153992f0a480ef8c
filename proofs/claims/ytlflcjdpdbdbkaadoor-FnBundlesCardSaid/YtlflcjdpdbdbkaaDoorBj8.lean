/- Joined texts: I3 J3 J4 I4. -/
import Derived.Test.YtlflcjdpdbdbkaaDoorBj5
import Derived.Test.YtlflcjdpdbdbkaaDoorBj7
import Derived.Laws.MakeOwn
/- The walks over the specification's ReadItem, over two items compared, and over the law on ReadItem. -/
namespace Go.Proofs.YtlflcjdpdbdbkaaDoor
open Go.RowKit Pl
set_option linter.unusedVariables false

/-- what the reading of a short text comes to. -/
def ShF (s : ByteArray) (A : Nat) (b : Bool) (t : ByteArray) (i : Nat) (b' : Bool) : Prop := ∃ n j b1, VarF s A b n j b1 ∧ TakeF s j n b1 t i b'

set_option maxRecDepth 100000 in
set_option maxHeartbeats 1000000 in
theorem lshort_any (s : ByteArray) (g A : Nat) (b : Bool) (w : World) (hp : Hid (PcAt w g s A b)) (hs : s.size ≤ 1048576) (hA : A ≤ s.size) :
    Calls Tryd.prog 46 #[.pointer (some ⟨g, 0, none⟩)] w fun e w' => ∃ (t : ByteArray) (i : Nat) (b' : Bool), e = .returned (.string t) ∧ i ≤ s.size ∧ PcAt w' g s i b' ∧ KeepBut g w w' ∧ ShF s A b t i b' := by
  go_enter Tryd.func46, Tryd.ntmps46
  go_wp2_with fail
  refine (lvar_any s g A b w hp hs hA).mono ?_
  rintro e w1 ⟨n, j, b1, rfl, hn, hj, hp1, hk1, hF1⟩
  have HP1 : Hid (PcAt w1 g s j b1) := hp1
  have HK1 : Hid (KeepBut g w w1) := hk1
  have HF1 : Hid (VarF s A b n j b1) := hF1
  clear hp1 hk1 hF1
  go_wp2_with fail
  refine (take_any s g j n b1 w1 HP1 hs hj hn).mono ?_
  rintro e w2 ⟨t, i, b', rfl, hi, hp2, ht2, hF2⟩
  have HP2 : Hid (PcAt w2 g s i b') := hp2
  have HT2 : Hid (TurnAt g w1 w2) := ht2
  have HF2 : Hid (TakeF s j n b1 t i b') := hF2
  clear hp2 ht2 hF2
  go_wp2_with fail
  go_ret
  exact ⟨t, i, b', rfl, hi, HP2.out, HK1.out.trans HT2.out.keep, n, j, b1, HF1.out, HF2.out⟩

/-- what the specification's reader has found of an item. -/
def FndI (s : ByteArray) (q f l : Nat) (t : ByteArray) (b : Bool) : Prop := ∃ i b1 j b2 k b3 A, VarF s 0 false q i b1 ∧ OneF s i b1 f j b2 ∧ OneF s j b2 l k b3 ∧ ShF s k b3 t A b

theorem VarF.good {s : ByteArray} {A n i m j : Nat} {b : Bool} (h : VarF s A false n i b) (hr : rv s A = some (m, j)) : n = m ∧ i = j ∧ b = false := by
  rcases h with ⟨_, h1, h2⟩ | ⟨_, _, _, h4⟩
  · rw [hr] at h1
    simp only [Option.some.injEq, Prod.mk.injEq] at h1
    exact ⟨h1.1.symm, h1.2.symm, h2⟩
  · rcases h4 with h4 | h4
    · cases h4
    · rw [hr] at h4; cases h4
theorem OneF.good {s : ByteArray} {A n i m j : Nat} {b : Bool} (h : OneF s A false n i b) (hr : oneP s A = some (m, j)) : n = m ∧ i = j ∧ b = false := by
  rcases h with ⟨_, h1, h2⟩ | ⟨_, _, _, h4⟩
  · rw [hr] at h1
    simp only [Option.some.injEq, Prod.mk.injEq] at h1
    exact ⟨h1.1.symm, h1.2.symm, h2⟩
  · rcases h4 with h4 | h4
    · cases h4
    · rw [hr] at h4; cases h4
theorem TakeF.good {s t : ByteArray} {A k i : Nat} {b : Bool} (h : TakeF s A k false t i b) (hr : A + k ≤ s.size) : t = s.extract A (A + k) ∧ i = A + k ∧ b = false := by
  rcases h with ⟨_, _, h1, h2, h3⟩ | ⟨_, _, _, h4⟩
  · exact ⟨h1, h2, h3⟩
  · rcases h4 with h4 | h4
    · cases h4
    · omega

/-- an item that is there is found. -/
theorem FndI.found {s t t' : ByteArray} {q f l q' f' l' : Nat} {b : Bool} (h : FndI s q f l t b) (hs : s.data.toList = itemL q' f' l' t') (ho : ItOk q' f' l' t') : q = q' ∧ f = f' ∧ l = l' ∧ t = t' ∧ b = false := by
  have n := ho.nats
  obtain ⟨i', h0, h1, h2, k', h3, h4, h5⟩ := item_at hs (by omega) (by omega) (by omega) (by omega)
  obtain ⟨i, b1, j, b2, k, b3, A, g0, g1, g2, m, p, b4, g3, g4⟩ := h
  obtain ⟨rfl, rfl, rfl⟩ := g0.good h0
  obtain ⟨rfl, rfl, rfl⟩ := g1.good h1
  obtain ⟨rfl, rfl, rfl⟩ := g2.good h2
  obtain ⟨rfl, rfl, rfl⟩ := g3.good h3
  obtain ⟨rfl, rfl, rfl⟩ := g4.good (by omega)
  exact ⟨rfl, rfl, rfl, h4, rfl⟩

theorem ansI_missed {s t : ByteArray} {q f l : Nat} {b : Bool} (h : FndI s q f l t b) (hb : b = true ∨ ¬ ItOk q f l t ∨ itemS q f l t ≠ s) : AnsI s 0 0 0 ByteArray.empty false := by
  refine .inr ⟨rfl, rfl, rfl, rfl, rfl, fun q' f' l' t' ho e => ?_⟩
  obtain ⟨rfl, rfl, rfl, rfl, rfl⟩ := h.found e ho
  rcases hb with hb | hb | hb
  · cases hb
  · exact hb ho
  · exact hb (rt_ext (by rw [itemS_list, e]))
theorem ansI_hit {s t : ByteArray} {q f l : Nat} (ho : ItOk q f l t) (h : itemS q f l t = s) : AnsI s q f l t true := .inl ⟨rfl, ho, by rw [← h, itemS_list]⟩

set_option maxRecDepth 100000 in
set_option maxHeartbeats 1000000 in
theorem eqItem_same (q f l : Int) (t : ByteArray) (w : World) :
    Calls Tryd.prog 76 #[.agg #[.int .i64 q, .int .i64 f, .int .i64 l, .string t], .agg #[.int .i64 q, .int .i64 f, .int .i64 l, .string t]] w fun e w' => e = .returned (.bool true) ∧ Below w.heap.size w w' := by
  go_enter Tryd.func76, Tryd.ntmps76
  go_wp2
  go_ret
  exact ⟨rfl, ((Below.refl _ _).alloc (Nat.le_refl _) _).alloc (by simp) _⟩
end Go.Proofs.YtlflcjdpdbdbkaaDoor

/- The walks over lists of items that a law copies, sizes and compares. -/
namespace Go.Proofs.YtlflcjdpdbdbkaaDoor
open Go.RowKit Pl
set_option linter.unusedVariables false

set_option maxRecDepth 100000 in
set_option maxHeartbeats 1000000 in
theorem szItems_any (ao : Option Addr) (cap : Nat) (ts : List It) (w : World) (hx : Hid (ItemsAt w ao ts)) (hl : ts.length ≤ 9223372036854775807) (hs : Hid (∀ x ∈ ts, x.2.2.2.size ≤ 9223372036854775807)) :
    Calls Tryd.prog 47 #[.slice ao ts.length cap, .int .i64 1048576] w fun e w' => (e = .returned (.int .i64 (-1)) ∨ (∃ z : Nat, e = .returned (.int .i64 z) ∧ ts.length ≤ 1048576)) ∧ Below w.heap.size w w' := by
  by_cases h1 : 1048576 < ts.length
  · have hd : decide ((1048576 : Int) - (ts.length : Int) < 0) = true := by simp; omega
    go_enter Tryd.func47, Tryd.ntmps47
    go_wp2
    go_ret
    exact ⟨.inl rfl, Below.refl _ _⟩
  have hl2 : ts.length ≤ 1048576 := by omega
  have hd : decide ((1048576 : Int) - (ts.length : Int) < 0) = false := by simp; omega
  go_enter Tryd.func47, Tryd.ntmps47
  go_wp2
  clear hd
  go_loopw [1, 5] (fun lf i wr => ∃ (k z : Nat), k ≤ ts.length ∧ z ≤ 1048576 ∧ lf = .int .i64 z ∧ i = .int .i64 k ∧ Hid (Below w.heap.size w wr)) (fun _ i _ => ts.length - (intOf i).toNat)
  case atStart => exact ⟨0, 1048576 - ts.length, Nat.zero_le _, by omega, by congr 1; omega, rfl, Below.refl _ _⟩
  case round =>
    obtain ⟨k, z, hk, hz, rfl, rfl, hb⟩ := hrel
    by_cases hlt : k < ts.length
    · obtain ⟨b, off, rfl, hbb, c0, c1, c2, c3⟩ := hx.out.stays hb.out k hlt
      have hsz := hs.out _ (List.getElem_mem hlt)
      have HP : Hid (∃ x : It, x = ts[k]) := ⟨_, rfl⟩
      obtain ⟨⟨q, f, lv, tx⟩, hp⟩ := HP.out
      rw [← hp] at c0 c1 c2 c3 hsz
      clear hp HP
      dsimp only at c0 c1 c2 c3 hsz
      go_wp2_with fail
      by_cases hlong : z < tx.size
      · refine (szItem_long q f lv tx z _ hlong hsz hz).mono ?_
        rintro e w1 ⟨rfl, hb1⟩
        go_wp2_with fail
        go_ret
        exact ⟨.inl rfl, hb.out.trans (hb1.mono hb.out.size)⟩
      · refine (szItem_any q f lv tx z _ (by omega) hz).mono ?_
        rintro e w1 ⟨rfl, hb1⟩
        have B1 : Hid (Below w.heap.size w w1) := hb.out.trans (hb1.mono hb.out.size)
        have hzz : z - tx.size ≤ 1048576 := by omega
        generalize z - tx.size = zz at *
        have hd : decide ((zz : Int) < 0) = false := by simp
        clear hb1 c0 c1 c2 c3
        go_wp2_with fail
        go_roundw
        case rel => exact ⟨k + 1, zz, by omega, hzz, rfl, by go_num, B1.out⟩
        case measure => simp [intOf]; omega
    · go_wp2_with fail
      go_ret
      exact ⟨.inr ⟨z, rfl, hl2⟩, hb.out⟩

theorem Tryd.infoI : (Tryd.prog.info? 57).map (fun i => (i.zero, i.size, i.bytes)) = some (some (.agg #[.int .i64 0, .int .i64 0, .int .i64 0, .string ⟨#[]⟩]), 4, 40) := by kernel_rfl

/-- the first k items of a row. -/
def RowIt (w : World) (g n : Nat) (ts : List It) (k : Nat) : Prop :=
  ∃ arr : Array Value, w.heap[g]? = some (.cells arr 57 (0, 0)) ∧ arr.size = n * 4 ∧ ∀ i (h : i < ts.length), i < k → arr[i * 4]? = some (.int .i64 ts[i].1) ∧ arr[i * 4 + 1]? = some (.int .i64 ts[i].2.1) ∧ arr[i * 4 + 2]? = some (.int .i64 ts[i].2.2.1) ∧ arr[i * 4 + 3]? = some (.string ts[i].2.2.2)
theorem RowIt.stays {w w' : World} {B g n k : Nat} {ts : List It} (h : RowIt w g n ts k) (hb : Below B w w') (hg : g < B) : RowIt w' g n ts k := by
  obtain ⟨arr, h1, h2⟩ := h
  exact ⟨arr, (hb.block g hg).trans h1, h2⟩
theorem RowIt.lt {w : World} {g n k : Nat} {ts : List It} (h : RowIt w g n ts k) : g < w.heap.size := by
  obtain ⟨arr, h1, _⟩ := h
  exact (Array.getElem?_eq_some_iff.1 h1).1
theorem RowIt.cell {w : World} {g n k : Nat} {ts : List It} (h : RowIt w g n ts k) (i : Nat) (hi : i < n * 4) : ∃ v, w.cell? ⟨g, i, none⟩ = some v := by
  obtain ⟨arr, h1, h2, _⟩ := h
  refine ⟨arr[i]'(by omega), ?_⟩
  rw [cell_of_row w g i _ 57 (0, 0) h1]
  simp [h2, hi]
theorem RowIt.frozen {w : World} {g n k : Nat} {ts : List It} (h : RowIt w g n ts k) (i : Nat) : w.frozen? ⟨g, i, none⟩ = false := by
  obtain ⟨arr, h1, _⟩ := h
  exact frozen_of_row w g i _ 57 h1
theorem RowIt.set {w : World} {g k : Nat} {ts : List It} (h : RowIt w g ts.length ts k) (hk : k < ts.length) :
    RowIt ((((w.setCell ⟨g, k * 4, none⟩ (.int .i64 ts[k].1)).setCell ⟨g, k * 4 + 1, none⟩ (.int .i64 ts[k].2.1)).setCell ⟨g, k * 4 + 2, none⟩ (.int .i64 ts[k].2.2.1)).setCell ⟨g, k * 4 + 3, none⟩ (.string ts[k].2.2.2)) g ts.length ts (k + 1) := by
  obtain ⟨arr, h1, h2, h3⟩ := h
  have e0 := heap_setCell_same w g (k * 4) _ 57 (.int .i64 ts[k].1) h1
  have e1 := heap_setCell_same _ g (k * 4 + 1) _ 57 (.int .i64 ts[k].2.1) e0
  have e2 := heap_setCell_same _ g (k * 4 + 2) _ 57 (.int .i64 ts[k].2.2.1) e1
  have e3 := heap_setCell_same _ g (k * 4 + 3) _ 57 (.string ts[k].2.2.2) e2
  refine ⟨_, e3, by simp [h2], fun i hi hik => ?_⟩
  by_cases hik2 : i = k
  · subst hik2
    refine ⟨?_, ?_, ?_, ?_⟩ <;> simp [Array.getElem?_setIfInBounds, h2] <;> omega
  · obtain ⟨x0, x1, x2, x3⟩ := h3 i hi (by omega)
    have n0 : ∀ a c, a < 4 → c < 4 → ¬ k * 4 + a = i * 4 + c := fun a c _ _ => by omega
    refine ⟨?_, ?_, ?_, ?_⟩
    · rw [Array.getElem?_setIfInBounds_ne (by omega), Array.getElem?_setIfInBounds_ne (by omega), Array.getElem?_setIfInBounds_ne (by omega), Array.getElem?_setIfInBounds_ne (by omega)]; exact x0
    · rw [Array.getElem?_setIfInBounds_ne (by omega), Array.getElem?_setIfInBounds_ne (by omega), Array.getElem?_setIfInBounds_ne (by omega), Array.getElem?_setIfInBounds_ne (by omega)]; exact x1
    · rw [Array.getElem?_setIfInBounds_ne (by omega), Array.getElem?_setIfInBounds_ne (by omega), Array.getElem?_setIfInBounds_ne (by omega), Array.getElem?_setIfInBounds_ne (by omega)]; exact x2
    · rw [Array.getElem?_setIfInBounds_ne (by omega), Array.getElem?_setIfInBounds_ne (by omega), Array.getElem?_setIfInBounds_ne (by omega), Array.getElem?_setIfInBounds_ne (by omega)]; exact x3
theorem RowIt.items {w : World} {g n : Nat} {ts : List It} (h : RowIt w g n ts ts.length) : ItemsAt w (some ⟨g, 0, none⟩) ts := by
  have hlt := h.lt
  obtain ⟨arr, h1, h2, h3⟩ := h
  intro i hi
  obtain ⟨x0, x1, x2, x3⟩ := h3 i hi hi
  refine ⟨g, 0, rfl, hlt, ?_, ?_, ?_, ?_⟩
  · rw [Nat.zero_add, cell_of_row w g _ _ 57 (0, 0) h1]; exact x0
  · rw [Nat.zero_add, cell_of_row w g _ _ 57 (0, 0) h1]; exact x1
  · rw [Nat.zero_add, cell_of_row w g _ _ 57 (0, 0) h1]; exact x2
  · rw [Nat.zero_add, cell_of_row w g _ _ 57 (0, 0) h1]; exact x3
end Go.Proofs.YtlflcjdpdbdbkaaDoor

/- Lists of items copied and compared. -/
namespace Go.Proofs.YtlflcjdpdbdbkaaDoor
open Go.RowKit Pl
set_option linter.unusedVariables false

set_option maxRecDepth 100000 in
set_option maxHeartbeats 1000000 in
theorem toItems_any (w : World) (ao : Option Addr) (cap : Nat) (ts : List It) (hx : Hid (ItemsAt w ao ts)) (hl : ts.length ≤ 1048576) :
    Calls Tryd.prog 48 #[.slice ao ts.length cap] w fun e w' => ∃ g, e = .returned (.slice (some ⟨g, 0, none⟩) ts.length ts.length) ∧ ItemsAt w' (some ⟨g, 0, none⟩) ts ∧ Below w.heap.size w w' := by
  obtain ⟨i0, hi, hz0, hz1, hz2⟩ := info_parts Tryd.infoI
  obtain ⟨A, hA, hAs⟩ : ∃ A : Array Value, A = madeCells (Value.agg #[.int .i64 0, .int .i64 0, .int .i64 0, .string ⟨#[]⟩]).cells (ts.length * 4) ∧ A.size = ts.length * 4 := ⟨_, rfl, size_madeCells _ _⟩
  have hmk : ∀ W : World, (Instr.makeSlice 24 (.int .i64 (ts.length : Int)) (.int .i64 (ts.length : Int))).run Tryd.prog W = .ok (.slice (some ⟨W.heap.size, 0, none⟩) ts.length ts.length) (W.alloc (.cells A 57)) := fun W => by
    have h := run_make (P := Tryd.prog) W 24 57 i0 _ Tryd.underlying24 hi hz0 .i64 .i64 (ts.length : Int) (ts.length : Int) (by omega) (by omega) (by rw [hz2]; omega) (by omega)
    rw [hz1, Int.toNat_natCast, ← hA] at h
    simpa using h
  clear hA
  have H0 : Hid (RowIt (w.alloc (.cells A 57)) w.heap.size ts.length ts 0) := ⟨A, heap_alloc_new w _, hAs, fun i _ h => absurd h (by omega)⟩
  clear hAs
  go_enter Tryd.func48, Tryd.ntmps48
  go_wp2
  go_loopw [4] (fun i wr => ∃ (k : Nat), k ≤ ts.length ∧ i = .int .i64 k ∧ Hid (RowIt wr w.heap.size ts.length ts k) ∧ Below w.heap.size w wr) (fun i _ => ts.length - (intOf i).toNat)
  case atStart => exact ⟨0, by omega, rfl, H0.out, (Below.refl _ _).alloc (Nat.le_refl _) _⟩
  case round =>
    obtain ⟨k, hk, rfl, hrow, hb⟩ := hrel
    clear H0 hmk hi hz0 hz1 hz2
    by_cases hlt : k < ts.length
    · obtain ⟨b, off, rfl, hbb, h0, h1, h2, h3⟩ := hx.out.stays hb k hlt
      have HP : Hid (∃ x : It, x = ts[k]) := ⟨_, rfl⟩
      obtain ⟨⟨q, f, lv, tx⟩, hp⟩ := HP.out
      rw [← hp] at h0 h1 h2 h3
      have HQ : Hid ((q, f, lv, tx) = ts[k]) := hp
      clear hp HP
      dsimp only at h0 h1 h2 h3
      go_wp2_with fail
      refine (toItem_any q f lv tx _).mono ?_
      rintro e w1 ⟨rfl, hb1⟩
      have R1 : Hid (RowIt w1 w.heap.size ts.length ts k) := hrow.out.stays hb1 hrow.out.lt
      have B1 : Hid (Below w.heap.size w w1) := hb.trans (hb1.mono hb.size)
      obtain ⟨v0, z0⟩ := R1.out.cell (k * 4) (by omega)
      obtain ⟨v1, z1⟩ := R1.out.cell (k * 4 + 1) (by omega)
      obtain ⟨v2, z2⟩ := R1.out.cell (k * 4 + 2) (by omega)
      obtain ⟨v3, z3⟩ := R1.out.cell (k * 4 + 3) (by omega)
      have f0 := R1.out.frozen (k * 4)
      have f1 := R1.out.frozen (k * 4 + 1)
      have f2 := R1.out.frozen (k * 4 + 2)
      have f3 := R1.out.frozen (k * 4 + 3)
      clear hb1 h0 h1 h2 h3 hrow hb
      go_wp2_with fail
      go_roundw
      case rel =>
        have := R1.out.set hlt
        rw [← HQ.out] at this
        exact ⟨k + 1, by omega, by go_num, this, (((B1.out.setCell (Nat.le_refl _) _).setCell (Nat.le_refl _) _).setCell (Nat.le_refl _) _).setCell (Nat.le_refl _) _⟩
      case measure => simp [intOf]; omega
    · obtain rfl : k = ts.length := by omega
      go_wp2_with fail
      go_ret
      exact ⟨_, rfl, hrow.out.items, hb⟩

theorem cells8_step {W w w' : World} {b1 b2 o0 o1 o2 o3 p0 p1 p2 p3 : Nat} {v0 v1 v2 v3 : Value} (h1 : b1 < W.heap.size) (h2 : b2 < W.heap.size)
    (h : ((w.cell? ⟨b1, o0, none⟩ = some v0 ∧ w.cell? ⟨b1, o1, none⟩ = some v1 ∧ w.cell? ⟨b1, o2, none⟩ = some v2 ∧ w.cell? ⟨b1, o3, none⟩ = some v3) ∧ w.cell? ⟨b2, p0, none⟩ = some v0 ∧ w.cell? ⟨b2, p1, none⟩ = some v1 ∧ w.cell? ⟨b2, p2, none⟩ = some v2 ∧ w.cell? ⟨b2, p3, none⟩ = some v3) ∧ Hid (Below W.heap.size W w)) (hb : Below w.heap.size w w') :
    ((w'.cell? ⟨b1, o0, none⟩ = some v0 ∧ w'.cell? ⟨b1, o1, none⟩ = some v1 ∧ w'.cell? ⟨b1, o2, none⟩ = some v2 ∧ w'.cell? ⟨b1, o3, none⟩ = some v3) ∧ w'.cell? ⟨b2, p0, none⟩ = some v0 ∧ w'.cell? ⟨b2, p1, none⟩ = some v1 ∧ w'.cell? ⟨b2, p2, none⟩ = some v2 ∧ w'.cell? ⟨b2, p3, none⟩ = some v3) ∧ Hid (Below W.heap.size W w') := by
  obtain ⟨⟨ha, hc⟩, h4⟩ := h
  have A := cells4_step h1 ⟨ha, h4⟩ hb
  have C := cells4_step h2 ⟨hc, h4⟩ hb
  exact ⟨⟨A.1, C.1⟩, A.2⟩

set_option maxRecDepth 100000 in
set_option maxHeartbeats 1000000 in
theorem eqItems_same (a1 a2 : Option Addr) (c1 c2 : Nat) (ts : List It) (w : World) (hx1 : Hid (ItemsAt w a1 ts)) (hx2 : Hid (ItemsAt w a2 ts)) (hl : ts.length ≤ 1048576) :
    Calls Tryd.prog 49 #[.slice a1 ts.length c1, .slice a2 ts.length c2] w fun e w' => e = .returned (.bool true) ∧ Below w.heap.size w w' := by
  go_enter Tryd.func49, Tryd.ntmps49
  go_wp2
  go_loopw [5] (fun i wr => ∃ k : Nat, k ≤ ts.length ∧ i = .int .i64 k ∧ Hid (Below w.heap.size w wr)) (fun i _ => ts.length - (intOf i).toNat)
  case atStart => exact ⟨0, by omega, rfl, Below.refl _ _⟩
  case round =>
    obtain ⟨k, hk, rfl, hb⟩ := hrel
    by_cases hlt : k < ts.length
    · obtain ⟨b1, off1, rfl, hbb1, h0, h1, h2, h3⟩ := hx1.out.stays hb.out k hlt
      obtain ⟨b2, off2, rfl, hbb2, g0, g1, g2, g3⟩ := hx2.out.stays hb.out k hlt
      have HP : Hid (∃ x : It, x = ts[k]) := ⟨_, rfl⟩
      obtain ⟨⟨q, f, lv, tx⟩, hp⟩ := HP.out
      rw [← hp] at h0 h1 h2 h3 g0 g1 g2 g3
      clear hp HP
      dsimp only at h0 h1 h2 h3 g0 g1 g2 g3
      have i0 : (0 : Int) ≤ (k : Int) := by omega
      have i1 : (k : Int) < (ts.length : Int) := by omega
      go_wp2_with fail
      refine quietC (C := (fun w' => ((w'.cell? ⟨b1, off1 + k * 4, none⟩ = some (.int .i64 q) ∧ w'.cell? ⟨b1, off1 + k * 4 + 1, none⟩ = some (.int .i64 f) ∧ w'.cell? ⟨b1, off1 + k * 4 + 2, none⟩ = some (.int .i64 lv) ∧ w'.cell? ⟨b1, off1 + k * 4 + 3, none⟩ = some (.string tx)) ∧ w'.cell? ⟨b2, off2 + k * 4, none⟩ = some (.int .i64 q) ∧ w'.cell? ⟨b2, off2 + k * 4 + 1, none⟩ = some (.int .i64 f) ∧ w'.cell? ⟨b2, off2 + k * 4 + 2, none⟩ = some (.int .i64 lv) ∧ w'.cell? ⟨b2, off2 + k * 4 + 3, none⟩ = some (.string tx)) ∧ Hid (Below wr.heap.size wr w'))) (by kernel_rfl) (by kernel_rfl) ⟨⟨⟨h0, h1, h2, h3⟩, g0, g1, g2, g3⟩, (Below.refl _ _).drew⟩ ?_
      go_big_quiet_want
      go_big_quiet_op
      go_big_quiet_on
      go_big_quiet_want
      go_big_quiet_op
      go_big_quiet_on
      go_big_quiet_want
      refine q_val (.pointer (some ⟨b1, off1 + k * 4, none⟩)) (fun w' hw' => by go_simp) ?_
      go_big_quiet_on
      simp only [Act.put, List.setIfInBounds_toArray, List.set_cons_zero, List.set_cons_succ]
      go_big_quiet_want
      refine q_val (.agg #[.int .i64 q, .int .i64 f, .int .i64 lv, .string tx]) (fun w' hw' => by obtain ⟨⟨⟨j0, j1, j2, j3⟩, _⟩, _⟩ := hw'; go_simp) ?_
      go_big_quiet_on
      simp only [Act.put, List.setIfInBounds_toArray, List.set_cons_zero, List.set_cons_succ]
      go_big_quiet_want
      go_big_quiet_op
      go_big_quiet_on
      go_big_quiet_want
      go_big_quiet_op
      go_big_quiet_on
      go_big_quiet_want
      refine q_val (.pointer (some ⟨b2, off2 + k * 4, none⟩)) (fun w' hw' => by go_simp) ?_
      go_big_quiet_on
      simp only [Act.put, List.setIfInBounds_toArray, List.set_cons_zero, List.set_cons_succ]
      go_big_quiet_want
      refine q_val (.agg #[.int .i64 q, .int .i64 f, .int .i64 lv, .string tx]) (fun w' hw' => by obtain ⟨⟨_, j0, j1, j2, j3⟩, _⟩ := hw'; go_simp) ?_
      go_big_quiet_on
      simp only [Act.put, List.setIfInBounds_toArray, List.set_cons_zero, List.set_cons_succ]
      go_big_quiet_want
      refine q_call (.bool true) 76 #[.agg #[.int .i64 q, .int .i64 f, .int .i64 lv, .string tx], .agg #[.int .i64 q, .int .i64 f, .int .i64 lv, .string tx]] (fun w' hw' => by go_simp) (fun w' hw' => (eqItem_same q f lv tx _).mono fun e w'' ⟨he, hb1⟩ => ⟨he, cells8_step hbb1 hbb2 hw' hb1⟩) ?_
      go_big_quiet_on
      simp only [Act.put, List.setIfInBounds_toArray, List.set_cons_zero, List.set_cons_succ]
      go_big_quiet_want
      refine q_val (.bool false) (fun w' hw' => by go_simp) ?_
      go_big_quiet_on
      simp only [Act.put, List.setIfInBounds_toArray, List.set_cons_zero, List.set_cons_succ]
      refine wpQuiet_nil ?_
      intro w1 hcw
      have B1 : Hid (Below w.heap.size w w1) := hb.out.trans (hcw.2.out.mono hb.out.size)
      clear hcw h0 h1 h2 h3 g0 g1 g2 g3
      go_wp2_with fail
      go_roundw
      case rel => exact ⟨k + 1, by omega, by go_num, B1.out⟩
      case measure => simp [intOf]; omega
    · go_wp2_with fail
      go_ret
      exact ⟨rfl, hb.out⟩

end Go.Proofs.YtlflcjdpdbdbkaaDoor

/- The walks over the specification's ReadItem and over the law on ReadItem. -/
namespace Go.Proofs.YtlflcjdpdbdbkaaDoor
open Go.RowKit Pl
set_option linter.unusedVariables false

theorem PcAt.keepBut {w w' : World} {k g : Nat} {s : ByteArray} {A : Nat} {b : Bool} (h : PcAt w g s A b) (hk : KeepBut k w w') (hg : g ≠ k) : PcAt w' g s A b := (hk.block g h.lt hg).trans h

set_option maxRecDepth 100000 in
set_option maxHeartbeats 4000000 in
theorem spReadItem_any (s : ByteArray) (w : World) (hs : s.size ≤ 1048576) :
    Calls Tryd.prog 45 #[.string s] w fun e w' => ∃ (q f l : Nat) (t : ByteArray) (r : Bool), e = .returned (.tuple #[.agg #[.int .i64 q, .int .i64 f, .int .i64 l, .string t], .bool r]) ∧ AnsI s q f l t r ∧ Below w.heap.size w w' := by
  have H1 : Hid (ItAt ((w.alloc (.cells #[.int .i64 0, .int .i64 0, .int .i64 0, .string ⟨#[]⟩] 57)).alloc (.cells #[.string s, .int .i64 0, .bool false] 65)) w.heap.size 0 0 0 ByteArray.empty) :=
    (((Below.refl (w.heap.size + 1) (w.alloc (.cells #[.int .i64 0, .int .i64 0, .int .i64 0, .string ⟨#[]⟩] 57))).alloc (by simp) _).block w.heap.size (by omega)).trans (heap_alloc_new w _)
  have H2 : Hid (PcAt ((w.alloc (.cells #[.int .i64 0, .int .i64 0, .int .i64 0, .string ⟨#[]⟩] 57)).alloc (.cells #[.string s, .int .i64 0, .bool false] 65)) (w.heap.size + 1) s 0 false) := by
    have := heap_alloc_new (w.alloc (.cells #[.int .i64 0, .int .i64 0, .int .i64 0, .string ⟨#[]⟩] 57)) (.cells #[.string s, .int .i64 0, .bool false] 65)
    rw [show (w.alloc (.cells #[.int .i64 0, .int .i64 0, .int .i64 0, .string ⟨#[]⟩] 57)).heap.size = w.heap.size + 1 by simp] at this
    exact this
  have H4 : Hid (Below w.heap.size w ((w.alloc (.cells #[.int .i64 0, .int .i64 0, .int .i64 0, .string ⟨#[]⟩] 57)).alloc (.cells #[.string s, .int .i64 0, .bool false] 65))) := ((Below.refl _ _).alloc (Nat.le_refl _) _).alloc (by simp) _
  go_enter Tryd.func45, Tryd.ntmps45
  go_wp2_with fail
  generalize (w.alloc (.cells #[.int .i64 0, .int .i64 0, .int .i64 0, .string ⟨#[]⟩] 57)).alloc (.cells #[.string s, .int .i64 0, .bool false] 65) = W at *
  refine (lvar_any s (w.heap.size + 1) 0 false W H2 hs (Nat.zero_le _)).mono ?_
  rintro e w1 ⟨q, i, b1, rfl, hq, hi, hp1, hk1, hF1⟩
  have R1 : Hid (ItAt w1 w.heap.size 0 0 0 ByteArray.empty) := H1.out.keep hk1 (by omega)
  have B1 : Hid (Below w.heap.size w w1) := H4.out.trans (hk1.below (by omega) H4.out.size)
  have P1 : Hid (PcAt w1 (w.heap.size + 1) s i b1) := hp1
  have F1 : Hid (VarF s 0 false q i b1) := hF1
  clear hp1 hk1 hF1 H1 H2 H4
  have hN1 := P1.out.lt
  have M1 : Hid (ItAt (w1.alloc (.cells #[.int .i64 q, .int .i64 0, .int .i64 0, .string ⟨#[]⟩] 57)) w1.heap.size q 0 0 ByteArray.empty) := heap_alloc_new w1 _
  have D1 : Hid (Below w1.heap.size w1 (w1.alloc (.cells #[.int .i64 q, .int .i64 0, .int .i64 0, .string ⟨#[]⟩] 57))) := (Below.refl _ _).alloc (Nat.le_refl _) _
  go_wp2_with fail
  generalize w1.alloc (.cells #[.int .i64 q, .int .i64 0, .int .i64 0, .string ⟨#[]⟩] 57) = W1 at *
  have R2 : Hid (ItAt W1 w.heap.size 0 0 0 ByteArray.empty) := R1.out.stays D1.out R1.out.lt
  have P2 : Hid (PcAt W1 (w.heap.size + 1) s i b1) := P1.out.stays D1.out P1.out.lt
  have B2 : Hid (Below w.heap.size w W1) := B1.out.trans (D1.out.mono B1.out.size)
  clear R1 P1 B1 D1
  generalize w1.heap.size = gm at *
  refine (one_any s (w.heap.size + 1) i b1 W1 P2 hs hi).mono ?_
  rintro e w2 ⟨f, j, b2, rfl, hf, hj, hp2, ht2, hF2⟩
  have F2 : Hid (OneF s i b1 f j b2) := hF2
  have R3 : Hid (ItAt w2 w.heap.size 0 0 0 ByteArray.empty) := R2.out.keep ht2.keep (by omega)
  have M3 : Hid (ItAt w2 gm q 0 0 ByteArray.empty) := M1.out.keep ht2.keep (by omega)
  have P3 : Hid (PcAt w2 (w.heap.size + 1) s j b2) := hp2
  have B3 : Hid (Below w.heap.size w w2) := B2.out.trans (ht2.below (by omega))
  have c0 := M3.out.cells.2.1
  have f0 := M3.out.frozen 1
  clear R2 M1 P2 B2 hp2 ht2 hF2
  go_wp2_with fail
  have T4 := (TurnAt.refl gm w2).setCell 1 (.int .i64 f)
  have R4 : Hid (ItAt (w2.setCell ⟨gm, 1, none⟩ (.int .i64 f)) w.heap.size 0 0 0 ByteArray.empty) := R3.out.keep T4.keep (by omega)
  have M4 : Hid (ItAt (w2.setCell ⟨gm, 1, none⟩ (.int .i64 f)) gm q f 0 ByteArray.empty) := M3.out.set1 f
  have P4 : Hid (PcAt (w2.setCell ⟨gm, 1, none⟩ (.int .i64 f)) (w.heap.size + 1) s j b2) := P3.out.keep T4 (by omega)
  have B4 : Hid (Below w.heap.size w (w2.setCell ⟨gm, 1, none⟩ (.int .i64 f))) := B3.out.trans (T4.below (by omega))
  clear T4 R3 M3 P3 B3 c0 f0
  generalize w2.setCell ⟨gm, 1, none⟩ (.int .i64 f) = W2 at *
  refine (one_any s (w.heap.size + 1) j b2 W2 P4 hs hj).mono ?_
  rintro e w3 ⟨l, k, b3, rfl, hl, hk, hp3, ht3, hF3⟩
  have F3 : Hid (OneF s j b2 l k b3) := hF3
  have R3 : Hid (ItAt w3 w.heap.size 0 0 0 ByteArray.empty) := R4.out.keep ht3.keep (by omega)
  have M3 : Hid (ItAt w3 gm q f 0 ByteArray.empty) := M4.out.keep ht3.keep (by omega)
  have P3 : Hid (PcAt w3 (w.heap.size + 1) s k b3) := hp3
  have B3 : Hid (Below w.heap.size w w3) := B4.out.trans (ht3.below (by omega))
  have c0 := M3.out.cells.2.2.1
  have f0 := M3.out.frozen 2
  clear R4 M4 P4 B4 hp3 ht3 hF3
  go_wp2_with fail
  have T4 := (TurnAt.refl gm w3).setCell 2 (.int .i64 l)
  have R4 : Hid (ItAt (w3.setCell ⟨gm, 2, none⟩ (.int .i64 l)) w.heap.size 0 0 0 ByteArray.empty) := R3.out.keep T4.keep (by omega)
  have M4 : Hid (ItAt (w3.setCell ⟨gm, 2, none⟩ (.int .i64 l)) gm q f l ByteArray.empty) := M3.out.set2 l
  have P4 : Hid (PcAt (w3.setCell ⟨gm, 2, none⟩ (.int .i64 l)) (w.heap.size + 1) s k b3) := P3.out.keep T4 (by omega)
  have B4 : Hid (Below w.heap.size w (w3.setCell ⟨gm, 2, none⟩ (.int .i64 l))) := B3.out.trans (T4.below (by omega))
  clear T4 R3 M3 P3 B3 c0 f0
  generalize w3.setCell ⟨gm, 2, none⟩ (.int .i64 l) = W3 at *
  refine (lshort_any s (w.heap.size + 1) k b3 W3 P4 hs hk).mono ?_
  rintro e w4 ⟨t, A, b, rfl, hA, hp4, hk4, hF4⟩
  have F4 : Hid (ShF s k b3 t A b) := hF4
  have R3 : Hid (ItAt w4 w.heap.size 0 0 0 ByteArray.empty) := R4.out.keep hk4 (by omega)
  have M3 : Hid (ItAt w4 gm q f l ByteArray.empty) := M4.out.keep hk4 (by omega)
  have P3 : Hid (PcAt w4 (w.heap.size + 1) s A b) := hp4
  have B3 : Hid (Below w.heap.size w w4) := B4.out.trans (hk4.below (by omega) B4.out.size)
  have c0 := M3.out.cells.2.2.2
  have f0 := M3.out.frozen 3
  clear R4 M4 P4 B4 hp4 hk4 hF4
  have T4 := (TurnAt.refl gm w4).setCell 3 (.string t)
  have R4 : Hid (ItAt (w4.setCell ⟨gm, 3, none⟩ (.string t)) w.heap.size 0 0 0 ByteArray.empty) := R3.out.keep T4.keep (by omega)
  have M4 : Hid (ItAt (w4.setCell ⟨gm, 3, none⟩ (.string t)) gm q f l t) := M3.out.set3 t
  have P4 : Hid (PcAt (w4.setCell ⟨gm, 3, none⟩ (.string t)) (w.heap.size + 1) s A b) := P3.out.keep T4 (by omega)
  have B4 : Hid (Below w.heap.size w (w4.setCell ⟨gm, 3, none⟩ (.string t))) := B3.out.trans (T4.below (by omega))
  obtain ⟨m0, m1, m2, m3⟩ := M4.out.cells
  clear T4 R3 M3 P3 B3
  go_wp2_with fail
  clear c0 f0
  generalize w4.setCell ⟨gm, 3, none⟩ (.string t) = W4 at *
  have HF : Hid (FndI s q f l t b) := ⟨i, b1, j, b2, k, b3, A, F1.out, F2.out, F3.out, F4.out⟩
  clear F1 F2 F3 F4
  by_cases ho : ItOk q f l t
  · refine (spItemText_yes q f l t _ ho).mono ?_
    rintro e w6 ⟨rfl, hb6⟩
    have HO : Hid (ItOk q f l t) := ho
    have R5 : Hid (ItAt w6 w.heap.size 0 0 0 ByteArray.empty) := R4.out.stays hb6 R4.out.lt
    have M5 : Hid (ItAt w6 gm q f l t) := M4.out.stays hb6 M4.out.lt
    have P5 : Hid (PcAt w6 (w.heap.size + 1) s A b) := P4.out.stays hb6 P4.out.lt
    have B5 : Hid (Below w.heap.size w w6) := B4.out.trans (hb6.mono B4.out.size)
    obtain ⟨p0, p1, p2, _, _, _⟩ := P5.out.cells
    clear ho R4 M4 P4 B4 hb6 m0 m1 m2 m3
    cases b with
    | true =>
      obtain ⟨c0, c1, c2, c3⟩ := R5.out.cells
      have z0 := R5.out.frozen 0
      have z1 := R5.out.frozen 1
      have z2 := R5.out.frozen 2
      have z3 := R5.out.frozen 3
      have R6 : ItAt _ w.heap.size 0 0 0 ⟨#[]⟩ := R5.out.agg 0 0 0 ⟨#[]⟩
      have HB2 := (((B5.out.setCell (p := ⟨w.heap.size, 0, none⟩) (Nat.le_refl _) (.int .i64 0)).setCell (p := ⟨w.heap.size, 1, none⟩) (Nat.le_refl _) (.int .i64 0)).setCell (p := ⟨w.heap.size, 2, none⟩) (Nat.le_refl _) (.int .i64 0)).setCell (p := ⟨w.heap.size, 3, none⟩) (Nat.le_refl _) (.string ⟨#[]⟩)
      go_wp2_with fail
      generalize ((((w6.setCell ⟨w.heap.size, 0, none⟩ (.int .i64 0)).setCell ⟨w.heap.size, 1, none⟩ (.int .i64 0)).setCell ⟨w.heap.size, 2, none⟩ (.int .i64 0)).setCell ⟨w.heap.size, 3, none⟩ (.string ⟨#[]⟩)) = W6 at *
      obtain ⟨q0, q1, q2, q3⟩ := R6.cells
      clear c0 c1 c2 c3 z0 z1 z2 z3 
      refine bodyPost_ret (v := .tuple #[.agg #[.int .i64 0, .int .i64 0, .int .i64 0, .string ⟨#[]⟩], .bool false]) (by simp [results, Tryd.results45, go_sem, q0, q1, q2, q3]) rfl ?_
      exact ⟨0, 0, 0, ByteArray.empty, false, rfl, ansI_missed HF.out (.inl rfl), HB2⟩
    | false =>
      by_cases hS : itemS q f l t = s
      · have hne : (!(itemS q f l t).toList == s.toList) = false := by rw [hS]; simp
        have HS : Hid (itemS q f l t = s) := hS
        clear hS
        obtain ⟨m0, m1, m2, m3⟩ := M5.out.cells
        obtain ⟨c0, c1, c2, c3⟩ := R5.out.cells
        have z0 := R5.out.frozen 0
        have z1 := R5.out.frozen 1
        have z2 := R5.out.frozen 2
        have z3 := R5.out.frozen 3
        have R6 : ItAt _ w.heap.size q f l t := R5.out.agg q f l t
        have HB2 := (((B5.out.setCell (p := ⟨w.heap.size, 0, none⟩) (Nat.le_refl _) (.int .i64 q)).setCell (p := ⟨w.heap.size, 1, none⟩) (Nat.le_refl _) (.int .i64 f)).setCell (p := ⟨w.heap.size, 2, none⟩) (Nat.le_refl _) (.int .i64 l)).setCell (p := ⟨w.heap.size, 3, none⟩) (Nat.le_refl _) (.string t)
        go_wp2_with fail
        generalize ((((w6.setCell ⟨w.heap.size, 0, none⟩ (.int .i64 q)).setCell ⟨w.heap.size, 1, none⟩ (.int .i64 f)).setCell ⟨w.heap.size, 2, none⟩ (.int .i64 l)).setCell ⟨w.heap.size, 3, none⟩ (.string t)) = W6 at *
        obtain ⟨q0, q1, q2, q3⟩ := R6.cells
        clear c0 c1 c2 c3 z0 z1 z2 z3 m0 m1 m2 m3
        refine bodyPost_ret (v := .tuple #[.agg #[.int .i64 q, .int .i64 f, .int .i64 l, .string t], .bool true]) (by simp [results, Tryd.results45, go_sem, q0, q1, q2, q3]) rfl ?_
        exact ⟨q, f, l, t, true, rfl, ansI_hit HO.out HS.out, HB2⟩
      · have hne : (!(itemS q f l t).toList == s.toList) = true := by
          simp only [Bool.not_eq_true', beq_eq_false_iff_ne, ne_eq]
          intro h
          rw [ByteArray.toList_eq, ByteArray.toList_eq] at h
          exact hS (rt_ext h)
        have HS : Hid (itemS q f l t ≠ s) := hS
        clear hS
        obtain ⟨c0, c1, c2, c3⟩ := R5.out.cells
        have z0 := R5.out.frozen 0
        have z1 := R5.out.frozen 1
        have z2 := R5.out.frozen 2
        have z3 := R5.out.frozen 3
        have R6 : ItAt _ w.heap.size 0 0 0 ⟨#[]⟩ := R5.out.agg 0 0 0 ⟨#[]⟩
        have HB2 := (((B5.out.setCell (p := ⟨w.heap.size, 0, none⟩) (Nat.le_refl _) (.int .i64 0)).setCell (p := ⟨w.heap.size, 1, none⟩) (Nat.le_refl _) (.int .i64 0)).setCell (p := ⟨w.heap.size, 2, none⟩) (Nat.le_refl _) (.int .i64 0)).setCell (p := ⟨w.heap.size, 3, none⟩) (Nat.le_refl _) (.string ⟨#[]⟩)
        go_wp2_with fail
        generalize ((((w6.setCell ⟨w.heap.size, 0, none⟩ (.int .i64 0)).setCell ⟨w.heap.size, 1, none⟩ (.int .i64 0)).setCell ⟨w.heap.size, 2, none⟩ (.int .i64 0)).setCell ⟨w.heap.size, 3, none⟩ (.string ⟨#[]⟩)) = W6 at *
        obtain ⟨q0, q1, q2, q3⟩ := R6.cells
        clear c0 c1 c2 c3 z0 z1 z2 z3 
        refine bodyPost_ret (v := .tuple #[.agg #[.int .i64 0, .int .i64 0, .int .i64 0, .string ⟨#[]⟩], .bool false]) (by simp [results, Tryd.results45, go_sem, q0, q1, q2, q3]) rfl ?_
        exact ⟨0, 0, 0, ByteArray.empty, false, rfl, ansI_missed HF.out (.inr (.inr HS.out)), HB2⟩
  · refine (spItemText_no q f l t _ ho).mono ?_
    rintro e w6 ⟨rfl, hb6⟩
    have HO : Hid (¬ ItOk q f l t) := ho
    have R5 : Hid (ItAt w6 w.heap.size 0 0 0 ByteArray.empty) := R4.out.stays hb6 R4.out.lt
    have P5 : Hid (PcAt w6 (w.heap.size + 1) s A b) := P4.out.stays hb6 P4.out.lt
    have B5 : Hid (Below w.heap.size w w6) := B4.out.trans (hb6.mono B4.out.size)
    obtain ⟨p0, p1, p2, _, _, _⟩ := P5.out.cells
    clear ho R4 M4 P4 B4 hb6 m0 m1 m2 m3
    cases b with
    | true =>
      obtain ⟨c0, c1, c2, c3⟩ := R5.out.cells
      have z0 := R5.out.frozen 0
      have z1 := R5.out.frozen 1
      have z2 := R5.out.frozen 2
      have z3 := R5.out.frozen 3
      have R6 : ItAt _ w.heap.size 0 0 0 ⟨#[]⟩ := R5.out.agg 0 0 0 ⟨#[]⟩
      have HB2 := (((B5.out.setCell (p := ⟨w.heap.size, 0, none⟩) (Nat.le_refl _) (.int .i64 0)).setCell (p := ⟨w.heap.size, 1, none⟩) (Nat.le_refl _) (.int .i64 0)).setCell (p := ⟨w.heap.size, 2, none⟩) (Nat.le_refl _) (.int .i64 0)).setCell (p := ⟨w.heap.size, 3, none⟩) (Nat.le_refl _) (.string ⟨#[]⟩)
      go_wp2_with fail
      generalize ((((w6.setCell ⟨w.heap.size, 0, none⟩ (.int .i64 0)).setCell ⟨w.heap.size, 1, none⟩ (.int .i64 0)).setCell ⟨w.heap.size, 2, none⟩ (.int .i64 0)).setCell ⟨w.heap.size, 3, none⟩ (.string ⟨#[]⟩)) = W6 at *
      obtain ⟨q0, q1, q2, q3⟩ := R6.cells
      clear c0 c1 c2 c3 z0 z1 z2 z3 
      refine bodyPost_ret (v := .tuple #[.agg #[.int .i64 0, .int .i64 0, .int .i64 0, .string ⟨#[]⟩], .bool false]) (by simp [results, Tryd.results45, go_sem, q0, q1, q2, q3]) rfl ?_
      exact ⟨0, 0, 0, ByteArray.empty, false, rfl, ansI_missed HF.out (.inl rfl), HB2⟩
    | false =>
      obtain ⟨c0, c1, c2, c3⟩ := R5.out.cells
      have z0 := R5.out.frozen 0
      have z1 := R5.out.frozen 1
      have z2 := R5.out.frozen 2
      have z3 := R5.out.frozen 3
      have R6 : ItAt _ w.heap.size 0 0 0 ⟨#[]⟩ := R5.out.agg 0 0 0 ⟨#[]⟩
      have HB2 := (((B5.out.setCell (p := ⟨w.heap.size, 0, none⟩) (Nat.le_refl _) (.int .i64 0)).setCell (p := ⟨w.heap.size, 1, none⟩) (Nat.le_refl _) (.int .i64 0)).setCell (p := ⟨w.heap.size, 2, none⟩) (Nat.le_refl _) (.int .i64 0)).setCell (p := ⟨w.heap.size, 3, none⟩) (Nat.le_refl _) (.string ⟨#[]⟩)
      go_wp2_with fail
      generalize ((((w6.setCell ⟨w.heap.size, 0, none⟩ (.int .i64 0)).setCell ⟨w.heap.size, 1, none⟩ (.int .i64 0)).setCell ⟨w.heap.size, 2, none⟩ (.int .i64 0)).setCell ⟨w.heap.size, 3, none⟩ (.string ⟨#[]⟩)) = W6 at *
      obtain ⟨q0, q1, q2, q3⟩ := R6.cells
      clear c0 c1 c2 c3 z0 z1 z2 z3 
      refine bodyPost_ret (v := .tuple #[.agg #[.int .i64 0, .int .i64 0, .int .i64 0, .string ⟨#[]⟩], .bool false]) (by simp [results, Tryd.results45, go_sem, q0, q1, q2, q3]) rfl ?_
      exact ⟨0, 0, 0, ByteArray.empty, false, rfl, ansI_missed HF.out (.inr (.inl HO.out)), HB2⟩

end Go.Proofs.YtlflcjdpdbdbkaaDoor

