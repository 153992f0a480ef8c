/- Joined texts: CC4 CLb CJ2 CJ3 CJ4 CT2 CRg CRs CRh CRn CSs0 CD1 CDO. -/
import Derived.Test.YtoahljkifikbaaaGreatQn4
import Derived.Deep.RegionHeld3
import Derived.Deep.QuietTactic
import Derived.BigQuiet
import Derived.Deep.RegionWith
import Derived.Laws.MakeOwn
import Derived.Test.YtoahljkifikbaaaGreatChecked
import Derived.Test.YtoahljkifikbaaaGreatQn1
import Derived.WalkKit
import Derived.WalkSpells
import Derived.WalkLawsBesides
/- Slices of ints compared, written over and looked at again. -/
namespace Go.Proofs.YtoahljkifikbaaaGreat
open Go.RowKit Pl
set_option linter.unusedVariables false

/-- what markIntS writes. -/
def marks (K n : Nat) : List Int := (List.range n).map fun (j : Nat) => ((K + j : Nat) : Int)
theorem Pl.OwnI.keep {w w' : World} {B : Nat} {v : Value} {ss : List Int} (h : OwnI w B v ss) (hk : ∀ k, v.ownBlock = Option.some k → k < w.heap.size → w'.heap[k]? = w.heap[k]?) : OwnI w' B v ss := by
  refine ⟨h.1, ?_⟩
  rcases h.2 with hn | ⟨g, cap, cur, rfl, hbg, hg, rest⟩
  · exact .inl hn
  · exact .inr ⟨g, cap, cur, rfl, hbg, (hk g rfl (Array.getElem?_eq_some_iff.1 hg).1).trans hg, rest⟩
theorem Pl.OwnI.kept {w w' : World} {row : Option Nat} {B : Nat} {v : Value} {ss : List Int} (h : OwnI w B v ss) (hg : w.grownBy w' row) (hne : ∀ k, v.ownBlock = Option.some k → Option.some k ≠ row) : OwnI w' B v ss := h.keep fun k hk hl => hg.block k hl (hne k hk)
end Go.Proofs.YtoahljkifikbaaaGreat


/- Small things that the laws lean on. -/
namespace Go.Proofs.YtoahljkifikbaaaGreat
open Go.RowKit Pl
set_option linter.unusedVariables false
theorem bl_next {a b c : World} (h : Below a.heap.size a b) (k : Below b.heap.size b c) : Below a.heap.size a c := h.trans (k.mono h.size)
theorem ownI_nil (w : World) (B : Nat) : OwnI w B (.slice none 0 0) [] := ⟨by simp, .inl ⟨rfl, rfl⟩⟩
end Go.Proofs.YtoahljkifikbaaaGreat


/- The walk over the specification's ItemsOk. -/
namespace Go.Proofs.YtoahljkifikbaaaGreat
open Go.RowKit Pl
set_option linter.unusedVariables false

end Go.Proofs.YtoahljkifikbaaaGreat


/- The walks over lists of items that a law copies, sizes and compares. -/
namespace Go.Proofs.YtoahljkifikbaaaGreat
open Go.RowKit Pl
set_option linter.unusedVariables false
theorem Tryz.infoI : (Tryz.prog.info? 39).map (fun i => (i.zero, i.size, i.bytes)) = some (some (.agg #[.int .i64 0, .int .i64 0, .int .i64 0, .string ⟨#[]⟩]), 4, 40) := by kernel_rfl

/-- the first k items of a row. -/
def RowIt (w : World) (g n : Nat) (ts : List It) (k : Nat) : Prop :=
  ∃ arr : Array Value, w.heap[g]? = some (.cells arr 39 (0, 0)) ∧ arr.size = n * 4 ∧ ∀ i (h : i < ts.length), i < k → arr[i * 4]? = some (.int .i64 ts[i].1) ∧ arr[i * 4 + 1]? = some (.int .i64 ts[i].2.1) ∧ arr[i * 4 + 2]? = some (.int .i64 ts[i].2.2.1) ∧ arr[i * 4 + 3]? = some (.string ts[i].2.2.2)
theorem RowIt.stays {w w' : World} {B g n k : Nat} {ts : List It} (h : RowIt w g n ts k) (hb : Below B w w') (hg : g < B) : RowIt w' g n ts k := by
  obtain ⟨arr, h1, h2⟩ := h
  exact ⟨arr, (hb.block g hg).trans h1, h2⟩
theorem RowIt.lt {w : World} {g n k : Nat} {ts : List It} (h : RowIt w g n ts k) : g < w.heap.size := by
  obtain ⟨arr, h1, _⟩ := h
  exact (Array.getElem?_eq_some_iff.1 h1).1
theorem RowIt.cell {w : World} {g n k : Nat} {ts : List It} (h : RowIt w g n ts k) (i : Nat) (hi : i < n * 4) : ∃ v, w.cell? ⟨g, i, none⟩ = some v := by
  obtain ⟨arr, h1, h2, _⟩ := h
  refine ⟨arr[i]'(by omega), ?_⟩
  rw [cell_of_row w g i _ 39 (0, 0) h1]
  simp [h2, hi]
theorem RowIt.frozen {w : World} {g n k : Nat} {ts : List It} (h : RowIt w g n ts k) (i : Nat) : w.frozen? ⟨g, i, none⟩ = false := by
  obtain ⟨arr, h1, _⟩ := h
  exact frozen_of_row w g i _ 39 h1
theorem RowIt.set {w : World} {g k : Nat} {ts : List It} (h : RowIt w g ts.length ts k) (hk : k < ts.length) :
    RowIt ((((w.setCell ⟨g, k * 4, none⟩ (.int .i64 ts[k].1)).setCell ⟨g, k * 4 + 1, none⟩ (.int .i64 ts[k].2.1)).setCell ⟨g, k * 4 + 2, none⟩ (.int .i64 ts[k].2.2.1)).setCell ⟨g, k * 4 + 3, none⟩ (.string ts[k].2.2.2)) g ts.length ts (k + 1) := by
  obtain ⟨arr, h1, h2, h3⟩ := h
  have e0 := heap_setCell_same w g (k * 4) _ 39 (.int .i64 ts[k].1) h1
  have e1 := heap_setCell_same _ g (k * 4 + 1) _ 39 (.int .i64 ts[k].2.1) e0
  have e2 := heap_setCell_same _ g (k * 4 + 2) _ 39 (.int .i64 ts[k].2.2.1) e1
  have e3 := heap_setCell_same _ g (k * 4 + 3) _ 39 (.string ts[k].2.2.2) e2
  refine ⟨_, e3, by simp [h2], fun i hi hik => ?_⟩
  by_cases hik2 : i = k
  · subst hik2
    refine ⟨?_, ?_, ?_, ?_⟩ <;> simp [Array.getElem?_setIfInBounds, h2] <;> omega
  · obtain ⟨x0, x1, x2, x3⟩ := h3 i hi (by omega)
    have n0 : ∀ a c, a < 4 → c < 4 → ¬ k * 4 + a = i * 4 + c := fun a c _ _ => by omega
    refine ⟨?_, ?_, ?_, ?_⟩
    · rw [Array.getElem?_setIfInBounds_ne (by omega), Array.getElem?_setIfInBounds_ne (by omega), Array.getElem?_setIfInBounds_ne (by omega), Array.getElem?_setIfInBounds_ne (by omega)]; exact x0
    · rw [Array.getElem?_setIfInBounds_ne (by omega), Array.getElem?_setIfInBounds_ne (by omega), Array.getElem?_setIfInBounds_ne (by omega), Array.getElem?_setIfInBounds_ne (by omega)]; exact x1
    · rw [Array.getElem?_setIfInBounds_ne (by omega), Array.getElem?_setIfInBounds_ne (by omega), Array.getElem?_setIfInBounds_ne (by omega), Array.getElem?_setIfInBounds_ne (by omega)]; exact x2
    · rw [Array.getElem?_setIfInBounds_ne (by omega), Array.getElem?_setIfInBounds_ne (by omega), Array.getElem?_setIfInBounds_ne (by omega), Array.getElem?_setIfInBounds_ne (by omega)]; exact x3
theorem RowIt.items {w : World} {g n : Nat} {ts : List It} (h : RowIt w g n ts ts.length) : ItemsAt w (some ⟨g, 0, none⟩) ts := by
  have hlt := h.lt
  obtain ⟨arr, h1, h2, h3⟩ := h
  intro i hi
  obtain ⟨x0, x1, x2, x3⟩ := h3 i hi hi
  refine ⟨g, 0, rfl, hlt, ?_, ?_, ?_, ?_⟩
  · rw [Nat.zero_add, cell_of_row w g _ _ 39 (0, 0) h1]; exact x0
  · rw [Nat.zero_add, cell_of_row w g _ _ 39 (0, 0) h1]; exact x1
  · rw [Nat.zero_add, cell_of_row w g _ _ 39 (0, 0) h1]; exact x2
  · rw [Nat.zero_add, cell_of_row w g _ _ 39 (0, 0) h1]; exact x3
end Go.Proofs.YtoahljkifikbaaaGreat


/- Lists of items copied and compared. -/
namespace Go.Proofs.YtoahljkifikbaaaGreat
open Go.RowKit Pl
set_option linter.unusedVariables false
end Go.Proofs.YtoahljkifikbaaaGreat


/- The walk over the specification's TokenOk. -/
namespace Go.Proofs.YtoahljkifikbaaaGreat
open Go.RowKit Pl
set_option linter.unusedVariables false

end Go.Proofs.YtoahljkifikbaaaGreat


/- Rings in plain words, and the walks over both RingOk. -/
namespace Go.Proofs.YtoahljkifikbaaaGreat
open Go.RowKit Pl
set_option linter.unusedVariables false

/-- a ring is right. -/
def ringB (i : Int) (ms : List Int) : Bool := decide (1 ≤ i ∧ i ≤ 9) && (decide (0 < ms.length) && wGo 0 5 ms)

theorem wGo_len : ∀ (ms : List Int) (l : Int), wGo l 5 ms = true → l ≤ 5 → (ms.length : Int) + l ≤ 5 := by
  intro ms
  induction ms with
  | nil => intro l _ h; simp; omega
  | cons x xs ih =>
    intro l h hl
    by_cases h1 : l < x ∧ x ≤ 5
    · rw [wGo_step h1.1 h1.2] at h
      have := ih x h h1.2
      simp only [List.length_cons, Int.natCast_add]
      omega
    · rw [wGo_bad (by omega)] at h
      cases h

set_option maxRecDepth 100000 in
set_option maxHeartbeats 1000000 in
theorem daemons_any (ao : Option Addr) (cap : Nat) (ws : List Int) (w : World) (hx : Hid (IntsAt w ao ws)) (hl : ws.length ≤ 1048576) :
    Calls Tryz.prog 102 #[.slice ao ws.length cap] w fun e w' => e = .returned (.bool (wGo 0 5 ws)) ∧ w' = w := by
  go_enter Tryz.func102, Tryz.ntmps102
  go_wp2
  go_loop [3, 8] (fun L i => ∃ (k : Nat) (l : Int), k ≤ ws.length ∧ L = .int .i64 l ∧ i = .int .i64 k ∧ Hid (WSt ws 5 k l)) (fun _ i => ws.length - (intOf i).toNat)
  case atStart => exact ⟨0, 0, Nat.zero_le _, rfl, rfl, wSt_start ws 5⟩
  case round =>
    obtain ⟨k, l, hk, rfl, rfl, hst⟩ := hrel
    by_cases hlt : k < ws.length
    · obtain ⟨b, off, rfl, hbb, hc⟩ := hx.out k hlt
      obtain ⟨x, ht⟩ : ∃ x, x = ws[k] := ⟨_, rfl⟩
      rw [← ht] at hc
      have HT : Hid (x = ws[k]) := ht
      clear ht
      by_cases h1 : x ≤ l
      · go_wp2
        go_ret
        exact ⟨by rw [wSt_bad hst.out hlt HT.out (.inl h1)]; rfl, rfl⟩
      · by_cases h2 : 5 < x
        · go_wp2
          go_ret
          exact ⟨by rw [wSt_bad hst.out hlt HT.out (.inr h2)]; simp, rfl⟩
        · go_wp2
          go_round
          case rel => exact ⟨k + 1, x, by omega, rfl, by go_num, wSt_next hst.out hlt HT.out (by omega) (by omega)⟩
          case measure => simp [intOf]; omega
    · go_wp2
      go_ret
      exact ⟨by rw [wSt_end hst.out (by omega)]; rfl, rfl⟩

/-- the block g is a ring. -/
def RgAt (w : World) (g : Nat) (i : Int) (v : Value) : Prop := w.heap[g]? = some (.cells #[.int .i64 i, v] 37 (0, 0))
theorem RgAt.cells {w : World} {g : Nat} {i : Int} {v : Value} (h : RgAt w g i v) : w.cell? ⟨g, 0, none⟩ = some (.int .i64 i) ∧ w.cell? ⟨g, 1, none⟩ = some v :=
  ⟨by rw [cell_of_row w g 0 _ 37 (0, 0) h]; rfl, by rw [cell_of_row w g 1 _ 37 (0, 0) h]; rfl⟩
theorem RgAt.stays {w w' : World} {B g : Nat} {i : Int} {v : Value} (h : RgAt w g i v) (hb : Below B w w') (hg : g < B) : RgAt w' g i v := (hb.block g hg).trans h
theorem RgAt.lt {w : World} {g : Nat} {i : Int} {v : Value} (h : RgAt w g i v) : g < w.heap.size := (Array.getElem?_eq_some_iff.1 h).1
theorem RgAt.frozen {w : World} {g : Nat} {i : Int} {v : Value} (h : RgAt w g i v) (k : Nat) : w.frozen? ⟨g, k, none⟩ = false := by
  unfold RgAt at h
  simp [World.frozen?, h]

set_option maxRecDepth 100000 in
set_option maxHeartbeats 1000000 in
theorem ringOk_any (i : Int) (ao : Option Addr) (cap : Nat) (ws : List Int) (w : World) (hx : Hid (IntsAt w ao ws)) (hl : ws.length ≤ 1048576) :
    Calls Tryz.prog 52 #[.agg #[.int .i64 i, .slice ao ws.length cap]] w fun e w' => e = .returned (.bool (ringB i ws)) ∧ Below w.heap.size w w' := by
  have HX : ∀ o, Hid (IntsAt (w.alloc o) ao ws) := fun o => hx.out.stays ((Below.refl _ _).alloc (Nat.le_refl _) _)
  unfold ringB
  cases h1 : decide (1 ≤ i ∧ i ≤ 9) with
  | false =>
    go_enter Tryz.func52, Tryz.ntmps52
    go_wp2_with fail
    refine (within_is _ h1).mono ?_
    rintro e w1 ⟨rfl, rfl⟩
    go_wp2_with fail
    go_ret
    exact ⟨rfl, (Below.refl _ _).alloc (Nat.le_refl _) _⟩
  | true =>
    by_cases h2 : 0 < ws.length
    · rw [decide_eq_true h2]
      have h2' : (0 : Int) < (ws.length : Int) := by omega
      go_enter Tryz.func52, Tryz.ntmps52
      go_wp2_with fail
      refine (within_is _ h1).mono ?_
      rintro e w1 ⟨rfl, rfl⟩
      go_wp2_with fail
      refine (daemons_any ao cap ws _ (HX _) hl).mono ?_
      rintro e w1 ⟨rfl, rfl⟩
      go_wp2_with fail
      go_ret
      exact ⟨rfl, (Below.refl _ _).alloc (Nat.le_refl _) _⟩
    · rw [decide_eq_false h2]
      have h2' : ¬ (0 : Int) < (ws.length : Int) := by omega
      go_enter Tryz.func52, Tryz.ntmps52
      go_wp2_with fail
      refine (within_is _ h1).mono ?_
      rintro e w1 ⟨rfl, rfl⟩
      go_wp2_with fail
      go_ret
      exact ⟨rfl, (Below.refl _ _).alloc (Nat.le_refl _) _⟩
end Go.Proofs.YtoahljkifikbaaaGreat


/- Rings that a law sizes, copies, compares and writes over. -/
namespace Go.Proofs.YtoahljkifikbaaaGreat
open Go.RowKit Pl
set_option linter.unusedVariables false

theorem RgAt.set1 {w : World} {g : Nat} {i : Int} {v : Value} (h : RgAt w g i v) (u : Value) : RgAt (w.setCell ⟨g, 1, none⟩ u) g i u := by
  have := heap_setCell_same w g 1 _ 37 u h
  unfold RgAt; rw [this]; rfl
theorem RgAt.turn {w w' : World} {g k : Nat} {i : Int} {v : Value} (h : RgAt w g i v) (hk : TurnAt k w w') (hg : g ≠ k) : RgAt w' g i v := (hk.block g hg).trans h
theorem RgAt.agg {w : World} {g : Nat} {i : Int} {v : Value} (h : RgAt w g i v) (i' : Int) (v' : Value) :
    RgAt ((w.setCell ⟨g, 0, none⟩ (.int .i64 i')).setCell ⟨g, 1, none⟩ v') g i' v' := by
  have h0 := heap_setCell_same w g 0 _ 37 (.int .i64 i') h
  have h1 := heap_setCell_same _ g 1 _ 37 v' h0
  unfold RgAt; rw [h1]; rfl
/-- a list's block is no ring's. -/
theorem own_ring {w w' : World} {B g : Nat} {v : Value} {xs : List Int} {i : Int} {u : Value} (h : OwnI w B v xs) (hu : RgAt w g i u) (ht : TurnAt g w w') : OwnI w' B v xs := by
  refine ⟨h.1, ?_⟩
  rcases h.2 with hn | ⟨k, cap, cur, rfl, hbg, hk, rest⟩
  · exact .inl hn
  · have hne : k ≠ g := by
      rintro rfl
      unfold RgAt at hu
      rw [hk] at hu
      simp at hu
    exact .inr ⟨k, cap, cur, rfl, hbg, (ht.block k hne).trans hk, rest⟩

/-- the block g is a ring that was handed in. -/
def LrgAt (w : World) (g : Nat) (i : Int) (v : Value) : Prop := w.heap[g]? = some (.cells #[.int .i64 i, v] 97 (0, 0))
theorem LrgAt.cells {w : World} {g : Nat} {i : Int} {v : Value} (h : LrgAt w g i v) : w.cell? ⟨g, 0, none⟩ = some (.int .i64 i) ∧ w.cell? ⟨g, 1, none⟩ = some v :=
  ⟨by rw [cell_of_row w g 0 _ 97 (0, 0) h]; rfl, by rw [cell_of_row w g 1 _ 97 (0, 0) h]; rfl⟩
theorem LrgAt.stays {w w' : World} {B g : Nat} {i : Int} {v : Value} (h : LrgAt w g i v) (hb : Below B w w') (hg : g < B) : LrgAt w' g i v := (hb.block g hg).trans h
theorem LrgAt.lt {w : World} {g : Nat} {i : Int} {v : Value} (h : LrgAt w g i v) : g < w.heap.size := (Array.getElem?_eq_some_iff.1 h).1
end Go.Proofs.YtoahljkifikbaaaGreat


/- The walk over the specification's RingOk. -/
namespace Go.Proofs.YtoahljkifikbaaaGreat
open Go.RowKit Pl
set_option linter.unusedVariables false

set_option maxRecDepth 100000 in
set_option maxHeartbeats 4000000 in
theorem spRingOk_2 (i : Int) (ao : Option Addr) (cap : Nat) (ws : List Int) (w : World) (hx : Hid (IntsAt w ao ws)) (h20 : ws.length ≤ 5) (h1 : decide (1 ≤ i ∧ i ≤ 9) = true) (h2 : decide (1 ≤ (ws.length : Int) ∧ (ws.length : Int) ≤ 5) = true) :
    Calls Tryz.prog 99 #[.agg #[.int .i64 i, .slice ao ws.length cap]] w fun e w' => e = .returned (.bool (wGo 0 5 ws)) ∧ Below w.heap.size w w' := by
  have HB : ∀ o : Obj, Hid (Below w.heap.size w (w.alloc o)) := fun o => (Below.refl _ _).alloc (Nat.le_refl _) _
  have HX : ∀ o, Hid (IntsAt (w.alloc o) ao ws) := fun o => hx.out.stays (HB o).out
  have HT : Hid (RgAt (w.alloc (.cells #[.int .i64 i, .slice ao ws.length cap] 37)) w.heap.size i (.slice ao ws.length cap)) := heap_alloc_new w _
  have hB := HB (.cells #[.int .i64 i, .slice ao ws.length cap] 37)
  have hX := HX (.cells #[.int .i64 i, .slice ao ws.length cap] 37)
  clear HB HX hx
  go_enter Tryz.func99, Tryz.ntmps99
  go_wp2_with fail
  refine (in_is _ h1).mono ?_
  rintro e w1 ⟨rfl, rfl⟩
  go_wp2_with fail
  refine (in_is _ h2).mono ?_
  rintro e w1 ⟨rfl, rfl⟩
  go_wp2_with fail
  generalize w.alloc (.cells #[.int .i64 i, .slice ao ws.length cap] 37) = W at *
  go_loopw [3] (fun ix wr => ∃ (k : Nat) (l : Int), k ≤ ws.length ∧ ix = .int .i64 k ∧ Hid (WSt ws 5 k l) ∧ Hid (RgAt wr w.heap.size i (.slice ao ws.length cap)) ∧ Hid (IntsAt wr ao ws) ∧ Hid (Below w.heap.size w wr)) (fun ix _ => ws.length - (intOf ix).toNat)
  case atStart => exact ⟨0, 0, Nat.zero_le _, rfl, wSt_start ws 5, HT.out, hX.out, hB.out⟩
  case round =>
    clear HT hX hB h1 h2
    obtain ⟨k, l, hk, rfl, hst, HT, hX, hB⟩ := hrel
    obtain ⟨c0, c5⟩ := HT.out.cells
    clear c0
    by_cases hlt : k < ws.length
    · obtain ⟨bb, off, hao, hbb, hc⟩ := hX.out k hlt
      obtain ⟨x, ht⟩ : ∃ x, x = ws[k] := ⟨_, rfl⟩
      rw [← ht] at hc
      have HV : Hid (x = ws[k]) := ht
      have i0 : (0 : Int) ≤ (k : Int) := by omega
      have i1 : (k : Int) < (ws.length : Int) := by omega
      have hc' : wr.cell? ⟨bb, off + (k : Int).toNat, none⟩ = some (.int .i64 x) := by rw [Int.toNat_natCast]; exact hc
      by_cases h0 : k = 0
      · have HL : Hid (l = 0) := hst.out.2.2.1 h0
        have hk0 : ¬ 0 < k := by omega
        subst hao
        clear h0 ht
        cases hi : decide (1 ≤ x ∧ x ≤ 5) with
        | false =>
          go_wp2_with fail
          go_quiet (first | (go_at_call 100; exact Calls.quiet_of_same (in_is _ hi)))
          go_wp2_with fail
          go_ret
          have hbad : x ≤ l ∨ 5 < x := by have := HL.out; simp at hi; omega
          exact ⟨by rw [wSt_bad hst.out hlt HV.out hbad]; rfl, below_drewK hB.out _⟩
        | true =>
          go_wp2_with fail
          go_quiet (first | (go_at_call 100; exact Calls.quiet_of_same (in_is _ hi)))
          go_wp2_with fail
          go_roundw
          case rel => exact ⟨k + 1, x, by omega, by go_num, wSt_next hst.out hlt HV.out (by have := HL.out; simp at hi; omega) (by simp at hi; omega), HT.out, hX.out, below_drewK hB.out _⟩
          case measure => simp [intOf]; omega
      · obtain ⟨j, hj⟩ : ∃ j, k = j + 1 := ⟨k - 1, by omega⟩
        have hlj : j < ws.length := by omega
        have HL : Hid (l = ws[j]'hlj ∧ 0 ≤ l) := ⟨hst.out.2.2.2 j hlj hj, hst.out.2.1⟩
        obtain ⟨b2, off2, hao2, _, hc2⟩ := hX.out j hlj
        obtain ⟨rfl, rfl⟩ : b2 = bb ∧ off2 = off := by rw [hao] at hao2; simp at hao2; exact ⟨hao2.1.symm, hao2.2.symm⟩
        rw [← HL.out.1] at hc2
        have hk0 : 0 < k := by omega
        have hw1 : IntKind.i64.wrap ((k : Int) - 1) = (j : Int) := by rw [IntKind.wrap_i64]; omega
        have i2 : (0 : Int) ≤ (j : Int) := by omega
        have i3 : (j : Int) < (ws.length : Int) := by omega
        have hc3 : wr.cell? ⟨b2, off2 + (j : Int).toNat, none⟩ = some (.int .i64 l) := by rw [Int.toNat_natCast]; exact hc2
        subst hao
        have HJ : Hid (k = j + 1) := hj
        clear h0 ht hj hao2
        cases hi : decide (1 ≤ x ∧ x ≤ 5) with
        | false =>
          go_wp2_with fail
          go_quiet (first | (go_at_call 100; exact Calls.quiet_of_same (in_is _ hi)))
          go_wp2_with fail
          go_ret
          have hbad : x ≤ l ∨ 5 < x := by have := HL.out.2; simp at hi; omega
          exact ⟨by rw [wSt_bad hst.out hlt HV.out hbad]; rfl, below_drewK hB.out _⟩
        | true =>
          by_cases hp : x ≤ l
          ·
            go_wp2_with fail
            go_quiet (first | (go_at_call 100; exact Calls.quiet_of_same (in_is _ hi)))
            go_wp2_with fail
            go_ret
            have hbad : x ≤ l ∨ 5 < x := by exact .inl hp
            exact ⟨by rw [wSt_bad hst.out hlt HV.out hbad]; rfl, below_drewK hB.out _⟩
          ·
            go_wp2_with fail
            go_quiet (first | (go_at_call 100; exact Calls.quiet_of_same (in_is _ hi)))
            go_wp2_with fail
            go_roundw
            case rel => exact ⟨k + 1, x, by omega, by go_num, wSt_next hst.out hlt HV.out (by omega) (by simp at hi; omega), HT.out, hX.out, below_drewK hB.out _⟩
            case measure => simp [intOf]; omega
    · go_wp2_with fail
      go_ret
      exact ⟨by rw [wSt_end hst.out (by omega)]; rfl, hB.out⟩

theorem wGo_long {ws : List Int} (h : 5 < ws.length) : wGo 0 5 ws = false := by
  cases hg : wGo 0 5 ws with
  | false => rfl
  | true => have := wGo_len ws 0 hg (by omega); omega

set_option maxRecDepth 100000 in
set_option maxHeartbeats 1000000 in
theorem spRingOk_any (i : Int) (ao : Option Addr) (cap : Nat) (ws : List Int) (w : World) (hx : Hid (IntsAt w ao ws)) (hl : ws.length ≤ 1048576) :
    Calls Tryz.prog 99 #[.agg #[.int .i64 i, .slice ao ws.length cap]] w fun e w' => e = .returned (.bool (ringB i ws)) ∧ Below w.heap.size w w' := by
  unfold ringB
  cases h1 : decide (1 ≤ i ∧ i ≤ 9) with
  | false =>
    go_enter Tryz.func99, Tryz.ntmps99
    go_wp2_with fail
    refine (in_is _ h1).mono ?_
    rintro e w1 ⟨rfl, rfl⟩
    go_wp2_with fail
    go_ret
    exact ⟨rfl, (Below.refl _ _).alloc (Nat.le_refl _) _⟩
  | true =>
    cases h2 : decide (1 ≤ (ws.length : Int) ∧ (ws.length : Int) ≤ 5) with
    | true =>
      have h3 : decide (0 < ws.length) = true := by simp at h2 ⊢; omega
      rw [h3]
      exact spRingOk_2 i ao cap ws w hx (by simp at h2; omega) h1 h2
    | false =>
      have h3 : (decide (0 < ws.length) && wGo 0 5 ws) = false := by
        by_cases h0 : 0 < ws.length
        · rw [wGo_long (by simp at h2; omega)]; simp
        · rw [decide_eq_false h0]; rfl
      rw [h3]
      go_enter Tryz.func99, Tryz.ntmps99
      go_wp2_with fail
      refine (in_is _ h1).mono ?_
      rintro e w1 ⟨rfl, rfl⟩
      go_wp2_with fail
      refine (in_is _ h2).mono ?_
      rintro e w1 ⟨rfl, rfl⟩
      go_wp2_with fail
      go_ret
      exact ⟨rfl, (Below.refl _ _).alloc (Nat.le_refl _) _⟩
end Go.Proofs.YtoahljkifikbaaaGreat


/- The member behind another: slices.Index and both NextOf. -/
namespace Go.Proofs.YtoahljkifikbaaaGreat
open Go.RowKit Pl
set_option linter.unusedVariables false

/-- the first place of d is k. -/
def FirstAt (ms : List Int) (d : Int) (k : Nat) : Prop := ∃ h : k < ms.length, ms[k] = d ∧ ∀ j (hj : j < k), ms[j]'(by omega) ≠ d
/-- d has no place among the first k. -/
def NoneUpto (ms : List Int) (d : Int) (k : Nat) : Prop := ∀ j (hj : j < ms.length), j < k → ms[j] ≠ d
/-- the member behind d. -/
def nextP (i : Int) (ms : List Int) (d : Int) : Int :=
  if ringB i ms then (match ms.findIdx? (fun x => x == d) with | some k => ms.getD ((k + 1) % ms.length) 0 | none => 0) else 0
end Go.Proofs.YtoahljkifikbaaaGreat


/- Of what was there the blocks of a set alone may have turned. -/
namespace Go.Proofs.YtoahljkifikbaaaGreat
open Go.RowKit Pl
set_option linter.unusedVariables false

/-- of what was there the blocks of S alone may have turned. -/
structure Gr (S : Nat → Prop) (w w' : World) : Prop where
  os : w'.os = w.os
  tape : w'.tape = w.tape
  output : w'.output = w.output
  size : w.heap.size ≤ w'.heap.size
  block : ∀ k, k < w.heap.size → ¬ S k → w'.heap[k]? = w.heap[k]?
theorem Gr.refl (S : Nat → Prop) (w : World) : Gr S w w := ⟨rfl, rfl, rfl, Nat.le_refl _, fun _ _ _ => rfl⟩
theorem Gr.trans {S : Nat → Prop} {a b c : World} (h : Gr S a b) (k : Gr S b c) : Gr S a c :=
  ⟨k.os.trans h.os, k.tape.trans h.tape, k.output.trans h.output, Nat.le_trans h.size k.size, fun i hi hs => (k.block i (Nat.lt_of_lt_of_le hi h.size) hs).trans (h.block i hi hs)⟩
theorem Gr.below {S : Nat → Prop} {a b : World} {B : Nat} (h : Gr S a b) (hs : ∀ k, S k → B ≤ k) (hB : B ≤ a.heap.size) : Below B a b := ⟨h.os, h.tape, h.output, h.size, fun k hk => h.block k (by omega) (fun h1 => by have := hs k h1; omega)⟩
end Go.Proofs.YtoahljkifikbaaaGreat


/- The walks over the draws: a byte, a number below another, a text, the cursor made; a drawn text and drawn places. -/
namespace Go.Proofs.YtoahljkifikbaaaGreat
open Go.RowKit Pl
set_option linter.unusedVariables false

theorem cur_cells {w : World} {T : TypeId} {g i n cap : Nat} {h : Int} {ao : Option Addr} (hg : w.heap[g]? = some (.cells #[.slice ao n cap, .int .i64 i, .int .i64 h] T (0, 0))) :
    w.cell? ⟨g, 0, none⟩ = some (.slice ao n cap) ∧ w.cell? ⟨g, 1, none⟩ = some (.int .i64 i) ∧ w.cell? ⟨g, 2, none⟩ = some (.int .i64 h) ∧ (∀ j, w.frozen? ⟨g, j, none⟩ = false) := by
  refine ⟨?_, ?_, ?_, fun j => frozen_of_row w g j _ T hg⟩ <;> rw [cell_of_row w g _ _ T (0, 0) hg] <;> rfl


/-- the cursor g over that slice lies ready in w, and since w0 it alone has turned. -/
def Drw (w0 w : World) (B g : Nat) (ao : Option Addr) (n cap : Nat) : Prop := CurAt w 116 g ao n cap ∧ CodeAt w B ao n ∧ KeepBut g w0 w

theorem Drw.start {w : World} {B g n cap : Nat} {ao : Option Addr} (hc : CurAt w 116 g ao n cap) (hk : CodeAt w B ao n) : Hid (Drw w w B g ao n cap) := ⟨hc, hk, KeepBut.refl g w⟩

theorem CurAt.stays {w w' : World} {B T g n cap : Nat} {ao : Option Addr} (h : CurAt w T g ao n cap) (hb : Below B w w') (hB : g < B) : CurAt w' T g ao n cap := by
  obtain ⟨i, k, h1, h2⟩ := h
  exact ⟨i, k, h1, (hb.block g hB).trans h2⟩

set_option maxRecDepth 100000 in
set_option maxHeartbeats 1000000 in
theorem byte_any (w0 w : World) (B g n cap : Nat) (ao : Option Addr) (hn : n ≤ 1048576) (hB : B ≤ g) (hd : Hid (Drw w0 w B g ao n cap)) :
    Calls Tryz.prog 96 #[.pointer (some ⟨g, 0, none⟩)] w fun e w' => (∃ x : Nat, x < 256 ∧ e = .returned (.int .i64 x)) ∧ Hid (Drw w0 w' B g ao n cap) := by
  suffices hh : Calls Tryz.prog 96 #[.pointer (some ⟨g, 0, none⟩)] w fun e w' => (∃ x : Nat, x < 256 ∧ e = .returned (.int .i64 x)) ∧ CurAt w' 116 g ao n cap ∧ TurnAt g w w' from
    hh.mono fun e w' h => ⟨h.1, (show Drw _ _ _ _ _ _ _ from ⟨h.2.1, hd.out.2.1.stays (h.2.2.below hB) (Nat.le_refl _), hd.out.2.2.trans h.2.2.keep⟩)⟩
  obtain ⟨i, h, hi, hg⟩ := hd.out.1
  obtain ⟨c0, c1, c2, cf⟩ := cur_cells hg
  have hk : Hid (CodeAt w B ao n) := hd.out.2.1
  have cf0 := cf 0
  have cf1 := cf 1
  have cf2 := cf 2
  have HG : Hid (w.heap[g]? = some (.cells #[.slice ao n cap, .int .i64 i, .int .i64 h] 116 (0, 0))) := hg
  clear hg cf hd
  by_cases h1 : i < n
  · obtain ⟨b, off, z, rfl, hb, hz, hz0, hz1⟩ := hk.out i h1
    clear hk
    go_enter Tryz.func96, Tryz.ntmps96
    go_wp2
    generalize wrap64 (wrap64 (h * 6364136223846793005) + 1442695040888963407) = h'
    have HG1 := heap_setCell_same w g 2 _ 116 (Value.int IntKind.i64 h') HG.out
    have HT1 := (TurnAt.refl g w).setCell 2 (Value.int IntKind.i64 h')
    have hz' := (HT1.below (B := g) (Nat.le_refl _)).cell (p := ⟨b, off + i, none⟩) (show b < g by omega)
    rw [hz] at hz'
    generalize w.setCell ⟨g, 2, none⟩ (Value.int IntKind.i64 h') = W at *
    obtain ⟨d0, d1, d2, df⟩ := cur_cells HG1
    have df1 := df 1
    have HG2 : Hid _ := HG1
    have HT2 : Hid _ := HT1
    clear c0 c1 c2 cf0 cf1 cf2 HG hz HG1 HT1 df
    go_quiet (fail)
    go_wp2
    obtain ⟨x, hx1, hx⟩ := and255 (bits BinOp.xor IntKind.i64 (h' / 8589934592) (h' / 35184372088832))
    rw [hx]
    clear hx
    have hlt : decide ((i : Int) < (n : Int)) = true := by simp; omega
    have hi0 : (0 : Int) ≤ (i : Int) := by omega
    have hi1 : (i : Int) < (n : Int) := by omega
    have hwx : IntKind.i64.wrap ((x : Int) + z) = (x : Int) + z := by rw [IntKind.wrap_i64]; omega
    go_quiet (fail)
    go_wp2
    go_quiet (fail)
    go_wp2
    go_ret
    obtain ⟨y, hy1, hy⟩ := and255 ((x : Int) + z)
    refine ⟨⟨y, hy1, by rw [← hy]; rfl⟩, ⟨i + 1, h', by omega, ?_⟩, (HT2.out.drewN _).setCell 1 _⟩
    exact heap_setCell_same (W.drewN _) g 1 _ 116 (Value.int IntKind.i64 ((i : Int) + 1)) HG2.out
  · clear hk
    go_enter Tryz.func96, Tryz.ntmps96
    go_wp2
    generalize wrap64 (wrap64 (h * 6364136223846793005) + 1442695040888963407) = h'
    have HG1 := heap_setCell_same w g 2 _ 116 (Value.int IntKind.i64 h') HG.out
    have HT1 := (TurnAt.refl g w).setCell 2 (Value.int IntKind.i64 h')
    generalize w.setCell ⟨g, 2, none⟩ (Value.int IntKind.i64 h') = W at *
    obtain ⟨d0, d1, d2, df⟩ := cur_cells HG1
    have HG2 : Hid _ := HG1
    have HT2 : Hid _ := HT1
    clear c0 c1 c2 cf0 cf1 cf2 HG HG1 HT1 df
    go_quiet (fail)
    go_wp2
    obtain ⟨x, hx1, hx⟩ := and255 (bits BinOp.xor IntKind.i64 (h' / 8589934592) (h' / 35184372088832))
    rw [hx]
    clear hx
    have hlt : decide ((i : Int) < (n : Int)) = false := by simp; omega
    go_quiet (fail)
    go_wp2
    go_ret
    exact ⟨⟨x, hx1, rfl⟩, ⟨i, h', hi, HG2.out⟩, (HT2.out.drewN _).drewN _⟩

set_option maxRecDepth 100000 in
set_option maxHeartbeats 1000000 in
theorem below_small (w0 w : World) (B g n cap m : Nat) (ao : Option Addr) (hn : n ≤ 1048576) (hB : B ≤ g) (hm0 : 0 < m) (hm : m ≤ 256) (hd : Hid (Drw w0 w B g ao n cap)) :
    Calls Tryz.prog 45 #[.pointer (some ⟨g, 0, none⟩), .int .i64 m] w fun e w' => (∃ x : Nat, x < m ∧ e = .returned (.int .i64 x)) ∧ Hid (Drw w0 w' B g ao n cap) := by
  go_enter Tryz.func45, Tryz.ntmps45
  go_wp2_with (first | (go_at_call 96; refine (byte_any w0 _ B g n cap ao hn hB (by assumption)).mono ?_; rintro e w1 ⟨⟨x, hx, rfl⟩, hd1⟩))
  go_ret
  exact ⟨⟨x % m, Nat.mod_lt _ hm0, rfl⟩, hd1⟩

set_option maxRecDepth 100000 in
set_option maxHeartbeats 1000000 in
theorem new_any (w : World) (n cap : Nat) (ao : Option Addr) (hn : n ≤ 1048576) (hk : Hid (CodeAt w w.heap.size ao n)) :
    Calls Tryz.prog 33 #[.slice ao n cap] w fun e w' => e = .returned (.pointer (some ⟨w.heap.size, 0, none⟩)) ∧ Hid (CurAt w' 116 w.heap.size ao n cap) ∧ Below w.heap.size w w' ∧ w'.heap.size = w.heap.size + 1 := by
  go_enter Tryz.func33, Tryz.ntmps33
  go_wp2
  go_loop [3, 4] (fun v i => ∃ (h : Int) (k : Nat), v = .int .i64 h ∧ i = .int .i64 k ∧ k ≤ n) (fun _ i => n - (intOf i).toNat)
  case atStart => exact ⟨_, 0, rfl, rfl, by omega⟩
  case round =>
    obtain ⟨h, k, rfl, rfl, hkn⟩ := hrel
    by_cases h1 : k < n
    · by_cases h2 : k < 4000
      · obtain ⟨b, off, z, rfl, hb, hz, hz0, hz1⟩ := hk.out k h1
        go_wp2
        go_round
        case rel => exact ⟨_, k + 1, rfl, by go_num, by omega⟩
        case measure => simp [intOf]; omega
      · go_wp2
        go_ret
        exact ⟨rfl, (show CurAt _ _ _ _ _ _ from ⟨0, h, by omega, heap_alloc_new w _⟩), (Below.refl _ _).alloc (Nat.le_refl _) _, by simp⟩
    · go_wp2
      go_ret
      exact ⟨rfl, (show CurAt _ _ _ _ _ _ from ⟨0, h, by omega, heap_alloc_new w _⟩), (Below.refl _ _).alloc (Nat.le_refl _) _, by simp⟩

theorem Drw.lt {w0 w : World} {B g n cap : Nat} {ao : Option Addr} (h : Drw w0 w B g ao n cap) : g < w.heap.size := by
  obtain ⟨i, k, _, h2⟩ := h.1
  exact (Array.getElem?_eq_some_iff.1 h2).1

/-- A call that only lays new blocks leaves the cursor as it is. -/
theorem Drw.step {w0 w w' : World} {B g n cap : Nat} {ao : Option Addr} (h : Drw w0 w B g ao n cap) (hB : B ≤ g) (hb : Below w.heap.size w w') : Drw w0 w' B g ao n cap :=
  have hlt := h.lt
  ⟨CurAt.stays h.1 hb hlt, h.2.1.stays hb (by omega), h.2.2.trans (keep_of_below hb)⟩

theorem Drw.alloc {w0 w : World} {B g n cap : Nat} {ao : Option Addr} (h : Drw w0 w B g ao n cap) (hB : B ≤ g) (o : Obj) : Drw w0 (w.alloc o) B g ao n cap := h.step hB ((Below.refl _ _).alloc (Nat.le_refl _) _)

end Go.Proofs.YtoahljkifikbaaaGreat


/- The walk over a draw that is met once in so many. -/
namespace Go.Proofs.YtoahljkifikbaaaGreat
open Go.RowKit Pl
set_option linter.unusedVariables false

set_option maxRecDepth 100000 in
set_option maxHeartbeats 1000000 in
theorem once_any (w0 w : World) (B g n cap m : Nat) (ao : Option Addr) (hn : n ≤ 1048576) (hB : B ≤ g) (hm0 : 0 < m) (hm : m ≤ 256) (hd : Hid (Drw w0 w B g ao n cap)) :
    Calls Tryz.prog 95 #[.pointer (some ⟨g, 0, none⟩), .int .i64 m] w fun e w' => (∃ b : Bool, e = .returned (.bool b)) ∧ Hid (Drw w0 w' B g ao n cap) := by
  go_enter Tryz.func95, Tryz.ntmps95
  go_wp2_with (first | (go_at_call 45; refine (below_small w0 _ B g n cap m ao hn hB hm0 hm (by assumption)).mono ?_; rintro e w1 ⟨⟨x, hx, rfl⟩, hd1⟩))
  go_ret
  exact ⟨⟨_, rfl⟩, hd1⟩

end Go.Proofs.YtoahljkifikbaaaGreat


