/- The walk over the places at which a text is cut: each brought within the text, sorted, each once. -/
import Derived.Test.YtjjaklhpdckppaaDoorChecked
import Derived.Test.YtjjaklhpdckppaaDoorCl
import Derived.Test.YtjjaklhpdckppaaDoorCt
import Derived.Test.YtjjaklhpdckppaaDoorOwI
import Derived.Test.YtjjaklhpdckppaaDoorOwS
import Derived.Test.YtjjaklhpdckppaaDoorSrt
import Derived.Sort.OwnSortedInts
import Derived.Deep.RegionHeld3
import Derived.Deep.QuietTactic
import Derived.BigQuiet
namespace Go.Proofs.YtjjaklhpdckppaaDoor
open Go.RowKit Go.Sort Pl
set_option linter.unusedVariables false

theorem Tryd.info3' : (Tryd.prog.info? 3).map (fun i => (i.zero, i.size, i.bytes)) = some (some (.int .i64 0), 1, 8) := by kernel_rfl

/-- the slice of ints v, made by the call, and not nil. -/
def OwnN (w : World) (B : Nat) (v : Value) (xs : List Int) : Prop := OwnI w B v xs ∧ v ≠ .slice none 0 0

theorem wpList_pushN {P : Program} {w : World} {ops : Array Oper} {rest : List Oper} {o : Oper} {a : Act} {Q : Exit → Act → World → Prop}
    (hgd : o.guard = none) (s x : Operand) (t : TypeId) (ho : o.op = .call { callee := .builtin .append, args := #[s, x], argTypes := #[t, t] })
    (ht : P.underlying t = some (.slice 3)) (hinfo : (P.info? 3).map (fun i => (i.zero, i.size, i.bytes)) = some (some (.int .i64 0), 1, 8))
    (B : Nat) (v : Value) (xs : List Int) (hs : a.eval s = v) (hown : OwnN w B v xs) (b : Int)
    (hx : a.eval x = .slice (some ⟨w.heap.size, 0, none⟩) 1 1) (hn : xs.length < 4000000) (hB : B ≤ w.heap.size)
    (h : ∀ v' w', OwnN w' B v' (xs ++ [b]) → Below B w w' → wpList P ops Q rest (a.put o.dst v') w') :
    wpList P ops Q (o :: rest) a (w.alloc (.cells #[.int .i64 b] 3)) := by
  obtain ⟨i0, hi, hz0, hz1, hz2⟩ := info_parts hinfo
  refine wpList_append_own _ hgd s x t ho B 3 i0 (.int .i64 0) 1 8 ht hi hz0 hz1 hz2 rfl (by decide) v xs.length (xs.map (Value.int .i64)) hs (World.ownsRow.alloc hown.1 _) ⟨w.heap.size, 0, none⟩ 1 1 [.int .i64 b] hx rfl ?_ ?_ ?_ ?_ ?_ ?_
  · intro j u hj
    match j, hj with
    | 0, hj => simp at hj; subst hj; simp [Addr.add]
  · intro u hu; simp at hu; subst hu; rfl
  · unfold maxLen; omega
  · omega
  · simp; omega
  · intro v' w' hown' hg hnil
    refine h v' w' ⟨?_, fun e => by have := (hnil.1 e).2; omega⟩ ?_
    · simpa [OwnI] using hown'
    · refine ((Below.refl B w).alloc hB _).grown hg (by simp; omega) ?_
      intro k hk
      exact (World.ownsRow.lt hown.1 k hk).1

/-- the first k places, each within the text. -/
def within (n : Nat) (zs : List Int) (k : Nat) : List Int := (zs.take k).map fun z => ((cutN n z : Nat) : Int)
theorem within_next {n : Nat} {zs : List Int} {k : Nat} (hk : k < zs.length) : within n zs (k + 1) = within n zs k ++ [((cutN n zs[k] : Nat) : Int)] := by
  unfold within; rw [List.take_succ_eq_append_getElem hk, List.map_append]; rfl
theorem within_len {n : Nat} {zs : List Int} {k : Nat} (hk : k ≤ zs.length) : (within n zs k).length = k := by
  unfold within; rw [List.length_map, List.length_take]; omega

theorem neg_lt_tmod (n : Nat) (z : Int) : -((n : Int) + 1) < Int.tmod z ((n : Int) + 1) := by
  have h2 := Int.tmod_lt_of_pos (-z) (show (0 : Int) < (n : Int) + 1 by omega)
  rw [Int.neg_tmod] at h2
  omega

/-- behind sort and compact the cells hold the places. -/
theorem cuts_cells {w : World} {g q : Nat} {cap : Nat} {e : TypeId} {cur : Array Value} {zs ts : List Int} (hb : w.heap[g]? = some (.cells cur e (0, 0))) (h1 : zs.length ≤ cap) (h2 : cap ≤ maxLen) (h3 : cur.size = cap * 1) (hl : ts.length ≤ zs.length) :
    IntsAt (putRow (Value.int .i64) (Sort.ahead w q) g 0 (ts ++ List.replicate (zs.length - ts.length) 0).toArray) (some ⟨g, 0, none⟩) ts := by
  have hlen : (ts ++ List.replicate (zs.length - ts.length) (0 : Int)).length = zs.length := by simp; omega
  have h := ownsRow_sortedI (n := q) (os := #[]) (ts := ts ++ List.replicate (zs.length - ts.length) 0) (base := 0) hlen (Nat.zero_le _) hb h1 h2 h3
  rw [grow_empty] at h
  intro i hi
  refine ⟨g, 0, rfl, ?_, ?_⟩
  · have := (Array.getElem?_eq_some_iff.1 hb).1
    simpa [putRow, mapBlock, Sort.ahead] using this
  · have h4 := h.cellAt i (by simp; omega)
    rw [Nat.zero_add, h4]
    simp [hi, List.getElem?_append_left]

set_option maxRecDepth 100000 in
set_option maxHeartbeats 2000000 in
theorem cutsw_any (w : World) (n : Nat) (ao : Option Addr) (cap : Nat) (zs : List Int) (hx : Hid (IntsAt w ao zs)) (hl : zs.length ≤ 1048576) (hn : n ≤ 1048576) :
    Calls Tryd.prog 26 #[.int .i64 n, .slice ao zs.length cap] w fun e w' => ∃ ao' cap', e = .returned (.slice ao' (cutsL n zs).length cap') ∧ IntsAt w' ao' ((cutsL n zs).map fun c : Nat => (c : Int)) ∧ Below w.heap.size w w' := by
  obtain ⟨i0, hi, hz0, hz1, hz2⟩ := info_parts Tryd.info3'
  go_enter Tryd.func26, Tryd.ntmps26
  go_wp2_with (first
    | (at_make; refine wpList_make_own _ rfl _ _ 29 rfl w.heap.size 3 i0 (.int .i64 0) 1 Tryd.underlying29 hi hz0 hz1 _ _ _ zs.length rfl rfl rfl (by rw [hz2]; omega) (by unfold maxLen; omega) (Nat.le_refl _) ?_; intro w1 hrow1 hg1)
    | go_in)
  have hb1 : Below w.heap.size w w1 := (Below.refl _ _).grown hg1 (Nat.le_refl _) (fun j hj => by cases hj)
  go_loopw [5, 14] (fun v i wr => ∃ k : Nat, k ≤ zs.length ∧ i = .int .i64 k ∧ OwnN wr w.heap.size v (within n zs k) ∧ Below w.heap.size w wr) (fun _ i _ => zs.length - (intOf i).toNat)
  case atStart => exact ⟨0, by omega, rfl, ⟨by simpa [OwnI, within] using hrow1, by simp⟩, hb1⟩
  case round =>
    obtain ⟨k, hk, rfl, hown, hb⟩ := hrel
    have hsz := hb.size
    by_cases hlt : k < zs.length
    · obtain ⟨b, off, rfl, hbb, hc⟩ := hx.out k hlt
      have hc' : wr.cell? ⟨b, off + k, none⟩ = some (.int .i64 zs[k]) := (hb.cell (p := ⟨b, off + k, none⟩) hbb).trans hc
      obtain ⟨z, hz⟩ : ∃ z, z = zs[k] := ⟨_, rfl⟩
      rw [← hz] at hc'
      have HN : Hid (within n zs (k + 1) = within n zs k ++ [((cutN n z : Nat) : Int)]) := by rw [hz]; exact within_next hlt
      have hwl : (within n zs k).length < 4000000 := by rw [within_len hk]; omega
      have ht1 := Int.tmod_lt_of_pos z (show (0 : Int) < (n : Int) + 1 by omega)
      have ht2 := neg_lt_tmod n z
      clear hz hc
      by_cases h0 : 0 ≤ Int.tmod z ((n : Int) + 1)
      · have hd : decide (Int.tmod z ((n : Int) + 1) < 0) = false := by simp; omega
        rw [cutN_pos h0] at HN
        go_wp2_with (first | (at_builtin; refine wpList_pushN rfl _ _ 29 rfl Tryd.underlying29 Tryd.info3' w.heap.size _ (within n zs k) rfl hown _ rfl hwl (by omega) ?_; intro v2 w2 hown2 hb2))
        go_roundw
        case rel => exact ⟨k + 1, by omega, by go_num, by rw [HN.out]; exact hown2, hb.trans hb2⟩
        case measure => simp [intOf]; omega
      · have hd : decide (Int.tmod z ((n : Int) + 1) < 0) = true := by simp; omega
        rw [cutN_neg (by omega)] at HN
        go_wp2_with (first | (at_builtin; refine wpList_pushN rfl _ _ 29 rfl Tryd.underlying29 Tryd.info3' w.heap.size _ (within n zs k) rfl hown _ rfl hwl (by omega) ?_; intro v2 w2 hown2 hb2))
        go_roundw
        case rel => exact ⟨k + 1, by omega, by go_num, by rw [HN.out]; exact hown2, hb.trans hb2⟩
        case measure => simp [intOf]; omega
    · obtain rfl : k = zs.length := by omega
      have hnn := hown.2
      rcases hown.1.2 with ⟨hnil, _⟩ | ⟨g, cap2, cur, rfl, hbase, hbk, h1, h2, h3, h4⟩
      · exact absurd hnil hnn
      have hW : within n zs zs.length = zs.map fun z => ((cutN n z : Nat) : Int) := by unfold within; rw [List.take_length]
      have hWl : (within n zs zs.length).length = zs.length := within_len (Nat.le_refl _)
      clear hown hnn
      generalize within n zs zs.length = ys at *
      have hyl : ys.length ≤ 1048576 := by omega
      have hH : Holds (Value.int .i64) wr g 0 ys.toArray := holds_of_blockI hbk (by rw [Nat.mul_one] at h4; exact h4)
      have hgl : g < wr.heap.size := (Array.getElem?_eq_some_iff.1 hbk).1
      have hcall := sort_any g 0 cap2 ys wr hH hgl (by omega)
      have HB : Hid (wr.heap[g]? = some (.cells cur 3 (0, 0))) := hbk
      have HC : Hid (Lib.compact (ys.mergeSort fun x y => decide (x ≤ y)) = (cutsL n zs).map fun c : Nat => (c : Int)) := by rw [hW]; exact comp_cuts n zs
      have HL : Hid ((cutsL n zs).length ≤ ys.length) := by rw [hWl]; exact cutsL_length n zs
      clear hH hbk hW h4
      obtain ⟨ms, hms⟩ : ∃ ms, ms = ys.mergeSort fun x y => decide (x ≤ y) := ⟨_, rfl⟩
      have hml : ms.length = ys.length := by rw [hms, List.length_mergeSort]
      rw [← hms] at hcall HC
      clear hms hWl
      go_wp2_with fail
      refine hcall.mono ?_
      clear hcall
      rintro e w3 ⟨rfl, nn, os, hw3⟩
      have hb3 : Below w.heap.size w w3 := by rw [hw3]; exact hb.grown (grownBy_sortedI _) hb.size (fun j hj => by cases hj; omega)
      have hown3 := ownsRow_sortedI (n := nn) (os := os) (ts := ms) (ss := ys) hml (Nat.zero_le g) HB.out h1 h2 h3
      rw [← hw3] at hown3
      rcases hown3.2 with ⟨hnil, _⟩ | ⟨g', cap', cur3, he, _, hbk3, h31, h32, h33, h34⟩
      · cases hnil
      cases he
      have HB3 : Hid (w3.heap[g]? = some (.cells cur3 3 (0, 0))) := hbk3
      have hcall := compact_any g 0 cap2 ms w3 (holds_of_blockI hbk3 (by rw [hml]; rw [Nat.mul_one] at h34; exact h34)) (by omega) (by omega)
      rw [hml] at hcall
      clear hw3 hown3 hbk3 h34
      go_wp2_with fail
      refine hcall.mono ?_
      clear hcall
      rintro e w4 ⟨rfl, q, hw4⟩
      rw [HC.out, List.length_map] at hw4 ⊢
      go_wp2
      go_ret
      refine ⟨_, _, rfl, ?_, ?_⟩
      · have := cuts_cells (q := q) (ts := (cutsL n zs).map fun c : Nat => (c : Int)) HB3.out h31 h32 h33 (by rw [List.length_map]; exact HL.out)
        rw [List.length_map] at this
        exact this
      · rw [← grow_empty (putRow _ _ _ _ _)]
        exact hb3.grown (grownBy_sortedI _) hb3.size (fun j hj => by cases hj; omega)
end Go.Proofs.YtjjaklhpdckppaaDoor
