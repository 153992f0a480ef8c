/- The walk over the program's SortNames: the texts into a set, its keys gathered, the library's sort. -/
import Derived.Test.YtbdnnmcjnfbloaaT3
import Derived.Test.YtbdnnmcjnfbloaaSrt
import Derived.Maps.OwnSet
import Derived.Maps.RangeWalk
import Derived.Maps.AppendAt
namespace Go.Proofs.Ytbdnnmcjnfbloaa
open Go.RowKit Go.Maps Go.Sort Pl
set_option linter.unusedVariables false

theorem law9 : Keyed Try.prog 9 := string_keyed Try.underlying9

theorem makeHint (z : Int) (w : World) : (Instr.makeMap 36 (some (.int .i64 z))).run Try.prog w = .ok (.map (some w.heap.size)) (w.alloc (.map #[] 0)) := by
  simp [Instr.makeMap, asInt, asIntOf, Result.andThen]

/-- the set's keys are the texts. -/
def Keys (D : DataW Unit) (ts : List ByteArray) : Prop := ∀ x : List UInt8, Maps.has D (.string x) = true ↔ mkT x ∈ ts

theorem keys_nil : Keys (.map []) [] := fun x => by simp [Maps.has_eq]
theorem keys_step {D : DataW Unit} {ts : List ByteArray} (h : Keys D ts) (hD : IsMap D) (t : ByteArray) (d : DataW Unit) : Keys (D.put (.string t.data.toList) d) (ts ++ [t]) := by
  intro x
  by_cases e : x = t.data.toList
  · subst e
    rw [Maps.has_put_same hD (show WideAt.IsKeyLit (.string t.data.toList) from trivial) d]
    simp [mkT_of]
  · rw [Maps.has_put_other (fun hh => e (by simpa using hh)) d, h x]
    simp only [List.mem_append, List.mem_singleton]
    constructor
    · exact .inl
    · rintro (h | h)
      · exact h
      · exact absurd (by rw [← h, mkT_list]) e

theorem row_stays {w w' : World} {B B' : Nat} {e : TypeId} {size : Nat} {v : Value} {n : Nat} {xs : List Value} (h : w.ownsRow B e size v n xs) (hb : Below B' w w') (hlt : ∀ k, v.ownBlock = some k → k < B') : w'.ownsRow B e size v n xs := by
  refine ⟨h.1, ?_⟩
  rcases h.2 with hn | ⟨g, cap, cur, rfl, hbg, hg, rest⟩
  · exact .inl hn
  · refine .inr ⟨g, cap, cur, rfl, hbg, ?_, rest⟩
    rw [hb.block g (hlt g rfl)]
    exact hg

set_option maxRecDepth 100000 in
set_option maxHeartbeats 4000000 in
theorem implSort (w : World) (ao : Option Addr) (cap : Nat) (ts : List ByteArray) (hx : Hid (TextsAt w ao ts)) (hf : Hid (Few ts)) :
    Calls Try.prog 8 #[.slice ao ts.length cap] w fun e w' => ∃ v us, e = .returned v ∧ SetOf ts us ∧ us.length ≤ ts.length ∧ OwnS w' w.heap.size v us ∧ Below w.heap.size w w' := by
  obtain ⟨i0, hi, hz0, hz1, hz2⟩ := info_parts Try.info9
  have hmm := makeHint
  have hl : ts.length ≤ 1048576 := hf.out.1
  go_enter Try.func8, Try.ntmps8
  go_wp2
  go_loopw [13] (fun i wr => ∃ k : Nat, k ≤ ts.length ∧ i = .int .i64 k ∧ (∃ D : DataW Unit, wr.ownsMap Try.prog 9 unitElem w.heap.size k D ∧ Hid (Keys D (ts.take k))) ∧ Below w.heap.size w wr) (fun i _ => ts.length - (intOf i).toNat)
  case atStart => exact ⟨0, by omega, rfl, ⟨_, World.ownsMap_made _ _ _ _, keys_nil⟩, (Below.refl _ _).alloc (Nat.le_refl _) _⟩
  case round =>
    obtain ⟨k, hk, rfl, ⟨D, hown, hks⟩, hb⟩ := hrel
    have hsz := hb.size
    by_cases hlt : k < ts.length
    · obtain ⟨b, off, rfl, hbb, hc⟩ := hx.out k hlt
      have hc' : wr.cell? ⟨b, off + k, none⟩ = some (.string ts[k]) := (hb.cell (p := ⟨b, off + k, none⟩) hbb).trans hc
      obtain ⟨t, ht⟩ : ∃ t, t = ts[k] := ⟨_, rfl⟩
      have hts : t.size ≤ 1048576 := by rw [ht]; exact hf.out.2 _ (List.getElem_mem hlt)
      rw [← ht] at hc'
      have HK : Hid (∀ d, Keys (D.put (.string t.data.toList) d) (ts.take (k + 1))) := by
        show ∀ d, _
        intro d
        rw [List.take_succ_eq_append_getElem hlt, ← ht]
        exact keys_step hks.out hown.isMap t d
      have hkey : keyOf Try.prog 9 (.string t) = some (.string t.data.toList) := WideMaps.keyOf_string_mk Try.underlying9 (by unfold maxLen; omega)
      clear ht hc
      go_wp2_with (first
        | (at_mapUpdate; refine wpList_mapUpdate_own _ rfl _ _ _ 36 rfl 9 37 law9 Try.underlying36 (unitElem (H := Unit)) w.heap.size k _ rfl hown (by unfold maxLen; omega) _ _ _ rfl rfl hkey _ [] unitElem_mk ?_; intro w1 hown1 hgrow1; go_frame)
        | go_in)
      go_roundw
      case rel => exact ⟨k + 1, by omega, by go_num, ⟨_, hown1, HK.out _⟩, hb.grown hgrow1 hsz (fun j hj => by cases hj; exact Nat.le_refl _)⟩
      case measure => simp [intOf]; omega
    · obtain rfl : k = ts.length := by omega
      have hbl := hown.lt
      have hkk : Keys D ts := by have := hks.out; rwa [List.take_length] at this
      have HKK : Hid (Keys D ts) := hkk
      have hsize : Maps.size D ≤ ts.length := hown.size_le
      clear hks hkk
      go_wp2_with (first
        | (at_len; refine wpList_len_own _ rfl _ 36 rfl 9 37 Try.underlying36 _ w.heap.size ts.length _ rfl hown ?_)
        | (at_make; refine wpList_make_own _ rfl _ _ 24 rfl (w.heap.size + 1) 9 i0 (.string ⟨#[]⟩) 1 Try.underlying24 hi hz0 hz1 _ _ _ (Maps.size D) rfl rfl rfl (by rw [hz2]; omega) (by unfold maxLen; omega) (by omega) ?_; intro w1 hrow1 hg1)
        | (at_range; refine wpList_range_own _ rfl _ 36 rfl 9 37 law9 Try.underlying36 _ w.heap.size ts.length _ rfl (hown.kept hg1 (by simp)) ?_; intro w0 hrg0 hg0 hs0)
        | go_in)
      go_frame
      have hb1 : Below w.heap.size w w1 := hb.grown hg1 hsz (fun j hj => by cases hj)
      have hb0 : Below w.heap.size w w0 := hb1.grown hg0 hb1.size (fun j hj => by cases hj)
      have hbB : w.heap.size + 1 ≤ w1.heap.size := Nat.le_trans (by omega) hg1.size
      clear hs0
      go_loopw [6] (fun v wr => ∃ (left : Lit → Bool) (cnt : Nat) (ss : List (List UInt8)), wr.ranges Try.prog 9 unitElem w.heap.size w1.heap.size ts.length D left cnt ∧ ss.length + cnt ≤ Maps.size D ∧
          wr.ownsRow (w.heap.size + 1) 9 1 v ss.length (ss.map encStr) ∧ v ≠ .slice none 0 0 ∧ Hid (Collected D left ss) ∧ w1.heap.size ≤ wr.heap.size ∧ Below w.heap.size w wr)
        (fun _ wr => wr.rangeLeft w.heap.size w1.heap.size)
      case atStart =>
        exact ⟨_, _, [], hrg0, by simp, hrow1.kept hg0 (Or.inr (by simp [Value.ownBlock])), by simp, Collected.start D, hg0.size, hb0⟩
      case round =>
        obtain ⟨left, cnt, ss, hrg, hcs, hrow, hnn, hC, hw1, hnx⟩ := hrel
        have hwsz := hnx.size
        go_wp2_with (first
          | (at_next; refine wpList_next_ranges _ rfl _ rfl 9 law9 (unitElem (H := Unit)) encStr (fun _ : Unit => Value.agg #[]) (fun key kl hk => by obtain ⟨x, hx, _⟩ := Maps.keyOf_str Try.underlying9 hk; exact ⟨x, hx⟩) (fun v y hv => by obtain ⟨rfl, _⟩ := unitElem_inv hv; exact ⟨(), rfl⟩) w.heap.size w1.heap.size ts.length _ _ _ rfl hrg ?_ ?_)
          | go_in)
        · intro hc0 hl0
          rcases hrow.2 with ⟨hnil, _⟩ | ⟨g, cap, cur, rfl, hbase, hbk, h1, h2, h3, h4⟩
          · exact absurd hnil hnn
          have hH : Holds encStr wr g 0 ss.toArray := holds_of_block hbk (by simpa using h4)
          have hgl : g < wr.heap.size := (Array.getElem?_eq_some_iff.1 hbk).1
          have hcall := sort_any g 0 cap ss wr hH hgl (by omega)
          have HB : Hid (wr.heap[g]? = some (.cells cur 9 (0, 0))) := hbk
          have HS : Hid (SetOf ts ((ss.mergeSort fun x y => decide (x ≤ y)).map mkT)) := by
            refine sorted_setOf hC.out.1 fun x => ?_
            rw [← HKK.out x, hC.out.2 x, hl0]
            simp
          clear hH hbk
          go_wp2_with (go_at_call 23; refine hcall.mono ?_; rintro e w' ⟨rfl, nn, os, rfl⟩)
          go_ret
          refine ⟨_, _, rfl, HS.out, ?_, ?_, ?_⟩
          · rw [List.length_map, List.length_mergeSort]; omega
          · have := ownsRow_sorted (n := nn) (os := os) (ts := ss.mergeSort fun x y => decide (x ≤ y)) (ss := ss) (by simp) (show w.heap.size ≤ g by omega) HB.out h1 h2 h3
            rw [enc_mk] at this
            unfold OwnS
            rw [List.length_map, List.length_mergeSort]
            exact this
          · exact hnx.grown (grownBy_sorted _) hnx.size (fun j hj => by cases hj; omega)
        · intro x kl yd yp w2 cnt2 hkey hlk hv hat hrg2 hlt hg2 hs2 hen
          obtain ⟨x', ex, rfl, _⟩ := Maps.keyOf_str Try.underlying9 hkey
          obtain rfl : x = x' := encStr_inj ex
          have hxs : (mkT x).size ≤ 1048576 := hf.out.2 _ ((HKK.out x).1 (Maps.has_true_of_atKey hat))
          have hrow2 := hrow.kept hg2 (Or.inr (row_ne_iter hrow hrg).symm)
          have hb2 : Below w.heap.size w w2 := hnx.grown hg2 hnx.size (fun j hj => by cases hj; omega)
          have hsz2 : w1.heap.size ≤ w2.heap.size := Nat.le_trans hw1 hg2.size
          clear hs2
          go_wp2_with (first
            | (go_at_call 22; refine (clone_any (mkT x) _ hxs).mono ?_; rintro e w3 ⟨rfl, hb3⟩; have hrow3 := row_stays hrow2 hb3 (fun k hk => (hrow2.lt k hk).2); have hs3 := hb3.size)
            | (at_builtin; refine wpList_append_own _ rfl _ _ 24 rfl (w.heap.size + 1) 9 i0 (.string ⟨#[]⟩) 1 16 Try.underlying24 hi hz0 hz1 hz2 rfl (by decide) _ _ _ rfl (hrow3.alloc _) ⟨w3.heap.size, 0, none⟩ 1 1 [encStr x] rfl rfl (cell_one_new _ _ _) (by simp [Value.oneCell', encStr]) (by unfold maxLen at *; omega) (by omega) (by simp; omega) ?_; intro v' w4 hown' hg4 hnil4; go_frame)
            | go_in)
          have hrg3 := hrg2.kept (grown_below hb3 (row := none)) (by simp) (by simp)
          have hrg4 := (hrg3.alloc _).kept hg4 (row_ne_low hrow3 (Nat.lt_succ_self _)) (row_ne_iter hrow3 hrg3)
          go_roundw
          case rel =>
            refine ⟨_, cnt2, ss ++ [x], hrg4, by simp; omega, by simpa using hown', fun hv' => by have := (hnil4.1 hv').2; omega, hC.out.step hlk hat, ?_, ?_⟩
            · have := hg4.size
              simp at this
              omega
            · exact ((hb2.trans (hb3.mono hb2.size)).alloc (Nat.le_trans hb2.size hs3) _).grown hg4 (by simp; omega) (fun j hj => Nat.le_of_succ_le (hrow3.lt j hj).1)
          case measure => rw [hrg4.left_eq, hrg.left_eq]; exact hlt
end Go.Proofs.Ytbdnnmcjnfbloaa
