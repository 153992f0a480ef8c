/- The item that has a number: the walks over store.at and over both ItemAt. -/
import Derived.Test.YthdjkkiegecgnaaNu
namespace Go.Proofs.Ythdjkkiegecgnaa
open Go.RowKit Pl
set_option linter.unusedVariables false

/-- the first item that has the number n. -/
def atP (ts : List It) (n : Int) : Option It := ts.find? fun x => decide (x.1 = n)
/-- whether one has it. -/
def hasP (ts : List It) (n : Int) : Bool := (atP ts n).isSome
theorem atP_here {ts : List It} {n : Int} {k : Nat} (hk : k < ts.length) (hn : ts[k].1 = n) (h : ∀ x ∈ ts.take k, ¬ x.1 = n) : atP ts n = some ts[k] := by
  unfold atP
  have e : ts.find? (fun x => decide (x.1 = n)) = (ts.take k ++ ts.drop k).find? (fun x => decide (x.1 = n)) := by rw [List.take_append_drop]
  rw [e, List.find?_append, List.find?_eq_none.2 (fun x hx => by simpa using h x hx), List.drop_eq_getElem_cons hk, List.find?_cons_of_pos (by simpa using hn)]
  rfl
theorem atP_none {ts : List It} {n : Int} (h : ∀ x ∈ ts, ¬ x.1 = n) : atP ts n = none := by
  unfold atP
  exact List.find?_eq_none.2 fun x hx => by simpa using h x hx
theorem hasP_iff {ts : List It} {n : Int} : hasP ts n = true ↔ ∃ x ∈ ts, x.1 = n := by
  unfold hasP atP
  simp
theorem take_step {ts : List It} {n : Int} {k : Nat} (hk : k < ts.length) (h : ∀ x ∈ ts.take k, ¬ x.1 = n) (hn : ¬ ts[k].1 = n) : ∀ x ∈ ts.take (k + 1), ¬ x.1 = n := by
  intro x hx
  rw [List.take_succ_eq_append_getElem hk] at hx
  rcases List.mem_append.1 hx with h1 | h1
  · exact h x h1
  · rw [List.mem_singleton.1 h1]; exact hn

theorem zt (w : World) : ItAt (w.alloc (.cells #[.int .i64 0, .int .i64 0, .int .i64 0, .string ⟨#[]⟩] 38)) w.heap.size 0 0 0 ⟨#[]⟩ := heap_alloc_new w _
/-- four cells stored. -/
theorem ItAt.put4 {w : World} {g : Nat} {q f l q' f' l' : Int} {t t' : ByteArray} (h : ItAt w g q f l t) :
    ItAt ((((w.setCell ⟨g, 0, none⟩ (.int .i64 q')).setCell ⟨g, 1, none⟩ (.int .i64 f')).setCell ⟨g, 2, none⟩ (.int .i64 l')).setCell ⟨g, 3, none⟩ (.string t')) g q' f' l' t' := by
  have e0 := heap_setCell_same w g 0 _ 38 (.int .i64 q') h
  have e1 := heap_setCell_same _ g 1 _ 38 (.int .i64 f') e0
  have e2 := heap_setCell_same _ g 2 _ 38 (.int .i64 l') e1
  exact heap_setCell_same _ g 3 _ 38 (.string t') e2
theorem ItAt.frozen {w : World} {g : Nat} {q f l : Int} {t : ByteArray} (h : ItAt w g q f l t) (i : Nat) : w.frozen? ⟨g, i, none⟩ = false := frozen_of_row w g i _ 38 h

set_option maxRecDepth 100000 in
set_option maxHeartbeats 1000000 in
theorem at_any (ao : Option Addr) (cap : Nat) (ts : List It) (n : Int) (w : World) (hx : Hid (ItemsAt w ao ts)) (hl : ts.length ≤ 1048576) :
    Calls Try.prog 113 #[.slice ao ts.length cap, .int .i64 n] w fun e w' => e = .returned (.tuple #[agg ((atP ts n).getD zIt), .bool (hasP ts n)]) ∧ Below w.heap.size w w' := by
  have HZ : Hid (ItAt (w.alloc (.cells #[.int .i64 0, .int .i64 0, .int .i64 0, .string ⟨#[]⟩] 38)) w.heap.size 0 0 0 ⟨#[]⟩) := zt w
  go_enter Try.func113, Try.ntmps113
  go_wp2
  go_loopw [11] (fun i wr => ∃ (k : Nat), k ≤ ts.length ∧ i = .int .i64 k ∧ Hid (∀ x ∈ ts.take k, ¬ x.1 = n) ∧ Hid (Below w.heap.size w wr) ∧ Hid (ItAt wr w.heap.size 0 0 0 ⟨#[]⟩)) (fun i _ => ts.length - (intOf i).toNat)
  case atStart => exact ⟨0, Nat.zero_le _, rfl, (fun x hx => by simp at hx : ∀ x ∈ ts.take 0, ¬ x.1 = n), (Below.refl _ _).alloc (Nat.le_refl _) _, HZ⟩
  case round =>
    clear HZ
    obtain ⟨k, hk, rfl, hst, hb, hz⟩ := hrel
    by_cases hlt : k < ts.length
    · obtain ⟨b, off, rfl, hbb, h0, h1, h2, h3⟩ := hx.out.stays hb.out k hlt
      have HP : Hid (∃ x : It, x = ts[k]) := ⟨_, rfl⟩
      obtain ⟨⟨q, f, lv, tx⟩, hp⟩ := HP.out
      rw [← hp] at h0 h1 h2 h3
      have HQ : Hid ((q, f, lv, tx) = ts[k]) := hp
      clear hp HP
      dsimp only at h0 h1 h2 h3
      have I0 : Hid (ItAt (wr.alloc (.cells #[.int .i64 q, .int .i64 f, .int .i64 lv, .string tx] 38)) wr.heap.size q f lv tx) := heap_alloc_new wr _
      have B0 : Hid (Below w.heap.size w (wr.alloc (.cells #[.int .i64 q, .int .i64 f, .int .i64 lv, .string tx] 38))) := hb.out.alloc hb.out.size _
      have Z0 : Hid (ItAt (wr.alloc (.cells #[.int .i64 q, .int .i64 f, .int .i64 lv, .string tx] 38)) w.heap.size 0 0 0 ⟨#[]⟩) := hz.out.stays ((Below.refl _ _).alloc (Nat.le_refl _) _) hz.out.lt
      have mn := mNum (wr.alloc (.cells #[.int .i64 q, .int .i64 f, .int .i64 lv, .string tx] 38)) (.agg #[.int .i64 q, .int .i64 f, .int .i64 lv, .string tx])
      go_wp2_with fail
      clear mn
      generalize wr.alloc (.cells #[.int .i64 q, .int .i64 f, .int .i64 lv, .string tx] 38) = W0 at *
      clear h0 h1 h2 h3
      refine (number_any q f lv tx _).mono ?_
      rintro e w1 ⟨rfl, hb1⟩
      obtain ⟨c0, c1, c2, c3⟩ := (I0.out.stays hb1 I0.out.lt).cells
      have Z1 : Hid (ItAt w1 w.heap.size 0 0 0 ⟨#[]⟩) := Z0.out.stays hb1 Z0.out.lt
      have B1 : Hid (Below w.heap.size w w1) := B0.out.trans (hb1.mono B0.out.size)
      clear hb1 I0 B0 Z0 hz
      by_cases hn : q = n
      · have HR : Hid (atP ts n = some (q, f, lv, tx)) := by
          rw [HQ.out]
          exact atP_here hlt (by rw [← HQ.out]; exact hn) hst.out
        subst hn
        obtain ⟨d0, d1, d2, d3⟩ := Z1.out.cells
        have f0 := Z1.out.frozen 0
        have f1 := Z1.out.frozen 1
        have f2 := Z1.out.frozen 2
        have f3 := Z1.out.frozen 3
        obtain ⟨r0, r1, r2, r3⟩ := (Z1.out.put4 (q' := q) (f' := f) (l' := lv) (t' := tx)).cells
        go_wp2_with fail
        refine bodyPost_ret (v := .tuple #[.agg #[.int .i64 q, .int .i64 f, .int .i64 lv, .string tx], .bool true]) (by simp [results, Try.results113, go_sem, r0, r1, r2, r3]) rfl ⟨?_, ?_⟩
        · unfold hasP
          rw [HR.out]; rfl
        · exact (((B1.out.setCell (Nat.le_refl _) _).setCell (Nat.le_refl _) _).setCell (Nat.le_refl _) _).setCell (Nat.le_refl _) _
      · have HN : Hid (∀ x ∈ ts.take (k + 1), ¬ x.1 = n) := take_step hlt hst.out (by rw [← HQ.out]; exact hn)
        go_wp2_with fail
        go_roundw
        case rel => exact ⟨k + 1, by omega, by go_num, HN, B1, Z1⟩
        case measure => simp [intOf]; omega
    · have HR : Hid (atP ts n = none) := atP_none (by have := hst.out; rwa [List.take_of_length_le (by omega)] at this)
      have Z0 : Hid (ItAt (wr.alloc (.cells #[.int .i64 0, .int .i64 0, .int .i64 0, .string ⟨#[]⟩] 38)) w.heap.size 0 0 0 ⟨#[]⟩) := hz.out.stays ((Below.refl _ _).alloc (Nat.le_refl _) _) hz.out.lt
      obtain ⟨d0, d1, d2, d3⟩ := Z0.out.cells
      have f0 := Z0.out.frozen 0
      have f1 := Z0.out.frozen 1
      have f2 := Z0.out.frozen 2
      have f3 := Z0.out.frozen 3
      obtain ⟨r0, r1, r2, r3⟩ := (Z0.out.put4 (q' := 0) (f' := 0) (l' := 0) (t' := ⟨#[]⟩)).cells
      have B1 : Hid (Below w.heap.size w (wr.alloc (.cells #[.int .i64 0, .int .i64 0, .int .i64 0, .string ⟨#[]⟩] 38))) := hb.out.alloc hb.out.size _
      go_wp2_with fail
      refine bodyPost_ret (v := .tuple #[.agg #[.int .i64 0, .int .i64 0, .int .i64 0, .string ⟨#[]⟩], .bool false]) (by simp [results, Try.results113, go_sem, r0, r1, r2, r3]) rfl ⟨?_, ?_⟩
      · unfold hasP
        rw [HR.out]; rfl
      · exact (((B1.out.setCell (Nat.le_refl _) _).setCell (Nat.le_refl _) _).setCell (Nat.le_refl _) _).setCell (Nat.le_refl _) _
end Go.Proofs.Ythdjkkiegecgnaa
