/- The walks over both ItemAt, over one item copied. -/
import Derived.Test.YthdjkkiegecgnaaA1
namespace Go.Proofs.Ythdjkkiegecgnaa
open Go.RowKit Pl
set_option linter.unusedVariables false

set_option maxRecDepth 100000 in
set_option maxHeartbeats 1000000 in
theorem spAt_any (ao : Option Addr) (cap : Nat) (ts : List It) (n : Int) (w : World) (hx : Hid (ItemsAt w ao ts)) (hl : ts.length ≤ 1048576) :
    Calls Try.prog 55 #[.slice ao ts.length cap, .int .i64 n] w fun e w' => e = .returned (.tuple #[agg ((atP ts n).getD zIt), .bool (hasP ts n)]) ∧ Below w.heap.size w w' := by
  have HZ : Hid (ItAt (w.alloc (.cells #[.int .i64 0, .int .i64 0, .int .i64 0, .string ⟨#[]⟩] 38)) w.heap.size 0 0 0 ⟨#[]⟩) := zt w
  have HB : Hid (Below w.heap.size w (w.alloc (.cells #[.int .i64 0, .int .i64 0, .int .i64 0, .string ⟨#[]⟩] 38))) := (Below.refl _ _).alloc (Nat.le_refl _) _
  go_enter Try.func55, Try.ntmps55
  go_wp2
  go_loopw [6] (fun i wr => ∃ (k : Nat), k ≤ ts.length ∧ i = .int .i64 k ∧ Hid (∀ x ∈ ts.take k, ¬ x.1 = n) ∧ Hid (Below w.heap.size w wr) ∧ Hid (ItAt wr w.heap.size 0 0 0 ⟨#[]⟩)) (fun i _ => ts.length - (intOf i).toNat)
  case atStart => exact ⟨0, Nat.zero_le _, rfl, (fun x hx => by simp at hx : ∀ x ∈ ts.take 0, ¬ x.1 = n), HB, HZ⟩
  case round =>
    clear HZ HB
    obtain ⟨k, hk, rfl, hst, hb, hz⟩ := hrel
    by_cases hlt : k < ts.length
    · obtain ⟨b, off, rfl, hbb, h0, h1, h2, h3⟩ := hx.out.stays hb.out k hlt
      have HP : Hid (∃ x : It, x = ts[k]) := ⟨_, rfl⟩
      obtain ⟨⟨q, f, lv, tx⟩, hp⟩ := HP.out
      rw [← hp] at h0 h1 h2 h3
      have HQ : Hid ((q, f, lv, tx) = ts[k]) := hp
      clear hp HP
      dsimp only at h0 h1 h2 h3
      by_cases hn : q = n
      · have HR : Hid (atP ts n = some (q, f, lv, tx)) := by
          rw [HQ.out]
          exact atP_here hlt (by rw [← HQ.out]; exact hn) hst.out
        subst hn
        obtain ⟨d0, d1, d2, d3⟩ := hz.out.cells
        have f0 := hz.out.frozen 0
        have f1 := hz.out.frozen 1
        have f2 := hz.out.frozen 2
        have f3 := hz.out.frozen 3
        obtain ⟨r0, r1, r2, r3⟩ := (hz.out.put4 (q' := q) (f' := f) (l' := lv) (t' := tx)).cells
        go_wp2_with fail
        refine bodyPost_ret (v := .tuple #[.agg #[.int .i64 q, .int .i64 f, .int .i64 lv, .string tx], .bool true]) (by simp [results, Try.results55, go_sem, r0, r1, r2, r3]) rfl ⟨?_, ?_⟩
        · unfold hasP
          rw [HR.out]; rfl
        · exact (((hb.out.setCell (Nat.le_refl _) _).setCell (Nat.le_refl _) _).setCell (Nat.le_refl _) _).setCell (Nat.le_refl _) _
      · have HN : Hid (∀ x ∈ ts.take (k + 1), ¬ x.1 = n) := take_step hlt hst.out (by rw [← HQ.out]; exact hn)
        go_wp2_with fail
        go_roundw
        case rel => exact ⟨k + 1, by omega, by go_num, HN, hb, hz⟩
        case measure => simp [intOf]; omega
    · have HR : Hid (atP ts n = none) := atP_none (by have := hst.out; rwa [List.take_of_length_le (by omega)] at this)
      obtain ⟨d0, d1, d2, d3⟩ := hz.out.cells
      have f0 := hz.out.frozen 0
      have f1 := hz.out.frozen 1
      have f2 := hz.out.frozen 2
      have f3 := hz.out.frozen 3
      obtain ⟨r0, r1, r2, r3⟩ := (hz.out.put4 (q' := 0) (f' := 0) (l' := 0) (t' := ⟨#[]⟩)).cells
      go_wp2_with fail
      refine bodyPost_ret (v := .tuple #[.agg #[.int .i64 0, .int .i64 0, .int .i64 0, .string ⟨#[]⟩], .bool false]) (by simp [results, Try.results55, go_sem, r0, r1, r2, r3]) rfl ⟨?_, ?_⟩
      · unfold hasP
        rw [HR.out]; rfl
      · exact (((hb.out.setCell (Nat.le_refl _) _).setCell (Nat.le_refl _) _).setCell (Nat.le_refl _) _).setCell (Nat.le_refl _) _

set_option maxRecDepth 100000 in
set_option maxHeartbeats 1000000 in
theorem copyItem_any (q f l : Int) (t : ByteArray) (w : World) (ht : t.size ≤ 1048576) :
    Calls Try.prog 115 #[.agg #[.int .i64 q, .int .i64 f, .int .i64 l, .string t]] w fun e w' => e = .returned (.agg #[.int .i64 q, .int .i64 f, .int .i64 l, .string t]) ∧ Below w.heap.size w w' := by
  obtain ⟨W, hW⟩ : ∃ W, W = (w.alloc (.cells #[.int .i64 q, .int .i64 f, .int .i64 l, .string t] 38)).alloc (.cells #[.int .i64 0, .int .i64 0, .int .i64 0, .string ⟨#[]⟩] 38) := ⟨_, rfl⟩
  have I0 : Hid (ItAt W w.heap.size q f l t) := by
    rw [hW]
    exact ItAt.stays (show ItAt (w.alloc (.cells #[.int .i64 q, .int .i64 f, .int .i64 l, .string t] 38)) w.heap.size q f l t from heap_alloc_new w _) ((Below.refl _ _).alloc (Nat.le_refl _) _) (by simp)
  have Z0 : Hid (ItAt W (w.heap.size + 1) 0 0 0 ⟨#[]⟩) := by
    rw [hW]
    have h := zt (w.alloc (.cells #[.int .i64 q, .int .i64 f, .int .i64 l, .string t] 38))
    rw [show (w.alloc (.cells #[.int .i64 q, .int .i64 f, .int .i64 l, .string t] 38)).heap.size = w.heap.size + 1 by simp] at h
    exact h
  have B0 : Hid (Below w.heap.size w W) := by
    rw [hW]
    exact ((Below.refl _ _).alloc (Nat.le_refl _) _).alloc (by simp) _
  have HW : Hid (W = (w.alloc (.cells #[.int .i64 q, .int .i64 f, .int .i64 l, .string t] 38)).alloc (.cells #[.int .i64 0, .int .i64 0, .int .i64 0, .string ⟨#[]⟩] 38)) := hW
  clear hW
  go_enter Try.func115, Try.ntmps115
  go_wp2_with fail
  rw [← HW.out]
  clear HW
  refine (clone_any t _ ht).mono ?_
  rintro e w1 ⟨rfl, hb1⟩
  have I1 : Hid (ItAt w1 w.heap.size q f l t) := I0.out.stays hb1 I0.out.lt
  have Z1 : Hid (ItAt w1 (w.heap.size + 1) 0 0 0 ⟨#[]⟩) := Z0.out.stays hb1 Z0.out.lt
  have B1 : Hid (Below w.heap.size w w1) := B0.out.trans (hb1.mono B0.out.size)
  clear I0 Z0 B0 hb1
  obtain ⟨c0, c1, c2, c3⟩ := I1.out.cells
  have g3 := I1.out.frozen 3
  have I2 : Hid (ItAt (w1.setCell ⟨w.heap.size, 3, none⟩ (.string t)) w.heap.size q f l t) := heap_setCell_same w1 w.heap.size 3 _ 38 (.string t) I1.out
  have Z2 : Hid (ItAt (w1.setCell ⟨w.heap.size, 3, none⟩ (.string t)) (w.heap.size + 1) 0 0 0 ⟨#[]⟩) := (Below.heap_setCell w1 ⟨w.heap.size, 3, none⟩ _ (w.heap.size + 1) (by simp)).trans Z1.out
  have B2 : Hid (Below w.heap.size w (w1.setCell ⟨w.heap.size, 3, none⟩ (.string t))) := B1.out.setCell (Nat.le_refl _) _
  obtain ⟨e0, e1, e2, e3⟩ := I2.out.cells
  obtain ⟨d0, d1, d2, d3⟩ := Z2.out.cells
  have f0 := Z2.out.frozen 0
  have f1 := Z2.out.frozen 1
  have f2 := Z2.out.frozen 2
  have f3 := Z2.out.frozen 3
  obtain ⟨r0, r1, r2, r3⟩ := (Z2.out.put4 (q' := q) (f' := f) (l' := l) (t' := t)).cells
  go_wp2_with fail
  refine bodyPost_ret (v := .agg #[.int .i64 q, .int .i64 f, .int .i64 l, .string t]) (by simp [results, Try.results115, go_sem, r0, r1, r2, r3]) rfl ⟨rfl, ?_⟩
  exact (((B2.out.setCell (by simp) _).setCell (by simp) _).setCell (by simp) _).setCell (by simp) _

end Go.Proofs.Ythdjkkiegecgnaa
