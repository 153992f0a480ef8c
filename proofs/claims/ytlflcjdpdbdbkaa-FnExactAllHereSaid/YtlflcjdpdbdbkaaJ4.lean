/- Lists of items copied and compared. -/
import Derived.Test.YtlflcjdpdbdbkaaJ3
namespace Go.Proofs.Ytlflcjdpdbdbkaa
open Go.RowKit Pl
set_option linter.unusedVariables false

set_option maxRecDepth 100000 in
set_option maxHeartbeats 1000000 in
theorem toItems_any (w : World) (ao : Option Addr) (cap : Nat) (ts : List It) (hx : Hid (ItemsAt w ao ts)) (hl : ts.length ≤ 1048576) :
    Calls Try.prog 29 #[.slice ao ts.length cap] w fun e w' => ∃ g, e = .returned (.slice (some ⟨g, 0, none⟩) ts.length ts.length) ∧ ItemsAt w' (some ⟨g, 0, none⟩) ts ∧ Below w.heap.size w w' := by
  obtain ⟨i0, hi, hz0, hz1, hz2⟩ := info_parts Try.infoI
  obtain ⟨A, hA, hAs⟩ : ∃ A : Array Value, A = madeCells (Value.agg #[.int .i64 0, .int .i64 0, .int .i64 0, .string ⟨#[]⟩]).cells (ts.length * 4) ∧ A.size = ts.length * 4 := ⟨_, rfl, size_madeCells _ _⟩
  have hmk : ∀ W : World, (Instr.makeSlice 27 (.int .i64 (ts.length : Int)) (.int .i64 (ts.length : Int))).run Try.prog W = .ok (.slice (some ⟨W.heap.size, 0, none⟩) ts.length ts.length) (W.alloc (.cells A 69)) := fun W => by
    have h := run_make (P := Try.prog) W 27 69 i0 _ Try.underlying27 hi hz0 .i64 .i64 (ts.length : Int) (ts.length : Int) (by omega) (by omega) (by rw [hz2]; omega) (by omega)
    rw [hz1, Int.toNat_natCast, ← hA] at h
    simpa using h
  clear hA
  have H0 : Hid (RowIt (w.alloc (.cells A 69)) w.heap.size ts.length ts 0) := ⟨A, heap_alloc_new w _, hAs, fun i _ h => absurd h (by omega)⟩
  clear hAs
  go_enter Try.func29, Try.ntmps29
  go_wp2
  go_loopw [4] (fun i wr => ∃ (k : Nat), k ≤ ts.length ∧ i = .int .i64 k ∧ Hid (RowIt wr w.heap.size ts.length ts k) ∧ Below w.heap.size w wr) (fun i _ => ts.length - (intOf i).toNat)
  case atStart => exact ⟨0, by omega, rfl, H0.out, (Below.refl _ _).alloc (Nat.le_refl _) _⟩
  case round =>
    obtain ⟨k, hk, rfl, hrow, hb⟩ := hrel
    clear H0 hmk hi hz0 hz1 hz2
    by_cases hlt : k < ts.length
    · obtain ⟨b, off, rfl, hbb, h0, h1, h2, h3⟩ := hx.out.stays hb k hlt
      have HP : Hid (∃ x : It, x = ts[k]) := ⟨_, rfl⟩
      obtain ⟨⟨q, f, lv, tx⟩, hp⟩ := HP.out
      rw [← hp] at h0 h1 h2 h3
      have HQ : Hid ((q, f, lv, tx) = ts[k]) := hp
      clear hp HP
      dsimp only at h0 h1 h2 h3
      go_wp2_with fail
      refine (toItem_any q f lv tx _).mono ?_
      rintro e w1 ⟨rfl, hb1⟩
      have R1 : Hid (RowIt w1 w.heap.size ts.length ts k) := hrow.out.stays hb1 hrow.out.lt
      have B1 : Hid (Below w.heap.size w w1) := hb.trans (hb1.mono hb.size)
      obtain ⟨v0, z0⟩ := R1.out.cell (k * 4) (by omega)
      obtain ⟨v1, z1⟩ := R1.out.cell (k * 4 + 1) (by omega)
      obtain ⟨v2, z2⟩ := R1.out.cell (k * 4 + 2) (by omega)
      obtain ⟨v3, z3⟩ := R1.out.cell (k * 4 + 3) (by omega)
      have f0 := R1.out.frozen (k * 4)
      have f1 := R1.out.frozen (k * 4 + 1)
      have f2 := R1.out.frozen (k * 4 + 2)
      have f3 := R1.out.frozen (k * 4 + 3)
      clear hb1 h0 h1 h2 h3 hrow hb
      go_wp2_with fail
      go_roundw
      case rel =>
        have := R1.out.set hlt
        rw [← HQ.out] at this
        exact ⟨k + 1, by omega, by go_num, this, (((B1.out.setCell (Nat.le_refl _) _).setCell (Nat.le_refl _) _).setCell (Nat.le_refl _) _).setCell (Nat.le_refl _) _⟩
      case measure => simp [intOf]; omega
    · obtain rfl : k = ts.length := by omega
      go_wp2_with fail
      go_ret
      exact ⟨_, rfl, hrow.out.items, hb⟩

theorem cells8_step {W w w' : World} {b1 b2 o0 o1 o2 o3 p0 p1 p2 p3 : Nat} {v0 v1 v2 v3 : Value} (h1 : b1 < W.heap.size) (h2 : b2 < W.heap.size)
    (h : ((w.cell? ⟨b1, o0, none⟩ = some v0 ∧ w.cell? ⟨b1, o1, none⟩ = some v1 ∧ w.cell? ⟨b1, o2, none⟩ = some v2 ∧ w.cell? ⟨b1, o3, none⟩ = some v3) ∧ w.cell? ⟨b2, p0, none⟩ = some v0 ∧ w.cell? ⟨b2, p1, none⟩ = some v1 ∧ w.cell? ⟨b2, p2, none⟩ = some v2 ∧ w.cell? ⟨b2, p3, none⟩ = some v3) ∧ Hid (Below W.heap.size W w)) (hb : Below w.heap.size w w') :
    ((w'.cell? ⟨b1, o0, none⟩ = some v0 ∧ w'.cell? ⟨b1, o1, none⟩ = some v1 ∧ w'.cell? ⟨b1, o2, none⟩ = some v2 ∧ w'.cell? ⟨b1, o3, none⟩ = some v3) ∧ w'.cell? ⟨b2, p0, none⟩ = some v0 ∧ w'.cell? ⟨b2, p1, none⟩ = some v1 ∧ w'.cell? ⟨b2, p2, none⟩ = some v2 ∧ w'.cell? ⟨b2, p3, none⟩ = some v3) ∧ Hid (Below W.heap.size W w') := by
  obtain ⟨⟨ha, hc⟩, h4⟩ := h
  have A := cells4_step h1 ⟨ha, h4⟩ hb
  have C := cells4_step h2 ⟨hc, h4⟩ hb
  exact ⟨⟨A.1, C.1⟩, A.2⟩

set_option maxRecDepth 100000 in
set_option maxHeartbeats 1000000 in
theorem eqItems_same (a1 a2 : Option Addr) (c1 c2 : Nat) (ts : List It) (w : World) (hx1 : Hid (ItemsAt w a1 ts)) (hx2 : Hid (ItemsAt w a2 ts)) (hl : ts.length ≤ 1048576) :
    Calls Try.prog 21 #[.slice a1 ts.length c1, .slice a2 ts.length c2] w fun e w' => e = .returned (.bool true) ∧ Below w.heap.size w w' := by
  go_enter Try.func21, Try.ntmps21
  go_wp2
  go_loopw [5] (fun i wr => ∃ k : Nat, k ≤ ts.length ∧ i = .int .i64 k ∧ Hid (Below w.heap.size w wr)) (fun i _ => ts.length - (intOf i).toNat)
  case atStart => exact ⟨0, by omega, rfl, Below.refl _ _⟩
  case round =>
    obtain ⟨k, hk, rfl, hb⟩ := hrel
    by_cases hlt : k < ts.length
    · obtain ⟨b1, off1, rfl, hbb1, h0, h1, h2, h3⟩ := hx1.out.stays hb.out k hlt
      obtain ⟨b2, off2, rfl, hbb2, g0, g1, g2, g3⟩ := hx2.out.stays hb.out k hlt
      have HP : Hid (∃ x : It, x = ts[k]) := ⟨_, rfl⟩
      obtain ⟨⟨q, f, lv, tx⟩, hp⟩ := HP.out
      rw [← hp] at h0 h1 h2 h3 g0 g1 g2 g3
      clear hp HP
      dsimp only at h0 h1 h2 h3 g0 g1 g2 g3
      have i0 : (0 : Int) ≤ (k : Int) := by omega
      have i1 : (k : Int) < (ts.length : Int) := by omega
      go_wp2_with fail
      refine quietC (C := (fun w' => ((w'.cell? ⟨b1, off1 + k * 4, none⟩ = some (.int .i64 q) ∧ w'.cell? ⟨b1, off1 + k * 4 + 1, none⟩ = some (.int .i64 f) ∧ w'.cell? ⟨b1, off1 + k * 4 + 2, none⟩ = some (.int .i64 lv) ∧ w'.cell? ⟨b1, off1 + k * 4 + 3, none⟩ = some (.string tx)) ∧ w'.cell? ⟨b2, off2 + k * 4, none⟩ = some (.int .i64 q) ∧ w'.cell? ⟨b2, off2 + k * 4 + 1, none⟩ = some (.int .i64 f) ∧ w'.cell? ⟨b2, off2 + k * 4 + 2, none⟩ = some (.int .i64 lv) ∧ w'.cell? ⟨b2, off2 + k * 4 + 3, none⟩ = some (.string tx)) ∧ Hid (Below wr.heap.size wr w'))) (by kernel_rfl) (by kernel_rfl) ⟨⟨⟨h0, h1, h2, h3⟩, g0, g1, g2, g3⟩, (Below.refl _ _).drew⟩ ?_
      go_big_quiet_want
      go_big_quiet_op
      go_big_quiet_on
      go_big_quiet_want
      go_big_quiet_op
      go_big_quiet_on
      go_big_quiet_want
      refine q_val (.pointer (some ⟨b1, off1 + k * 4, none⟩)) (fun w' hw' => by go_simp) ?_
      go_big_quiet_on
      simp only [Act.put, List.setIfInBounds_toArray, List.set_cons_zero, List.set_cons_succ]
      go_big_quiet_want
      refine q_val (.agg #[.int .i64 q, .int .i64 f, .int .i64 lv, .string tx]) (fun w' hw' => by obtain ⟨⟨⟨j0, j1, j2, j3⟩, _⟩, _⟩ := hw'; go_simp) ?_
      go_big_quiet_on
      simp only [Act.put, List.setIfInBounds_toArray, List.set_cons_zero, List.set_cons_succ]
      go_big_quiet_want
      go_big_quiet_op
      go_big_quiet_on
      go_big_quiet_want
      go_big_quiet_op
      go_big_quiet_on
      go_big_quiet_want
      refine q_val (.pointer (some ⟨b2, off2 + k * 4, none⟩)) (fun w' hw' => by go_simp) ?_
      go_big_quiet_on
      simp only [Act.put, List.setIfInBounds_toArray, List.set_cons_zero, List.set_cons_succ]
      go_big_quiet_want
      refine q_val (.agg #[.int .i64 q, .int .i64 f, .int .i64 lv, .string tx]) (fun w' hw' => by obtain ⟨⟨_, j0, j1, j2, j3⟩, _⟩ := hw'; go_simp) ?_
      go_big_quiet_on
      simp only [Act.put, List.setIfInBounds_toArray, List.set_cons_zero, List.set_cons_succ]
      go_big_quiet_want
      refine q_call (.bool true) 46 #[.agg #[.int .i64 q, .int .i64 f, .int .i64 lv, .string tx], .agg #[.int .i64 q, .int .i64 f, .int .i64 lv, .string tx]] (fun w' hw' => by go_simp) (fun w' hw' => (eqItem_same q f lv tx _).mono fun e w'' ⟨he, hb1⟩ => ⟨he, cells8_step hbb1 hbb2 hw' hb1⟩) ?_
      go_big_quiet_on
      simp only [Act.put, List.setIfInBounds_toArray, List.set_cons_zero, List.set_cons_succ]
      go_big_quiet_want
      refine q_val (.bool false) (fun w' hw' => by go_simp) ?_
      go_big_quiet_on
      simp only [Act.put, List.setIfInBounds_toArray, List.set_cons_zero, List.set_cons_succ]
      refine wpQuiet_nil ?_
      intro w1 hcw
      have B1 : Hid (Below w.heap.size w w1) := hb.out.trans (hcw.2.out.mono hb.out.size)
      clear hcw h0 h1 h2 h3 g0 g1 g2 g3
      go_wp2_with fail
      go_roundw
      case rel => exact ⟨k + 1, by omega, by go_num, B1.out⟩
      case measure => simp [intOf]; omega
    · go_wp2_with fail
      go_ret
      exact ⟨rfl, hb.out⟩

end Go.Proofs.Ytlflcjdpdbdbkaa
