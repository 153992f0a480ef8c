/- Lists of items measured and copied, told more of. -/
import Derived.Test.YtlflcjdpdbdbkaaNu
import Derived.Laws.MakeOwn
namespace Go.Proofs.Ytlflcjdpdbdbkaa
open Go.RowKit Pl
set_option linter.unusedVariables false

set_option maxRecDepth 100000 in
set_option maxHeartbeats 1000000 in
theorem szItems_left (left : Nat) (hleft : left ≤ 1048576) (ao : Option Addr) (cap : Nat) (ts : List It) (w : World) (hx : Hid (ItemsAt w ao ts)) (hl : ts.length ≤ 9223372036854775807) (hs : Hid (∀ x ∈ ts, x.2.2.2.size ≤ 9223372036854775807)) :
    Calls Try.prog 26 #[.slice ao ts.length cap, .int .i64 left] w fun e w' => (e = .returned (.int .i64 (-1)) ∨ (∃ z : Nat, e = .returned (.int .i64 z) ∧ z + ts.length ≤ left ∧ ∀ x ∈ ts, x.2.2.2.size ≤ 1048576)) ∧ Below w.heap.size w w' := by
  by_cases h1 : left < ts.length
  · have hd : decide ((left : Int) - (ts.length : Int) < 0) = true := by simp; omega
    go_enter Try.func26, Try.ntmps26
    go_wp2
    go_ret
    exact ⟨.inl rfl, Below.refl _ _⟩
  have hl2 : ts.length ≤ left := by omega
  have hd : decide ((left : Int) - (ts.length : Int) < 0) = false := by simp; omega
  go_enter Try.func26, Try.ntmps26
  go_wp2
  clear hd
  go_loopw [1, 5] (fun lf i wr => ∃ (k z : Nat), k ≤ ts.length ∧ z + ts.length ≤ left ∧ lf = .int .i64 z ∧ i = .int .i64 k ∧ Hid (∀ x ∈ ts.take k, x.2.2.2.size ≤ 1048576) ∧ Hid (Below w.heap.size w wr)) (fun _ i _ => ts.length - (intOf i).toNat)
  case atStart => exact ⟨0, left - ts.length, Nat.zero_le _, by omega, by congr 1; omega, rfl, (fun x hx => by simp at hx : ∀ x ∈ ts.take 0, x.2.2.2.size ≤ 1048576), Below.refl _ _⟩
  case round =>
    obtain ⟨k, z, hk, hz, rfl, rfl, hsm, hb⟩ := hrel
    by_cases hlt : k < ts.length
    · obtain ⟨b, off, rfl, hbb, c0, c1, c2, c3⟩ := hx.out.stays hb.out k hlt
      have hsz := hs.out _ (List.getElem_mem hlt)
      have HP : Hid (∃ x : It, x = ts[k]) := ⟨_, rfl⟩
      obtain ⟨⟨q, f, lv, tx⟩, hp⟩ := HP.out
      rw [← hp] at c0 c1 c2 c3 hsz
      have HQ : Hid ((q, f, lv, tx) = ts[k]) := hp
      clear hp HP
      dsimp only at c0 c1 c2 c3 hsz
      go_wp2_with fail
      by_cases hlong : z < tx.size
      · refine (szItem_long q f lv tx z _ hlong hsz (by omega)).mono ?_
        rintro e w1 ⟨rfl, hb1⟩
        go_wp2_with fail
        go_ret
        exact ⟨.inl rfl, hb.out.trans (hb1.mono hb.out.size)⟩
      · refine (szItem_any q f lv tx z _ (by omega) (by omega)).mono ?_
        rintro e w1 ⟨rfl, hb1⟩
        have B1 : Hid (Below w.heap.size w w1) := hb.out.trans (hb1.mono hb.out.size)
        have hzz : z - tx.size + ts.length ≤ left := by omega
        have HSM : Hid (∀ x ∈ ts.take (k + 1), x.2.2.2.size ≤ 1048576) := by
          intro x hx
          rw [List.take_succ_eq_append_getElem hlt] at hx
          rcases List.mem_append.1 hx with h1 | h1
          · exact hsm.out x h1
          · rw [List.mem_singleton.1 h1, ← HQ.out]; show tx.size ≤ 1048576; omega
        generalize z - tx.size = zz at *
        have hd : decide ((zz : Int) < 0) = false := by simp
        clear hb1 c0 c1 c2 c3
        go_wp2_with fail
        go_roundw
        case rel => exact ⟨k + 1, zz, by omega, hzz, rfl, by go_num, HSM, B1⟩
        case measure => simp [intOf]; omega
    · go_wp2_with fail
      go_ret
      exact ⟨.inr ⟨z, rfl, hz, by have := hsm.out; rwa [List.take_of_length_le (by omega)] at this⟩, hb.out⟩

set_option maxRecDepth 100000 in
set_option maxHeartbeats 1000000 in
theorem toItems_row (w : World) (ao : Option Addr) (cap : Nat) (ts : List It) (hx : Hid (ItemsAt w ao ts)) (hl : ts.length ≤ 1048576) :
    Calls Try.prog 29 #[.slice ao ts.length cap] w fun e w' => e = .returned (.slice (some ⟨w.heap.size, 0, none⟩) ts.length ts.length) ∧ RowIt w' w.heap.size ts.length ts ts.length ∧ Below w.heap.size w w' := by
  obtain ⟨i0, hi, hz0, hz1, hz2⟩ := info_parts Try.infoI
  obtain ⟨A, hA, hAs⟩ : ∃ A : Array Value, A = madeCells (Value.agg #[.int .i64 0, .int .i64 0, .int .i64 0, .string ⟨#[]⟩]).cells (ts.length * 4) ∧ A.size = ts.length * 4 := ⟨_, rfl, size_madeCells _ _⟩
  have hmk : ∀ W : World, (Instr.makeSlice 27 (.int .i64 (ts.length : Int)) (.int .i64 (ts.length : Int))).run Try.prog W = .ok (.slice (some ⟨W.heap.size, 0, none⟩) ts.length ts.length) (W.alloc (.cells A 69)) := fun W => by
    have h := run_make (P := Try.prog) W 27 69 i0 _ Try.underlying27 hi hz0 .i64 .i64 (ts.length : Int) (ts.length : Int) (by omega) (by omega) (by rw [hz2]; omega) (by omega)
    rw [hz1, Int.toNat_natCast, ← hA] at h
    simpa using h
  clear hA
  have H0 : Hid (RowIt (w.alloc (.cells A 69)) w.heap.size ts.length ts 0) := ⟨A, heap_alloc_new w _, hAs, fun i _ h => absurd h (by omega)⟩
  clear hAs
  go_enter Try.func29, Try.ntmps29
  go_wp2
  go_loopw [4] (fun i wr => ∃ (k : Nat), k ≤ ts.length ∧ i = .int .i64 k ∧ Hid (RowIt wr w.heap.size ts.length ts k) ∧ Below w.heap.size w wr) (fun i _ => ts.length - (intOf i).toNat)
  case atStart => exact ⟨0, by omega, rfl, H0.out, (Below.refl _ _).alloc (Nat.le_refl _) _⟩
  case round =>
    obtain ⟨k, hk, rfl, hrow, hb⟩ := hrel
    clear H0 hmk hi hz0 hz1 hz2
    by_cases hlt : k < ts.length
    · obtain ⟨b, off, rfl, hbb, h0, h1, h2, h3⟩ := hx.out.stays hb k hlt
      have HP : Hid (∃ x : It, x = ts[k]) := ⟨_, rfl⟩
      obtain ⟨⟨q, f, lv, tx⟩, hp⟩ := HP.out
      rw [← hp] at h0 h1 h2 h3
      have HQ : Hid ((q, f, lv, tx) = ts[k]) := hp
      clear hp HP
      dsimp only at h0 h1 h2 h3
      go_wp2_with fail
      refine (toItem_any q f lv tx _).mono ?_
      rintro e w1 ⟨rfl, hb1⟩
      have R1 : Hid (RowIt w1 w.heap.size ts.length ts k) := hrow.out.stays hb1 hrow.out.lt
      have B1 : Hid (Below w.heap.size w w1) := hb.trans (hb1.mono hb.size)
      obtain ⟨v0, z0⟩ := R1.out.cell (k * 4) (by omega)
      obtain ⟨v1, z1⟩ := R1.out.cell (k * 4 + 1) (by omega)
      obtain ⟨v2, z2⟩ := R1.out.cell (k * 4 + 2) (by omega)
      obtain ⟨v3, z3⟩ := R1.out.cell (k * 4 + 3) (by omega)
      have f0 := R1.out.frozen (k * 4)
      have f1 := R1.out.frozen (k * 4 + 1)
      have f2 := R1.out.frozen (k * 4 + 2)
      have f3 := R1.out.frozen (k * 4 + 3)
      clear hb1 h0 h1 h2 h3 hrow hb
      go_wp2_with fail
      go_roundw
      case rel =>
        have := R1.out.set hlt
        rw [← HQ.out] at this
        exact ⟨k + 1, by omega, by go_num, this, (((B1.out.setCell (Nat.le_refl _) _).setCell (Nat.le_refl _) _).setCell (Nat.le_refl _) _).setCell (Nat.le_refl _) _⟩
      case measure => simp [intOf]; omega
    · obtain rfl : k = ts.length := by omega
      go_wp2_with fail
      go_ret
      exact ⟨rfl, hrow.out, hb⟩

/-- a list that was handed in is copied. -/
theorem toItems_sl (w : World) (ao : Option Addr) (cap : Nat) (ts : List It) (hx : Hid (ItemsAt w ao ts)) (hl : ts.length ≤ 1048576) :
    Calls Try.prog 29 #[.slice ao ts.length cap] w fun e w' => e = .returned (.slice (some ⟨w.heap.size, 0, none⟩) ts.length ts.length) ∧ SlI w' w.heap.size (.slice (some ⟨w.heap.size, 0, none⟩) ts.length ts.length) ts ∧ ItemsAt w' (some ⟨w.heap.size, 0, none⟩) ts ∧ Below w.heap.size w w' :=
  (toItems_row w ao cap ts hx hl).mono fun e w' ⟨h1, h2, h3⟩ => ⟨h1, h2.sl rfl hl (Nat.le_refl _), h2.items, h3⟩
end Go.Proofs.Ytlflcjdpdbdbkaa
