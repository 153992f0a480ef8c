/- The law on pieces that are joined again, walked. -/
import Derived.Test.YtfefjkldjaabbaaDp
import Derived.Test.YtfefjkldjaabbaaPq
import Derived.Test.YtfefjkldjaabbaaSp12
import Derived.Test.YtfefjkldjaabbaaRp4
import Derived.Test.YtfefjkldjaabbaaWt
import Derived.Test.YtfefjkldjaabbaaBg
namespace Go.Proofs.Ytfefjkldjaabbaa
open Go.RowKit Pl
set_option linter.unusedVariables false

theorem wpList_catT {P : Program} {w : World} {ops : Array Oper} {rest : List Oper} {o : Oper} {a : Act} {Q : Exit → Act → World → Prop} (hgd : Region.wanted o (yielded ops a.tmps) = true)
    (s x : Operand) (t : TypeId) (ho : o.op = .call { callee := .builtin .append, args := #[s, x], argTypes := #[t, t] })
    (ht : P.underlying t = some (.slice 9)) (hinfo : (P.info? 9).map (fun i => (i.zero, i.size, i.bytes)) = some (some (.string ⟨#[]⟩), 1, 16))
    (B : Nat) (v : Value) (xs : List ByteArray) (hs : a.eval s = v) (hown : OwnS w B v xs)
    (u : Value) (ys : List ByteArray) (hx : a.eval x = u) (hu : RT w u ys) (hn : xs.length + ys.length < 4000000) (hB : B ≤ w.heap.size) (hv : v ≠ .slice none 0 0)
    (h : ∀ v' w', OwnS w' B v' (xs ++ ys) → w.grownBy w' v.ownBlock → wpList P ops Q rest (a.put o.dst v') w') : wpList P ops Q (o :: rest) a w := by
  refine wpList_step fun K hK => ?_
  rw [if_pos hgd]
  exact wp_catT s x t ho ht hinfo B v xs hs hown u ys hx hu hn hB hv fun v' w' h1 h2 => hK _ _ (h v' w' h1 h2)

theorem wpList_haltA {P : Program} {w : World} {ops : Array Oper} {rest : List Oper} {o : Oper} {a : Act} {Q : Exit → Act → World → Prop} (s x : Operand) (t : TypeId) (ho : o.op = .call { callee := .builtin .append, args := #[s, x], argTypes := #[t, t] }) (h : Stp (wpList P ops Q (o :: rest) a w)) : wpList P ops Q (o :: rest) a w := h.out
theorem pcsL_short {m : Nat} {s : ByteArray} (hm : m ≤ 100000) (hs : s.size ≤ 400) : ∀ x ∈ pcsL m s, x.size ≤ 1048576 := by
  intro x hx
  unfold pcsL at hx
  obtain ⟨i, hi, rfl⟩ := List.mem_map.1 hx
  have hi' := List.mem_range.1 hi
  have hc := (cntN_le hs).2
  unfold pcS
  rw [app_size, app_size, app_size, part_size]
  have v1 := varS_short m hm
  have v2 := varS_short i (by omega)
  have v3 := varS_short (cntN s.size) (by omega)
  unfold lenN; omega
set_option maxRecDepth 100000 in
set_option maxHeartbeats 4000000 in
theorem lawJoined (w : World) (n cap : Nat) (ao : Option Addr) (hk : Hid (CodeAt w w.heap.size ao n)) :
    Calls Try.prog 3 #[.slice ao n cap] w fun e w' => e = .returned (.bool true) ∧ Below w.heap.size w w' := by
  by_cases hn : n ≤ 1048576
  case neg =>
    have hbig : decide (1048576 < (n : Int)) = true := by simp; omega
    go_enter Try.func3, Try.ntmps3
    go_wp2_with (first | (go_at_call 9; refine (big_any _ n cap ao true hbig).mono ?_; rintro e w1 ⟨rfl, rfl⟩))
    go_ret
    exact ⟨rfl, Below.refl _ _⟩
  have hbig : decide (1048576 < (n : Int)) = false := by simp; omega
  go_enter Try.func3, Try.ntmps3
  go_wp2_with (first | (go_at_call 9; refine (big_any _ n cap ao false hbig).mono ?_; rintro e w1 ⟨rfl, rfl⟩))
  refine (drawPieces w1 n cap ao hn hk).mono ?_
  rintro e w2 ⟨num, s, rfl, hs5, hb2⟩
  have B2 : Hid (Below w1.heap.size w1 w2) := hb2
  clear hb2
  by_cases h : (0 ≤ num ∧ num ≤ 100000) ∧ s.size ≤ 400
  case neg =>
    have hI := implPieces_no num s w2 h (by omega)
    go_wp2_with fail
    refine hI.mono ?_
    rintro e w3 ⟨v, rfl, hv, hb3⟩
    obtain ⟨a3, c3, rfl⟩ := hv.form
    have B3 : Hid (Below w1.heap.size w1 w3) := B2.out.trans (hb3.mono B2.out.size)
    have hS := spPieces_no num s w3 h (by omega)
    clear hv hb3 hI B2
    go_wp2_with fail
    refine hS.mono ?_
    rintro e w4 ⟨v4, rfl, hv4, hb4⟩
    have B4 : Hid (Below w1.heap.size w1 w4) := B3.out.trans (hb4.mono B3.out.size)
    clear hv4 hb4 hS B3 h
    go_wp2
    go_ret
    exact ⟨rfl, B4.out⟩
  obtain ⟨m, rfl⟩ : ∃ m : Nat, num = m := ⟨num.toNat, by omega⟩
  have hm : m ≤ 100000 := by omega
  have hs : s.size ≤ 400 := h.2
  obtain ⟨hc0, hc1⟩ := cntN_le hs
  have hpl : (pcsL m s).length = cntN s.size := by unfold pcsL; rw [List.length_map, List.length_range]
  have HPL : Hid ((pcsL m s).length = cntN s.size) := hpl
  have hI := implPieces_yes m s w2 hm hs
  clear h hpl
  go_wp2_with fail
  refine hI.mono ?_
  rintro e w3 ⟨v, rfl, hv, hb3⟩
  obtain ⟨gl, cl, hvf, hgB, hgl, hcl, _⟩ := hv.some (by rw [HPL.out]; exact hc0)
  subst hvf
  have B3 : Hid (Below w1.heap.size w1 w3) := B2.out.trans (hb3.mono B2.out.size)
  have L3 : Hid (OwnS w3 w2.heap.size (.slice (some ⟨gl, 0, none⟩) (pcsL m s).length cl) (pcsL m s)) := hv
  have hS := spPieces_yes m s w3 hm hs
  clear hv hb3 hI B2 hcl hgB
  go_wp2_with fail
  refine hS.mono ?_
  rintro e w4 ⟨v4, rfl, hv4, hb4⟩
  have B4 : Hid (Below w1.heap.size w1 w4) := B3.out.trans (hb4.mono B3.out.size)
  have L4 : Hid (OwnS w4 w2.heap.size (.slice (some ⟨gl, 0, none⟩) (pcsL m s).length cl) (pcsL m s)) := ownS_later L3.out hb4
  have hgl4 : gl < w4.heap.size := Nat.lt_of_lt_of_le hgl hb4.size
  clear hv4 hb4 hS B3 L3 hgl
  obtain ⟨PL, hPL⟩ : ∃ PL, PL = pcsL m s := ⟨_, rfl⟩
  rw [← hPL] at L4 HPL ⊢
  have HPE : Hid (PL = pcsL m s) := hPL
  clear hPL
  have hPL10 : PL.length ≤ 10 := by rw [HPL.out]; exact hc1
  have hPL0 : 0 < PL.length := by rw [HPL.out]; exact hc0
  have HSZ : Hid (∀ x ∈ PL, x.size ≤ 1048576) := by
    show ∀ x ∈ PL, x.size ≤ 1048576
    rw [HPE.out]; exact pcsL_short hm hs
  have hcap : PL.length ≤ cl := own_cap (s := ⟨some ⟨gl, 0, none⟩, PL.length, cl⟩) L4.out rfl
  have HJ1 : Hid (joinedL PL = [s]) := by rw [HPE.out]; exact joined_all hm hs
  have HJ2 : Hid (joinedL (PL.take (PL.length - 1)) = []) := by
    rw [HPL.out, HPE.out]; exact joined_few hm hs _ (by omega)
  have HJ3 : Hid (joinedL (PL ++ PL) = [s, s]) := by rw [HPE.out]; exact joined_twice hm hs
  go_wp2_with fail
  go_loopw [9] (fun i wr => ∃ k : Nat, k ≤ PL.length ∧ i = .int .i64 k ∧ Hid (Below w4.heap.size w4 wr)) (fun i _ => PL.length - (intOf i).toNat)
  case atStart => exact ⟨0, Nat.zero_le _, rfl, Below.refl _ _⟩
  case round =>
    obtain ⟨k, hk2, rfl, hb⟩ := hrel
    by_cases hlt : k < PL.length
    · obtain ⟨_, cap4, hf4, _, _, hcell, _⟩ := L4.out.some (by omega)
      simp only [Value.slice.injEq, Option.some.injEq, Addr.mk.injEq, and_true, true_and] at hf4
      obtain ⟨rfl, rfl⟩ := hf4
      have hce : wr.cell? ⟨gl, k, none⟩ = some (.string PL[k]) := (hb.out.cell (p := ⟨gl, k, none⟩) hgl4).trans (hcell k hlt)
      have hkc : k < cntN s.size := by have := HPL.out; omega
      have hpk : PL[k] = pcS m s k := by
        have e := HPE.out
        subst e
        simp [pcsL]
      rw [hpk] at hce
      have hpc := pcS_piece (i := k) hm hs hkc
      have hsz : (pcS m s k).size ≤ 1048576 := by
        unfold pcS
        rw [app_size, app_size, app_size, part_size]
        have v1 := varS_short m hm
        have v2 := varS_short k (by omega)
        have v3 := varS_short (cntN s.size) (by omega)
        unfold lenN; omega
      obtain ⟨y, hy⟩ : ∃ y, y = pcS m s k := ⟨_, rfl⟩
      rw [← hy] at hce hpc hsz
      have HPC : Hid (pcP y = some (m, k, cntN s.size, partP s k)) := hpc
      have HKL : Hid (cntN s.size = PL.length) := HPL.out.symm
      clear hy hpk hpc hcell hkc
      have i0 : (0 : Int) ≤ (k : Int) := by omega
      have i1 : (k : Int) < (PL.length : Int) := by omega
      go_wp2_with fail
      refine (ReadPiece_any y wr hsz).mono ?_
      rintro e w5 ⟨q1, q2, q3, q4, q5, rfl, ha, hb5⟩
      have hA : m = q1 ∧ k = q2 ∧ PL.length = q3 ∧ true = q5 := by
        rcases ha with ⟨h1, rfl⟩ | ⟨h1, _⟩
        · rw [HPC.out] at h1
          simp only [Option.some.injEq, Prod.mk.injEq] at h1
          exact ⟨h1.1, h1.2.1, by rw [← h1.2.2.1, HKL.out], rfl⟩
        · rw [HPC.out] at h1; cases h1
      obtain ⟨hA1, hA2, hA3, hA4⟩ := hA
      subst hA1
      subst hA2
      subst hA3
      subst hA4
      have B5 : Hid (Below w4.heap.size w4 w5) := hb.out.trans (hb5.mono hb.out.size)
      clear ha hb5 hb hce
      go_wp2_with fail
      go_roundw
      case rel =>
        have HK1 : k + 1 ≤ PL.length := hlt
        exact ⟨k + 1, HK1, by go_num, B5⟩
      case measure => simp [intOf]; omega
    · obtain rfl : k = PL.length := by omega
      have LW : OwnS wr w2.heap.size (.slice (some ⟨gl, 0, none⟩) PL.length cl) PL := ownS_later L4.out hb.out
      have TX : Hid (TextsAt wr (some ⟨gl, 0, none⟩) PL) := by
        obtain ⟨a', c', e', ht⟩ := LW.texts
        simp only [Value.slice.injEq] at e'
        rw [← e'.1] at ht
        exact ht
      have BW : Hid (Below w1.heap.size w1 wr) := B4.out.trans (hb.out.mono B4.out.size)
      clear LW hb
      go_wp2_with fail
      refine (implJoin (some ⟨gl, 0, none⟩) cl PL wr TX (by omega) HSZ).mono ?_
      rintro e w5 ⟨v5, rfl, hv5, hb5⟩
      rw [HJ1.out] at hv5
      obtain ⟨a5, c5, rfl, ht5⟩ := hv5.texts
      have T5 : Hid (TextsAt (w5.alloc (.cells #[.string s] 9)) a5 [s]) := ht5.stays ((Below.refl _ _).alloc (Nat.le_refl _) _)
      have U5 : Hid (TextsAt (w5.alloc (.cells #[.string s] 9)) (some ⟨w5.heap.size, 0, none⟩) [s]) := by
        obtain ⟨a', c', e', ht⟩ := (OwnS.lit w5 0 [s] (Nat.zero_le _) (by simp)).texts
        simp only [Value.slice.injEq] at e'
        rw [← e'.1] at ht
        exact ht
      have B5 : Hid (Below w1.heap.size w1 (w5.alloc (.cells #[.string s] 9))) := (BW.out.trans (hb5.mono BW.out.size)).alloc (by have := BW.out.size; have := hb5.size; omega) _
      have X5 : Hid (TextsAt (w5.alloc (.cells #[.string s] 9)) (some ⟨gl, 0, none⟩) PL) := (TX.out.stays hb5).stays ((Below.refl _ _).alloc (Nat.le_refl _) _)
      clear hv5 ht5 hb5 TX BW
      go_wp2_with fail
      generalize w5.alloc (.cells #[.string s] 9) = W5 at *
      refine (sameT_any a5 (some ⟨w5.heap.size, 0, none⟩) c5 1 [s] W5 T5 U5 (by simp)).mono ?_
      rintro e w6 ⟨rfl, hb6⟩
      have B6 : Hid (Below w1.heap.size w1 w6) := B5.out.trans (hb6.mono B5.out.size)
      have X6 : Hid (TextsAt w6 (some ⟨gl, 0, none⟩) PL) := X5.out.stays hb6
      clear hb6 T5 U5 B5 X5
      go_wp2_with fail
      have X6t : TextsAt w6 (some ⟨gl, 0, none⟩) (PL.take (PL.length - 1)) := fun i hi => by
        have hi' : i < PL.length := by rw [List.length_take] at hi; omega
        obtain ⟨b, o, e1, e2, e3⟩ := X6.out i hi'
        exact ⟨b, o, e1, e2, by rw [e3]; simp⟩
      have hJ := implJoin (some ⟨gl, 0, none⟩) cl (PL.take (PL.length - 1)) w6 X6t (by rw [List.length_take]; omega) (fun x hx => HSZ.out x (List.mem_of_mem_take hx))
      rw [show (PL.take (PL.length - 1)).length = PL.length - 1 by rw [List.length_take]; omega, HJ2.out] at hJ
      refine hJ.mono ?_
      clear hJ X6t
      rintro e w7 ⟨v7, rfl, hv7, hb7⟩
      obtain ⟨a7, c7, rfl⟩ := hv7.form
      have B7 : Hid (Below w1.heap.size w1 w7) := B6.out.trans (hb7.mono B6.out.size)
      have X7 : Hid (TextsAt w7 (some ⟨gl, 0, none⟩) PL) := X6.out.stays hb7
      have O7 : OwnS (w7.alloc (.cells #[] 9)) w7.heap.size (.slice (some ⟨w7.heap.size, 0, none⟩) 0 0) [] := OwnS.made w7 w7.heap.size (Nat.le_refl _)
      have R7 : RT (w7.alloc (.cells #[] 9)) (.slice (some ⟨gl, 0, none⟩) PL.length cl) PL := ⟨_, _, rfl, X7.out.stays ((Below.refl _ _).alloc (Nat.le_refl _) _)⟩
      have z7 : w7.heap.size ≤ (w7.alloc (.cells #[] 9)).heap.size := by simp
      have hl7 : ([] : List ByteArray).length + PL.length < 4000000 := by simp; omega
      clear hv7 hb7 X6 B6
      go_wp2_with (first | (with_reducible refine wpList_haltA _ _ _ rfl ?_))
      refine Stp.go ?_
      refine wpList_catT rfl _ _ 26 rfl Try.underlying26 Try.info9 w7.heap.size (.slice (some ⟨w7.heap.size, 0, none⟩) 0 0) [] rfl O7 (.slice (some ⟨gl, 0, none⟩) PL.length cl) PL rfl R7 hl7 z7 (fun h => by cases h) ?_
      intro v8 w8 O8 G8
      have b8 : Below w7.heap.size w7 w8 := ((Below.refl w7.heap.size w7).alloc (Nat.le_refl _) _).grown G8 (by simp) (fun k hk => by cases hk; exact Nat.le_refl _)
      have O8 : OwnS w8 w7.heap.size v8 PL := O8
      have R8 : RT w8 (.slice (some ⟨gl, 0, none⟩) PL.length cl) PL := ⟨_, _, rfl, X7.out.stays b8⟩
      have hv8 : v8 ≠ .slice none 0 0 := fun h => by
        obtain ⟨g', c', e', _⟩ := O8.some hPL0
        rw [h] at e'; cases e'
      have z8 : w7.heap.size ≤ w8.heap.size := b8.size
      have hl8 : PL.length + PL.length < 4000000 := by omega
      have B8 : Hid (Below w7.heap.size w7 w8) := b8
      clear O7 R7 z7 hl7 G8 b8
      go_wp2_with (first | (with_reducible refine wpList_haltA _ _ _ rfl ?_))
      refine Stp.go ?_
      refine wpList_catT rfl _ _ 26 rfl Try.underlying26 Try.info9 w7.heap.size v8 PL rfl O8 (.slice (some ⟨gl, 0, none⟩) PL.length cl) PL rfl R8 hl8 z8 hv8 ?_
      intro v9 w9 O9 G9
      have b9 : Below w7.heap.size w7 w9 := B8.out.grown G9 z8 (fun k hk => (O8.lt k hk).1)
      obtain ⟨a9, c9, rfl, ht9⟩ := O9.texts
      have T9 : Hid (TextsAt w9 a9 (PL ++ PL)) := ht9
      have B9 : Hid (Below w1.heap.size w1 w9) := B7.out.trans (b9.mono B7.out.size)
      clear O8 R8 hv8 z8 hl8 B8 O9 G9 b9 ht9 X7 B7
      have hJ := implJoin a9 c9 (PL ++ PL) w9 T9 (by rw [List.length_append]; omega) (fun x hx => by
        rcases List.mem_append.1 hx with h | h
        · exact HSZ.out x h
        · exact HSZ.out x h)
      rw [HJ3.out, List.length_append] at hJ
      go_wp2_with fail
      refine hJ.mono ?_
      clear hJ T9
      rintro e w10 ⟨v10, rfl, hv10, hb10⟩
      obtain ⟨a10, c10, rfl, ht10⟩ := hv10.texts
      have T10 : Hid (TextsAt (w10.alloc (.cells #[.string s, .string s] 9)) a10 [s, s]) := ht10.stays ((Below.refl _ _).alloc (Nat.le_refl _) _)
      have U10 : Hid (TextsAt (w10.alloc (.cells #[.string s, .string s] 9)) (some ⟨w10.heap.size, 0, none⟩) [s, s]) := by
        obtain ⟨a', c', e', ht⟩ := (OwnS.lit w10 0 [s, s] (Nat.zero_le _) (by simp)).texts
        simp only [Value.slice.injEq] at e'
        rw [← e'.1] at ht
        exact ht
      have B10 : Hid (Below w1.heap.size w1 (w10.alloc (.cells #[.string s, .string s] 9))) := (B9.out.trans (hb10.mono B9.out.size)).alloc (by have := B9.out.size; have := hb10.size; omega) _
      clear hv10 ht10 hb10 B9
      go_wp2_with fail
      generalize w10.alloc (.cells #[.string s, .string s] 9) = W10 at *
      refine (sameT_any a10 (some ⟨w10.heap.size, 0, none⟩) c10 2 [s, s] W10 T10 U10 (by simp)).mono ?_
      rintro e w11 ⟨rfl, hb11⟩
      have B11 : Hid (Below w1.heap.size w1 w11) := B10.out.trans (hb11.mono B10.out.size)
      clear hb11 T10 U10 B10
      go_wp2
      go_ret
      exact ⟨rfl, B11.out⟩
end Go.Proofs.Ytfefjkldjaabbaa
