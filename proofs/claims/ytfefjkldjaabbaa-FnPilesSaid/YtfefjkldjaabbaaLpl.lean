/- The law on piles, walked, given what the draw of its list answers. Written by gen_lpl.py. -/
import Derived.Test.YtfefjkldjaabbaaSj
import Derived.Test.YtfefjkldjaabbaaIa2
import Derived.Test.YtfefjkldjaabbaaPr
import Derived.Test.YtfefjkldjaabbaaPq
import Derived.Test.YtfefjkldjaabbaaBg
import Derived.Test.YtfefjkldjaabbaaMn
namespace Go.Proofs.Ytfefjkldjaabbaa
open Go.RowKit Pl
set_option linter.unusedVariables false
set_option linter.unusedSimpArgs false

/-- what is drawn: a list of texts of the call's own, not too long. -/
def Drawn (w : World) (e : Ending) (w' : World) : Prop := ∃ v ts, e = .returned v ∧ OwnS w' w.heap.size v ts ∧ ts.length ≤ 1000 ∧ (∀ x ∈ ts, x.size ≤ 1048576) ∧ Below w.heap.size w w'
abbrev litA : ByteArray := ⟨#[5, 0, 1, 104, 105]⟩
abbrev litB : ByteArray := ⟨#[104, 105]⟩
theorem joined_lit : joinedL [litA] = [litB] := by
  have h := joined_all (num := 5) (s := litB) (by omega) (by decide)
  have e : pcsL 5 litB = [litA] := by
    unfold pcsL
    rw [show cntN litB.size = 1 from rfl]
    show [pcS 5 litB 0] = [litA]
    congr 1
  rw [e] at h
  exact h
/-- the pile behind the first pieces, in its box. -/
def PlSt (W0 wr : World) (gp : Nat) (ts : List ByteArray) : Prop := ∃ s : Sv, PiB wr gp (pileL ts).num (pileL ts).cnt s ∧ OwnS wr 0 s.v (pileL ts).ps ∧ Below gp W0 wr

set_option maxRecDepth 100000 in
set_option maxHeartbeats 8000000 in
theorem lawPiles_of (w : World) (n cap : Nat) (ao : Option Addr) (hD : n ≤ 1048576 → Calls Try.prog 16 #[.slice ao n cap] w fun e w' => Drawn w e w') :
    Calls Try.prog 4 #[.slice ao n cap] w fun e w' => e = .returned (.bool true) ∧ Below w.heap.size w w' := by
  by_cases hn : n ≤ 1048576
  case neg =>
    have hbig : decide (1048576 < (n : Int)) = true := by simp; omega
    clear hD
    go_enter Try.func4, Try.ntmps4
    go_wp2_with (first | (go_at_call 9; refine (big_any _ n cap ao true hbig).mono ?_; rintro e w1 ⟨rfl, rfl⟩))
    go_ret
    exact ⟨rfl, Below.refl _ _⟩
  have hbig : decide (1048576 < (n : Int)) = false := by simp; omega
  have HD : Hid (Calls Try.prog 16 #[.slice ao n cap] w fun e w' => Drawn w e w') := hD hn
  clear hD
  go_enter Try.func4, Try.ntmps4
  go_wp2_with (first | (go_at_call 9; refine (big_any _ n cap ao false hbig).mono ?_; rintro e w1 ⟨rfl, rfl⟩))
  refine HD.out.mono ?_
  rintro e w2 ⟨v, ts, rfl, hv, hl, hs, hb2⟩
  obtain ⟨al, cl, rfl, ht2⟩ := hv.texts
  have HS : Hid (∀ x ∈ ts, x.size ≤ 1048576) := hs
  have X2 : Hid (TextsAt w2 al ts) := ht2
  have B2 : Hid (Below w1.heap.size w1 w2) := hb2
  clear hv ht2 hb2 hs HD
  go_wp2_with fail
  refine (implJoin al cl ts w2 X2 (by omega) HS).mono ?_
  rintro e w3 ⟨v3, rfl, hv3, hb3⟩
  obtain ⟨a3, c3, rfl, ht3⟩ := hv3.texts
  have X3 : Hid (TextsAt w3 al ts) := X2.out.stays hb3
  have B3 : Hid (Below w1.heap.size w1 w3) := B2.out.trans (hb3.mono B2.out.size)
  have Y3 : Hid (TextsAt w3 a3 (joinedL ts)) := ht3
  clear hv3 ht3 hb3 X2 B2
  generalize hJL : joinedL ts = JL at *
  have HJL : Hid (joinedL ts = JL) := hJL
  have hJl : JL.length ≤ 1000 := by rw [← hJL]; have := joinedL_len ts; omega
  clear hJL
  go_wp2_with fail
  refine (specJoin al cl ts w3 X3 (by omega) HS).mono ?_
  rintro e w4 ⟨v4, rfl, hv4, hb4⟩
  rw [HJL.out] at hv4
  obtain ⟨a4, c4, rfl, ht4⟩ := hv4.texts
  have X4 : Hid (TextsAt w4 al ts) := X3.out.stays hb4
  have B4 : Hid (Below w1.heap.size w1 w4) := B3.out.trans (hb4.mono B3.out.size)
  have Y4 : Hid (TextsAt w4 a3 JL) := Y3.out.stays hb4
  have Z4 : Hid (TextsAt w4 a4 JL) := ht4
  clear hv4 ht4 hb4 X3 B3 Y3
  go_wp2_with fail
  refine (sameT_any a3 a4 c3 c4 JL w4 Y4 Z4 (by omega)).mono ?_
  rintro e W0 ⟨rfl, hb5⟩
  have X5 : Hid (TextsAt W0 al ts) := X4.out.stays hb5
  have B5 : Hid (Below w1.heap.size w1 W0) := B4.out.trans (hb5.mono B4.out.size)
  clear hb5 X4 B4 Y4 Z4
  have S0 : Hid (PlSt W0 (W0.alloc (.cells #[.int .i64 0, .int .i64 0, .slice none 0 0] 35)) W0.heap.size (ts.take 0)) := ⟨⟨none, 0, 0⟩, Bx.new W0 35 [.int .i64 0, .int .i64 0, .slice none 0 0], ownS_none _ _, (Below.refl _ _).alloc (Nat.le_refl _) _⟩
  go_wp2_with fail
  generalize hgp : W0.heap.size = gp at *
  have HGP : Hid (W0.heap.size = gp) := hgp
  clear hgp
  go_loopw [6, 7] (fun c i wr => ∃ k j : Nat, k ≤ ts.length ∧ i = .int .i64 k ∧ c = .int .i64 j ∧ Hid (j = (joinedL (ts.take k)).length) ∧ Hid (PlSt W0 wr gp (ts.take k))) (fun _ i _ => ts.length - (intOf i).toNat)
  case atStart => exact ⟨0, 0, Nat.zero_le _, rfl, rfl, rfl, S0⟩
  case round =>
    clear S0
    obtain ⟨k, j, hk, rfl, rfl, hj, hst⟩ := hrel
    by_cases hlt : k < ts.length
    · obtain ⟨s, hP, hS, hB⟩ := hst.out
      obtain ⟨sb, so, rfl, hsb0, hcl0⟩ := X5.out k hlt
      have hsb : sb < wr.heap.size := Nat.lt_of_lt_of_le hsb0 hB.size
      have hcl : wr.cell? ⟨sb, so + k, none⟩ = some (.string ts[k]) := (hB.cell (p := ⟨sb, so + k, none⟩) (by rw [← HGP.out]; exact hsb0)).trans hcl0
      have hsz := HS.out _ (List.getElem_mem hlt)
      obtain ⟨tx, hp⟩ : ∃ x : ByteArray, x = ts[k] := ⟨_, rfl⟩
      rw [← hp] at hcl hsz
      have HQ : Hid (tx = ts[k]) := hp
      have P1 : Hid (PiB wr gp (pileL (ts.take k)).num (pileL (ts.take k)).cnt s) := hP
      have RS : Hid (RT wr (.slice s.a s.n s.c) (pileL (ts.take k)).ps) := hS.rt
      have B1 : Hid (Below gp W0 wr) := hB
      have HL : Hid (pileL (ts.take k)).short := pile_short _
      have hj1 : j ≤ 1000 := by rw [hj.out]; have := joinedL_len (ts.take k); rw [List.length_take] at this; omega
      have i0 : (0 : Int) ≤ (k : Int) := by omega
      have i1 : (k : Int) < (ts.length : Int) := by omega
      clear hp hP hS hB hst hcl0 hsb0
      go_wp2_with fail
      go_cut [8, 9, 10] (fun u8 u9 u10 wx => ∃ (gm : Nat) (um : Sv), u8 = .pointer (some ⟨gm, 0, none⟩) ∧ u9 = .string (addP (pileL (ts.take k)) tx).2.1 ∧ u10 = .bool (addP (pileL (ts.take k)) tx).2.2 ∧ Bx wx gm 35 [.int .i64 (addP (pileL (ts.take k)) tx).1.num, .int .i64 (addP (pileL (ts.take k)) tx).1.cnt, .slice um.a um.n um.c] ∧ OwnS wx wr.heap.size um.v (addP (pileL (ts.take k)) tx).1.ps ∧ wr.heap.size ≤ gm ∧ Below wr.heap.size wr wx)
      case first =>
        have KEEP : Hid (∀ w', Below wr.heap.size wr w' → (w'.cell? ⟨sb, so + k, none⟩ = some (.string tx)) ∧ Hid (Below wr.heap.size wr w')) := fun w' hb => ⟨(hb.cell (p := ⟨sb, so + k, none⟩) hsb).trans hcl, hb⟩
        have c : Below wr.heap.size wr wr.drew := (Below.refl _ _).drew
        refine wp_region_held_drew (S := fun w' => (w'.cell? ⟨sb, so + k, none⟩ = some (.string tx)) ∧ Hid (Below wr.heap.size wr w')) (by kernel_rfl) (KEEP.out _ c) (fun hHeld => ?_)
        refine wpAnyH_take (i := 0) (v := _) rfl (by kernel_rfl) (by kernel_rfl) (by kernel_rfl) (fun _ _ _ h => h) (ld_yield (by rfl) 35 _ rfl gp 0 rfl 35 _ (fun w hS => P1.out.later hS.2.out) [.int .i64 (pileL (ts.take k)).num, .int .i64 (pileL (ts.take k)).cnt, .slice s.a s.n s.c] rfl _ Try.underlying35 rfl Try.sizeP) (by assumption) ?_
        try simp only [Act.put, List.getElem_toArray, List.getElem_cons_zero, List.getElem_cons_succ, List.setIfInBounds_toArray, List.set_cons_zero, List.set_cons_succ]
        refine wpAnyH_take (i := 1) (v := ?v1b2) rfl (by kernel_rfl) (by kernel_rfl) (by kernel_rfl) (fun _ _ _ h => h) (Or.inl ⟨by rfl, ?hy1b2⟩) (by assumption) ?_
        case hy1b2 => (intro w hSw; (try dsimp only at hSw); simp only [List.getElem_toArray, List.getElem_cons_zero, List.getElem_cons_succ]; go_simp; try with_reducible rfl)
        try simp only [Act.put, List.getElem_toArray, List.getElem_cons_zero, List.getElem_cons_succ, List.setIfInBounds_toArray, List.set_cons_zero, List.set_cons_succ]
        refine wpAnyH_take (i := 2) (v := ?v2b3) rfl (by kernel_rfl) (by kernel_rfl) (by kernel_rfl) (fun _ _ _ h => h) (Or.inl ⟨by rfl, ?hy2b3⟩) (by assumption) ?_
        case hy2b3 => (intro w hSw; (try dsimp only at hSw); simp only [List.getElem_toArray, List.getElem_cons_zero, List.getElem_cons_succ]; go_simp; try with_reducible rfl)
        try simp only [Act.put, List.getElem_toArray, List.getElem_cons_zero, List.getElem_cons_succ, List.setIfInBounds_toArray, List.set_cons_zero, List.set_cons_succ]
        refine wpAnyH_take (i := 3) (v := ?v3b4) rfl (by kernel_rfl) (by kernel_rfl) (by kernel_rfl) (fun _ _ _ h => h) (Or.inl ⟨by rfl, ?hy3b4⟩) (by assumption) ?_
        case hy3b4 => (intro w hSw; (try dsimp only at hSw); simp only [List.getElem_toArray, List.getElem_cons_zero, List.getElem_cons_succ]; go_simp; try with_reducible rfl)
        try simp only [Act.put, List.getElem_toArray, List.getElem_cons_zero, List.getElem_cons_succ, List.setIfInBounds_toArray, List.set_cons_zero, List.set_cons_succ]
        refine wpAnyH_take (i := 4) (v := ?v4b5) rfl (by kernel_rfl) (by kernel_rfl) (by kernel_rfl) (fun _ _ _ h => h) (Or.inl ⟨by rfl, ?hy4b5⟩) (by assumption) ?_
        case hy4b5 => (intro w hSw; (try dsimp only at hSw); simp only [List.getElem_toArray, List.getElem_cons_zero, List.getElem_cons_succ]; go_simp; try with_reducible rfl)
        try simp only [Act.put, List.getElem_toArray, List.getElem_cons_zero, List.getElem_cons_succ, List.setIfInBounds_toArray, List.set_cons_zero, List.set_cons_succ]
        refine wpAnyH_ready (rs := [5, 10]) (by kernel_rfl) (by simp) ?_
        refine (AllReadyH.cons (i := 5) rfl (fun K hK => ?_) (AllReadyH.cons (i := 10) rfl (fun K hK => ?_) AllReadyH.nil))
        · skip
          rw [if_pos (by rfl)]
          simp only [List.getElem_toArray, List.getElem_cons_zero, List.getElem_cons_succ]
          go_simp
          refine (implAdd_any (pileL (ts.take k)) tx s wr.drew (show Hid (RT wr.drew (.slice s.a s.n s.c) (pileL (ts.take k)).ps) from RS.out.stays c) HL hsz).mono ?_
          rintro e y1 ⟨um, rfl, om1, b⟩
          have zc : wr.heap.size ≤ wr.drew.heap.size := c.size
          have O1 : Hid (OwnS y1 wr.heap.size um.v (addP (pileL (ts.take k)) tx).1.ps) := om1.down zc
          have c : Below wr.heap.size wr y1 := bl_next c b
          refine hK.out _ _ (KEEP.out _ c) (fun hHeld => ?_)
          clear hK K
          try simp only [Act.put, List.getElem_toArray, List.getElem_cons_zero, List.getElem_cons_succ, List.setIfInBounds_toArray, List.set_cons_zero, List.set_cons_succ]
          clear b om1 zc
          refine wpAnyH_take (i := 6) (v := ?v6b6) rfl (by kernel_rfl) (by kernel_rfl) (by kernel_rfl) (fun _ _ _ h => h) (Or.inl ⟨by rfl, ?hy6b6⟩) (by assumption) ?_
          case hy6b6 => (intro w hSw; (try dsimp only at hSw); simp only [List.getElem_toArray, List.getElem_cons_zero, List.getElem_cons_succ]; go_simp; try with_reducible rfl)
          try simp only [Act.put, List.getElem_toArray, List.getElem_cons_zero, List.getElem_cons_succ, List.setIfInBounds_toArray, List.set_cons_zero, List.set_cons_succ]
          refine wpAnyH_take (i := 7) (v := ?v7b7) rfl (by kernel_rfl) (by kernel_rfl) (by kernel_rfl) (fun _ _ _ h => h) (Or.inl ⟨by rfl, ?hy7b7⟩) (by assumption) ?_
          case hy7b7 => (intro w hSw; (try dsimp only at hSw); simp only [List.getElem_toArray, List.getElem_cons_zero, List.getElem_cons_succ]; go_simp; try with_reducible rfl)
          try simp only [Act.put, List.getElem_toArray, List.getElem_cons_zero, List.getElem_cons_succ, List.setIfInBounds_toArray, List.set_cons_zero, List.set_cons_succ]
          refine wpAnyH_take (i := 8) (v := ?v8b8) rfl (by kernel_rfl) (by kernel_rfl) (by kernel_rfl) (fun _ _ _ h => h) (Or.inl ⟨by rfl, ?hy8b8⟩) (by assumption) ?_
          case hy8b8 => (intro w hSw; (try dsimp only at hSw); simp only [List.getElem_toArray, List.getElem_cons_zero, List.getElem_cons_succ]; go_simp; try with_reducible rfl)
          try simp only [Act.put, List.getElem_toArray, List.getElem_cons_zero, List.getElem_cons_succ, List.setIfInBounds_toArray, List.set_cons_zero, List.set_cons_succ]
          refine wpAnyH_take (i := 9) (v := ?v9b9) rfl (by kernel_rfl) (by kernel_rfl) (by kernel_rfl) (fun _ _ _ h => h) (Or.inl ⟨by rfl, ?hy9b9⟩) (by assumption) ?_
          case hy9b9 => (intro w hSw; (try dsimp only at hSw); simp only [List.getElem_toArray, List.getElem_cons_zero, List.getElem_cons_succ]; go_simp; try with_reducible rfl)
          try simp only [Act.put, List.getElem_toArray, List.getElem_cons_zero, List.getElem_cons_succ, List.setIfInBounds_toArray, List.set_cons_zero, List.set_cons_succ]
          refine wpAnyH_ready (rs := [10]) (by kernel_rfl) (by simp) ?_
          refine AllReadyH.cons (i := 10) rfl (fun K hK => ?_) AllReadyH.nil
          rw [if_pos (by rfl)]
          simp only [List.getElem_toArray, List.getElem_cons_zero, List.getElem_cons_succ]
          go_simp
          have BX2 : Hid (Bx (y1.alloc (.cells #[.int .i64 0, .int .i64 0, .slice none 0 0] 35)) y1.heap.size 35 [.int .i64 0, .int .i64 0, .slice none 0 0]) := by have h := Bx.new y1 35 [.int .i64 0, .int .i64 0, .slice none 0 0]; rw [show y1.heap.size = y1.heap.size by simp] at h; exact h
          have zq : wr.heap.size ≤ y1.heap.size := by have h := c.size; rw [show y1.heap.size = y1.heap.size by simp] at h; exact h
          have c : Below wr.heap.size wr (y1.alloc (.cells #[.int .i64 0, .int .i64 0, .slice none 0 0] 35)) := c.alloc c.size _
          have O1 : Hid (OwnS (y1.alloc (.cells #[.int .i64 0, .int .i64 0, .slice none 0 0] 35)) wr.heap.size um.v (addP (pileL (ts.take k)) tx).1.ps) := O1.out.alloc _
          refine hK.out _ _ (KEEP.out _ c) (fun hHeld => ?_)
          clear hK K
          try simp only [Act.put, List.getElem_toArray, List.getElem_cons_zero, List.getElem_cons_succ, List.setIfInBounds_toArray, List.set_cons_zero, List.set_cons_succ]
          refine wpAnyH_ready (rs := [11]) (by kernel_rfl) (by simp) ?_
          refine AllReadyH.cons (i := 11) rfl (fun K hK => ?_) AllReadyH.nil
          rw [if_pos (by rfl)]
          simp only [List.getElem_toArray, List.getElem_cons_zero, List.getElem_cons_succ]
          refine wp_stB 35 _ _ rfl (y1.heap.size) 0 (by rfl) 35 _ BX2.out [.int .i64 (addP (pileL (ts.take k)) tx).1.num, .int .i64 (addP (pileL (ts.take k)) tx).1.cnt, .slice um.a um.n um.c] (by rfl) (by simp) Try.sizeP rfl [.int .i64 (addP (pileL (ts.take k)) tx).1.num, .int .i64 (addP (pileL (ts.take k)) tx).1.cnt, .slice um.a um.n um.c] rfl ?_
          intro y3 RB3 TB3
          have O3 := O1.out.past BX2.out TB3 (by decide)
          have c : Below wr.heap.size wr y3 := c.trans (TB3.below zq)
          refine hK.out _ _ (KEEP.out _ c) (fun hHeld => ?_)
          clear hK K
          try simp only [Act.put, List.getElem_toArray, List.getElem_cons_zero, List.getElem_cons_succ, List.setIfInBounds_toArray, List.set_cons_zero, List.set_cons_succ]
          refine wpAnyH_take (i := 12) (v := ?v12b10) rfl (by kernel_rfl) (by kernel_rfl) (by kernel_rfl) (fun _ _ _ h => h) (Or.inl ⟨by rfl, ?hy12b10⟩) (by assumption) ?_
          case hy12b10 => (intro w hSw; (try dsimp only at hSw); simp only [List.getElem_toArray, List.getElem_cons_zero, List.getElem_cons_succ]; go_simp; try with_reducible rfl)
          try simp only [Act.put, List.getElem_toArray, List.getElem_cons_zero, List.getElem_cons_succ, List.setIfInBounds_toArray, List.set_cons_zero, List.set_cons_succ]
          refine wpAnyH_take (i := 13) (v := ?v13b11) rfl (by kernel_rfl) (by kernel_rfl) (by kernel_rfl) (fun _ _ _ h => h) (Or.inl ⟨by rfl, ?hy13b11⟩) (by assumption) ?_
          case hy13b11 => (intro w hSw; (try dsimp only at hSw); simp only [List.getElem_toArray, List.getElem_cons_zero, List.getElem_cons_succ]; go_simp; try with_reducible rfl)
          try simp only [Act.put, List.getElem_toArray, List.getElem_cons_zero, List.getElem_cons_succ, List.setIfInBounds_toArray, List.set_cons_zero, List.set_cons_succ]
          refine wpAnyH_done (by kernel_rfl) ?_ _
          try go_wp2_with fail
          go_meet
          exact ⟨_, um, rfl, rfl, rfl, RB3, O3, zq, c⟩
        · skip
          rw [if_pos (by rfl)]
          simp only [List.getElem_toArray, List.getElem_cons_zero, List.getElem_cons_succ]
          go_simp
          have BX1 : Hid (Bx (wr.drew.alloc (.cells #[.int .i64 0, .int .i64 0, .slice none 0 0] 35)) wr.heap.size 35 [.int .i64 0, .int .i64 0, .slice none 0 0]) := by have h := Bx.new wr.drew 35 [.int .i64 0, .int .i64 0, .slice none 0 0]; rw [show wr.drew.heap.size = wr.heap.size by simp] at h; exact h
          have zq : wr.heap.size ≤ wr.heap.size := by have h := c.size; rw [show wr.drew.heap.size = wr.heap.size by simp] at h; exact h
          have c : Below wr.heap.size wr (wr.drew.alloc (.cells #[.int .i64 0, .int .i64 0, .slice none 0 0] 35)) := c.alloc c.size _
          refine hK.out _ _ (KEEP.out _ c) (fun hHeld => ?_)
          clear hK K
          try simp only [Act.put, List.getElem_toArray, List.getElem_cons_zero, List.getElem_cons_succ, List.setIfInBounds_toArray, List.set_cons_zero, List.set_cons_succ]
          refine wpAnyH_ready (rs := [5]) (by kernel_rfl) (by simp) ?_
          refine AllReadyH.cons (i := 5) rfl (fun K hK => ?_) AllReadyH.nil
          rw [if_pos (by rfl)]
          simp only [List.getElem_toArray, List.getElem_cons_zero, List.getElem_cons_succ]
          go_simp
          refine (implAdd_any (pileL (ts.take k)) tx s (wr.drew.alloc (.cells #[.int .i64 0, .int .i64 0, .slice none 0 0] 35)) (show Hid (RT (wr.drew.alloc (.cells #[.int .i64 0, .int .i64 0, .slice none 0 0] 35)) (.slice s.a s.n s.c) (pileL (ts.take k)).ps) from RS.out.stays c) HL hsz).mono ?_
          rintro e y2 ⟨um, rfl, om2, b⟩
          have zc : wr.heap.size ≤ (wr.drew.alloc (.cells #[.int .i64 0, .int .i64 0, .slice none 0 0] 35)).heap.size := c.size
          have BX1 : Hid (Bx y2 wr.heap.size 35 [.int .i64 0, .int .i64 0, .slice none 0 0]) := BX1.out.later b
          have O2 : Hid (OwnS y2 wr.heap.size um.v (addP (pileL (ts.take k)) tx).1.ps) := om2.down zc
          have c : Below wr.heap.size wr y2 := bl_next c b
          refine hK.out _ _ (KEEP.out _ c) (fun hHeld => ?_)
          clear hK K
          try simp only [Act.put, List.getElem_toArray, List.getElem_cons_zero, List.getElem_cons_succ, List.setIfInBounds_toArray, List.set_cons_zero, List.set_cons_succ]
          clear b om2 zc
          refine wpAnyH_take (i := 6) (v := ?v6b12) rfl (by kernel_rfl) (by kernel_rfl) (by kernel_rfl) (fun _ _ _ h => h) (Or.inl ⟨by rfl, ?hy6b12⟩) (by assumption) ?_
          case hy6b12 => (intro w hSw; (try dsimp only at hSw); simp only [List.getElem_toArray, List.getElem_cons_zero, List.getElem_cons_succ]; go_simp; try with_reducible rfl)
          try simp only [Act.put, List.getElem_toArray, List.getElem_cons_zero, List.getElem_cons_succ, List.setIfInBounds_toArray, List.set_cons_zero, List.set_cons_succ]
          refine wpAnyH_take (i := 7) (v := ?v7b13) rfl (by kernel_rfl) (by kernel_rfl) (by kernel_rfl) (fun _ _ _ h => h) (Or.inl ⟨by rfl, ?hy7b13⟩) (by assumption) ?_
          case hy7b13 => (intro w hSw; (try dsimp only at hSw); simp only [List.getElem_toArray, List.getElem_cons_zero, List.getElem_cons_succ]; go_simp; try with_reducible rfl)
          try simp only [Act.put, List.getElem_toArray, List.getElem_cons_zero, List.getElem_cons_succ, List.setIfInBounds_toArray, List.set_cons_zero, List.set_cons_succ]
          refine wpAnyH_take (i := 8) (v := ?v8b14) rfl (by kernel_rfl) (by kernel_rfl) (by kernel_rfl) (fun _ _ _ h => h) (Or.inl ⟨by rfl, ?hy8b14⟩) (by assumption) ?_
          case hy8b14 => (intro w hSw; (try dsimp only at hSw); simp only [List.getElem_toArray, List.getElem_cons_zero, List.getElem_cons_succ]; go_simp; try with_reducible rfl)
          try simp only [Act.put, List.getElem_toArray, List.getElem_cons_zero, List.getElem_cons_succ, List.setIfInBounds_toArray, List.set_cons_zero, List.set_cons_succ]
          refine wpAnyH_take (i := 9) (v := ?v9b15) rfl (by kernel_rfl) (by kernel_rfl) (by kernel_rfl) (fun _ _ _ h => h) (Or.inl ⟨by rfl, ?hy9b15⟩) (by assumption) ?_
          case hy9b15 => (intro w hSw; (try dsimp only at hSw); simp only [List.getElem_toArray, List.getElem_cons_zero, List.getElem_cons_succ]; go_simp; try with_reducible rfl)
          try simp only [Act.put, List.getElem_toArray, List.getElem_cons_zero, List.getElem_cons_succ, List.setIfInBounds_toArray, List.set_cons_zero, List.set_cons_succ]
          refine wpAnyH_ready (rs := [11]) (by kernel_rfl) (by simp) ?_
          refine AllReadyH.cons (i := 11) rfl (fun K hK => ?_) AllReadyH.nil
          rw [if_pos (by rfl)]
          simp only [List.getElem_toArray, List.getElem_cons_zero, List.getElem_cons_succ]
          refine wp_stB 35 _ _ rfl (wr.heap.size) 0 (by rfl) 35 _ BX1.out [.int .i64 (addP (pileL (ts.take k)) tx).1.num, .int .i64 (addP (pileL (ts.take k)) tx).1.cnt, .slice um.a um.n um.c] (by rfl) (by simp) Try.sizeP rfl [.int .i64 (addP (pileL (ts.take k)) tx).1.num, .int .i64 (addP (pileL (ts.take k)) tx).1.cnt, .slice um.a um.n um.c] rfl ?_
          intro y3 RB3 TB3
          have O3 := O2.out.past BX1.out TB3 (by decide)
          have c : Below wr.heap.size wr y3 := c.trans (TB3.below zq)
          refine hK.out _ _ (KEEP.out _ c) (fun hHeld => ?_)
          clear hK K
          try simp only [Act.put, List.getElem_toArray, List.getElem_cons_zero, List.getElem_cons_succ, List.setIfInBounds_toArray, List.set_cons_zero, List.set_cons_succ]
          refine wpAnyH_take (i := 12) (v := ?v12b16) rfl (by kernel_rfl) (by kernel_rfl) (by kernel_rfl) (fun _ _ _ h => h) (Or.inl ⟨by rfl, ?hy12b16⟩) (by assumption) ?_
          case hy12b16 => (intro w hSw; (try dsimp only at hSw); simp only [List.getElem_toArray, List.getElem_cons_zero, List.getElem_cons_succ]; go_simp; try with_reducible rfl)
          try simp only [Act.put, List.getElem_toArray, List.getElem_cons_zero, List.getElem_cons_succ, List.setIfInBounds_toArray, List.set_cons_zero, List.set_cons_succ]
          refine wpAnyH_take (i := 13) (v := ?v13b17) rfl (by kernel_rfl) (by kernel_rfl) (by kernel_rfl) (fun _ _ _ h => h) (Or.inl ⟨by rfl, ?hy13b17⟩) (by assumption) ?_
          case hy13b17 => (intro w hSw; (try dsimp only at hSw); simp only [List.getElem_toArray, List.getElem_cons_zero, List.getElem_cons_succ]; go_simp; try with_reducible rfl)
          try simp only [Act.put, List.getElem_toArray, List.getElem_cons_zero, List.getElem_cons_succ, List.setIfInBounds_toArray, List.set_cons_zero, List.set_cons_succ]
          refine wpAnyH_done (by kernel_rfl) ?_ _
          try go_wp2_with fail
          go_meet
          exact ⟨_, um, rfl, rfl, rfl, RB3, O3, zq, c⟩

      case rest =>
      obtain ⟨gm, um, rfl, rfl, rfl, hbm, hom, zgm, b7⟩ := hcut
      generalize wc = W7 at *
      have GM : Hid (PiB W7 gm (addP (pileL (ts.take k)) tx).1.num (addP (pileL (ts.take k)) tx).1.cnt um) := hbm
      have OM : Hid (OwnS W7 wr.heap.size um.v (addP (pileL (ts.take k)) tx).1.ps) := hom
      have P7 : Hid (PiB W7 gp (pileL (ts.take k)).num (pileL (ts.take k)).cnt s) := P1.out.later b7
      have B7 : Hid (Below gp W0 W7) := B1.out.trans (b7.mono (Nat.le_of_lt P1.out.lt))
      have hun := sv_len hom
      have hok := okPi_add tx (okPi_pile (ts.take k))
      have HUN : Hid (um.n = (addP (pileL (ts.take k)) tx).1.ps.length) := hun
      have HOK : Hid (OkPi (addP (pileL (ts.take k)) tx).1 ∧ ((addP (pileL (ts.take k)) tx).2.2 = true → (addP (pileL (ts.take k)) tx).1.ps.length = 0)) := hok
      clear hun hok hbm hom b7 hcl hsb i0 i1 P1 RS B1 zgm
      cases hr : (addP (pileL (ts.take k)) tx).2.2 with
      | true =>
        have HR : Hid ((addP (pileL (ts.take k)) tx).2.2 = true) := hr
        have hu0 : um.n = 0 := by rw [HUN.out]; exact HOK.out.2 hr
        have hud : ((um.n : Int) != 0) = false := by rw [hu0]; rfl
        have hug : ¬ ((0 : Int) < (um.n : Int)) := by rw [hu0]; omega
        clear hr hu0
        obtain ⟨m0, m1, m2⟩ := GM.out.cells
        go_wp2_with (first | (with_reducible refine wpList_haltS 35 _ _ rfl ?_))
        refine Stp.go ?_
        refine wpList_stB rfl 35 _ _ rfl gp 0 rfl 35 _ P7.out [.int .i64 (addP (pileL (ts.take k)) tx).1.num, .int .i64 (addP (pileL (ts.take k)) tx).1.cnt, .slice um.a um.n um.c] rfl (by simp) Try.sizeP rfl [.int .i64 (addP (pileL (ts.take k)) tx).1.num, .int .i64 (addP (pileL (ts.take k)) tx).1.cnt, .slice um.a um.n um.c] rfl ?_
        intro w8 G8 T8
        have P8 : Hid (PiB w8 gp (pileL (ts.take (k + 1))).num (pileL (ts.take (k + 1))).cnt um) := by
          show PiB _ _ _ _ _
          rw [pile_next hlt, ← HQ.out]; exact G8
        have OM8 : Hid (OwnS w8 0 um.v (pileL (ts.take (k + 1))).ps) := by
          show OwnS _ _ _ _
          rw [pile_next hlt, ← HQ.out]; exact (OM.out.past P7.out T8 (by decide)).down (Nat.zero_le _)
        have B8 : Hid (Below gp W0 w8) := B7.out.trans (T8.below (Nat.le_refl _))
        have HC8 : Hid ((joinedL (ts.take (k + 1))).length = (joinedL (ts.take k)).length + 1) := by
          have h := joined_count hlt
          rw [← HQ.out, HR.out] at h
          show _ = _
          simpa using h
        clear G8 T8 GM OM P7 B7 m0 m1 m2
        go_wp2_with fail
        go_roundw
        case rel =>
          refine ⟨k + 1, j + 1, by omega, by go_num, by go_num, (by show _ = _; rw [HC8.out, ← hj.out]), ⟨um, P8.out, OM8.out, B8.out⟩⟩
        case measure => simp [intOf]; omega

      | false =>
        have HR : Hid ((addP (pileL (ts.take k)) tx).2.2 = false) := hr
        clear hr
        by_cases hu0 : um.n = 0
        · have hug : ¬ ((0 : Int) < (um.n : Int)) := by rw [hu0]; omega
          clear hu0
          obtain ⟨m0, m1, m2⟩ := GM.out.cells
          go_wp2_with (first | (with_reducible refine wpList_haltS 35 _ _ rfl ?_))
          refine Stp.go ?_
          refine wpList_stB rfl 35 _ _ rfl gp 0 rfl 35 _ P7.out [.int .i64 (addP (pileL (ts.take k)) tx).1.num, .int .i64 (addP (pileL (ts.take k)) tx).1.cnt, .slice um.a um.n um.c] rfl (by simp) Try.sizeP rfl [.int .i64 (addP (pileL (ts.take k)) tx).1.num, .int .i64 (addP (pileL (ts.take k)) tx).1.cnt, .slice um.a um.n um.c] rfl ?_
          intro w8 G8 T8
          have P8 : Hid (PiB w8 gp (pileL (ts.take (k + 1))).num (pileL (ts.take (k + 1))).cnt um) := by
            show PiB _ _ _ _ _
            rw [pile_next hlt, ← HQ.out]; exact G8
          have OM8 : Hid (OwnS w8 0 um.v (pileL (ts.take (k + 1))).ps) := by
            show OwnS _ _ _ _
            rw [pile_next hlt, ← HQ.out]; exact (OM.out.past P7.out T8 (by decide)).down (Nat.zero_le _)
          have B8 : Hid (Below gp W0 w8) := B7.out.trans (T8.below (Nat.le_refl _))
          have HC8 : Hid ((joinedL (ts.take (k + 1))).length = (joinedL (ts.take k)).length) := by
            have h := joined_count hlt
            rw [← HQ.out, HR.out] at h
            show _ = _
            simpa using h
          clear G8 T8 GM OM P7 B7 m0 m1 m2
          go_wp2_with fail
          go_roundw
          case rel =>
            refine ⟨k + 1, j, by omega, by go_num, by go_num, (by show _ = _; rw [HC8.out, ← hj.out]), ⟨um, P8.out, OM8.out, B8.out⟩⟩
          case measure => simp [intOf]; omega

        · have hug : (0 : Int) < (um.n : Int) := by omega
          have huc : ¬ ((addP (pileL (ts.take k)) tx).1.cnt ≤ (um.n : Int)) := by
            rcases HOK.out.1 with h | h
            · have := HUN.out; omega
            · have := HUN.out; rw [this]; omega
          clear hu0
          obtain ⟨m0, m1, m2⟩ := GM.out.cells
          go_wp2_with (first | (with_reducible refine wpList_haltS 35 _ _ rfl ?_))
          refine Stp.go ?_
          refine wpList_stB rfl 35 _ _ rfl gp 0 rfl 35 _ P7.out [.int .i64 (addP (pileL (ts.take k)) tx).1.num, .int .i64 (addP (pileL (ts.take k)) tx).1.cnt, .slice um.a um.n um.c] rfl (by simp) Try.sizeP rfl [.int .i64 (addP (pileL (ts.take k)) tx).1.num, .int .i64 (addP (pileL (ts.take k)) tx).1.cnt, .slice um.a um.n um.c] rfl ?_
          intro w8 G8 T8
          have P8 : Hid (PiB w8 gp (pileL (ts.take (k + 1))).num (pileL (ts.take (k + 1))).cnt um) := by
            show PiB _ _ _ _ _
            rw [pile_next hlt, ← HQ.out]; exact G8
          have OM8 : Hid (OwnS w8 0 um.v (pileL (ts.take (k + 1))).ps) := by
            show OwnS _ _ _ _
            rw [pile_next hlt, ← HQ.out]; exact (OM.out.past P7.out T8 (by decide)).down (Nat.zero_le _)
          have B8 : Hid (Below gp W0 w8) := B7.out.trans (T8.below (Nat.le_refl _))
          have HC8 : Hid ((joinedL (ts.take (k + 1))).length = (joinedL (ts.take k)).length) := by
            have h := joined_count hlt
            rw [← HQ.out, HR.out] at h
            show _ = _
            simpa using h
          clear G8 T8 GM OM P7 B7 m0 m1 m2
          go_wp2_with fail
          go_roundw
          case rel =>
            refine ⟨k + 1, j, by omega, by go_num, by go_num, (by show _ = _; rw [HC8.out, ← hj.out]), ⟨um, P8.out, OM8.out, B8.out⟩⟩
          case measure => simp [intOf]; omega

    · obtain rfl : k = ts.length := by omega
      obtain ⟨s, hP, hS, hB⟩ := hst.out
      have hjJ : j = JL.length := by have := hj.out; rw [List.take_length, HJL.out] at this; exact this
      subst hjJ
      have BR : Hid (Below w1.heap.size w1 wr) := B5.out.trans (hB.mono (by rw [← HGP.out]; exact B5.out.size))
      have T1 : Hid (TextsAt (wr.alloc (.cells #[.string litA] 9)) (some ⟨wr.heap.size, 0, none⟩) [litA]) := by
        obtain ⟨a', c', e', ht⟩ := (OwnS.lit wr 0 [litA] (Nat.zero_le _) (by simp)).texts
        simp only [Value.slice.injEq] at e'
        rw [← e'.1] at ht
        exact ht
      have BA : Hid (Below w1.heap.size w1 (wr.alloc (.cells #[.string litA] 9))) := BR.out.alloc BR.out.size _
      clear hP hS hB hst hj BR
      go_wp2_with fail
      have hJ := implJoin (some ⟨wr.heap.size, 0, none⟩) 1 [litA] (wr.alloc (.cells #[.string litA] 9)) T1 (by simp) (fun x hx => by simp at hx; subst hx; decide)
      rw [joined_lit] at hJ
      refine hJ.mono ?_
      clear hJ T1
      rintro e w10 ⟨v10, rfl, hv10, hb10⟩
      obtain ⟨a10, c10, rfl, ht10⟩ := hv10.texts
      have T10 : Hid (TextsAt (w10.alloc (.cells #[.string litB] 9)) a10 [litB]) := ht10.stays ((Below.refl _ _).alloc (Nat.le_refl _) _)
      have U10 : Hid (TextsAt (w10.alloc (.cells #[.string litB] 9)) (some ⟨w10.heap.size, 0, none⟩) [litB]) := by
        obtain ⟨a', c', e', ht⟩ := (OwnS.lit w10 0 [litB] (Nat.zero_le _) (by simp)).texts
        simp only [Value.slice.injEq] at e'
        rw [← e'.1] at ht
        exact ht
      have B10 : Hid (Below w1.heap.size w1 (w10.alloc (.cells #[.string litB] 9))) := (BA.out.trans (hb10.mono BA.out.size)).alloc (by have := BA.out.size; have := hb10.size; omega) _
      clear hv10 ht10 hb10 BA
      go_wp2_with fail
      refine (sameT_any a10 (some ⟨w10.heap.size, 0, none⟩) c10 1 [litB] _ T10 U10 (by simp)).mono ?_
      rintro e w11 ⟨rfl, hb11⟩
      have B11 : Hid (Below w1.heap.size w1 w11) := B10.out.trans (hb11.mono B10.out.size)
      clear hb11 T10 U10 B10
      go_wp2
      go_ret
      exact ⟨rfl, B11.out⟩
end Go.Proofs.Ytfefjkldjaabbaa
