/- Joined texts: Lpl Dj12. -/
import Derived.Test.YtfefjkldjaabbaaPj18
import Derived.Test.YtfefjkldjaabbaaPj15
import Derived.Test.YtfefjkldjaabbaaPj20
import Derived.Test.YtfefjkldjaabbaaPj4
import Derived.Test.YtfefjkldjaabbaaPj13
import Derived.Test.YtfefjkldjaabbaaPj14
import Derived.Deep.RegionHeld
/- The law on piles, walked, given what the draw of its list answers. Written by gen_lpl.py. -/
namespace Go.Proofs.Ytfefjkldjaabbaa
open Go.RowKit Pl
set_option linter.unusedVariables false
set_option linter.unusedSimpArgs false

/-- what is drawn: a list of texts of the call's own, not too long. -/
def Drawn (w : World) (e : Ending) (w' : World) : Prop := ∃ v ts, e = .returned v ∧ OwnS w' w.heap.size v ts ∧ ts.length ≤ 1000 ∧ (∀ x ∈ ts, x.size ≤ 1048576) ∧ Below w.heap.size w w'
abbrev litA : ByteArray := ⟨#[5, 0, 1, 104, 105]⟩
abbrev litB : ByteArray := ⟨#[104, 105]⟩
theorem joined_lit : joinedL [litA] = [litB] := by
  have h := joined_all (num := 5) (s := litB) (by omega) (by decide)
  have e : pcsL 5 litB = [litA] := by
    unfold pcsL
    rw [show cntN litB.size = 1 from rfl]
    show [pcS 5 litB 0] = [litA]
    congr 1
  rw [e] at h
  exact h
/-- the pile behind the first pieces, in its box. -/
def PlSt (W0 wr : World) (gp : Nat) (ts : List ByteArray) : Prop := ∃ s : Sv, PiB wr gp (pileL ts).num (pileL ts).cnt s ∧ OwnS wr 0 s.v (pileL ts).ps ∧ Below gp W0 wr

set_option maxRecDepth 100000 in
set_option maxHeartbeats 8000000 in
theorem lawPiles_of (w : World) (n cap : Nat) (ao : Option Addr) (hD : n ≤ 1048576 → Calls Try.prog 16 #[.slice ao n cap] w fun e w' => Drawn w e w') :
    Calls Try.prog 4 #[.slice ao n cap] w fun e w' => e = .returned (.bool true) ∧ Below w.heap.size w w' := by
  by_cases hn : n ≤ 1048576
  case neg =>
    have hbig : decide (1048576 < (n : Int)) = true := by simp; omega
    clear hD
    go_enter Try.func4, Try.ntmps4
    go_wp2_with (first | (go_at_call 9; refine (big_any _ n cap ao true hbig).mono ?_; rintro e w1 ⟨rfl, rfl⟩))
    go_ret
    exact ⟨rfl, Below.refl _ _⟩
  have hbig : decide (1048576 < (n : Int)) = false := by simp; omega
  have HD : Hid (Calls Try.prog 16 #[.slice ao n cap] w fun e w' => Drawn w e w') := hD hn
  clear hD
  go_enter Try.func4, Try.ntmps4
  go_wp2_with (first | (go_at_call 9; refine (big_any _ n cap ao false hbig).mono ?_; rintro e w1 ⟨rfl, rfl⟩))
  refine HD.out.mono ?_
  rintro e w2 ⟨v, ts, rfl, hv, hl, hs, hb2⟩
  obtain ⟨al, cl, rfl, ht2⟩ := hv.texts
  have HS : Hid (∀ x ∈ ts, x.size ≤ 1048576) := hs
  have X2 : Hid (TextsAt w2 al ts) := ht2
  have B2 : Hid (Below w1.heap.size w1 w2) := hb2
  clear hv ht2 hb2 hs HD
  go_wp2_with fail
  refine (implJoin al cl ts w2 X2 (by omega) HS).mono ?_
  rintro e w3 ⟨v3, rfl, hv3, hb3⟩
  obtain ⟨a3, c3, rfl, ht3⟩ := hv3.texts
  have X3 : Hid (TextsAt w3 al ts) := X2.out.stays hb3
  have B3 : Hid (Below w1.heap.size w1 w3) := B2.out.trans (hb3.mono B2.out.size)
  have Y3 : Hid (TextsAt w3 a3 (joinedL ts)) := ht3
  clear hv3 ht3 hb3 X2 B2
  generalize hJL : joinedL ts = JL at *
  have HJL : Hid (joinedL ts = JL) := hJL
  have hJl : JL.length ≤ 1000 := by rw [← hJL]; have := joinedL_len ts; omega
  clear hJL
  go_wp2_with fail
  refine (specJoin al cl ts w3 X3 (by omega) HS).mono ?_
  rintro e w4 ⟨v4, rfl, hv4, hb4⟩
  rw [HJL.out] at hv4
  obtain ⟨a4, c4, rfl, ht4⟩ := hv4.texts
  have X4 : Hid (TextsAt w4 al ts) := X3.out.stays hb4
  have B4 : Hid (Below w1.heap.size w1 w4) := B3.out.trans (hb4.mono B3.out.size)
  have Y4 : Hid (TextsAt w4 a3 JL) := Y3.out.stays hb4
  have Z4 : Hid (TextsAt w4 a4 JL) := ht4
  clear hv4 ht4 hb4 X3 B3 Y3
  go_wp2_with fail
  refine (sameT_any a3 a4 c3 c4 JL w4 Y4 Z4 (by omega)).mono ?_
  rintro e W0 ⟨rfl, hb5⟩
  have X5 : Hid (TextsAt W0 al ts) := X4.out.stays hb5
  have B5 : Hid (Below w1.heap.size w1 W0) := B4.out.trans (hb5.mono B4.out.size)
  clear hb5 X4 B4 Y4 Z4
  have S0 : Hid (PlSt W0 (W0.alloc (.cells #[.int .i64 0, .int .i64 0, .slice none 0 0] 35)) W0.heap.size (ts.take 0)) := ⟨⟨none, 0, 0⟩, Bx.new W0 35 [.int .i64 0, .int .i64 0, .slice none 0 0], ownS_none _ _, (Below.refl _ _).alloc (Nat.le_refl _) _⟩
  go_wp2_with fail
  generalize hgp : W0.heap.size = gp at *
  have HGP : Hid (W0.heap.size = gp) := hgp
  clear hgp
  go_loopw [6, 7] (fun c i wr => ∃ k j : Nat, k ≤ ts.length ∧ i = .int .i64 k ∧ c = .int .i64 j ∧ Hid (j = (joinedL (ts.take k)).length) ∧ Hid (PlSt W0 wr gp (ts.take k))) (fun _ i _ => ts.length - (intOf i).toNat)
  case atStart => exact ⟨0, 0, Nat.zero_le _, rfl, rfl, rfl, S0⟩
  case round =>
    clear S0
    obtain ⟨k, j, hk, rfl, rfl, hj, hst⟩ := hrel
    by_cases hlt : k < ts.length
    · obtain ⟨s, hP, hS, hB⟩ := hst.out
      obtain ⟨sb, so, rfl, hsb0, hcl0⟩ := X5.out k hlt
      have hsb : sb < wr.heap.size := Nat.lt_of_lt_of_le hsb0 hB.size
      have hcl : wr.cell? ⟨sb, so + k, none⟩ = some (.string ts[k]) := (hB.cell (p := ⟨sb, so + k, none⟩) (by rw [← HGP.out]; exact hsb0)).trans hcl0
      have hsz := HS.out _ (List.getElem_mem hlt)
      obtain ⟨tx, hp⟩ : ∃ x : ByteArray, x = ts[k] := ⟨_, rfl⟩
      rw [← hp] at hcl hsz
      have HQ : Hid (tx = ts[k]) := hp
      have P1 : Hid (PiB wr gp (pileL (ts.take k)).num (pileL (ts.take k)).cnt s) := hP
      have RS : Hid (RT wr (.slice s.a s.n s.c) (pileL (ts.take k)).ps) := hS.rt
      have B1 : Hid (Below gp W0 wr) := hB
      have HL : Hid (pileL (ts.take k)).short := pile_short _
      have hj1 : j ≤ 1000 := by rw [hj.out]; have := joinedL_len (ts.take k); rw [List.length_take] at this; omega
      have i0 : (0 : Int) ≤ (k : Int) := by omega
      have i1 : (k : Int) < (ts.length : Int) := by omega
      clear hp hP hS hB hst hcl0 hsb0
      go_wp2_with fail
      go_cut [8, 9, 10] (fun u8 u9 u10 wx => ∃ (gm : Nat) (um : Sv), u8 = .pointer (some ⟨gm, 0, none⟩) ∧ u9 = .string (addP (pileL (ts.take k)) tx).2.1 ∧ u10 = .bool (addP (pileL (ts.take k)) tx).2.2 ∧ Bx wx gm 35 [.int .i64 (addP (pileL (ts.take k)) tx).1.num, .int .i64 (addP (pileL (ts.take k)) tx).1.cnt, .slice um.a um.n um.c] ∧ OwnS wx wr.heap.size um.v (addP (pileL (ts.take k)) tx).1.ps ∧ wr.heap.size ≤ gm ∧ Below wr.heap.size wr wx)
      case first =>
        have KEEP : Hid (∀ w', Below wr.heap.size wr w' → (w'.cell? ⟨sb, so + k, none⟩ = some (.string tx)) ∧ Hid (Below wr.heap.size wr w')) := fun w' hb => ⟨(hb.cell (p := ⟨sb, so + k, none⟩) hsb).trans hcl, hb⟩
        have c : Below wr.heap.size wr wr.drew := (Below.refl _ _).drew
        refine wp_region_held_drew (S := fun w' => (w'.cell? ⟨sb, so + k, none⟩ = some (.string tx)) ∧ Hid (Below wr.heap.size wr w')) (by kernel_rfl) (KEEP.out _ c) (fun hHeld => ?_)
        refine wpAnyH_take (i := 0) (v := _) rfl (by kernel_rfl) (by kernel_rfl) (by kernel_rfl) (fun _ _ _ h => h) (ld_yield (by rfl) 35 _ rfl gp 0 rfl 35 _ (fun w hS => P1.out.later hS.2.out) [.int .i64 (pileL (ts.take k)).num, .int .i64 (pileL (ts.take k)).cnt, .slice s.a s.n s.c] rfl _ Try.underlying35 rfl Try.sizeP) (by assumption) ?_
        try simp only [Act.put, List.getElem_toArray, List.getElem_cons_zero, List.getElem_cons_succ, List.setIfInBounds_toArray, List.set_cons_zero, List.set_cons_succ]
        refine wpAnyH_take (i := 1) (v := ?v1b2) rfl (by kernel_rfl) (by kernel_rfl) (by kernel_rfl) (fun _ _ _ h => h) (Or.inl ⟨by rfl, ?hy1b2⟩) (by assumption) ?_
        case hy1b2 => (intro w hSw; (try dsimp only at hSw); simp only [List.getElem_toArray, List.getElem_cons_zero, List.getElem_cons_succ]; go_simp; try with_reducible rfl)
        try simp only [Act.put, List.getElem_toArray, List.getElem_cons_zero, List.getElem_cons_succ, List.setIfInBounds_toArray, List.set_cons_zero, List.set_cons_succ]
        refine wpAnyH_take (i := 2) (v := ?v2b3) rfl (by kernel_rfl) (by kernel_rfl) (by kernel_rfl) (fun _ _ _ h => h) (Or.inl ⟨by rfl, ?hy2b3⟩) (by assumption) ?_
        case hy2b3 => (intro w hSw; (try dsimp only at hSw); simp only [List.getElem_toArray, List.getElem_cons_zero, List.getElem_cons_succ]; go_simp; try with_reducible rfl)
        try simp only [Act.put, List.getElem_toArray, List.getElem_cons_zero, List.getElem_cons_succ, List.setIfInBounds_toArray, List.set_cons_zero, List.set_cons_succ]
        refine wpAnyH_take (i := 3) (v := ?v3b4) rfl (by kernel_rfl) (by kernel_rfl) (by kernel_rfl) (fun _ _ _ h => h) (Or.inl ⟨by rfl, ?hy3b4⟩) (by assumption) ?_
        case hy3b4 => (intro w hSw; (try dsimp only at hSw); simp only [List.getElem_toArray, List.getElem_cons_zero, List.getElem_cons_succ]; go_simp; try with_reducible rfl)
        try simp only [Act.put, List.getElem_toArray, List.getElem_cons_zero, List.getElem_cons_succ, List.setIfInBounds_toArray, List.set_cons_zero, List.set_cons_succ]
        refine wpAnyH_take (i := 4) (v := ?v4b5) rfl (by kernel_rfl) (by kernel_rfl) (by kernel_rfl) (fun _ _ _ h => h) (Or.inl ⟨by rfl, ?hy4b5⟩) (by assumption) ?_
        case hy4b5 => (intro w hSw; (try dsimp only at hSw); simp only [List.getElem_toArray, List.getElem_cons_zero, List.getElem_cons_succ]; go_simp; try with_reducible rfl)
        try simp only [Act.put, List.getElem_toArray, List.getElem_cons_zero, List.getElem_cons_succ, List.setIfInBounds_toArray, List.set_cons_zero, List.set_cons_succ]
        refine wpAnyH_ready (rs := [5, 10]) (by kernel_rfl) (by simp) ?_
        refine (AllReadyH.cons (i := 5) rfl (fun K hK => ?_) (AllReadyH.cons (i := 10) rfl (fun K hK => ?_) AllReadyH.nil))
        · skip
          rw [if_pos (by rfl)]
          simp only [List.getElem_toArray, List.getElem_cons_zero, List.getElem_cons_succ]
          go_simp
          refine (implAdd_any (pileL (ts.take k)) tx s wr.drew (show Hid (RT wr.drew (.slice s.a s.n s.c) (pileL (ts.take k)).ps) from RS.out.stays c) HL hsz).mono ?_
          rintro e y1 ⟨um, rfl, om1, b⟩
          have zc : wr.heap.size ≤ wr.drew.heap.size := c.size
          have O1 : Hid (OwnS y1 wr.heap.size um.v (addP (pileL (ts.take k)) tx).1.ps) := om1.down zc
          have c : Below wr.heap.size wr y1 := bl_next c b
          refine hK.out _ _ (KEEP.out _ c) (fun hHeld => ?_)
          clear hK K
          try simp only [Act.put, List.getElem_toArray, List.getElem_cons_zero, List.getElem_cons_succ, List.setIfInBounds_toArray, List.set_cons_zero, List.set_cons_succ]
          clear b om1 zc
          refine wpAnyH_take (i := 6) (v := ?v6b6) rfl (by kernel_rfl) (by kernel_rfl) (by kernel_rfl) (fun _ _ _ h => h) (Or.inl ⟨by rfl, ?hy6b6⟩) (by assumption) ?_
          case hy6b6 => (intro w hSw; (try dsimp only at hSw); simp only [List.getElem_toArray, List.getElem_cons_zero, List.getElem_cons_succ]; go_simp; try with_reducible rfl)
          try simp only [Act.put, List.getElem_toArray, List.getElem_cons_zero, List.getElem_cons_succ, List.setIfInBounds_toArray, List.set_cons_zero, List.set_cons_succ]
          refine wpAnyH_take (i := 7) (v := ?v7b7) rfl (by kernel_rfl) (by kernel_rfl) (by kernel_rfl) (fun _ _ _ h => h) (Or.inl ⟨by rfl, ?hy7b7⟩) (by assumption) ?_
          case hy7b7 => (intro w hSw; (try dsimp only at hSw); simp only [List.getElem_toArray, List.getElem_cons_zero, List.getElem_cons_succ]; go_simp; try with_reducible rfl)
          try simp only [Act.put, List.getElem_toArray, List.getElem_cons_zero, List.getElem_cons_succ, List.setIfInBounds_toArray, List.set_cons_zero, List.set_cons_succ]
          refine wpAnyH_take (i := 8) (v := ?v8b8) rfl (by kernel_rfl) (by kernel_rfl) (by kernel_rfl) (fun _ _ _ h => h) (Or.inl ⟨by rfl, ?hy8b8⟩) (by assumption) ?_
          case hy8b8 => (intro w hSw; (try dsimp only at hSw); simp only [List.getElem_toArray, List.getElem_cons_zero, List.getElem_cons_succ]; go_simp; try with_reducible rfl)
          try simp only [Act.put, List.getElem_toArray, List.getElem_cons_zero, List.getElem_cons_succ, List.setIfInBounds_toArray, List.set_cons_zero, List.set_cons_succ]
          refine wpAnyH_take (i := 9) (v := ?v9b9) rfl (by kernel_rfl) (by kernel_rfl) (by kernel_rfl) (fun _ _ _ h => h) (Or.inl ⟨by rfl, ?hy9b9⟩) (by assumption) ?_
          case hy9b9 => (intro w hSw; (try dsimp only at hSw); simp only [List.getElem_toArray, List.getElem_cons_zero, List.getElem_cons_succ]; go_simp; try with_reducible rfl)
          try simp only [Act.put, List.getElem_toArray, List.getElem_cons_zero, List.getElem_cons_succ, List.setIfInBounds_toArray, List.set_cons_zero, List.set_cons_succ]
          refine wpAnyH_ready (rs := [10]) (by kernel_rfl) (by simp) ?_
          refine AllReadyH.cons (i := 10) rfl (fun K hK => ?_) AllReadyH.nil
          rw [if_pos (by rfl)]
          simp only [List.getElem_toArray, List.getElem_cons_zero, List.getElem_cons_succ]
          go_simp
          have BX2 : Hid (Bx (y1.alloc (.cells #[.int .i64 0, .int .i64 0, .slice none 0 0] 35)) y1.heap.size 35 [.int .i64 0, .int .i64 0, .slice none 0 0]) := by have h := Bx.new y1 35 [.int .i64 0, .int .i64 0, .slice none 0 0]; rw [show y1.heap.size = y1.heap.size by simp] at h; exact h
          have zq : wr.heap.size ≤ y1.heap.size := by have h := c.size; rw [show y1.heap.size = y1.heap.size by simp] at h; exact h
          have c : Below wr.heap.size wr (y1.alloc (.cells #[.int .i64 0, .int .i64 0, .slice none 0 0] 35)) := c.alloc c.size _
          have O1 : Hid (OwnS (y1.alloc (.cells #[.int .i64 0, .int .i64 0, .slice none 0 0] 35)) wr.heap.size um.v (addP (pileL (ts.take k)) tx).1.ps) := O1.out.alloc _
          refine hK.out _ _ (KEEP.out _ c) (fun hHeld => ?_)
          clear hK K
          try simp only [Act.put, List.getElem_toArray, List.getElem_cons_zero, List.getElem_cons_succ, List.setIfInBounds_toArray, List.set_cons_zero, List.set_cons_succ]
          refine wpAnyH_ready (rs := [11]) (by kernel_rfl) (by simp) ?_
          refine AllReadyH.cons (i := 11) rfl (fun K hK => ?_) AllReadyH.nil
          rw [if_pos (by rfl)]
          simp only [List.getElem_toArray, List.getElem_cons_zero, List.getElem_cons_succ]
          refine wp_stB 35 _ _ rfl (y1.heap.size) 0 (by rfl) 35 _ BX2.out [.int .i64 (addP (pileL (ts.take k)) tx).1.num, .int .i64 (addP (pileL (ts.take k)) tx).1.cnt, .slice um.a um.n um.c] (by rfl) (by simp) Try.sizeP rfl [.int .i64 (addP (pileL (ts.take k)) tx).1.num, .int .i64 (addP (pileL (ts.take k)) tx).1.cnt, .slice um.a um.n um.c] rfl ?_
          intro y3 RB3 TB3
          have O3 := O1.out.past BX2.out TB3 (by decide)
          have c : Below wr.heap.size wr y3 := c.trans (TB3.below zq)
          refine hK.out _ _ (KEEP.out _ c) (fun hHeld => ?_)
          clear hK K
          try simp only [Act.put, List.getElem_toArray, List.getElem_cons_zero, List.getElem_cons_succ, List.setIfInBounds_toArray, List.set_cons_zero, List.set_cons_succ]
          refine wpAnyH_take (i := 12) (v := ?v12b10) rfl (by kernel_rfl) (by kernel_rfl) (by kernel_rfl) (fun _ _ _ h => h) (Or.inl ⟨by rfl, ?hy12b10⟩) (by assumption) ?_
          case hy12b10 => (intro w hSw; (try dsimp only at hSw); simp only [List.getElem_toArray, List.getElem_cons_zero, List.getElem_cons_succ]; go_simp; try with_reducible rfl)
          try simp only [Act.put, List.getElem_toArray, List.getElem_cons_zero, List.getElem_cons_succ, List.setIfInBounds_toArray, List.set_cons_zero, List.set_cons_succ]
          refine wpAnyH_take (i := 13) (v := ?v13b11) rfl (by kernel_rfl) (by kernel_rfl) (by kernel_rfl) (fun _ _ _ h => h) (Or.inl ⟨by rfl, ?hy13b11⟩) (by assumption) ?_
          case hy13b11 => (intro w hSw; (try dsimp only at hSw); simp only [List.getElem_toArray, List.getElem_cons_zero, List.getElem_cons_succ]; go_simp; try with_reducible rfl)
          try simp only [Act.put, List.getElem_toArray, List.getElem_cons_zero, List.getElem_cons_succ, List.setIfInBounds_toArray, List.set_cons_zero, List.set_cons_succ]
          refine wpAnyH_done (by kernel_rfl) ?_ _
          try go_wp2_with fail
          go_meet
          exact ⟨_, um, rfl, rfl, rfl, RB3, O3, zq, c⟩
        · skip
          rw [if_pos (by rfl)]
          simp only [List.getElem_toArray, List.getElem_cons_zero, List.getElem_cons_succ]
          go_simp
          have BX1 : Hid (Bx (wr.drew.alloc (.cells #[.int .i64 0, .int .i64 0, .slice none 0 0] 35)) wr.heap.size 35 [.int .i64 0, .int .i64 0, .slice none 0 0]) := by have h := Bx.new wr.drew 35 [.int .i64 0, .int .i64 0, .slice none 0 0]; rw [show wr.drew.heap.size = wr.heap.size by simp] at h; exact h
          have zq : wr.heap.size ≤ wr.heap.size := by have h := c.size; rw [show wr.drew.heap.size = wr.heap.size by simp] at h; exact h
          have c : Below wr.heap.size wr (wr.drew.alloc (.cells #[.int .i64 0, .int .i64 0, .slice none 0 0] 35)) := c.alloc c.size _
          refine hK.out _ _ (KEEP.out _ c) (fun hHeld => ?_)
          clear hK K
          try simp only [Act.put, List.getElem_toArray, List.getElem_cons_zero, List.getElem_cons_succ, List.setIfInBounds_toArray, List.set_cons_zero, List.set_cons_succ]
          refine wpAnyH_ready (rs := [5]) (by kernel_rfl) (by simp) ?_
          refine AllReadyH.cons (i := 5) rfl (fun K hK => ?_) AllReadyH.nil
          rw [if_pos (by rfl)]
          simp only [List.getElem_toArray, List.getElem_cons_zero, List.getElem_cons_succ]
          go_simp
          refine (implAdd_any (pileL (ts.take k)) tx s (wr.drew.alloc (.cells #[.int .i64 0, .int .i64 0, .slice none 0 0] 35)) (show Hid (RT (wr.drew.alloc (.cells #[.int .i64 0, .int .i64 0, .slice none 0 0] 35)) (.slice s.a s.n s.c) (pileL (ts.take k)).ps) from RS.out.stays c) HL hsz).mono ?_
          rintro e y2 ⟨um, rfl, om2, b⟩
          have zc : wr.heap.size ≤ (wr.drew.alloc (.cells #[.int .i64 0, .int .i64 0, .slice none 0 0] 35)).heap.size := c.size
          have BX1 : Hid (Bx y2 wr.heap.size 35 [.int .i64 0, .int .i64 0, .slice none 0 0]) := BX1.out.later b
          have O2 : Hid (OwnS y2 wr.heap.size um.v (addP (pileL (ts.take k)) tx).1.ps) := om2.down zc
          have c : Below wr.heap.size wr y2 := bl_next c b
          refine hK.out _ _ (KEEP.out _ c) (fun hHeld => ?_)
          clear hK K
          try simp only [Act.put, List.getElem_toArray, List.getElem_cons_zero, List.getElem_cons_succ, List.setIfInBounds_toArray, List.set_cons_zero, List.set_cons_succ]
          clear b om2 zc
          refine wpAnyH_take (i := 6) (v := ?v6b12) rfl (by kernel_rfl) (by kernel_rfl) (by kernel_rfl) (fun _ _ _ h => h) (Or.inl ⟨by rfl, ?hy6b12⟩) (by assumption) ?_
          case hy6b12 => (intro w hSw; (try dsimp only at hSw); simp only [List.getElem_toArray, List.getElem_cons_zero, List.getElem_cons_succ]; go_simp; try with_reducible rfl)
          try simp only [Act.put, List.getElem_toArray, List.getElem_cons_zero, List.getElem_cons_succ, List.setIfInBounds_toArray, List.set_cons_zero, List.set_cons_succ]
          refine wpAnyH_take (i := 7) (v := ?v7b13) rfl (by kernel_rfl) (by kernel_rfl) (by kernel_rfl) (fun _ _ _ h => h) (Or.inl ⟨by rfl, ?hy7b13⟩) (by assumption) ?_
          case hy7b13 => (intro w hSw; (try dsimp only at hSw); simp only [List.getElem_toArray, List.getElem_cons_zero, List.getElem_cons_succ]; go_simp; try with_reducible rfl)
          try simp only [Act.put, List.getElem_toArray, List.getElem_cons_zero, List.getElem_cons_succ, List.setIfInBounds_toArray, List.set_cons_zero, List.set_cons_succ]
          refine wpAnyH_take (i := 8) (v := ?v8b14) rfl (by kernel_rfl) (by kernel_rfl) (by kernel_rfl) (fun _ _ _ h => h) (Or.inl ⟨by rfl, ?hy8b14⟩) (by assumption) ?_
          case hy8b14 => (intro w hSw; (try dsimp only at hSw); simp only [List.getElem_toArray, List.getElem_cons_zero, List.getElem_cons_succ]; go_simp; try with_reducible rfl)
          try simp only [Act.put, List.getElem_toArray, List.getElem_cons_zero, List.getElem_cons_succ, List.setIfInBounds_toArray, List.set_cons_zero, List.set_cons_succ]
          refine wpAnyH_take (i := 9) (v := ?v9b15) rfl (by kernel_rfl) (by kernel_rfl) (by kernel_rfl) (fun _ _ _ h => h) (Or.inl ⟨by rfl, ?hy9b15⟩) (by assumption) ?_
          case hy9b15 => (intro w hSw; (try dsimp only at hSw); simp only [List.getElem_toArray, List.getElem_cons_zero, List.getElem_cons_succ]; go_simp; try with_reducible rfl)
          try simp only [Act.put, List.getElem_toArray, List.getElem_cons_zero, List.getElem_cons_succ, List.setIfInBounds_toArray, List.set_cons_zero, List.set_cons_succ]
          refine wpAnyH_ready (rs := [11]) (by kernel_rfl) (by simp) ?_
          refine AllReadyH.cons (i := 11) rfl (fun K hK => ?_) AllReadyH.nil
          rw [if_pos (by rfl)]
          simp only [List.getElem_toArray, List.getElem_cons_zero, List.getElem_cons_succ]
          refine wp_stB 35 _ _ rfl (wr.heap.size) 0 (by rfl) 35 _ BX1.out [.int .i64 (addP (pileL (ts.take k)) tx).1.num, .int .i64 (addP (pileL (ts.take k)) tx).1.cnt, .slice um.a um.n um.c] (by rfl) (by simp) Try.sizeP rfl [.int .i64 (addP (pileL (ts.take k)) tx).1.num, .int .i64 (addP (pileL (ts.take k)) tx).1.cnt, .slice um.a um.n um.c] rfl ?_
          intro y3 RB3 TB3
          have O3 := O2.out.past BX1.out TB3 (by decide)
          have c : Below wr.heap.size wr y3 := c.trans (TB3.below zq)
          refine hK.out _ _ (KEEP.out _ c) (fun hHeld => ?_)
          clear hK K
          try simp only [Act.put, List.getElem_toArray, List.getElem_cons_zero, List.getElem_cons_succ, List.setIfInBounds_toArray, List.set_cons_zero, List.set_cons_succ]
          refine wpAnyH_take (i := 12) (v := ?v12b16) rfl (by kernel_rfl) (by kernel_rfl) (by kernel_rfl) (fun _ _ _ h => h) (Or.inl ⟨by rfl, ?hy12b16⟩) (by assumption) ?_
          case hy12b16 => (intro w hSw; (try dsimp only at hSw); simp only [List.getElem_toArray, List.getElem_cons_zero, List.getElem_cons_succ]; go_simp; try with_reducible rfl)
          try simp only [Act.put, List.getElem_toArray, List.getElem_cons_zero, List.getElem_cons_succ, List.setIfInBounds_toArray, List.set_cons_zero, List.set_cons_succ]
          refine wpAnyH_take (i := 13) (v := ?v13b17) rfl (by kernel_rfl) (by kernel_rfl) (by kernel_rfl) (fun _ _ _ h => h) (Or.inl ⟨by rfl, ?hy13b17⟩) (by assumption) ?_
          case hy13b17 => (intro w hSw; (try dsimp only at hSw); simp only [List.getElem_toArray, List.getElem_cons_zero, List.getElem_cons_succ]; go_simp; try with_reducible rfl)
          try simp only [Act.put, List.getElem_toArray, List.getElem_cons_zero, List.getElem_cons_succ, List.setIfInBounds_toArray, List.set_cons_zero, List.set_cons_succ]
          refine wpAnyH_done (by kernel_rfl) ?_ _
          try go_wp2_with fail
          go_meet
          exact ⟨_, um, rfl, rfl, rfl, RB3, O3, zq, c⟩

      case rest =>
      obtain ⟨gm, um, rfl, rfl, rfl, hbm, hom, zgm, b7⟩ := hcut
      generalize wc = W7 at *
      have GM : Hid (PiB W7 gm (addP (pileL (ts.take k)) tx).1.num (addP (pileL (ts.take k)) tx).1.cnt um) := hbm
      have OM : Hid (OwnS W7 wr.heap.size um.v (addP (pileL (ts.take k)) tx).1.ps) := hom
      have P7 : Hid (PiB W7 gp (pileL (ts.take k)).num (pileL (ts.take k)).cnt s) := P1.out.later b7
      have B7 : Hid (Below gp W0 W7) := B1.out.trans (b7.mono (Nat.le_of_lt P1.out.lt))
      have hun := sv_len hom
      have hok := okPi_add tx (okPi_pile (ts.take k))
      have HUN : Hid (um.n = (addP (pileL (ts.take k)) tx).1.ps.length) := hun
      have HOK : Hid (OkPi (addP (pileL (ts.take k)) tx).1 ∧ ((addP (pileL (ts.take k)) tx).2.2 = true → (addP (pileL (ts.take k)) tx).1.ps.length = 0)) := hok
      clear hun hok hbm hom b7 hcl hsb i0 i1 P1 RS B1 zgm
      cases hr : (addP (pileL (ts.take k)) tx).2.2 with
      | true =>
        have HR : Hid ((addP (pileL (ts.take k)) tx).2.2 = true) := hr
        have hu0 : um.n = 0 := by rw [HUN.out]; exact HOK.out.2 hr
        have hud : ((um.n : Int) != 0) = false := by rw [hu0]; rfl
        have hug : ¬ ((0 : Int) < (um.n : Int)) := by rw [hu0]; omega
        clear hr hu0
        obtain ⟨m0, m1, m2⟩ := GM.out.cells
        go_wp2_with (first | (with_reducible refine wpList_haltS 35 _ _ rfl ?_))
        refine Stp.go ?_
        refine wpList_stB rfl 35 _ _ rfl gp 0 rfl 35 _ P7.out [.int .i64 (addP (pileL (ts.take k)) tx).1.num, .int .i64 (addP (pileL (ts.take k)) tx).1.cnt, .slice um.a um.n um.c] rfl (by simp) Try.sizeP rfl [.int .i64 (addP (pileL (ts.take k)) tx).1.num, .int .i64 (addP (pileL (ts.take k)) tx).1.cnt, .slice um.a um.n um.c] rfl ?_
        intro w8 G8 T8
        have P8 : Hid (PiB w8 gp (pileL (ts.take (k + 1))).num (pileL (ts.take (k + 1))).cnt um) := by
          show PiB _ _ _ _ _
          rw [pile_next hlt, ← HQ.out]; exact G8
        have OM8 : Hid (OwnS w8 0 um.v (pileL (ts.take (k + 1))).ps) := by
          show OwnS _ _ _ _
          rw [pile_next hlt, ← HQ.out]; exact (OM.out.past P7.out T8 (by decide)).down (Nat.zero_le _)
        have B8 : Hid (Below gp W0 w8) := B7.out.trans (T8.below (Nat.le_refl _))
        have HC8 : Hid ((joinedL (ts.take (k + 1))).length = (joinedL (ts.take k)).length + 1) := by
          have h := joined_count hlt
          rw [← HQ.out, HR.out] at h
          show _ = _
          simpa using h
        clear G8 T8 GM OM P7 B7 m0 m1 m2
        go_wp2_with fail
        go_roundw
        case rel =>
          refine ⟨k + 1, j + 1, by omega, by go_num, by go_num, (by show _ = _; rw [HC8.out, ← hj.out]), ⟨um, P8.out, OM8.out, B8.out⟩⟩
        case measure => simp [intOf]; omega

      | false =>
        have HR : Hid ((addP (pileL (ts.take k)) tx).2.2 = false) := hr
        clear hr
        by_cases hu0 : um.n = 0
        · have hug : ¬ ((0 : Int) < (um.n : Int)) := by rw [hu0]; omega
          clear hu0
          obtain ⟨m0, m1, m2⟩ := GM.out.cells
          go_wp2_with (first | (with_reducible refine wpList_haltS 35 _ _ rfl ?_))
          refine Stp.go ?_
          refine wpList_stB rfl 35 _ _ rfl gp 0 rfl 35 _ P7.out [.int .i64 (addP (pileL (ts.take k)) tx).1.num, .int .i64 (addP (pileL (ts.take k)) tx).1.cnt, .slice um.a um.n um.c] rfl (by simp) Try.sizeP rfl [.int .i64 (addP (pileL (ts.take k)) tx).1.num, .int .i64 (addP (pileL (ts.take k)) tx).1.cnt, .slice um.a um.n um.c] rfl ?_
          intro w8 G8 T8
          have P8 : Hid (PiB w8 gp (pileL (ts.take (k + 1))).num (pileL (ts.take (k + 1))).cnt um) := by
            show PiB _ _ _ _ _
            rw [pile_next hlt, ← HQ.out]; exact G8
          have OM8 : Hid (OwnS w8 0 um.v (pileL (ts.take (k + 1))).ps) := by
            show OwnS _ _ _ _
            rw [pile_next hlt, ← HQ.out]; exact (OM.out.past P7.out T8 (by decide)).down (Nat.zero_le _)
          have B8 : Hid (Below gp W0 w8) := B7.out.trans (T8.below (Nat.le_refl _))
          have HC8 : Hid ((joinedL (ts.take (k + 1))).length = (joinedL (ts.take k)).length) := by
            have h := joined_count hlt
            rw [← HQ.out, HR.out] at h
            show _ = _
            simpa using h
          clear G8 T8 GM OM P7 B7 m0 m1 m2
          go_wp2_with fail
          go_roundw
          case rel =>
            refine ⟨k + 1, j, by omega, by go_num, by go_num, (by show _ = _; rw [HC8.out, ← hj.out]), ⟨um, P8.out, OM8.out, B8.out⟩⟩
          case measure => simp [intOf]; omega

        · have hug : (0 : Int) < (um.n : Int) := by omega
          have huc : ¬ ((addP (pileL (ts.take k)) tx).1.cnt ≤ (um.n : Int)) := by
            rcases HOK.out.1 with h | h
            · have := HUN.out; omega
            · have := HUN.out; rw [this]; omega
          clear hu0
          obtain ⟨m0, m1, m2⟩ := GM.out.cells
          go_wp2_with (first | (with_reducible refine wpList_haltS 35 _ _ rfl ?_))
          refine Stp.go ?_
          refine wpList_stB rfl 35 _ _ rfl gp 0 rfl 35 _ P7.out [.int .i64 (addP (pileL (ts.take k)) tx).1.num, .int .i64 (addP (pileL (ts.take k)) tx).1.cnt, .slice um.a um.n um.c] rfl (by simp) Try.sizeP rfl [.int .i64 (addP (pileL (ts.take k)) tx).1.num, .int .i64 (addP (pileL (ts.take k)) tx).1.cnt, .slice um.a um.n um.c] rfl ?_
          intro w8 G8 T8
          have P8 : Hid (PiB w8 gp (pileL (ts.take (k + 1))).num (pileL (ts.take (k + 1))).cnt um) := by
            show PiB _ _ _ _ _
            rw [pile_next hlt, ← HQ.out]; exact G8
          have OM8 : Hid (OwnS w8 0 um.v (pileL (ts.take (k + 1))).ps) := by
            show OwnS _ _ _ _
            rw [pile_next hlt, ← HQ.out]; exact (OM.out.past P7.out T8 (by decide)).down (Nat.zero_le _)
          have B8 : Hid (Below gp W0 w8) := B7.out.trans (T8.below (Nat.le_refl _))
          have HC8 : Hid ((joinedL (ts.take (k + 1))).length = (joinedL (ts.take k)).length) := by
            have h := joined_count hlt
            rw [← HQ.out, HR.out] at h
            show _ = _
            simpa using h
          clear G8 T8 GM OM P7 B7 m0 m1 m2
          go_wp2_with fail
          go_roundw
          case rel =>
            refine ⟨k + 1, j, by omega, by go_num, by go_num, (by show _ = _; rw [HC8.out, ← hj.out]), ⟨um, P8.out, OM8.out, B8.out⟩⟩
          case measure => simp [intOf]; omega

    · obtain rfl : k = ts.length := by omega
      obtain ⟨s, hP, hS, hB⟩ := hst.out
      have hjJ : j = JL.length := by have := hj.out; rw [List.take_length, HJL.out] at this; exact this
      subst hjJ
      have BR : Hid (Below w1.heap.size w1 wr) := B5.out.trans (hB.mono (by rw [← HGP.out]; exact B5.out.size))
      have T1 : Hid (TextsAt (wr.alloc (.cells #[.string litA] 9)) (some ⟨wr.heap.size, 0, none⟩) [litA]) := by
        obtain ⟨a', c', e', ht⟩ := (OwnS.lit wr 0 [litA] (Nat.zero_le _) (by simp)).texts
        simp only [Value.slice.injEq] at e'
        rw [← e'.1] at ht
        exact ht
      have BA : Hid (Below w1.heap.size w1 (wr.alloc (.cells #[.string litA] 9))) := BR.out.alloc BR.out.size _
      clear hP hS hB hst hj BR
      go_wp2_with fail
      have hJ := implJoin (some ⟨wr.heap.size, 0, none⟩) 1 [litA] (wr.alloc (.cells #[.string litA] 9)) T1 (by simp) (fun x hx => by simp at hx; subst hx; decide)
      rw [joined_lit] at hJ
      refine hJ.mono ?_
      clear hJ T1
      rintro e w10 ⟨v10, rfl, hv10, hb10⟩
      obtain ⟨a10, c10, rfl, ht10⟩ := hv10.texts
      have T10 : Hid (TextsAt (w10.alloc (.cells #[.string litB] 9)) a10 [litB]) := ht10.stays ((Below.refl _ _).alloc (Nat.le_refl _) _)
      have U10 : Hid (TextsAt (w10.alloc (.cells #[.string litB] 9)) (some ⟨w10.heap.size, 0, none⟩) [litB]) := by
        obtain ⟨a', c', e', ht⟩ := (OwnS.lit w10 0 [litB] (Nat.zero_le _) (by simp)).texts
        simp only [Value.slice.injEq] at e'
        rw [← e'.1] at ht
        exact ht
      have B10 : Hid (Below w1.heap.size w1 (w10.alloc (.cells #[.string litB] 9))) := (BA.out.trans (hb10.mono BA.out.size)).alloc (by have := BA.out.size; have := hb10.size; omega) _
      clear hv10 ht10 hb10 BA
      go_wp2_with fail
      refine (sameT_any a10 (some ⟨w10.heap.size, 0, none⟩) c10 1 [litB] _ T10 U10 (by simp)).mono ?_
      rintro e w11 ⟨rfl, hb11⟩
      have B11 : Hid (Below w1.heap.size w1 w11) := B10.out.trans (hb11.mono B10.out.size)
      clear hb11 T10 U10 B10
      go_wp2
      go_ret
      exact ⟨rfl, B11.out⟩
end Go.Proofs.Ytfefjkldjaabbaa

/- Drawn pieces: the walk over the specification's l12Stream, and what DrawJoin answers. -/
namespace Go.Proofs.Ytfefjkldjaabbaa
open Go.RowKit Pl
set_option linter.unusedVariables false
set_option linter.unusedSimpArgs false

/-- append(a, b...), where a is not nil: neither is what comes of it. -/
theorem wp_catZ {P : Program} {w : World} {o : Oper} {a : Act} {K : Act → World → Prop} {Q : Exit → Act → World → Prop}
    (s x : Operand) (t : TypeId) (ho : o.op = .call { callee := .builtin .append, args := #[s, x], argTypes := #[t, t] })
    (ht : P.underlying t = some (.slice 9)) (hinfo : (P.info? 9).map (fun i => (i.zero, i.size, i.bytes)) = some (some (.string ⟨#[]⟩), 1, 16))
    (B : Nat) (v : Value) (xs : List ByteArray) (hs : a.eval s = v) (hown : OwnS w B v xs)
    (u : Value) (ys : List ByteArray) (hx : a.eval x = u) (hu : RT w u ys) (hn : xs.length + ys.length < 4000000) (hB : B ≤ w.heap.size) (hv : v ≠ .slice none 0 0)
    (h : ∀ v' w', OwnS w' B v' (xs ++ ys) → v' ≠ .slice none 0 0 → w.grownBy w' v.ownBlock → K (a.put o.dst v') w') : o.wp P a w K Q := by
  obtain ⟨i0, hi, hz0, hz1, hz2⟩ := info_parts hinfo
  obtain ⟨ao, cap, rfl, hr⟩ := hu
  have hcat : ∀ (ad : Addr), ao = some ad → (∀ j u, (ys.map Value.string)[j]? = some u → w.cell? (ad.add j) = some u) → o.wp P a w K Q := by
    intro ad had hcell
    subst had
    refine wp_append_own w s x t ho B 9 i0 (.string ⟨#[]⟩) 1 16 ht hi hz0 hz1 hz2 rfl (by decide) v xs.length (xs.map Value.string) hs hown ad ys.length cap (ys.map Value.string) hx (by simp) hcell ?_ (by unfold maxLen; omega) (by omega) hB ?_
    · intro u hu'
      obtain ⟨y, _, rfl⟩ := List.mem_map.1 hu'
      rfl
    · intro v' w' hown' hg hiff
      exact h v' w' (by simpa [OwnS] using hown') (fun e => hv (hiff.1 e).1) hg
  by_cases h0 : 0 < ys.length
  · obtain ⟨b, off, rfl, _, _⟩ := hr 0 h0
    refine hcat ⟨b, off, none⟩ rfl fun j u hj => ?_
    have hjl : j < ys.length := by have := (List.getElem?_eq_some_iff.1 hj).1; simpa using this
    obtain ⟨b', off', e, _, hc⟩ := hr j hjl
    simp at e
    obtain ⟨rfl, rfl⟩ := e
    rw [Addr.add_lit, hc]
    simp [hjl] at hj
    rw [hj]
  · have e : ys = [] := List.eq_nil_of_length_eq_zero (by omega)
    subst e
    cases ao with
    | some ad => exact hcat ad rfl fun j u hj => by simp at hj
    | none =>
      have hc0 := h v w (by rw [List.append_nil]; exact hown) hv (World.grownBy.refl _ _)
      rcases hown.2 with ⟨hv0, _⟩ | ⟨g, cp, cur, hvv, _⟩
      · exact absurd hv0 hv
      · have hs' : Sl w 9 1 B v xs.length (xs.map Value.string) := Sl.ofOwn hown
        have hsrc : Src P i0.size t (.slice none 0 cap) 0 [] w := Src.ofNil _ ht cap
        subst hvv
        have hroom : xs.length + 0 ≤ cp := by
          rcases hs'.2 with ⟨h1, _⟩ | ⟨g', off', cap', cur', h1, _, _, hle, _⟩
          · cases h1
          · simp at h1; omega
        unfold Oper.wp execOp
        have hr := run_append_room_src (P := P) w t t o.type 9 i0 ht hi g 0 xs.length cp (.slice none 0 cap) 0 [] hsrc hroom (fun j hj => by simp at hj) (fun j hj => by simp at hj)
        simp only [ho, resolve, invoke, builtin, Sem.run_bind, Sem.run_pure, Result.andThen_ok, List.map_toArray, List.map_cons, List.map_nil, hs, hx, List.length_nil, hr]
        exact hc0
theorem wpList_catZ {P : Program} {w : World} {ops : Array Oper} {rest : List Oper} {o : Oper} {a : Act} {Q : Exit → Act → World → Prop} (hgd : o.guard = none)
    (s x : Operand) (t : TypeId) (ho : o.op = .call { callee := .builtin .append, args := #[s, x], argTypes := #[t, t] })
    (ht : P.underlying t = some (.slice 9)) (hinfo : (P.info? 9).map (fun i => (i.zero, i.size, i.bytes)) = some (some (.string ⟨#[]⟩), 1, 16))
    (B : Nat) (v : Value) (xs : List ByteArray) (hs : a.eval s = v) (hown : OwnS w B v xs)
    (u : Value) (ys : List ByteArray) (hx : a.eval x = u) (hu : RT w u ys) (hn : xs.length + ys.length < 4000000) (hB : B ≤ w.heap.size) (hv : v ≠ .slice none 0 0)
    (h : ∀ v' w', OwnS w' B v' (xs ++ ys) → v' ≠ .slice none 0 0 → w.grownBy w' v.ownBlock → wpList P ops Q rest (a.put o.dst v') w') : wpList P ops Q (o :: rest) a w :=
  wpList_plain hgd fun _ hK => wp_catZ s x t ho ht hinfo B v xs hs hown u ys hx hu hn hB hv fun v' w' h1 h2 h3 => hK _ _ (h v' w' h1 h2 h3)

/-- what lies behind the beginning has turned. -/
theorem Drw.push {w0 w w' : World} {B g n cap : Nat} {ao : Option Addr} (h : Drw w0 w B g ao n cap) (hb : Below w0.heap.size w w') (hg : g < w0.heap.size) (hB : B ≤ g) : Hid (Drw w0 w' B g ao n cap) :=
  ⟨CurAt.stays h.1 hb hg, h.2.1.stays hb (by omega), ⟨hb.os.trans h.2.2.os, hb.tape.trans h.2.2.tape, hb.output.trans h.2.2.output, Nat.le_trans h.2.2.size hb.size, fun k hk hkg => (hb.block k hk).trans (h.2.2.block k hk hkg)⟩⟩
theorem OwnS_keepg {w w' : World} {B g : Nat} {v : Value} {ss : List ByteArray} (h : OwnS w B v ss) (hk : KeepBut g w w') (hg : g < B) : OwnS w' B v ss :=
  Pl.OwnS.keep' h fun k hb hl => hk.block k hl (by have := (h.lt k hb).1; omega)
theorem keep_rest {w0 a b : World} {B g n cap : Nat} {ao : Option Addr} (h : Drw a b B g ao n cap) : KeepBut g a b := h.2.2
theorem Drw.again {w0 a b : World} {B g n cap : Nat} {ao : Option Addr} (h0 : Drw w0 a B g ao n cap) (h : Drw a b B g ao n cap) : Hid (Drw w0 b B g ao n cap) := ⟨h.1, h.2.1, h0.2.2.trans h.2.2⟩
theorem pcsL_tiny {m : Nat} {s : ByteArray} (hm : m ≤ 100000) (hs : s.size ≤ 400) : ∀ x ∈ pcsL m s, x.size ≤ 60 := by
  intro x hx
  unfold pcsL at hx
  obtain ⟨i, hi, rfl⟩ := List.mem_map.1 hx
  have hi' := List.mem_range.1 hi
  have hc := (cntN_le hs).2
  unfold pcS
  rw [app_size, app_size, app_size, part_size]
  have v1 := varS_short m hm
  have v2 := varS_short i (by omega)
  have v3 := varS_short (cntN s.size) (by omega)
  unfold lenN; omega
/-- whatever is cut, few pieces come of it. -/
theorem spPieces_few (num : Nat) (s : ByteArray) (w : World) (hn : num ≤ 100000) (hs : s.size ≤ 1048576) :
    Calls Try.prog 12 #[.int .i64 num, .string s] w fun e w' => ∃ (v : Value) (b : Bool) (ps : List ByteArray), e = .returned (.tuple #[v, .bool b]) ∧ ps.length ≤ 10 ∧ (∀ x ∈ ps, x.size ≤ 60) ∧ OwnS w' w.heap.size v ps ∧ Below w.heap.size w w' := by
  by_cases h : s.size ≤ 400
  · refine (spPieces_yes num s w hn h).mono ?_
    rintro e w' ⟨v, rfl, h1, h2⟩
    exact ⟨v, true, _, rfl, by unfold pcsL; rw [List.length_map, List.length_range]; exact (cntN_le h).2, pcsL_tiny hn h, h1, h2⟩
  · refine (spPieces_no num s w (by omega) hs).mono ?_
    rintro e w' ⟨v, rfl, h1, h2⟩
    exact ⟨v, false, [], rfl, by simp, (fun x hx => absurd hx (by simp)), h1, h2⟩
theorem TextsAt.take {w : World} {ao : Option Addr} {ts : List ByteArray} (h : TextsAt w ao ts) (k : Nat) : TextsAt w ao (ts.take k) := by
  intro i hi
  have hi' : i < ts.length := by rw [List.length_take] at hi; omega
  obtain ⟨b, off, h1, h2, h3⟩ := h i hi'
  exact ⟨b, off, h1, h2, by rw [h3]; simp⟩
theorem TextsAt.drop {w : World} {b off : Nat} {ts : List ByteArray} (h : TextsAt w (some ⟨b, off, none⟩) ts) (k : Nat) : TextsAt w (some ⟨b, off + k, none⟩) (ts.drop k) := by
  intro i hi
  have hi' : k + i < ts.length := by rw [List.length_drop] at hi; omega
  obtain ⟨b', off', h1, h2, h3⟩ := h (k + i) hi'
  simp only [Option.some.injEq, Addr.mk.injEq] at h1
  obtain ⟨rfl, rfl, _⟩ := h1
  exact ⟨b, off + k, rfl, h2, by rw [Nat.add_assoc, h3]; simp⟩

theorem rt_rest {w : World} {gl c k : Nat} {ts : List ByteArray} (h : TextsAt w (some ⟨gl, 0, none⟩) ts) (hk : k < ts.length) (hcap : ts.length ≤ c) : RT w (.slice (if c = k + 1 then some ⟨gl, 0, none⟩ else some ⟨gl, k + 1, none⟩) (ts.length - (k + 1)) (c - (k + 1))) (ts.drop (k + 1)) := by
  by_cases hl : ts.length = k + 1
  · have e : ts.drop (k + 1) = [] := List.drop_eq_nil_of_le (by omega)
    rw [e, hl, Nat.sub_self]
    exact ⟨_, _, rfl, fun i hi => absurd hi (by simp)⟩
  · by_cases hc : c = k + 1
    · omega
    · rw [if_neg hc]
      refine ⟨_, _, by rw [List.length_drop], ?_⟩
      have := TextsAt.drop h (k + 1)
      rw [Nat.zero_add] at this
      exact this
theorem ownS_cap {w : World} {B n c : Nat} {a : Option Addr} {ss : List ByteArray} (h : OwnS w B (.slice a n c) ss) : n ≤ c := by
  rcases h.2 with ⟨h1, h2⟩ | ⟨g, cap, cur, h1, _, _, h2, _⟩
  · simp only [Value.slice.injEq] at h1; omega
  · simp only [Value.slice.injEq] at h1; omega
set_option maxRecDepth 100000 in
set_option maxHeartbeats 8000000 in
theorem stream_any (w : World) (B g n cap : Nat) (ao : Option Addr) (hn : n ≤ 1048576) (hB : B ≤ g) (hd : Hid (Drw w w B g ao n cap)) :
    Calls Try.prog 45 #[.pointer (some ⟨g, 0, none⟩)] w fun e w' => ∃ v ts, e = .returned v ∧ OwnS w' w.heap.size v ts ∧ ts.length ≤ 1000 ∧ (∀ x ∈ ts, x.size ≤ 1048576) ∧ KeepBut g w w' := by
  have hg := hd.out.lt
  have V0 : Hid (OwnS (w.alloc (.cells #[] 9)) w.heap.size (.slice (some ⟨w.heap.size, 0, none⟩) 0 0) []) := OwnS.made w w.heap.size (Nat.le_refl _)
  have D0 : Hid (Drw w (w.alloc (.cells #[] 9)) B g ao n cap) := hd.out.alloc hB _
  go_enter Try.func45, Try.ntmps45
  go_wp2_with fail
  generalize w.alloc (.cells #[] 9) = W0 at *
  go_loopw [3, 4] (fun v ix wr => ∃ (j : Nat) (ts : List ByteArray), j ≤ 3 ∧ ix = .int .i64 j ∧ v ≠ .slice none 0 0 ∧ ts.length ≤ 10 * j ∧ Hid (∀ x ∈ ts, x.size ≤ 60) ∧ Hid (OwnS wr w.heap.size v ts) ∧ Hid (Drw w wr B g ao n cap)) (fun _ ix _ => 4 - (intOf ix).toNat)
  case atStart => exact ⟨0, [], by omega, rfl, by simp, by simp, (fun x hx => absurd hx (by simp) : ∀ x ∈ ([] : List ByteArray), x.size ≤ 60), V0.out, D0.out⟩
  case round =>
    clear V0 D0
    obtain ⟨j, ts, hj, rfl, hvn, htl, htz, hV, hD⟩ := hrel
    go_wp2_with fail
    refine (below_small _ _ B g n cap 4 ao hn hB (by omega) (by omega) (Drw.start hD.out.1 hD.out.2.1)).mono ?_
    rintro e w1 ⟨⟨x, hx, rfl⟩, hd1⟩
    have D1 : Hid (Drw w w1 B g ao n cap) := hD.out.again hd1.out
    have V1 : Hid (OwnS w1 w.heap.size u3 ts) := OwnS_keepg hV.out hd1.out.2.2 hg
    clear hd1 hD hV
    by_cases hlt : j < x
    · go_wp2_with fail
      refine (below_small _ _ B g n cap 9 ao hn hB (by omega) (by omega) (Drw.start D1.out.1 D1.out.2.1)).mono ?_
      rintro e w2 ⟨⟨y, hy, rfl⟩, hd2⟩
      have D2 : Hid (Drw w w2 B g ao n cap) := D1.out.again hd2.out
      have V2 : Hid (OwnS w2 w.heap.size u3 ts) := OwnS_keepg V1.out hd2.out.2.2 hg
      clear hd2 D1 V1
      go_wp2_with fail
      refine (l12Long_any _ _ B g n cap ao hn hB (Drw.start D2.out.1 D2.out.2.1)).mono ?_
      rintro e w3 ⟨⟨t, ht, rfl⟩, hd3⟩
      have D3 : Hid (Drw w w3 B g ao n cap) := D2.out.again hd3.out
      have V3 : Hid (OwnS w3 w.heap.size u3 ts) := OwnS_keepg V2.out hd3.out.2.2 hg
      clear hd3 D2 V2
      go_wp2_with fail
      refine (spPieces_few y t _ (by omega) (by omega)).mono ?_
      rintro e w4 ⟨v4, b4, ps, rfl, hpl, hpz, hv4, hb4⟩
      have D4 : Hid (Drw w w4 B g ao n cap) := D3.out.step hB hb4
      have V4 : Hid (OwnS w4 w.heap.size u3 ts) := Pl.OwnS.keep' V3.out fun k hk hl => hb4.block k hl
      have R4 : Hid (RT w4 v4 ps) := hv4.rt
      have HPZ : Hid (∀ x ∈ ps, x.size ≤ 60) := hpz
      have hs4 := D4.out.2.2.size
      clear hb4 hv4 hpz D3 V3
      go_wp2_with (first | (with_reducible refine wpList_haltZ _ _ _ rfl ?_))
      refine Stp.go ?_
      refine wpList_catZ rfl _ _ 26 rfl Try.underlying26 Try.info9 w.heap.size _ ts rfl V4.out _ ps rfl R4.out (by omega) hs4 hvn ?_
      intro v5 w5 O5 n5 g5
      have hb5 : Below w.heap.size w4 w5 := (Below.refl _ _).grown g5 hs4 (fun k hk => (V4.out.lt k hk).1)
      have D5 : Hid (Drw w w5 B g ao n cap) := D4.out.push hb5 hg hB
      have O5 : Hid (OwnS w5 w.heap.size v5 (ts ++ ps)) := O5
      clear g5 hb5 D4 V4 R4
      go_wp2_with fail
      go_roundw
      case rel =>
        refine ⟨j + 1, ts ++ ps, by omega, by go_num, n5, by rw [List.length_append]; omega, ?_, O5.out, D5.out⟩
        intro z hz
        rcases List.mem_append.1 hz with h | h
        · exact htz.out z h
        · exact HPZ.out z h
      case measure => simp [intOf]; omega
    · obtain ⟨a3, c3, hform⟩ := V1.out.form
      subst hform
      by_cases h0 : ts.length = 0
      · have hd0 : decide ((0 : Int) < (ts.length : Int)) = false := decide_eq_false (by omega)
        have hle : ¬ (0 < ts.length) := by omega
        have H0 : Hid (ts.length = 0) := h0
        clear h0
        go_wp2_with fail
        go_ret
        exact ⟨_, ts, rfl, V1.out, by omega, fun z hz => by have := htz.out z hz; omega, D1.out.2.2⟩
      have hd0 : decide ((0 : Int) < (ts.length : Int)) = true := decide_eq_true (by omega)
      have h0' : 0 < ts.length := by omega
      go_wp2_with fail
      refine (once_any _ _ B g n cap 3 ao hn hB (by omega) (by omega) (Drw.start D1.out.1 D1.out.2.1)).mono ?_
      rintro e w2 ⟨⟨b, rfl⟩, hd2⟩
      have D2 : Hid (Drw w w2 B g ao n cap) := D1.out.again hd2.out
      have V2 : Hid (OwnS w2 w.heap.size (.slice a3 ts.length c3) ts) := OwnS_keepg V1.out hd2.out.2.2 hg
      clear hd2 D1 V1 hd0
      cases b with
      | false =>
        go_wp2_with fail
        go_ret
        exact ⟨_, ts, rfl, V2.out, by omega, fun z hz => by have := htz.out z hz; omega, D2.out.2.2⟩
      | true =>
        go_wp2_with fail
        refine (below_small _ _ B g n cap ts.length ao hn hB h0' (by omega) (Drw.start D2.out.1 D2.out.2.1)).mono ?_
        rintro e w3 ⟨⟨k, hk, rfl⟩, hd3⟩
        have D3 : Hid (Drw w w3 B g ao n cap) := D2.out.again hd3.out
        have V3 : Hid (OwnS w3 w.heap.size (.slice a3 ts.length c3) ts) := OwnS_keepg V2.out hd3.out.2.2 hg
        clear hd3 D2 V2
        go_wp2_with fail
        refine (below_small _ _ B g n cap 3 ao hn hB (by omega) (by omega) (Drw.start D3.out.1 D3.out.2.1)).mono ?_
        rintro e w4 ⟨⟨y, hy, rfl⟩, hd4⟩
        have D4 : Hid (Drw w w4 B g ao n cap) := D3.out.again hd4.out
        have V4 : Hid (OwnS w4 w.heap.size (.slice a3 ts.length c3) ts) := OwnS_keepg V3.out hd4.out.2.2 hg
        clear hd4 D3 V3
        obtain ⟨gl, cl, hvf, hgB, hgl, hcl, hcell⟩ := V4.out.some h0'
        simp only [Value.slice.injEq] at hvf
        obtain ⟨rfl, _, rfl⟩ := hvf
        have hs4 := D4.out.2.2.size
        have X4 : Hid (TextsAt w4 (some ⟨gl, 0, none⟩) ts) := by
          obtain ⟨ao', cap', he, hx⟩ := V4.out.texts
          simp only [Value.slice.injEq] at he
          rw [he.1]; exact hx
        match y, hy with
        | 0, _ =>
          have hcap : ts.length ≤ c3 := ownS_cap V4.out
          have hkc : (k : Int) ≤ (c3 : Int) := by omega
          have hkc2 : ((k : Int) + 1) ≤ (ts.length : Int) := by omega
          have hw1 : IntKind.i64.wrap ((k : Int) + 1) = (k : Int) + 1 := by rw [IntKind.wrap_i64]; omega
          go_wp2_with fail
          have c : Below w4.heap.size w4 w4.drew := (Below.refl _ _).drew
          refine wp_region_held_drew (S := fun w' => Below w4.heap.size w4 w') (by kernel_rfl) c (fun hHeld => ?_)
          refine wpAnyH_take (i := 1) (v := ?v1) rfl (by kernel_rfl) (by kernel_rfl) (by kernel_rfl) (fun _ _ _ h => h) (Or.inl ⟨by rfl, ?hy1⟩) (by assumption) ?_
          case hy1 => (intro w hSw; (try dsimp only at hSw); simp only [List.getElem_toArray, List.getElem_cons_zero, List.getElem_cons_succ]; go_simp; try with_reducible rfl)
          try simp only [Act.put, List.getElem_toArray, List.getElem_cons_zero, List.getElem_cons_succ, List.setIfInBounds_toArray, List.set_cons_zero, List.set_cons_succ]
          refine wpAnyH_take (i := 2) (v := ?v2) rfl (by kernel_rfl) (by kernel_rfl) (by kernel_rfl) (fun _ _ _ h => h) (Or.inl ⟨by rfl, ?hy2⟩) (by assumption) ?_
          case hy2 => (intro w hSw; (try dsimp only at hSw); simp only [List.getElem_toArray, List.getElem_cons_zero, List.getElem_cons_succ]; go_simp; try with_reducible rfl)
          try simp only [Act.put, List.getElem_toArray, List.getElem_cons_zero, List.getElem_cons_succ, List.setIfInBounds_toArray, List.set_cons_zero, List.set_cons_succ]
          refine wpAnyH_take (i := 3) (v := ?v3) rfl (by kernel_rfl) (by kernel_rfl) (by kernel_rfl) (fun _ _ _ h => h) (Or.inl ⟨by rfl, ?hy3⟩) (by assumption) ?_
          case hy3 => (intro w hSw; (try dsimp only at hSw); simp only [List.getElem_toArray, List.getElem_cons_zero, List.getElem_cons_succ]; go_simp; try with_reducible rfl)
          try simp only [Act.put, List.getElem_toArray, List.getElem_cons_zero, List.getElem_cons_succ, List.setIfInBounds_toArray, List.set_cons_zero, List.set_cons_succ]
          refine wpAnyH_take (i := 5) (v := ?v5) rfl (by kernel_rfl) (by kernel_rfl) (by kernel_rfl) (fun _ _ _ h => h) (Or.inl ⟨by rfl, ?hy5⟩) (by assumption) ?_
          case hy5 => (intro w hSw; (try dsimp only at hSw); simp only [List.getElem_toArray, List.getElem_cons_zero, List.getElem_cons_succ]; go_simp; try with_reducible rfl)
          try simp only [Act.put, List.getElem_toArray, List.getElem_cons_zero, List.getElem_cons_succ, List.setIfInBounds_toArray, List.set_cons_zero, List.set_cons_succ]
          refine wpAnyH_take (i := 6) (v := ?v6) rfl (by kernel_rfl) (by kernel_rfl) (by kernel_rfl) (fun _ _ _ h => h) (Or.inl ⟨by rfl, ?hy6⟩) (by assumption) ?_
          case hy6 => (intro w hSw; (try dsimp only at hSw); simp only [List.getElem_toArray, List.getElem_cons_zero, List.getElem_cons_succ]; go_simp; try with_reducible rfl)
          try simp only [Act.put, List.getElem_toArray, List.getElem_cons_zero, List.getElem_cons_succ, List.setIfInBounds_toArray, List.set_cons_zero, List.set_cons_succ]
          refine wpAnyH_take (i := 7) (v := ?v7) rfl (by kernel_rfl) (by kernel_rfl) (by kernel_rfl) (fun _ _ _ h => h) (Or.inl ⟨by rfl, ?hy7⟩) (by assumption) ?_
          case hy7 => (intro w hSw; (try dsimp only at hSw); simp only [List.getElem_toArray, List.getElem_cons_zero, List.getElem_cons_succ]; go_simp; try with_reducible rfl)
          try simp only [Act.put, List.getElem_toArray, List.getElem_cons_zero, List.getElem_cons_succ, List.setIfInBounds_toArray, List.set_cons_zero, List.set_cons_succ]
          refine wpAnyH_take (i := 8) (v := ?v8q) rfl (by kernel_rfl) (by kernel_rfl) (by kernel_rfl) (fun _ _ _ h => h) (Or.inl ⟨by rfl, ?hy8q⟩) (by assumption) ?_
          case hy8q => (intro w hSw; (try dsimp only at hSw); simp only [List.getElem_toArray, List.getElem_cons_zero, List.getElem_cons_succ]; go_simp; (exact if_pos (by omega : (0 : Int) ≤ (k : Int) + 1)))
          try simp only [Act.put, List.getElem_toArray, List.getElem_cons_zero, List.getElem_cons_succ, List.setIfInBounds_toArray, List.set_cons_zero, List.set_cons_succ]
          refine wpAnyH_ready (rs := [0]) (by kernel_rfl) (by simp) ?_
          refine AllReadyH.cons (i := 0) rfl (fun K hK => ?_) AllReadyH.nil
          rw [if_pos (by rfl)]
          simp only [List.getElem_toArray, List.getElem_cons_zero, List.getElem_cons_succ]
          go_simp
          have O0 : Hid (OwnS (w4.drew.alloc (.cells #[] 9)) w4.heap.size (.slice (some ⟨w4.heap.size, 0, none⟩) 0 0) []) := OwnS.made w4.drew w4.heap.size (Nat.le_refl _)
          have c : Below w4.heap.size w4 (w4.drew.alloc (.cells #[] 9)) := c.alloc c.size _
          refine hK.out _ _ (c) (fun hHeld => ?_)
          clear hK K
          try simp only [Act.put, List.getElem_toArray, List.getElem_cons_zero, List.getElem_cons_succ, List.setIfInBounds_toArray, List.set_cons_zero, List.set_cons_succ]
          refine wpAnyH_ready (rs := [4]) (by kernel_rfl) (by simp) ?_
          refine AllReadyH.cons (i := 4) rfl (fun K hK => ?_) AllReadyH.nil
          rw [if_pos (by rfl)]
          simp only [List.getElem_toArray, List.getElem_cons_zero, List.getElem_cons_succ]
          refine wp_catZ _ _ 26 rfl Try.underlying26 Try.info9 w4.heap.size _ [] (by rfl) O0.out _ (ts.take k) (by rfl) ⟨some ⟨gl, 0, none⟩, c3, by rw [List.length_take, Nat.min_eq_left (by omega)]; rfl, TextsAt.take (X4.out.stays c) k⟩ (by rw [List.length_take]; simp; omega) c.size (by simp) ?_
          intro v6 w6 O6 n6 g6
          have c : Below w4.heap.size w4 w6 := c.grown g6 c.size (fun q hq => by cases hq; exact Nat.le_refl _)
          refine hK.out _ _ (c) (fun hHeld => ?_)
          clear hK K
          try simp only [Act.put, List.getElem_toArray, List.getElem_cons_zero, List.getElem_cons_succ, List.setIfInBounds_toArray, List.set_cons_zero, List.set_cons_succ]
          clear g6 O0
          rw [List.nil_append] at O6
          refine wpAnyH_ready (rs := [9]) (by kernel_rfl) (by simp) ?_
          refine AllReadyH.cons (i := 9) rfl (fun K hK => ?_) AllReadyH.nil
          rw [if_pos (by rfl)]
          simp only [List.getElem_toArray, List.getElem_cons_zero, List.getElem_cons_succ]
          refine wp_catZ _ _ 26 rfl Try.underlying26 Try.info9 w4.heap.size _ (ts.take k) (by rfl) O6 _ (ts.drop (k + 1)) (by rfl) (rt_rest (X4.out.stays c) hk hcap) (by rw [List.length_take, List.length_drop]; omega) c.size n6 ?_
          intro v7 w7 O7 n7 g7
          have c : Below w4.heap.size w4 w7 := c.grown g7 c.size (fun q hq => (O6.lt q hq).1)
          refine hK.out _ _ (c) (fun hHeld => ?_)
          clear hK K
          try simp only [Act.put, List.getElem_toArray, List.getElem_cons_zero, List.getElem_cons_succ, List.setIfInBounds_toArray, List.set_cons_zero, List.set_cons_succ]
          clear g7 O6 n6
          refine wpAnyH_take (i := 10) (v := ?v10) rfl (by kernel_rfl) (by kernel_rfl) (by kernel_rfl) (fun _ _ _ h => h) (Or.inl ⟨by rfl, ?hy10⟩) (by assumption) ?_
          case hy10 => (intro w hSw; (try dsimp only at hSw); simp only [List.getElem_toArray, List.getElem_cons_zero, List.getElem_cons_succ]; go_simp; try with_reducible rfl)
          try simp only [Act.put, List.getElem_toArray, List.getElem_cons_zero, List.getElem_cons_succ, List.setIfInBounds_toArray, List.set_cons_zero, List.set_cons_succ]
          refine wpAnyH_done (by kernel_rfl) ?_ _
          have O7 : Hid (OwnS w7 w.heap.size v7 (ts.take k ++ ts.drop (k + 1))) := O7.down hs4
          have D7 : Hid (Drw w w7 B g ao n cap) := D4.out.step hB c
          clear c hHeld V4 X4 hcl hcell D4
          generalize (if c3 = k + 1 then some (⟨gl, 0, none⟩ : Addr) else some ⟨gl, k + 1, none⟩) = az at *
          go_wp2_with fail
          go_ret
          refine ⟨_, ts.take k ++ ts.drop (k + 1), rfl, O7.out, by rw [List.length_append, List.length_take, List.length_drop]; omega, fun z hz => ?_, D7.out.2.2⟩
          rcases List.mem_append.1 hz with h | h
          · have := htz.out z (List.mem_of_mem_take h); omega
          · have := htz.out z (List.mem_of_mem_drop h); omega
        | 1, _ =>
          have c0 := hcl k hk
          have hkz := htz.out _ (List.getElem_mem hk)
          go_wp2_with fail
          generalize hX : ts[k] = X at *
          clear hX c0
          refine (spoilt_any _ _ B g n cap ao X hn hB (by omega) (Drw.start D4.out.1 D4.out.2.1)).mono ?_
          rintro e w5 ⟨⟨t, ht, rfl⟩, hd5⟩
          have D5 : Hid (Drw w w5 B g ao n cap) := D4.out.again hd5.out
          have V5 : Hid (OwnS w5 w.heap.size (.slice (some ⟨gl, 0, none⟩) ts.length c3) ts) := OwnS_keepg V4.out hd5.out.2.2 hg
          clear hd5 D4 V4 X4 hcell hcl
          obtain ⟨gl', cl', hvf, _, _, hc5, hf5⟩ := V5.out.some h0'
          simp only [Value.slice.injEq, Option.some.injEq, Addr.mk.injEq] at hvf
          obtain ⟨⟨rfl, _⟩, _, rfl⟩ := hvf
          have c0 := hc5 k hk
          have f0 := hf5 k
          obtain ⟨O6, g6⟩ := V5.out.store k t
          have hb6 : Below w.heap.size w5 (w5.setCell ⟨gl, k, none⟩ (.string t)) := (Below.refl _ _).grown g6 D5.out.2.2.size (fun q hq => by cases hq; exact hgB)
          have D6 := D5.out.push hb6 hg hB
          clear g6 hb6 hc5 hf5
          go_wp2_with fail
          go_ret
          refine ⟨_, ts.set k t, rfl, O6, by rw [List.length_set]; omega, fun z hz => ?_, D6.out.2.2⟩
          rcases List.mem_or_eq_of_mem_set hz with h | h
          · have := htz.out z h; omega
          · rw [h]; omega
        | 2, _ =>
          have c0 := hcl k hk
          have hkz := htz.out _ (List.getElem_mem hk)
          go_wp2_with (first | (with_reducible refine wpList_haltZ _ _ _ rfl ?_))
          refine Stp.go ?_
          refine wpList_pushS rfl _ _ 26 rfl Try.underlying26 Try.info9 w.heap.size _ ts rfl V4.out (ts[k]) rfl (by omega) hs4 ?_
          intro v6 w6 O6 hb6
          have D6 := D4.out.push hb6 hg hB
          have O6 : Hid (OwnS w6 w.heap.size v6 (ts ++ [ts[k]])) := O6
          clear hb6 c0
          go_wp2_with fail
          go_ret
          refine ⟨_, ts ++ [ts[k]], rfl, O6.out, by rw [List.length_append]; simp; omega, fun z hz => ?_, D6.out.2.2⟩
          rcases List.mem_append.1 hz with h | h
          · have := htz.out z h; omega
          · rw [List.mem_singleton.1 h]; omega

set_option maxRecDepth 100000 in
set_option maxHeartbeats 2000000 in
theorem drawJoin (w : World) (n cap : Nat) (ao : Option Addr) (hn : n ≤ 1048576) (hk : Hid (CodeAt w w.heap.size ao n)) :
    Calls Try.prog 16 #[.slice ao n cap] w fun e w' => Drawn w e w' := by
  go_enter Try.func16, Try.ntmps16
  go_wp2_with fail
  refine (new_any w n cap ao hn hk).mono ?_
  rintro e w1 ⟨rfl, hc, hb, hz⟩
  have D1 : Hid (Drw w1 w1 w.heap.size w.heap.size ao n cap) := Drw.start hc.out (hk.out.stays hb (Nat.le_refl _))
  have B1 : Hid (Below w.heap.size w w1) := hb
  clear hc hb hz
  go_wp2_with fail
  refine (stream_any w1 w.heap.size w.heap.size n cap ao hn (Nat.le_refl _) D1).mono ?_
  rintro e w2 ⟨v, ts, rfl, h1, h2, h3, h4⟩
  have HO : Hid (OwnS w2 w.heap.size v ts) := h1.down B1.out.size
  have HB : Hid (Below w.heap.size w w2) := B1.out.trans (h4.below (Nat.le_refl _) B1.out.size)
  have H3 : Hid (∀ x ∈ ts, x.size ≤ 1048576) := h3
  clear h1 h3 h4 D1 B1
  obtain ⟨a, c, rfl⟩ := HO.out.form
  go_wp2_with fail
  go_ret
  exact ⟨_, ts, rfl, HO.out, h2, H3.out, HB.out⟩
theorem lawPiles (w : World) (n cap : Nat) (ao : Option Addr) (hk : Hid (CodeAt w w.heap.size ao n)) :
    Calls Try.prog 4 #[.slice ao n cap] w fun e w' => e = .returned (.bool true) ∧ Below w.heap.size w w' := lawPiles_of w n cap ao fun hn => drawJoin w n cap ao hn hk
end Go.Proofs.Ytfefjkldjaabbaa

