/- The law on CutAt, walked. -/
import Derived.Test.YtjjaklhpdckppaaC4
import Derived.Test.YtjjaklhpdckppaaMn
namespace Go.Proofs.Ytjjaklhpdckppaa
open Go.RowKit Go.Sort Pl
set_option linter.unusedVariables false

/-- what another slice's writing leaves. -/
theorem OwnI_grown {w w' : World} {B : Nat} {v u : Value} {ss : List Int} (h : OwnI w B v ss) (hg : w.grownBy w' u.ownBlock) (hne : ∀ k k', v.ownBlock = some k → u.ownBlock = some k' → k ≠ k') : OwnI w' B v ss := by
  refine World.ownsRow.kept h hg ?_
  cases e0 : v.ownBlock with
  | none => exact .inl rfl
  | some k0 =>
    refine .inr ?_
    cases e1 : u.ownBlock with
    | none => simp
    | some k1 =>
      have := hne k0 k1 e0 e1
      simpa using this

/-- A slice of the call's own, and where it lies. -/
structure MineI (w : World) (v : Value) (ss : List Int) (lo hi : Nat) : Prop where
  own : OwnI w 0 v ss
  at' : ∀ k, v.ownBlock = some k → lo ≤ k ∧ k < hi
  le : hi ≤ w.heap.size

theorem MineI.mk' {w w' : World} {v : Value} {ss : List Int} (h : OwnI w' w.heap.size v ss) : MineI w' v ss w.heap.size w'.heap.size :=
  ⟨h.down (Nat.zero_le _), fun k hk => h.lt k hk, Nat.le_refl _⟩
theorem MineI.stays {w w' : World} {v : Value} {ss : List Int} {lo hi : Nat} (h : MineI w v ss lo hi) (hb : Below w.heap.size w w') : MineI w' v ss lo hi :=
  ⟨h.own.stays hb (fun k hk => Nat.lt_of_lt_of_le (h.at' k hk).2 h.le), h.at', Nat.le_trans h.le hb.size⟩
theorem MineI.grown {w w' : World} {v u : Value} {ss : List Int} {lo hi lo' hi' : Nat} (h : MineI w v ss lo hi) (hu : ∀ k, u.ownBlock = some k → lo' ≤ k ∧ k < hi') (hg : w.grownBy w' u.ownBlock) (ho : hi ≤ lo' ∨ hi' ≤ lo) : MineI w' v ss lo hi := by
  refine ⟨OwnI_grown h.own hg ?_, h.at', Nat.le_trans h.le hg.size⟩
  intro k k' hk hk'
  have h1 := h.at' k hk
  have h2 := hu k' hk'
  omega


theorem specCutV (w : World) (B : Nat) (v : Value) (s : ByteArray) (zs : List Int) (h : OwnI w B v zs) (hl : zs.length ≤ 1048576) (hs : s.size ≤ 1048576) :
    Calls Try.prog 9 #[.string s, v] w fun e w' => ∃ u, e = .returned u ∧ OwnS w' w.heap.size u (pieces s (cutsL s.size zs)) ∧ Below w.heap.size w w' := by
  obtain ⟨ao, cap, rfl, hx⟩ := h.ints
  exact spcut_any w s ao cap zs hx hl hs
theorem implCutV (w : World) (B : Nat) (v : Value) (s : ByteArray) (zs : List Int) (h : OwnI w B v zs) (hl : zs.length ≤ 1048576) (hs : s.size ≤ 1048576) :
    Calls Try.prog 7 #[.string s, v] w fun e w' => ∃ u, e = .returned u ∧ OwnS w' w.heap.size u (pieces s (cutsL s.size zs)) ∧ Below w.heap.size w w' := by
  obtain ⟨ao, cap, rfl, hx⟩ := h.ints
  exact cutat_any w s ao cap zs hx hl hs

set_option maxRecDepth 100000 in
set_option maxHeartbeats 4000000 in
theorem lawCut (w : World) (s : ByteArray) (ao : Option Addr) (cap : Nat) (zs : List Int) (hx : Hid (IntsAt w ao zs)) (hs : s.size ≤ maxLen) (hlen : zs.length ≤ maxLen) :
    Calls Try.prog 4 #[.string s, .slice ao zs.length cap] w fun e w' => e = .returned (.bool true) ∧ Below w.heap.size w w' := by
  unfold maxLen at hs hlen
  by_cases hs1 : 1048576 < s.size
  · go_enter Try.func4, Try.ntmps4
    go_wp2
    go_ret
    exact ⟨rfl, Below.refl _ _⟩
  by_cases hl1 : 1048576 < zs.length
  · go_enter Try.func4, Try.ntmps4
    go_wp2
    go_ret
    exact ⟨rfl, Below.refl _ _⟩
  have hsl : s.size ≤ 1048576 := by omega
  have htl : zs.length ≤ 1048576 := by omega
  have hul0 := pieces_len s (cutsL s.size zs)
  have hul1 := cutsL_length s.size zs
  obtain ⟨us, hus⟩ : ∃ us, us = pieces s (cutsL s.size zs) := ⟨_, rfl⟩
  rw [← hus] at hul0
  have HUS : Hid (pieces s (cutsL s.size zs) = us) := hus.symm
  have hul2 : us.length ≤ 1048577 := by omega
  clear hus hul0 hul1 hs hlen hs1 hl1
  have hul : us.length ≤ 1048577 := hul2
  go_enter Try.func4, Try.ntmps4
  go_wp2_with fail
  refine (toI_any _ ao cap zs hx htl).mono ?_
  rintro e w1 ⟨va, rfl, hva, hb1⟩
  go_wp2_with fail
  refine (specCutV _ _ va s zs hva htl hsl).mono ?_
  rintro e w2 ⟨v0, rfl, hv0, hb2⟩
  rw [HUS.out] at hv0
  have M0 := Mine.mk' hv0
  have B2 : Below w.heap.size w w2 := hb1.trans (hb2.mono hb1.size)
  have hx2 : Hid (IntsAt w2 ao zs) := hx.out.stays B2
  clear hva hv0 hb1 hb2
  go_wp2_with fail
  refine (toI_any _ ao cap zs hx2 htl).mono ?_
  rintro e w3 ⟨vx, rfl, hvx, hb3⟩
  have MX := MineI.mk' hvx
  have M0 := M0.stays hb3
  have B3 : Below w.heap.size w w3 := B2.trans (hb3.mono B2.size)
  clear hx2
  go_wp2_with fail
  refine (implCutV _ _ vx s zs hvx htl hsl).mono ?_
  rintro e w4 ⟨vg, rfl, hvg, hb4⟩
  rw [HUS.out] at hvg
  have MG := Mine.mk' hvg
  have M0 := M0.stays hb4
  have MX := MX.stays hb4
  have B4 : Below w.heap.size w w4 := B3.trans (hb4.mono B3.size)
  have s23 := hb3.size
  have s34 := hb4.size
  clear hvx hvg hb3 hb4
  go_wp2_with fail
  refine (eqS_same vg v0 us _ _ _ MG.own M0.own hul).mono ?_
  rintro e w5 ⟨rfl, hb5⟩
  have M0 := M0.stays hb5
  have MX := MX.stays hb5
  have MG := MG.stays hb5
  have B5 : Below w.heap.size w w5 := B4.trans (hb5.mono B4.size)
  have hx5 : Hid (IntsAt w5 ao zs) := hx.out.stays B5
  clear hb5
  go_wp2_with fail
  refine (toI_any _ ao cap zs hx5 htl).mono ?_
  rintro e w6 ⟨vy, rfl, hvy, hb6⟩
  have M0 := M0.stays hb6
  have MX := MX.stays hb6
  have MG := MG.stays hb6
  have B6 : Below w.heap.size w w6 := B5.trans (hb6.mono B5.size)
  clear hb6 hx5
  go_wp2_with fail
  refine (eqI_same vx vy zs _ _ _ MX.own hvy htl).mono ?_
  rintro e w7 ⟨rfl, hb7⟩
  have M0 := M0.stays hb7
  have MX := MX.stays hb7
  have MG := MG.stays hb7
  have B7 : Below w.heap.size w w7 := B6.trans (hb7.mono B6.size)
  clear hb7 hvy
  go_wp2_with fail
  refine (markI_any vx zs _ _ MX.own htl).mono ?_
  rintro e w8 ⟨rfl, hgr8⟩
  have M0 := M0.grown MX.at' hgr8 (.inl (Nat.le_refl _))
  have MG := MG.grown MX.at' hgr8 (.inr (Nat.le_refl _))
  have B8 : Below w.heap.size w w8 := B7.grown hgr8 B7.size (fun k hk => Nat.le_trans B2.size (MX.at' k hk).1)
  have hn0 : decide (1 + (zs.length : Int) < 0) = false := by simp; omega
  clear hgr8 MX
  go_wp2_with fail
  refine (eqS_same vg v0 us _ _ _ MG.own M0.own hul).mono ?_
  rintro e w9 ⟨rfl, hb9⟩
  have M0 := M0.stays hb9
  have MG := MG.stays hb9
  have B9 : Below w.heap.size w w9 := B8.trans (hb9.mono B8.size)
  clear hb9 hn0
  go_wp2_with fail
  refine (markS_any vg us _ _ MG.own hul).mono ?_
  rintro e w10 ⟨rfl, hgr10, xs, hxl, hmk, hown10⟩
  have M0 := M0.grown MG.at' hgr10 (.inl s23)
  have MH : Mine w10 vg xs w3.heap.size w4.heap.size := ⟨hown10, MG.at', Nat.le_trans MG.le hgr10.size⟩
  have B10 : Below w.heap.size w w10 := B9.grown hgr10 B9.size (fun k hk => Nat.le_trans B3.size (MG.at' k hk).1)
  have hmk2 : Hid (Marked xs 1 xs.length) := by rw [hxl]; exact hmk
  have HXL : Hid (xs.length = us.length) := hxl
  have c11 := heldS_any vg xs _ w10 MH.own (by omega) hmk2
  rw [hxl] at c11
  clear hgr10 MG hmk hown10 hxl
  go_wp2_with fail
  refine c11.mono ?_
  clear c11
  rintro e w11 ⟨rfl, hb11⟩
  have M0 := M0.stays hb11
  have MH := MH.stays hb11
  have B11 : Below w.heap.size w w11 := B10.trans (hb11.mono B10.size)
  have hx11 : Hid (IntsAt w11 ao zs) := hx.out.stays B11
  have hu0 : decide (1 + (us.length : Int) < 0) = false := by simp; omega
  clear hb11
  go_wp2_with fail
  refine (toI_any _ ao cap zs hx11 htl).mono ?_
  rintro e w12 ⟨vz, rfl, hvz, hb12⟩
  have M0 := M0.stays hb12
  have MH := MH.stays hb12
  have B12 : Below w.heap.size w w12 := B11.trans (hb12.mono B11.size)
  clear hb12 hx11
  go_wp2_with fail
  refine (implCutV _ _ vz s zs hvz htl hsl).mono ?_
  rintro e w13 ⟨vh, rfl, hvh, hb13⟩
  rw [HUS.out] at hvh
  have M0 := M0.stays hb13
  have MH := MH.stays hb13
  have B13 : Below w.heap.size w w13 := B12.trans (hb13.mono B12.size)
  clear hb13 hvz
  go_wp2_with fail
  refine (eqS_same vh v0 us _ _ _ hvh M0.own hul).mono ?_
  rintro e w14 ⟨rfl, hb14⟩
  have MH := MH.stays hb14
  have B14 : Below w.heap.size w w14 := B13.trans (hb14.mono B13.size)
  have c15 := heldS_any vg xs _ w14 MH.own (by rw [HXL.out]; exact hul) hmk2
  rw [HXL.out] at c15
  clear hb14 hvh M0
  go_wp2_with fail
  refine c15.mono ?_
  clear c15
  rintro e w15 ⟨rfl, hb15⟩
  go_wp2
  go_ret
  exact ⟨rfl, B14.trans (hb15.mono B14.size)⟩
end Go.Proofs.Ytjjaklhpdckppaa
