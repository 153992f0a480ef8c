/- The law on Join, walked. -/
import Derived.Test.YtfefjkldjaabbaaMn
import Derived.Test.YtfefjkldjaabbaaSj
namespace Go.Proofs.Ytfefjkldjaabbaa
open Go.RowKit Pl
set_option linter.unusedVariables false

theorem specJoinV (w : World) (B : Nat) (v : Value) (ts : List ByteArray) (h : OwnS w B v ts) (hl : ts.length ≤ 1048576) (hs : ∀ x ∈ ts, x.size ≤ 1048576) :
    Calls Try.prog 17 #[v] w fun e w' => ∃ u, e = .returned u ∧ OwnS w' w.heap.size u (joinedL ts) ∧ Below w.heap.size w w' := by
  obtain ⟨ao, cap, rfl, htx⟩ := h.texts
  exact specJoin ao cap ts w htx hl hs
theorem implJoinV (w : World) (B : Nat) (v : Value) (ts : List ByteArray) (h : OwnS w B v ts) (hl : ts.length ≤ 1048576) (hs : ∀ x ∈ ts, x.size ≤ 1048576) :
    Calls Try.prog 15 #[v] w fun e w' => ∃ u, e = .returned u ∧ OwnS w' w.heap.size u (joinedL ts) ∧ Below w.heap.size w w' := by
  obtain ⟨ao, cap, rfl, htx⟩ := h.texts
  exact implJoin ao cap ts w htx hl hs

set_option maxRecDepth 100000 in
set_option maxHeartbeats 4000000 in
theorem lawJoin (w : World) (ao : Option Addr) (cap : Nat) (ts : List ByteArray) (hx : Hid (TextsAt w ao ts)) (hlen : ts.length ≤ maxLen) (hmax : Hid (∀ t ∈ ts, t.size ≤ maxLen)) :
    Calls Try.prog 8 #[.slice ao ts.length cap] w fun e w' => e = .returned (.bool true) ∧ Below w.heap.size w w' := by
  have hul0 := joinedL_len ts
  have hc := szS_any w ao cap 1048576 ts hx hlen hmax (Nat.le_refl _)
  clear hlen
  go_enter Try.func8, Try.ntmps8
  go_wp2_with fail
  refine hc.mono ?_
  rintro e w0 ⟨rfl | ⟨z, rfl, hzf⟩, rfl⟩
  · go_wp2
    go_ret
    exact ⟨rfl, Below.refl _ _⟩
  clear hc
  have htl : ts.length ≤ 1048576 := by have := hzf.out.1; omega
  have HS : Hid (∀ x ∈ ts, x.size ≤ 1048576) := hzf.out.2
  generalize hU : joinedL ts = us at *
  have HU : Hid (joinedL ts = us) := hU
  clear hU
  have hul : us.length ≤ 1048576 := by omega
  have hz0 : decide ((z : Int) < 0) = false := by simp
  clear hzf hul0
  go_wp2_with fail
  refine (toS_any _ ao cap ts hx htl).mono ?_
  rintro e w1 ⟨va, rfl, hva, hb1⟩
  go_wp2_with fail
  refine (specJoinV _ _ va ts hva htl HS.out).mono ?_
  rintro e w2 ⟨v0, rfl, hv0, hb2⟩
  rw [HU.out] at hv0
  have M0 := Mine.mk' hv0
  have B2 : Below w0.heap.size w0 w2 := hb1.trans (hb2.mono hb1.size)
  have hx2 : Hid (TextsAt w2 ao ts) := hx.out.stays B2
  clear hva hv0 hb1 hb2
  go_wp2_with fail
  refine (toS_any _ ao cap ts hx2 htl).mono ?_
  rintro e w3 ⟨vx, rfl, hvx, hb3⟩
  have MX := Mine.mk' hvx
  have M0 := M0.stays hb3
  have B3 : Below w0.heap.size w0 w3 := B2.trans (hb3.mono B2.size)
  clear hx2
  go_wp2_with fail
  refine (implJoinV _ _ vx ts hvx htl HS.out).mono ?_
  rintro e w4 ⟨vg, rfl, hvg, hb4⟩
  rw [HU.out] at hvg
  have MG := Mine.mk' hvg
  have M0 := M0.stays hb4
  have MX := MX.stays hb4
  have B4 : Below w0.heap.size w0 w4 := B3.trans (hb4.mono B3.size)
  have s23 := hb3.size
  have s34 := hb4.size
  clear hvx hvg hb3 hb4
  go_wp2_with fail
  refine (eqS_same vg v0 us _ _ _ MG.own M0.own (by omega)).mono ?_
  rintro e w5 ⟨rfl, hb5⟩
  have M0 := M0.stays hb5
  have MX := MX.stays hb5
  have MG := MG.stays hb5
  have B5 : Below w0.heap.size w0 w5 := B4.trans (hb5.mono B4.size)
  have hx5 : Hid (TextsAt w5 ao ts) := hx.out.stays B5
  clear hb5
  go_wp2_with fail
  refine (toS_any _ ao cap ts hx5 htl).mono ?_
  rintro e w6 ⟨vy, rfl, hvy, hb6⟩
  have M0 := M0.stays hb6
  have MX := MX.stays hb6
  have MG := MG.stays hb6
  have B6 : Below w0.heap.size w0 w6 := B5.trans (hb6.mono B5.size)
  clear hb6 hx5
  go_wp2_with fail
  refine (eqS_same vx vy ts _ _ _ MX.own hvy (by omega)).mono ?_
  rintro e w7 ⟨rfl, hb7⟩
  have M0 := M0.stays hb7
  have MX := MX.stays hb7
  have MG := MG.stays hb7
  have B7 : Below w0.heap.size w0 w7 := B6.trans (hb7.mono B6.size)
  clear hb7 hvy
  go_wp2_with fail
  refine (markSo_any vx ts _ 1 _ MX.own (by omega) (by omega)).mono ?_
  rintro e w8 ⟨rfl, _, hgr8⟩
  have M0 := M0.grown MX.at' hgr8 (.inl (Nat.le_refl _))
  have MG := MG.grown MX.at' hgr8 (.inr (Nat.le_refl _))
  have B8 : Below w0.heap.size w0 w8 := B7.grown hgr8 B7.size (fun k hk => Nat.le_trans B2.size (MX.at' k hk).1)
  have hn0 : decide (1 + (ts.length : Int) < 0) = false := by simp; omega
  clear hgr8 MX
  go_wp2_with fail
  refine (eqS_same vg v0 us _ _ _ MG.own M0.own (by omega)).mono ?_
  rintro e w9 ⟨rfl, hb9⟩
  have M0 := M0.stays hb9
  have MG := MG.stays hb9
  have B9 : Below w0.heap.size w0 w9 := B8.trans (hb9.mono B8.size)
  clear hb9 hn0
  go_wp2_with fail
  refine (markSo_any vg us _ 1 _ MG.own (by omega) (by omega)).mono ?_
  rintro e w10 ⟨rfl, hown10, hgr10⟩
  have M0 := M0.grown MG.at' hgr10 (.inl s23)
  have MH : Mine w10 vg (mkT 1 us.length) w3.heap.size w4.heap.size := ⟨hown10, MG.at', Nat.le_trans MG.le hgr10.size⟩
  have B10 : Below w0.heap.size w0 w10 := B9.grown hgr10 B9.size (fun k hk => Nat.le_trans B3.size (MG.at' k hk).1)
  have c11 := heldSo_any vg us.length _ 1 w10 MH.own (by omega) (by omega)
  clear hgr10 MG hown10
  go_wp2_with fail
  refine c11.mono ?_
  clear c11
  rintro e w11 ⟨rfl, hb11⟩
  have M0 := M0.stays hb11
  have MH := MH.stays hb11
  have B11 : Below w0.heap.size w0 w11 := B10.trans (hb11.mono B10.size)
  have hx11 : Hid (TextsAt w11 ao ts) := hx.out.stays B11
  have hu0 : decide (1 + (us.length : Int) < 0) = false := by simp; omega
  clear hb11
  go_wp2_with fail
  refine (toS_any _ ao cap ts hx11 htl).mono ?_
  rintro e w12 ⟨vz, rfl, hvz, hb12⟩
  have M0 := M0.stays hb12
  have MH := MH.stays hb12
  have B12 : Below w0.heap.size w0 w12 := B11.trans (hb12.mono B11.size)
  clear hb12 hx11
  go_wp2_with fail
  refine (implJoinV _ _ vz ts hvz htl HS.out).mono ?_
  rintro e w13 ⟨vh, rfl, hvh, hb13⟩
  rw [HU.out] at hvh
  have M0 := M0.stays hb13
  have MH := MH.stays hb13
  have B13 : Below w0.heap.size w0 w13 := B12.trans (hb13.mono B12.size)
  clear hb13 hvz
  go_wp2_with fail
  refine (eqS_same vh v0 us _ _ _ hvh M0.own (by omega)).mono ?_
  rintro e w14 ⟨rfl, hb14⟩
  have MH := MH.stays hb14
  have B14 : Below w0.heap.size w0 w14 := B13.trans (hb14.mono B13.size)
  have c15 := heldSo_any vg us.length _ 1 w14 MH.own (by omega) (by omega)
  clear hb14 hvh M0
  go_wp2_with fail
  refine c15.mono ?_
  clear c15
  rintro e w15 ⟨rfl, hb15⟩
  go_wp2
  go_ret
  exact ⟨rfl, B14.trans (hb15.mono B14.size)⟩

end Go.Proofs.Ytfefjkldjaabbaa
