/- The law on SortNames, walked. -/
import Derived.Test.YtbdnnmcjnfbloaaT4
namespace Go.Proofs.Ytbdnnmcjnfbloaa
open Go.RowKit Pl
set_option linter.unusedVariables false

theorem specSortV (w : World) (B : Nat) (v : Value) (ts us : List ByteArray) (h : OwnS w B v ts) (hf : Few ts) (hus : SetOf ts us) :
    Calls Try.prog 14 #[v] w fun e w' => ∃ u, e = .returned u ∧ OwnS w' w.heap.size u us ∧ Below w.heap.size w w' := by
  obtain ⟨ao, cap, rfl, htx⟩ := h.texts
  refine (specSort w ao cap ts htx hf.1).mono ?_
  rintro e w' ⟨u, us', rfl, h1, h2, h3, h4⟩
  obtain rfl := setOf_unique h1 hus
  exact ⟨u, rfl, h3, h4⟩
theorem implSortV (w : World) (B : Nat) (v : Value) (ts us : List ByteArray) (h : OwnS w B v ts) (hf : Few ts) (hus : SetOf ts us) :
    Calls Try.prog 8 #[v] w fun e w' => ∃ u, e = .returned u ∧ OwnS w' w.heap.size u us ∧ Below w.heap.size w w' := by
  obtain ⟨ao, cap, rfl, htx⟩ := h.texts
  refine (implSort w ao cap ts htx hf).mono ?_
  rintro e w' ⟨u, us', rfl, h1, h2, h3, h4⟩
  obtain rfl := setOf_unique h1 hus
  exact ⟨u, rfl, h3, h4⟩

/-- each list has its set. -/
theorem setOf_some (ts : List ByteArray) : ∃ us, SetOf ts us ∧ us.length ≤ ts.length := by
  have h : ∀ k, k ≤ ts.length → ∃ us, SetOf (ts.take k) us ∧ us.length ≤ k := by
    intro k
    induction k with
    | zero => exact fun _ => ⟨[], setOf_nil, Nat.le_refl _⟩
    | succ k ih =>
      intro hk
      obtain ⟨us, h1, h2⟩ := ih (by omega)
      refine ⟨ins us (ts[k]'(by omega)), ?_, ?_⟩
      · rw [List.take_succ_eq_append_getElem (by omega)]
        exact setOf_step h1 _
      · have := ins_length us (ts[k]'(by omega))
        omega
  obtain ⟨us, h1, h2⟩ := h ts.length (Nat.le_refl _)
  rw [List.take_length] at h1
  exact ⟨us, h1, h2⟩

/-- what another slice's writing leaves. -/
theorem OwnS_grown {w w' : World} {B : Nat} {v u : Value} {ss : List ByteArray} (h : OwnS w B v ss) (hg : w.grownBy w' u.ownBlock) (hne : ∀ k k', v.ownBlock = some k → u.ownBlock = some k' → k ≠ k') : OwnS w' B v ss := by
  refine World.ownsRow.kept h hg ?_
  cases e0 : v.ownBlock with
  | none => exact .inl rfl
  | some k0 =>
    refine .inr ?_
    cases e1 : u.ownBlock with
    | none => simp
    | some k1 =>
      have := hne k0 k1 e0 e1
      simpa using this

/-- A slice of the call's own, and where it lies. -/
structure Mine (w : World) (v : Value) (ss : List ByteArray) (lo hi : Nat) : Prop where
  own : OwnS w 0 v ss
  at' : ∀ k, v.ownBlock = some k → lo ≤ k ∧ k < hi
  le : hi ≤ w.heap.size

theorem Mine.mk' {w w' : World} {v : Value} {ss : List ByteArray} (h : OwnS w' w.heap.size v ss) : Mine w' v ss w.heap.size w'.heap.size :=
  ⟨h.down (Nat.zero_le _), fun k hk => h.lt k hk, Nat.le_refl _⟩
theorem Mine.stays {w w' : World} {v : Value} {ss : List ByteArray} {lo hi : Nat} (h : Mine w v ss lo hi) (hb : Below w.heap.size w w') : Mine w' v ss lo hi :=
  ⟨h.own.stays hb (fun k hk => Nat.lt_of_lt_of_le (h.at' k hk).2 h.le), h.at', Nat.le_trans h.le hb.size⟩
theorem Mine.grown {w w' : World} {v u : Value} {ss : List ByteArray} {lo hi lo' hi' : Nat} (h : Mine w v ss lo hi) (hu : ∀ k, u.ownBlock = some k → lo' ≤ k ∧ k < hi') (hg : w.grownBy w' u.ownBlock) (ho : hi ≤ lo' ∨ hi' ≤ lo) : Mine w' v ss lo hi := by
  refine ⟨OwnS_grown h.own hg ?_, h.at', Nat.le_trans h.le hg.size⟩
  intro k k' hk hk'
  have h1 := h.at' k hk
  have h2 := hu k' hk'
  omega

set_option maxRecDepth 100000 in
set_option maxHeartbeats 4000000 in
theorem lawSort (w : World) (ao : Option Addr) (cap : Nat) (ts : List ByteArray) (hx : Hid (TextsAt w ao ts)) (hlen : ts.length ≤ maxLen) (hmax : Hid (∀ t ∈ ts, t.size ≤ maxLen)) :
    Calls Try.prog 5 #[.slice ao ts.length cap] w fun e w' => e = .returned (.bool true) ∧ Below w.heap.size w w' := by
  obtain ⟨us, hus0, hul0⟩ := setOf_some ts
  have hus : Hid (SetOf ts us) := hus0
  clear hus0
  have hc := sz_any w ao cap ts hx hlen hmax
  clear hlen
  go_enter Try.func5, Try.ntmps5
  go_wp2_with fail
  refine hc.mono ?_
  rintro e w0 ⟨⟨z, rfl, hzf⟩, rfl⟩
  clear hc
  by_cases hz : z < 0
  · go_wp2
    go_ret
    exact ⟨rfl, Below.refl _ _⟩
  have hf : Hid (Few ts) := hzf.out (by omega)
  have htl : ts.length ≤ 1048576 := hf.out.1
  have hul : us.length ≤ 1048576 := by omega
  have hz0 : decide (z < 0) = false := by simp; omega
  clear hzf hz hul0
  go_wp2_with fail
  refine (to_any _ ao cap ts hx htl).mono ?_
  rintro e w1 ⟨va, rfl, hva, hb1⟩
  go_wp2_with fail
  refine (specSortV _ _ va ts us hva hf.out hus.out).mono ?_
  rintro e w2 ⟨v0, rfl, hv0, hb2⟩
  have M0 := Mine.mk' hv0
  have B2 : Below w0.heap.size w0 w2 := hb1.trans (hb2.mono hb1.size)
  have hx2 : Hid (TextsAt w2 ao ts) := hx.out.stays B2
  clear hva hv0 hb1 hb2
  go_wp2_with fail
  refine (to_any _ ao cap ts hx2 htl).mono ?_
  rintro e w3 ⟨vx, rfl, hvx, hb3⟩
  have MX := Mine.mk' hvx
  have M0 := M0.stays hb3
  have B3 : Below w0.heap.size w0 w3 := B2.trans (hb3.mono B2.size)
  clear hx2
  go_wp2_with fail
  refine (implSortV _ _ vx ts us hvx hf.out hus.out).mono ?_
  rintro e w4 ⟨vg, rfl, hvg, hb4⟩
  have MG := Mine.mk' hvg
  have M0 := M0.stays hb4
  have MX := MX.stays hb4
  have B4 : Below w0.heap.size w0 w4 := B3.trans (hb4.mono B3.size)
  have s23 := hb3.size
  have s34 := hb4.size
  clear hvx hvg hb3 hb4
  go_wp2_with fail
  refine (eqS_same vg v0 us _ _ _ MG.own M0.own hul).mono ?_
  rintro e w5 ⟨rfl, hb5⟩
  have M0 := M0.stays hb5
  have MX := MX.stays hb5
  have MG := MG.stays hb5
  have B5 : Below w0.heap.size w0 w5 := B4.trans (hb5.mono B4.size)
  have hx5 : Hid (TextsAt w5 ao ts) := hx.out.stays B5
  clear hb5
  go_wp2_with fail
  refine (to_any _ ao cap ts hx5 htl).mono ?_
  rintro e w6 ⟨vy, rfl, hvy, hb6⟩
  have M0 := M0.stays hb6
  have MX := MX.stays hb6
  have MG := MG.stays hb6
  have B6 : Below w0.heap.size w0 w6 := B5.trans (hb6.mono B5.size)
  clear hb6 hx5
  go_wp2_with fail
  refine (eqS_same vx vy ts _ _ _ MX.own hvy htl).mono ?_
  rintro e w7 ⟨rfl, hb7⟩
  have M0 := M0.stays hb7
  have MX := MX.stays hb7
  have MG := MG.stays hb7
  have B7 : Below w0.heap.size w0 w7 := B6.trans (hb7.mono B6.size)
  clear hb7 hvy
  go_wp2_with fail
  refine (markS_any vx ts _ _ MX.own htl).mono ?_
  rintro e w8 ⟨rfl, hgr8, _⟩
  have M0 := M0.grown MX.at' hgr8 (.inl (Nat.le_refl _))
  have MG := MG.grown MX.at' hgr8 (.inr (Nat.le_refl _))
  have B8 : Below w0.heap.size w0 w8 := B7.grown hgr8 B7.size (fun k hk => Nat.le_trans B2.size (MX.at' k hk).1)
  have hn0 : decide (1 + (ts.length : Int) < 0) = false := by simp; omega
  clear hgr8 MX
  go_wp2_with fail
  refine (eqS_same vg v0 us _ _ _ MG.own M0.own hul).mono ?_
  rintro e w9 ⟨rfl, hb9⟩
  have M0 := M0.stays hb9
  have MG := MG.stays hb9
  have B9 : Below w0.heap.size w0 w9 := B8.trans (hb9.mono B8.size)
  clear hb9 hn0
  go_wp2_with fail
  refine (markS_any vg us _ _ MG.own hul).mono ?_
  rintro e w10 ⟨rfl, hgr10, xs, hxl, hmk, hown10⟩
  have M0 := M0.grown MG.at' hgr10 (.inl s23)
  have MH : Mine w10 vg xs w3.heap.size w4.heap.size := ⟨hown10, MG.at', Nat.le_trans MG.le hgr10.size⟩
  have B10 : Below w0.heap.size w0 w10 := B9.grown hgr10 B9.size (fun k hk => Nat.le_trans B3.size (MG.at' k hk).1)
  have hmk2 : Hid (Marked xs 1 xs.length) := by rw [hxl]; exact hmk
  have HXL : Hid (xs.length = us.length) := hxl
  have c11 := heldS_any vg xs _ w10 MH.own (by omega) hmk2
  rw [hxl] at c11
  clear hgr10 MG hmk hown10 hxl
  go_wp2_with fail
  refine c11.mono ?_
  clear c11
  rintro e w11 ⟨rfl, hb11⟩
  have M0 := M0.stays hb11
  have MH := MH.stays hb11
  have B11 : Below w0.heap.size w0 w11 := B10.trans (hb11.mono B10.size)
  have hx11 : Hid (TextsAt w11 ao ts) := hx.out.stays B11
  have hu0 : decide (1 + (us.length : Int) < 0) = false := by simp; omega
  clear hb11
  go_wp2_with fail
  refine (to_any _ ao cap ts hx11 htl).mono ?_
  rintro e w12 ⟨vz, rfl, hvz, hb12⟩
  have M0 := M0.stays hb12
  have MH := MH.stays hb12
  have B12 : Below w0.heap.size w0 w12 := B11.trans (hb12.mono B11.size)
  clear hb12 hx11
  go_wp2_with fail
  refine (implSortV _ _ vz ts us hvz hf.out hus.out).mono ?_
  rintro e w13 ⟨vh, rfl, hvh, hb13⟩
  have M0 := M0.stays hb13
  have MH := MH.stays hb13
  have B13 : Below w0.heap.size w0 w13 := B12.trans (hb13.mono B12.size)
  clear hb13 hvz
  go_wp2_with fail
  refine (eqS_same vh v0 us _ _ _ hvh M0.own hul).mono ?_
  rintro e w14 ⟨rfl, hb14⟩
  have MH := MH.stays hb14
  have B14 : Below w0.heap.size w0 w14 := B13.trans (hb14.mono B13.size)
  have c15 := heldS_any vg xs _ w14 MH.own (by rw [HXL.out]; exact hul) hmk2
  rw [HXL.out] at c15
  clear hb14 hvh M0
  go_wp2_with fail
  refine c15.mono ?_
  clear c15
  rintro e w15 ⟨rfl, hb15⟩
  go_wp2
  go_ret
  exact ⟨rfl, B14.trans (hb15.mono B14.size)⟩

end Go.Proofs.Ytbdnnmcjnfbloaa
