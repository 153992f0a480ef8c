/- The law on Pieces, walked. -/
import Derived.Test.YtfefjkldjaabbaaSp12
import Derived.Test.YtfefjkldjaabbaaMn
namespace Go.Proofs.Ytfefjkldjaabbaa
open Go.RowKit Pl
set_option linter.unusedVariables false

theorem pieces_both (num : Int) (s : ByteArray) (hm : s.size ≤ 1048576) : ∃ (ok : Bool) (ps : List ByteArray), ps.length ≤ 10 ∧ (∀ w, Calls Try.prog 12 #[.int .i64 num, .string s] w fun e w' => PcPost w ok ps e w') ∧ (∀ w, Calls Try.prog 11 #[.int .i64 num, .string s] w fun e w' => PcPost w ok ps e w') := by
  by_cases h : (0 ≤ num ∧ num ≤ 100000) ∧ s.size ≤ 400
  · obtain ⟨n, rfl⟩ : ∃ n : Nat, num = n := ⟨num.toNat, by omega⟩
    exact ⟨true, pcsL n s, by unfold pcsL; rw [List.length_map, List.length_range]; exact (cntN_le h.2).2, fun w => spPieces_yes n s w (by omega) h.2, fun w => implPieces_yes n s w (by omega) h.2⟩
  · exact ⟨false, [], by simp, fun w => spPieces_no num s w h hm, fun w => implPieces_no num s w h hm⟩

set_option maxRecDepth 100000 in
set_option maxHeartbeats 4000000 in
theorem lawPieces (num : Int) (s : ByteArray) (w : World) (hmx : s.size ≤ maxLen) :
    Calls Try.prog 5 #[.int .i64 num, .string s] w fun e w' => e = .returned (.bool true) ∧ Below w.heap.size w w' := by
  by_cases hm : s.size ≤ 1048576
  case neg =>
    unfold maxLen at hmx
    go_enter Try.func5, Try.ntmps5
    go_wp2
    go_ret
    exact ⟨rfl, Below.refl _ _⟩
  obtain ⟨ok, us, hul, hsp, him⟩ := pieces_both num s hm
  have HSP : Hid (∀ w, Calls Try.prog 12 #[.int .i64 num, .string s] w fun e w' => PcPost w ok us e w') := hsp
  have HIM : Hid (∀ w, Calls Try.prog 11 #[.int .i64 num, .string s] w fun e w' => PcPost w ok us e w') := him
  clear hsp him
  go_enter Try.func5, Try.ntmps5
  go_wp2_with fail
  refine (HSP.out w).mono ?_
  rintro e w2 ⟨v0, rfl, hv0, hb2⟩
  have M0 := Mine.mk' hv0
  have B2 : Below w.heap.size w w2 := hb2
  clear hv0 hb2
  go_wp2_with fail
  refine (HIM.out w2).mono ?_
  rintro e w4 ⟨vg, rfl, hvg, hb4⟩
  have MG := Mine.mk' hvg
  have M0 := M0.stays hb4
  have B4 : Below w.heap.size w w4 := B2.trans (hb4.mono B2.size)
  have s24 := hb4.size
  clear hvg hb4
  go_wp2_with fail
  refine (eqS_same vg v0 us _ _ _ MG.own M0.own (by omega)).mono ?_
  rintro e w5 ⟨rfl, hb5⟩
  have M0 := M0.stays hb5
  have MG := MG.stays hb5
  have B5 : Below w.heap.size w w5 := B4.trans (hb5.mono B4.size)
  clear hb5
  cases ok
  all_goals
    go_wp2_with fail
    refine (markSo_any vg us _ 1 _ MG.own (by omega) (by omega)).mono ?_
    rintro e w10 ⟨rfl, hown10, hgr10⟩
    have M0 := M0.grown MG.at' hgr10 (.inl (Nat.le_refl _))
    have MH : Mine w10 vg (mkT 1 us.length) w2.heap.size w4.heap.size := ⟨hown10, MG.at', Nat.le_trans MG.le hgr10.size⟩
    have B10 : Below w.heap.size w w10 := B5.grown hgr10 B5.size (fun k hk => Nat.le_trans B2.size (MG.at' k hk).1)
    have c11 := heldSo_any vg us.length _ 1 w10 MH.own (by omega) (by omega)
    clear hgr10 MG hown10
    go_wp2_with fail
    refine c11.mono ?_
    clear c11
    rintro e w11 ⟨rfl, hb11⟩
    have M0 := M0.stays hb11
    have MH := MH.stays hb11
    have B11 : Below w.heap.size w w11 := B10.trans (hb11.mono B10.size)
    have hu0 : decide (1 + (us.length : Int) < 0) = false := by simp; omega
    clear hb11
    go_wp2_with fail
    refine (HIM.out w11).mono ?_
    rintro e w13 ⟨vh, rfl, hvh, hb13⟩
    have M0 := M0.stays hb13
    have MH := MH.stays hb13
    have B13 : Below w.heap.size w w13 := B11.trans (hb13.mono B11.size)
    clear hb13
    go_wp2_with fail
    refine (eqS_same vh v0 us _ _ _ hvh M0.own (by omega)).mono ?_
    rintro e w14 ⟨rfl, hb14⟩
    have MH := MH.stays hb14
    have B14 : Below w.heap.size w w14 := B13.trans (hb14.mono B13.size)
    have c15 := heldSo_any vg us.length _ 1 w14 MH.own (by omega) (by omega)
    clear hb14 hvh M0
    go_wp2_with fail
    refine c15.mono ?_
    clear c15
    rintro e w15 ⟨rfl, hb15⟩
    go_wp2
    go_ret
    exact ⟨rfl, B14.trans (hb15.mono B14.size)⟩
end Go.Proofs.Ytfefjkldjaabbaa
