/- The walk over the program's CutAt. -/
import Derived.Test.YtjjaklhpdckppaaDoorC1
namespace Go.Proofs.YtjjaklhpdckppaaDoor
open Go.RowKit Go.Sort Pl
set_option linter.unusedVariables false

theorem Tryd.info9 : (Tryd.prog.info? 9).map (fun i => (i.zero, i.size, i.bytes)) = some (some (.string ⟨#[]⟩), 1, 16) := by kernel_rfl

theorem ints_cast {w : World} {ao : Option Addr} {cs : List Nat} (h : IntsAt w ao (cs.map fun c : Nat => (c : Int))) (i : Nat) (hi : i < cs.length) : ∃ b off, ao = some ⟨b, off, none⟩ ∧ b < w.heap.size ∧ w.cell? ⟨b, off + i, none⟩ = some (.int .i64 ((cs[i] : Nat) : Int)) := by
  obtain ⟨b, off, h1, h2, h3⟩ := h i (by rw [List.length_map]; exact hi)
  exact ⟨b, off, h1, h2, by rw [h3]; simp⟩

set_option maxRecDepth 100000 in
set_option maxHeartbeats 2000000 in
theorem cutat_any (w : World) (s : ByteArray) (ao : Option Addr) (cap : Nat) (zs : List Int) (hx : Hid (IntsAt w ao zs)) (hl : zs.length ≤ 1048576) (hs : s.size ≤ 1048576) :
    Calls Tryd.prog 10 #[.string s, .slice ao zs.length cap] w fun e w' => ∃ v, e = .returned v ∧ OwnS w' w.heap.size v (pieces s (cutsL s.size zs)) ∧ Below w.heap.size w w' := by
  obtain ⟨i0, hi, hz0, hz1, hz2⟩ := info_parts Tryd.info9
  obtain ⟨cs, hcs⟩ : ∃ cs, cs = cutsL s.size zs := ⟨_, rfl⟩
  have HASC : Hid (cs.Pairwise (· < ·)) := by rw [hcs]; exact cutsUp_asc _ _ _
  have HLE : Hid (∀ c ∈ cs, c ≤ s.size) := by rw [hcs]; exact fun c hc => cutsL_le hc
  have hcl : cs.length ≤ 1048576 := by rw [hcs]; exact Nat.le_trans (cutsL_length _ _) hl
  have hcall := cutsw_any w s.size ao cap zs hx hl hs
  rw [← hcs] at hcall ⊢
  clear hcs
  go_enter Tryd.func10, Tryd.ntmps10
  go_wp2_with fail
  refine hcall.mono ?_
  clear hcall
  rintro e w1 ⟨ao1, cap1, rfl, hx1, hb1⟩
  have HX : Hid (IntsAt w1 ao1 (cs.map fun c : Nat => (c : Int))) := hx1
  clear hx1
  go_wp2_with (first
    | (at_make; refine wpList_make_own _ rfl _ _ 24 rfl w1.heap.size 9 i0 (.string ⟨#[]⟩) 1 Tryd.underlying24 hi hz0 hz1 _ _ _ (cs.length + 1) rfl rfl rfl (by rw [hz2]; omega) (by unfold maxLen; omega) (Nat.le_refl _) ?_; intro w2 hrow2 hg2)
    | go_in)
  have hb2 : Below w1.heap.size w1 w2 := (Below.refl _ _).grown hg2 (Nat.le_refl _) (fun j hj => by cases hj)
  go_loopw [6, 7, 20] (fun v f i wr => ∃ (k b : Nat) (xs : List ByteArray), k ≤ cs.length ∧ i = .int .i64 k ∧ f = .int .i64 b ∧ OwnS wr w1.heap.size v xs ∧ Hid (cutF s (cs.take k) = (xs, b)) ∧ Below w1.heap.size w1 wr) (fun _ _ i _ => cs.length - (intOf i).toNat)
  case atStart => exact ⟨0, 0, [], by omega, rfl, rfl, by simpa [OwnS] using hrow2, rfl, hb2⟩
  case round =>
    obtain ⟨k, b, xs, hk, rfl, rfl, hown, hst, hb⟩ := hrel
    have hsz := hb.size
    have hxl : xs.length = k := by
      have := cutF_len s (cs.take k)
      rw [hst.out, List.length_take] at this
      simp only at this
      omega
    by_cases hlt : k < cs.length
    · obtain ⟨p, off, rfl, hpb, hc⟩ := ints_cast HX.out k hlt
      have hc' := (hb.cell (p := ⟨p, off + k, none⟩) hpb).trans hc
      have hbc : b ≤ cs[k] := by
        have := cutF_le s HASC.out hlt
        rw [hst.out] at this
        exact this
      have hcs : cs[k] ≤ s.size := HLE.out _ (List.getElem_mem hlt)
      have HN : Hid (cutF s (cs.take (k + 1)) = (xs ++ [s.extract b cs[k]], cs[k])) := by
        show _ = _
        rw [cutF_take s hlt, hst.out]
      clear hc
      generalize cs[k] = c at *
      have hes : (s.extract b c).size ≤ 1048576 := by rw [ByteArray.size_extract]; omega
      go_wp2_with (first
        | (go_at_call 27; refine (clone_any (s.extract b c) _ hes).mono ?_; rintro e w3 ⟨rfl, hb3⟩; have hown3 := hown.stays hb3 (fun j hj => (hown.lt j hj).2); have hs3 := hb3.size)
        | (at_builtin; refine wpList_pushS rfl _ _ 24 rfl Tryd.underlying24 Tryd.info9 w1.heap.size _ xs rfl hown3 _ rfl (by omega) (by omega) ?_; intro v4 w4 hown4 hb4))
      go_roundw
      case rel => exact ⟨k + 1, c, _, by omega, by go_num, rfl, hown4, HN, (hb.trans (hb3.mono hb.size)).trans hb4⟩
      case measure => simp [intOf]; omega
    · obtain rfl : k = cs.length := by omega
      have hst2 := hst.out
      rw [List.take_length] at hst2
      have hbs : b ≤ s.size := by
        have := cutF_end s HLE.out
        rw [hst2] at this
        exact this
      have HP : Hid (pieces s cs = xs ++ [s.extract b s.size]) := by
        show _ = _
        rw [pieces, hst2]
      clear hst hst2
      have hes : (s.extract b s.size).size ≤ 1048576 := by rw [ByteArray.size_extract]; omega
      go_wp2_with (first
        | (go_at_call 27; refine (clone_any (s.extract b s.size) _ hes).mono ?_; rintro e w3 ⟨rfl, hb3⟩; have hown3 := hown.stays hb3 (fun j hj => (hown.lt j hj).2); have hs3 := hb3.size)
        | (at_builtin; refine wpList_pushS rfl _ _ 24 rfl Tryd.underlying24 Tryd.info9 w1.heap.size _ xs rfl hown3 _ rfl (by omega) (by omega) ?_; intro v4 w4 hown4 hb4))
      go_ret
      refine ⟨_, rfl, by rw [HP.out]; exact hown4.down hb1.size, ?_⟩
      exact hb1.trans ((hb.trans ((hb3.mono hb.size).trans hb4)).mono hb1.size)
end Go.Proofs.YtjjaklhpdckppaaDoor
