/- The law on sites. -/
import Derived.Test.YtlfgglmgajcpoaaRw
import Derived.Test.YtlfgglmgajcpoaaTd
import Derived.Test.YtlfgglmgajcpoaaDl
namespace Go.Proofs.Ytlfgglmgajcpoaa
open Go.RowKit Pl
set_option linter.unusedVariables false

set_option maxRecDepth 100000 in
set_option maxHeartbeats 1000000 in
theorem big_any (w : World) (n cap : Nat) (ao : Option Addr) (b : Bool) (hb : decide (1048576 < (n : Int)) = b) :
    Calls Try.prog 9 #[.slice ao n cap] w fun e w' => e = .returned (.bool b) ∧ w' = w := by
  go_enter Try.func9, Try.ntmps9
  go_wp2
  go_ret
  exact ⟨by rw [← hb]; rfl, rfl⟩

set_option maxRecDepth 100000 in
set_option maxHeartbeats 1000000 in
theorem sameI_same (v1 v2 : Value) (ss : List Int) (B1 B2 : Nat) (w : World) (h1 : OwnI w B1 v1 ss) (h2 : OwnI w B2 v2 ss) (hl : ss.length ≤ 1048576) :
    Calls Try.prog 13 #[v1, v2] w fun e w' => e = .returned (.bool true) ∧ Below w.heap.size w w' := by
  by_cases h0 : ss.length = 0
  · obtain ⟨ao1, cap1, rfl⟩ := h1.form
    obtain ⟨ao2, cap2, rfl⟩ := h2.form
    rw [h0]
    clear h1 h2
    go_enter Try.func13, Try.ntmps13
    go_wp2
    refine wp_loop_rounds 1 ?_
    rw [rounds_succ]
    go_wp2
    go_ret
    exact ⟨rfl, Below.refl _ _⟩
  · obtain ⟨g1, cap1, rfl, _, hg1, hc1, _⟩ := h1.some (by omega)
    obtain ⟨g2, cap2, rfl, _, hg2, hc2, _⟩ := h2.some (by omega)
    clear h1 h2
    go_enter Try.func13, Try.ntmps13
    go_wp2
    go_loopw [5] (fun i wr => ∃ k : Nat, k ≤ ss.length ∧ i = .int .i64 k ∧ Below w.heap.size w wr) (fun i _ => ss.length - (intOf i).toNat)
    case atStart => exact ⟨0, by omega, rfl, Below.refl _ _⟩
    case round =>
      obtain ⟨k, hk, rfl, hb⟩ := hrel
      by_cases hlt : k < ss.length
      · have hce1 : wr.cell? ⟨g1, k, none⟩ = some (.int .i64 ss[k]) := (hb.cell (p := ⟨g1, k, none⟩) hg1).trans (hc1 k hlt)
        have hce2 : wr.cell? ⟨g2, k, none⟩ = some (.int .i64 ss[k]) := (hb.cell (p := ⟨g2, k, none⟩) hg2).trans (hc2 k hlt)
        have hq1 : (0 : Int) ≤ (k : Int) := by omega
        have hq2 : (k : Int) < (ss.length : Int) := by omega
        clear hc1 hc2
        go_wp2
        go_quiet (fail)
        go_wp2
        go_roundw
        case rel => exact ⟨k + 1, by omega, by go_num, below_drewN hb _⟩
        case measure => simp [intOf]; omega
      · go_wp2
        go_ret
        exact ⟨rfl, hb⟩


/-- what the law asks of drawn sites, in plain words. -/
structure Fine (N : Nat) (ts : List Rd) (r : Nat) : Prop where
  dl : (dists N ts r).length = N
  d0 : fn (dists N ts r) r = 0
  t0 : ahd (dists N ts r) ts r = -1
  road : ∀ i (h : i < ts.length), (fn (dists N ts r) ts[i].a < 0 ∧ fn (dists N ts r) ts[i].b < 0) ∨ (0 ≤ fn (dists N ts r) ts[i].a ∧ 0 ≤ fn (dists N ts r) ts[i].b ∧ fn (dists N ts r) ts[i].b ≤ fn (dists N ts r) ts[i].a + ts[i].c ∧ fn (dists N ts r) ts[i].a ≤ fn (dists N ts r) ts[i].b + ts[i].c)
  by' : ∀ i (h : i < ts.length), ahd (dists N ts r) ts ts[i].b.toNat = ts[i].a → fn (dists N ts r) ts[i].b = fn (dists N ts r) ts[i].a + ts[i].c
  way : ∀ v : Nat, v < N → v ≠ r → (0 ≤ ahd (dists N ts r) ts v ↔ 0 ≤ fn (dists N ts r) v)
theorem fine {N : Nat} {ts : List Rd} {r : Nat} (h : RoadsP N ts) (hr : r < N) : Fine N ts r := by
  have hL := least_dists h (s := r) (by omega) (by omega)
  have hd : dists N ts r = distL N ts r := by rw [dists_yes h (by omega) (by omega)]; simp
  have hl : (dists N ts r).length = N := by rw [hd, distL_length]
  refine ⟨hl, hL.zero, ahd_no (fun x hx hh => ?_), fun i hi => ?_, fun i hi he => ?_, fun v hv hvr => ?_⟩
  · exact ((spLead_iff h hL x r).2 hh).1 rfl
  · have hm := List.getElem_mem hi
    have a1 := hL.road ts[i].a ts[i].b ts[i].c (Or.inl hm)
    have a2 := hL.road ts[i].b ts[i].a ts[i].c (Or.inr hm)
    omega
  · have hf := h.fits ts[i] (List.getElem_mem hi)
    have hb : ((ts[i].b.toNat : Nat) : Int) = ts[i].b := by omega
    rcases ahd_cases (dists N ts r) ts ts[i].b.toNat with ⟨u, hu, ⟨j, hj, h1, h2⟩, he2⟩ | ⟨he2, _⟩
    · have hua : (u : Int) = ts[i].a := by rw [← he, he2]
      rw [hb] at h1 h2
      rw [hua] at h1 h2
      have hfj := h.fits ts[j] (List.getElem_mem hj)
      have hlk := (endI_links hfj.2.1 (by omega)).1 h1
      have : j = i := h.one hj hi hlk (Or.inl ⟨rfl, rfl⟩)
      subst this
      omega
    · rw [he2] at he; omega
  · rcases ahd_cases (dists N ts r) ts v with ⟨u, hu, hh, he⟩ | ⟨he, hno⟩
    · have := (spLead_iff h hL u v).2 hh
      unfold SpLead at this
      rw [he]
      omega
    · rw [he]
      constructor
      · intro hx; omega
      · intro hx
        obtain ⟨u, c, ha, h0, h1⟩ := hL.pre v (by omega) hx
        have hf := h.fits.adj ha
        exfalso
        refine hno u.toNat (by omega) ?_
        have hu : ((u.toNat : Nat) : Int) = u := by omega
        obtain ⟨i, hi, e1, e2⟩ := (endI_adj h.fits (s := u) (p := ((v : Int), c)) (x := 0)).2 ⟨c, ha, by simp⟩
        simp at e2
        exact ⟨i, hi, by rw [hu]; exact e2.1.symm, by rw [hu, ← e2.2]; exact h1⟩
end Go.Proofs.Ytlfgglmgajcpoaa
