/- Joined texts: CR2. -/
import Derived.Test.YtmbjflhhffcjdaaDoorWsq4
import Derived.Test.YtmbjflhhffcjdaaDoorWsq7
/- The walks over the program's reader of packets: a short text. -/
namespace Go.Proofs.YtmbjflhhffcjdaaDoor
open Go.RowKit Pl
set_option linter.unusedVariables false

set_option maxHeartbeats 400000 in
theorem implRs_good (s : ByteArray) (A n i : Nat) (w : World) (hs : s.size ≤ 1048576) (hA : A ≤ s.size) (h : Hid (rv s A = some (n, i))) (hn : n ≤ 20000) (hi : i + n ≤ s.size) :
    Calls Tryd.prog 89 #[.string s, .int .i64 A] w fun e w' => e = .returned (.tuple #[.string (s.extract i (i + n)), .int .i64 ((i : Int) + (n : Int)), .bool true]) ∧ Below w.heap.size w w' := by
  have hex : (s.extract i (i + n)).size ≤ 1048576 := by rw [ByteArray.size_extract]; omega
  go_enter Tryd.func89, Tryd.ntmps89
  go_wp2_with (first | (go_at_call 111; refine (implRv_some s A n i _ (by omega) hA h.out).mono ?_; rintro e w1 ⟨rfl, rfl⟩) | (go_at_call 104; refine (clone_any _ _ hex).mono ?_; rintro e w2 ⟨rfl, hb2⟩))
  go_ret3
  exact ⟨rfl, hb2⟩
set_option maxHeartbeats 400000 in
theorem implRs_none (s : ByteArray) (A : Nat) (w : World) (hs : s.size ≤ 1048576) (hA : A ≤ s.size) (h : Hid (rv s A = none)) :
    Calls Tryd.prog 89 #[.string s, .int .i64 A] w fun e w' => e = .returned (.tuple #[.string ByteArray.empty, .int .i64 0, .bool false]) ∧ w' = w := by
  go_enter Tryd.func89, Tryd.ntmps89
  go_wp2_with (first | (go_at_call 111; refine (implRv_none s A _ (by omega) hA h.out).mono ?_; rintro e w1 ⟨rfl, rfl⟩))
  go_ret3
  exact ⟨rfl, rfl⟩
set_option maxHeartbeats 400000 in
theorem implRs_bad (s : ByteArray) (A n i : Nat) (w : World) (hs : s.size ≤ 1048576) (hA : A ≤ s.size) (h : Hid (rv s A = some (n, i))) (hi : i ≤ s.size) (hn : n ≤ 1000000000) (hbad : 20000 < n ∨ s.size < i + n) :
    Calls Tryd.prog 89 #[.string s, .int .i64 A] w fun e w' => e = .returned (.tuple #[.string ByteArray.empty, .int .i64 0, .bool false]) ∧ w' = w := by
  by_cases h1 : 20000 < n
  · go_enter Tryd.func89, Tryd.ntmps89
    go_wp2_with (first | (go_at_call 111; refine (implRv_some s A n i _ (by omega) hA h.out).mono ?_; rintro e w1 ⟨rfl, rfl⟩))
    go_ret3
    exact ⟨rfl, rfl⟩
  · have h2 : s.size < i + n := by omega
    clear hbad
    go_enter Tryd.func89, Tryd.ntmps89
    go_wp2_with (first | (go_at_call 111; refine (implRv_some s A n i _ (by omega) hA h.out).mono ?_; rintro e w1 ⟨rfl, rfl⟩))
    go_ret3
    exact ⟨rfl, rfl⟩

theorem implRs_no (s : ByteArray) (A : Nat) (w : World) (hs : s.size ≤ 1048576) (hA : A ≤ s.size) (h : shP s A = none) :
    Calls Tryd.prog 89 #[.string s, .int .i64 A] w fun e w' => e = .returned (.tuple #[.string ByteArray.empty, .int .i64 0, .bool false]) ∧ w' = w := by
  rcases h0 : rv s A with _ | ⟨n, i⟩
  · exact implRs_none s A w hs hA h0
  · obtain ⟨h1, h2⟩ := rv_le hA h0
    by_cases hb : n ≤ 20000 ∧ i + n ≤ s.size
    · rw [shP_some h0 hb.1 hb.2] at h; cases h
    · exact implRs_bad s A n i w hs hA h0 h2 h1 (by omega)
theorem implRs_yes (s t : ByteArray) (A i : Nat) (w : World) (hs : s.size ≤ 1048576) (hA : A ≤ s.size) (h : shP s A = some (t, i)) :
    Calls Tryd.prog 89 #[.string s, .int .i64 A] w fun e w' => e = .returned (.tuple #[.string t, .int .i64 i, .bool true]) ∧ Below w.heap.size w w' := by
  rcases h0 : rv s A with _ | ⟨n, k⟩
  · rw [shP_none h0] at h; cases h
  · obtain ⟨h1, h2⟩ := rv_le hA h0
    by_cases hb : n ≤ 20000 ∧ k + n ≤ s.size
    · rw [shP_some h0 hb.1 hb.2] at h
      simp only [Option.some.injEq, Prod.mk.injEq] at h
      obtain ⟨rfl, rfl⟩ := h
      exact implRs_good s A n k w hs hA h0 hb.1 hb.2
    · rw [shP_bad h0 (by omega)] at h; cases h

theorem pr_step {W w w' : World} {g A : Nat} {s : ByteArray} (h : (w.cell? ⟨g, 0, none⟩ = some (.string s) ∧ w.cell? ⟨g, 1, none⟩ = some (.int .i64 A) ∧ w.frozen? ⟨g, 0, none⟩ = false ∧ w.frozen? ⟨g, 1, none⟩ = false) ∧ Hid (Below W.heap.size W w ∧ PrAt w g s A)) (hb : Below w.heap.size w w') :
    (w'.cell? ⟨g, 0, none⟩ = some (.string s) ∧ w'.cell? ⟨g, 1, none⟩ = some (.int .i64 A) ∧ w'.frozen? ⟨g, 0, none⟩ = false ∧ w'.frozen? ⟨g, 1, none⟩ = false) ∧ Hid (Below W.heap.size W w' ∧ PrAt w' g s A) := by
  obtain ⟨h1, h2⟩ := h
  obtain ⟨h3, h4⟩ := h2.out
  have h5 := h4.stays hb h4.lt
  exact ⟨h5.cells, ⟨h3.trans (hb.mono h3.size), h5⟩⟩

set_option maxRecDepth 100000 in
set_option maxHeartbeats 1000000 in
theorem short_some (s t : ByteArray) (g A i : Nat) (w : World) (hp : Hid (PrAt w g s A)) (hs : s.size ≤ 1048576) (hA : A ≤ s.size) (h : Hid (shP s A = some (t, i))) :
    Calls Tryd.prog 44 #[.pointer (some ⟨g, 0, none⟩)] w fun e w' => e = .returned (.string t) ∧ PrAt w' g s i ∧ KeepBut g w w' := by
  have HI : (w.drew.cell? ⟨g, 0, none⟩ = some (.string s) ∧ w.drew.cell? ⟨g, 1, none⟩ = some (.int .i64 A) ∧ w.drew.frozen? ⟨g, 0, none⟩ = false ∧ w.drew.frozen? ⟨g, 1, none⟩ = false) ∧ Hid (Below w.heap.size w w.drew ∧ PrAt w.drew g s A) :=
    ⟨hp.out.cells, (Below.refl _ _).drew, hp.out⟩
  go_enter Tryd.func44, Tryd.ntmps44
  go_wp2
  go_region_held3 (fun w' => (w'.cell? ⟨g, 0, none⟩ = some (.string s) ∧ w'.cell? ⟨g, 1, none⟩ = some (.int .i64 A) ∧ w'.frozen? ⟨g, 0, none⟩ = false ∧ w'.frozen? ⟨g, 1, none⟩ = false) ∧ Hid (Below w.heap.size w w' ∧ PrAt w' g s A)) (first | exact HI | assumption) (first | (go_at_call 89; refine (implRs_yes s t A i _ hs hA h.out).mono ?_; rintro e w3 ⟨rfl, hb3⟩; have hk3 := pr_step (W := w) (by assumption) hb3))
  obtain ⟨⟨c0, c1, f0, f1⟩, hk⟩ := hk3
  clear HI
  go_wp2
  go_ret
  exact ⟨rfl, hk.out.2.set i, (keep_of_below hk.out.1).trans ((TurnAt.refl g w3).setCell 1 _).keep⟩

set_option maxRecDepth 100000 in
set_option maxHeartbeats 1000000 in
theorem short_none (s : ByteArray) (g A : Nat) (w : World) (hp : Hid (PrAt w g s A)) (hs : s.size ≤ 1048576) (hA : A ≤ s.size) (h : Hid (shP s A = none)) :
    Calls Tryd.prog 44 #[.pointer (some ⟨g, 0, none⟩)] w fun e w' => e = .panicked noPk ∧ TurnAt g w w' := by
  obtain ⟨c0, c1, f0, f1⟩ := hp.out.cells
  go_enter Tryd.func44, Tryd.ntmps44
  go_wp2
  go_quiet (first | (go_at_call 89; exact Calls.quiet_of_same (implRs_no s A _ hs hA h.out)))
  go_wp2
  exact ⟨rfl, rfl, (TurnAt.refl g w).drewN _⟩

end Go.Proofs.YtmbjflhhffcjdaaDoor


