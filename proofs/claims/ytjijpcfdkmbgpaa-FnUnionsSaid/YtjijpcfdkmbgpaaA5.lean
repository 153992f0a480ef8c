/- What is missing: the walks over store.missing and over both Missing. -/
import Derived.Test.YtjijpcfdkmbgpaaA3
namespace Go.Proofs.Ytjijpcfdkmbgpaa
open Go.RowKit Pl
set_option linter.unusedVariables false

/-- from n on, up to last, twenty at most. -/
def missGo (ts : List It) (last : Int) : Nat → Nat → List Int → List Int
  | 0, _, acc => acc
  | f + 1, n, acc => if (n : Int) ≤ last ∧ acc.length < 20 then missGo ts last f (n + 1) (if hasP ts (n : Int) = true then acc else acc ++ [(n : Int)]) else acc
/-- what is missing. -/
def missP (ts : List It) (u : Int) : List Int := missGo ts (if u ≤ 60 then u else 60) (61 - (aruP ts + 1)) (aruP ts + 1) []
theorem missGo_has {ts : List It} {last : Int} {n : Nat} {acc : List Int} (hl : last ≤ 60) (h1 : (n : Int) ≤ last) (h2 : acc.length < 20) (h3 : hasP ts (n : Int) = true) : missGo ts last (61 - n) n acc = missGo ts last (61 - (n + 1)) (n + 1) acc := by
  rw [show 61 - n = (61 - (n + 1)) + 1 by omega, missGo, if_pos ⟨h1, h2⟩, if_pos h3]
theorem missGo_not {ts : List It} {last : Int} {n : Nat} {acc : List Int} (hl : last ≤ 60) (h1 : (n : Int) ≤ last) (h2 : acc.length < 20) (h3 : hasP ts (n : Int) = false) : missGo ts last (61 - n) n acc = missGo ts last (61 - (n + 1)) (n + 1) (acc ++ [(n : Int)]) := by
  rw [show 61 - n = (61 - (n + 1)) + 1 by omega, missGo, if_pos ⟨h1, h2⟩, if_neg (by rw [h3]; simp)]
theorem missGo_end {ts : List It} {last : Int} {n : Nat} {acc : List Int} (h : ¬ ((n : Int) ≤ last ∧ acc.length < 20)) : ∀ f, missGo ts last f n acc = acc
  | 0 => rfl
  | f + 1 => by rw [missGo, if_neg h]
theorem missGo_le (ts : List It) (last : Int) : ∀ f n acc, acc.length ≤ 20 → (missGo ts last f n acc).length ≤ 20
  | 0, _, acc, h => h
  | f + 1, n, acc, h => by
    rw [missGo]
    split
    · rename_i hh
      refine missGo_le ts last f _ _ ?_
      split
      · exact h
      · simp; omega
    · exact h
theorem missP_le (ts : List It) (u : Int) : (missP ts u).length ≤ 20 := missGo_le _ _ _ _ _ (by simp)
theorem Try.info3 : (Try.prog.info? 3).map (fun i => (i.zero, i.size, i.bytes)) = some (some (.int .i64 0), 1, 8) := by kernel_rfl

set_option maxRecDepth 100000 in
set_option maxHeartbeats 1000000 in
theorem smissing_any (ao : Option Addr) (cap : Nat) (ts : List It) (u : Int) (hu : u ≤ 60) (w : World) (hx : Hid (ItemsAt w ao ts)) (hl : ts.length ≤ 1048576) :
    Calls Try.prog 64 #[.slice ao ts.length cap, .int .i64 u, .int .i64 20] w fun e w' => ∃ v, e = .returned v ∧ OwnI w' w.heap.size v (missP ts u) ∧ Below w.heap.size w w' := by
  obtain ⟨A, hA⟩ : ∃ A : Nat, A = aruP ts := ⟨_, rfl⟩
  have hAl : A ≤ 1048576 := by have := aruP_le ts; omega
  have HR : Hid (missGo ts u (61 - (A + 1)) (A + 1) [] = missP ts u) := (by unfold missP; rw [if_pos hu, hA] : missGo ts u (61 - (A + 1)) (A + 1) [] = missP ts u)
  have X0 : Hid (ItemsAt (w.alloc (.cells #[] 3)) ao ts) := hx.out.stays ((Below.refl _ _).alloc (Nat.le_refl _) _)
  have AR := aru_any ao cap ts _ X0 hl
  rw [← hA] at AR
  have AR : Hid _ := AR
  have O0 : Hid (OwnI (w.alloc (.cells #[] 3)) w.heap.size (.slice (some ⟨w.heap.size, 0, none⟩) 0 0) []) := OwnI.made w w.heap.size (Nat.le_refl _)
  have B0 : Hid (Below w.heap.size w (w.alloc (.cells #[] 3))) := (Below.refl _ _).alloc (Nat.le_refl _) _
  clear hA
  go_enter Try.func64, Try.ntmps64
  go_wp2_with fail
  generalize w.alloc (.cells #[] 3) = W0 at *
  refine (show Calls _ _ _ _ _ from AR.out).mono ?_
  rintro e w1 ⟨rfl, b1⟩
  have O1 : Hid (OwnI w1 w.heap.size (.slice (some ⟨w.heap.size, 0, none⟩) 0 0) []) := O0.out.stays b1 (fun k hk => (O0.out.lt k hk).2)
  have B1 : Hid (Below w.heap.size w w1) := B0.out.trans (b1.mono B0.out.size)
  clear AR O0 B0 b1 X0
  go_wp2
  go_loopw [7, 8] (fun v i wr => ∃ (n : Nat) (acc : List Int), n ≤ 1048577 ∧ i = .int .i64 n ∧ acc.length ≤ 20 ∧ Hid (OwnI wr w.heap.size v acc) ∧ Hid (Below w.heap.size w wr) ∧ Hid (missGo ts u (61 - n) n acc = missP ts u)) (fun _ i _ => 1048578 - (intOf i).toNat)
  case atStart => exact ⟨A + 1, [], by omega, by go_num, by simp, O1, B1, HR⟩
  case round =>
    clear O1 B1 HR
    obtain ⟨n, acc, hn, rfl, hacc, hO, hb, hg⟩ := hrel
    obtain ⟨vo, vc, rfl⟩ := hO.out.form
    by_cases hlt : (n : Int) ≤ u ∧ acc.length < 20
    · obtain ⟨h1, h2⟩ := hlt
      have h2i : (acc.length : Int) < 20 := by omega
      have X0 : Hid (ItemsAt wr ao ts) := hx.out.stays hb.out
      have A := at_any ao cap ts (n : Int) wr X0 hl
      generalize (atP ts (n : Int)).getD zIt = y at A
      obtain ⟨q, f, l, t⟩ := y
      cases hh : hasP ts (n : Int) with
      | true =>
        rw [hh] at A
        have A : Hid _ := A
        have HN : Hid (missGo ts u (61 - (n + 1)) (n + 1) acc = missP ts u) := by
          have := hg.out
          rwa [missGo_has hu h1 h2 hh] at this
        clear hh
        go_wp2_with fail
        refine (show Calls _ _ _ _ _ from A.out).mono ?_
        rintro e w1 ⟨rfl, hb1⟩
        have B1 : Hid (Below w.heap.size w (w1.alloc (.cells #[.int .i64 q, .int .i64 f, .int .i64 l, .string t] 26))) := (hb.out.trans (hb1.mono hb.out.size)).alloc (hb.out.trans (hb1.mono hb.out.size)).size _
        have O1 : Hid (OwnI (w1.alloc (.cells #[.int .i64 q, .int .i64 f, .int .i64 l, .string t] 26)) w.heap.size (.slice vo acc.length vc) acc) := (hO.out.stays hb1 (fun k hk => (hO.out.lt k hk).2)).alloc _
        clear A hb1
        unfold agg
        dsimp only
        go_wp2_with fail
        go_roundw
        case rel => exact ⟨n + 1, acc, by omega, by go_num, hacc, O1, B1, HN⟩
        case measure => simp [intOf]; omega
      | false =>
        rw [hh] at A
        have A : Hid _ := A
        have HN : Hid (missGo ts u (61 - (n + 1)) (n + 1) (acc ++ [(n : Int)]) = missP ts u) := by
          have := hg.out
          rwa [missGo_not hu h1 h2 hh] at this
        clear hh
        go_wp2_with fail
        refine (show Calls _ _ _ _ _ from A.out).mono ?_
        rintro e w1 ⟨rfl, hb1⟩
        have B1 : Below w.heap.size w (w1.alloc (.cells #[.int .i64 q, .int .i64 f, .int .i64 l, .string t] 26)) := (hb.out.trans (hb1.mono hb.out.size)).alloc (hb.out.trans (hb1.mono hb.out.size)).size _
        have O1 : OwnI (w1.alloc (.cells #[.int .i64 q, .int .i64 f, .int .i64 l, .string t] 26)) w.heap.size (.slice vo acc.length vc) acc := (hO.out.stays hb1 (fun k hk => (hO.out.lt k hk).2)).alloc _
        have z1 := B1.size
        have hl4 : acc.length < 4000000 := by omega
        clear A hb1
        unfold agg
        dsimp only
        have HO1 : Hid (OwnI (w1.alloc (.cells #[.int .i64 q, .int .i64 f, .int .i64 l, .string t] 26)) w.heap.size (.slice vo acc.length vc) acc) := O1
        have HB1 : Hid (Below w.heap.size w (w1.alloc (.cells #[.int .i64 q, .int .i64 f, .int .i64 l, .string t] 26))) := B1
        clear O1 B1
        go_wp2_with (at_builtin; refine wpList_pushI rfl _ _ 39 rfl Try.underlying39 Try.info3 w.heap.size (.slice vo acc.length vc) acc rfl HO1.out (n : Int) (by simp [Act.eval]) hl4 z1 ?_; intro v2 w2 O2 b2)
        have O2 : Hid (OwnI w2 w.heap.size v2 (acc ++ [(n : Int)])) := O2
        have B2 : Hid (Below w.heap.size w w2) := Below.trans HB1.out b2
        go_roundw
        case rel => exact ⟨n + 1, acc ++ [(n : Int)], by omega, by go_num, by simp; omega, O2, B2, HN⟩
        case measure => simp [intOf]; omega
    · have HN : Hid (acc = missP ts u) := by
        have := hg.out
        rwa [missGo_end hlt] at this
      by_cases h1 : (n : Int) ≤ u
      · have h2 : ¬ (acc.length : Int) < 20 := fun h => hlt ⟨h1, by omega⟩
        clear hlt
        go_wp2_with fail
        go_ret
        exact ⟨_, rfl, by rw [← HN.out]; exact hO.out, hb.out⟩
      · clear hlt
        go_wp2_with fail
        go_ret
        exact ⟨_, rfl, by rw [← HN.out]; exact hO.out, hb.out⟩

theorem missP_cut (ts : List It) (u : Int) : missP ts u = missP ts (if u ≤ 60 then u else 60) := by
  unfold missP
  by_cases h : u ≤ 60
  · simp only [h, if_true]
  · simp only [h, if_false]
    rfl

set_option maxRecDepth 100000 in
set_option maxHeartbeats 1000000 in
theorem missing_any (ao : Option Addr) (cap : Nat) (ts : List It) (u : Int) (w : World) (hx : Hid (ItemsAt w ao ts)) (hl : ts.length ≤ 1048576) :
    Calls Try.prog 25 #[.slice ao ts.length cap, .int .i64 u] w fun e w' => ∃ v, e = .returned v ∧ OwnI w' w.heap.size v (missP ts u) ∧ Below w.heap.size w w' := by
  by_cases hu : u ≤ 60
  · go_enter Try.func25, Try.ntmps25
    go_wp2_with fail
    refine (smissing_any ao cap ts u hu w hx hl).mono ?_
    rintro e w1 ⟨v, rfl, O1, B1⟩
    go_wp2_with fail
    go_ret
    exact ⟨_, rfl, O1, B1⟩
  · rw [missP_cut, if_neg hu]
    have hu2 : 60 < u := by omega
    go_enter Try.func25, Try.ntmps25
    go_wp2_with fail
    refine (smissing_any ao cap ts 60 (Int.le_refl _) w hx hl).mono ?_
    rintro e w1 ⟨v, rfl, O1, B1⟩
    go_wp2_with fail
    go_ret
    exact ⟨_, rfl, O1, B1⟩
end Go.Proofs.Ytjijpcfdkmbgpaa
