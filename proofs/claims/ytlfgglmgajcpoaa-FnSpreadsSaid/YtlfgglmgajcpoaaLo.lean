/- The walks over lost pairs. -/
import Derived.Test.YtlfgglmgajcpoaaSp
import Derived.Test.YtlfgglmgajcpoaaSrt
import Derived.Test.YtlfgglmgajcpoaaR2
import Derived.Test.YtlfgglmgajcpoaaDs
namespace Go.Proofs.Ytlfgglmgajcpoaa
open Go.RowKit Pl
set_option linter.unusedVariables false

/-- a slice of slices of ints that lies there. -/
def LsAt (w : World) (ao : Option Addr) (ls : List (List Int)) : Prop :=
  ∀ i (h : i < ls.length), ∃ b off ia ic, ao = some ⟨b, off, none⟩ ∧ b < w.heap.size ∧ w.cell? ⟨b, off + i, none⟩ = some (.slice ia ls[i].length ic) ∧ IntsAt w ia ls[i] ∧ ls[i].length ≤ 9223372036854775807
theorem LsAt.stays {w w' : World} {ao : Option Addr} {ls : List (List Int)} (h : LsAt w ao ls) (hb : Below w.heap.size w w') : LsAt w' ao ls := by
  intro i hi
  obtain ⟨b, off, ia, ic, h1, h2, h3, h4, h5⟩ := h i hi
  exact ⟨b, off, ia, ic, h1, Nat.lt_of_lt_of_le h2 hb.size, (hb.cell (p := ⟨b, off + i, none⟩) h2).trans h3, h4.stays hb, h5⟩
theorem lostB_yes {ls : List (List Int)} {a b : Int} {k : Nat} (hk : k < ls.length) (h : ls[k] = [a, b]) : lostB ls a b = true := by
  unfold lostB
  rw [List.any_eq_true]
  exact ⟨ls[k], List.getElem_mem hk, by simp [h]⟩
theorem lostB_no {ls : List (List Int)} {a b : Int} (h : ∀ i (hi : i < ls.length), ls[i] ≠ [a, b]) : lostB ls a b = false := by
  unfold lostB
  rw [List.any_eq_false]
  intro p hp
  obtain ⟨i, hi, rfl⟩ := List.mem_iff_getElem.1 hp
  simpa using h i hi

set_option maxRecDepth 100000 in
set_option maxHeartbeats 2000000 in
theorem isLost_any (ao : Option Addr) (cap : Nat) (ls : List (List Int)) (a b : Int) (w : World) (hx : Hid (LsAt w ao ls)) (hl : ls.length ≤ 1048576) :
    Calls Try.prog 48 #[.slice ao ls.length cap, .int .i64 a, .int .i64 b] w fun e w' => e = .returned (.bool (lostB ls a b)) ∧ Below w.heap.size w w' := by
  go_enter Try.func48, Try.ntmps48
  go_wp2_with fail
  go_loopw [11] (fun i wr => ∃ (k : Nat), k ≤ ls.length ∧ i = .int .i64 k ∧ Hid (∀ i (h : i < ls.length), i < k → ls[i] ≠ [a, b]) ∧ Hid (Below w.heap.size w wr)) (fun i _ => ls.length - (intOf i).toNat)
  case atStart => exact ⟨0, Nat.zero_le _, rfl, (fun i _ hi => absurd hi (by omega)), Below.refl _ _⟩
  case round =>
    obtain ⟨k, hk, rfl, hno, hb⟩ := hrel
    by_cases hlt : k < ls.length
    · have XR := hx.out.stays hb.out
      obtain ⟨bb, off, ia, ic, hao, hbb, hc, hi, h63⟩ := XR k hlt
      obtain ⟨p, hp⟩ : ∃ p, p = ls[k] := ⟨_, rfl⟩
      rw [← hp] at hc hi h63
      have HP : Hid (p = ls[k]) := hp
      have bA : Below wr.heap.size wr (wr.alloc (.cells #[.int .i64 a, .int .i64 b] 3)) := (Below.refl _ _).alloc (Nat.le_refl _) _
      have HI : Hid (IntsAt (wr.alloc (.cells #[.int .i64 a, .int .i64 b] 3)) ia p) := hi.stays bA
      have B0 : Hid (Below w.heap.size w (wr.alloc (.cells #[.int .i64 a, .int .i64 b] 3))) := hb.out.trans (bA.mono hb.out.size)
      have C0 : Hid (∀ j, j < [a, b].length → (wr.alloc (.cells #[.int .i64 a, .int .i64 b] 3)).cell? ⟨wr.heap.size, 0 + j, none⟩ = some (.int .i64 ([a, b].getD j 0))) := fun j hj => by
        rw [cell_of_row _ wr.heap.size _ _ 3 (0, 0) (heap_alloc_new wr _)]
        have : j = 0 ∨ j = 1 := by simp at hj; omega
        rcases this with rfl | rfl <;> rfl
      have i0 : (0 : Int) ≤ (k : Int) := by omega
      have i1 : (k : Int) < (ls.length : Int) := by omega
      subst hao
      clear hp XR hi bA
      go_wp2_with fail
      generalize wr.alloc (.cells #[.int .i64 a, .int .i64 b] 3) = W0 at *
      have key : Calls Try.prog 61 #[.slice ia p.length ic, .slice (some ⟨wr.heap.size, 0, none⟩) 2 2] W0 fun e w' => e = .returned (.bool (p == [a, b])) ∧ ∃ q, w' = W0.drewN q := by
        by_cases h0 : p.length = 0
        · have hp0 : p = [] := List.eq_nil_of_length_eq_zero h0
          subst hp0
          refine (equal_none ia (some ⟨wr.heap.size, 0, none⟩) ic 2 2 W0 (by omega)).mono ?_
          rintro e w' ⟨rfl, rfl⟩
          exact ⟨rfl, 0, rfl⟩
        · obtain ⟨b1, o1, hia, _, _⟩ := HI.out 0 (by omega)
          subst hia
          refine (equal_any b1 o1 p.length ic wr.heap.size 0 2 2 p [a, b] W0 (Nat.le_refl _) (by simp) h63 (by omega) (fun j hj => ?_) C0.out).mono ?_
          · obtain ⟨b2, o2, h1, _, h2⟩ := HI.out j hj
            simp at h1
            obtain ⟨rfl, rfl⟩ := h1
            rw [h2]
            simp [hj]
          · rintro e w' ⟨rfl, q, rfl⟩
            refine ⟨?_, q, rfl⟩
            rw [List.take_of_length_le (Nat.le_refl _), List.take_of_length_le (by simp)]
      refine key.mono ?_
      rintro e w1 ⟨rfl, q, rfl⟩
      have B1 : Hid (Below w.heap.size w (W0.drewN q)) := below_drewN B0.out q
      clear key C0 HI hc
      by_cases e1 : p = [a, b]
      · have d1 : (p == [a, b]) = true := by simp [e1]
        have HL : Hid (lostB ls a b = true) := lostB_yes hlt (by rw [← HP.out]; exact e1)
        rw [d1]
        clear d1 e1
        go_wp2_with fail
        go_ret
        exact ⟨by rw [HL.out]; rfl, B1.out⟩
      · have d1 : (p == [a, b]) = false := by simpa using e1
        have HN : Hid (∀ i (h : i < ls.length), i < k + 1 → ls[i] ≠ [a, b]) := fun i h hi => by
          by_cases e : i = k
          · subst e; rw [← HP.out]; exact e1
          · exact hno.out i h (by omega)
        rw [d1]
        clear d1 e1
        go_wp2_with fail
        go_roundw
        case rel => exact ⟨k + 1, by omega, by go_num, HN, B1⟩
        case measure => simp [intOf]; omega
    · have HL : Hid (lostB ls a b = false) := lostB_no (fun i hi => hno.out i hi (by omega))
      go_wp2_with fail
      go_ret
      exact ⟨by rw [HL.out]; rfl, hb.out⟩

set_option maxRecDepth 100000 in
set_option maxHeartbeats 2000000 in
theorem spLost_any (ao : Option Addr) (cap : Nat) (ls : List (List Int)) (a b : Int) (w : World) (hx : Hid (LsAt w ao ls)) (hl : ls.length ≤ 1048576) :
    Calls Try.prog 54 #[.slice ao ls.length cap, .int .i64 a, .int .i64 b] w fun e w' => e = .returned (.bool (lostB ls a b)) ∧ w' = w := by
  go_enter Try.func54, Try.ntmps54
  go_wp2_with fail
  go_loopw [7] (fun i wr => ∃ (k : Nat), k ≤ ls.length ∧ i = .int .i64 k ∧ Hid (∀ i (h : i < ls.length), i < k → ls[i] ≠ [a, b]) ∧ wr = w) (fun i _ => ls.length - (intOf i).toNat)
  case atStart => exact ⟨0, Nat.zero_le _, rfl, (fun i _ hi => absurd hi (by omega)), rfl⟩
  case round =>
    obtain ⟨k, hk, rfl, hno, hwr⟩ := hrel
    subst hwr
    by_cases hlt : k < ls.length
    · obtain ⟨bb, off, ia, ic, hao, hbb, hc, hi, h63⟩ := hx.out k hlt
      obtain ⟨p, hp⟩ : ∃ p, p = ls[k] := ⟨_, rfl⟩
      rw [← hp] at hc hi h63
      have HP : Hid (p = ls[k]) := hp
      have HI : Hid (IntsAt wr ia p) := hi
      have i0 : (0 : Int) ≤ (k : Int) := by omega
      have i1 : (k : Int) < (ls.length : Int) := by omega
      subst hao
      clear hp hi
      have nextOk : p ≠ [a, b] → ∀ i (h : i < ls.length), i < k + 1 → ls[i] ≠ [a, b] := fun hne i h hi => by
        by_cases e : i = k
        · subst e; rw [← HP.out]; exact hne
        · exact hno.out i h (by omega)
      have HNX : Hid (p ≠ [a, b] → ∀ i (h : i < ls.length), i < k + 1 → ls[i] ≠ [a, b]) := nextOk
      clear nextOk
      by_cases h2 : p.length = 2
      · match p, h2, hc, HI, HP, HNX, h63 with
        | [x, y], _, hc, HI, HP, HNX, _ =>
          obtain ⟨b1, o1, hia, _, hx0⟩ := HI.out 0 (by simp)
          obtain ⟨b2, o2, hib, _, hx1⟩ := HI.out 1 (by simp)
          rw [hia] at hib
          simp at hib
          obtain ⟨rfl, rfl⟩ := hib
          subst hia
          simp only [List.length_cons, List.length_nil, List.getElem_cons_zero, List.getElem_cons_succ, Nat.add_zero] at hc hx0 hx1
          by_cases e1 : x = a
          · by_cases e2 : y = b
            · have d1 : (x == a) = true := by simp [e1]
              have d2 : (y == b) = true := by simp [e2]
              have HL : Hid (lostB ls a b = true) := lostB_yes hlt (by rw [← HP.out, e1, e2])
              clear e1 e2
              go_wp2_with fail
              go_ret
              exact ⟨by rw [HL.out]; rfl, rfl⟩
            · have d1 : (x == a) = true := by simp [e1]
              have d2 : (y == b) = false := by simp [e2]
              have HN := HNX.out (by simp [e2])
              have HN2 : Hid _ := HN
              clear e1 e2 HN
              go_wp2_with fail
              go_roundw
              case rel => exact ⟨k + 1, by omega, by go_num, HN2, (by first | rfl | trivial)⟩
              case measure => simp [intOf]; omega
          · have d1 : (x == a) = false := by simp [e1]
            have HN := HNX.out (by simp [e1])
            have HN2 : Hid _ := HN
            clear e1 HN
            go_wp2_with fail
            go_roundw
            case rel => exact ⟨k + 1, by omega, by go_num, HN2, (by first | rfl | trivial)⟩
            case measure => simp [intOf]; omega
      · have d0 : ((p.length : Int) == 2) = false := by simp; omega
        have HN : Hid (∀ i (h : i < ls.length), i < k + 1 → ls[i] ≠ [a, b]) := HNX.out (fun e => h2 (by rw [e]; rfl))
        go_wp2_with fail
        go_roundw
        case rel => exact ⟨k + 1, by omega, by go_num, HN, (by first | rfl | trivial)⟩
        case measure => simp [intOf]; omega
    · have HL : Hid (lostB ls a b = false) := lostB_no (fun i hi => hno.out i hi (by omega))
      go_wp2_with fail
      go_ret
      exact ⟨by rw [HL.out]; rfl, rfl⟩
end Go.Proofs.Ytlfgglmgajcpoaa
