/- Joined texts: CSva CIva. -/
import Derived.Test.YtmbjflhhffcjdaaDoorWsq19
import Derived.Test.YtmbjflhhffcjdaaDoorWsq22
import Derived.Test.YtmbjflhhffcjdaaDoorWsq11
/- The specification's l17Private, l17Names. Written by gen_sv.py. -/
namespace Go.Proofs.YtmbjflhhffcjdaaDoor
open Go.RowKit Pl
set_option linter.unusedVariables false
set_option linter.unusedSimpArgs false

set_option maxRecDepth 100000 in
set_option maxHeartbeats 4000000 in
theorem spPriv_any (s : ByteArray) (w : World) :
    Calls Tryd.prog 47 #[.string s] w fun e w' => e = .returned (.bool (prB s)) ∧ Below w.heap.size w w' := by
  cases hp : privP s with
  | none =>
    have HN : Hid (∀ d t, ¬ IsPriv s d t) := privP_none hp
    have hv : prB s = false := by unfold prB; rw [hp]; rfl
    rw [hv]
    clear hv hp
    go_enter Tryd.func47, Tryd.ntmps47
    go_wp2_with fail
    refine (specSplit_no s w HN).mono ?_
    rintro e w1 ⟨rfl, b⟩
    go_wp2_with fail
    go_ret
    exact ⟨rfl, b⟩
  | some q =>
    obtain ⟨d, t⟩ := q
    have HP : IsPriv s d t := privP_is hp
    have hv : prB s = true := by unfold prB; rw [hp]; rfl
    rw [hv]
    clear hv hp
    go_enter Tryd.func47, Tryd.ntmps47
    go_wp2_with fail
    refine (specSplit_yes s d t w HP).mono ?_
    rintro e w1 ⟨rfl, b⟩
    go_wp2_with fail
    go_ret
    exact ⟨rfl, b⟩
set_option maxRecDepth 100000 in
set_option maxHeartbeats 8000000 in
theorem spNames_any (s : Sv) (ts : List ByteArray) (w : World) (hx : Hid (RT w s.v ts)) (hl : ts.length ≤ 1048576) :
    Calls Tryd.prog 48 #[.slice s.a s.n s.c] w fun e w' => e = .returned (.bool (namesB ts)) ∧ Below w.heap.size w w' := by
  obtain ⟨ao, cap, hv, hx0⟩ := hx.out
  have HX : Hid (TextsAt w ao ts) := hx0
  unfold Sv.v at hv
  rw [hv]
  clear hv hx hx0
  go_enter Tryd.func48, Tryd.ntmps48
  go_wp2_with fail
  go_loopw [3] (fun i wr => ∃ k : Nat, k ≤ ts.length ∧ i = .int .i64 k ∧ Hid (∀ j (hj : j < ts.length), j < k → nmB ts[j] = true) ∧ Hid (∀ j (hj : j + 1 < ts.length), j + 1 < k → Tlt ts[j] ts[j + 1]) ∧ Hid (Below w.heap.size w wr)) (fun i _ => ts.length - (intOf i).toNat)
  case atStart => exact ⟨0, Nat.zero_le _, rfl, fun j hj h => absurd h (by omega), fun j hj h => absurd h (by omega), Below.refl _ _⟩
  case round =>
    obtain ⟨k, hk, rfl, HA, HT, hb⟩ := hrel
    by_cases hlt : k < ts.length
    · obtain ⟨b, off, rfl, hbb, hc⟩ := (HX.out.stays hb.out) k hlt
      obtain ⟨x, hxe⟩ : ∃ x, x = ts[k] := ⟨_, rfl⟩
      have XE : Hid (x = ts[k]) := hxe
      have HC : Hid (wr.cell? ⟨b, off + k, none⟩ = some (.string x)) := by rw [hxe]; exact hc
      have hgl : b < wr.heap.size := hbb
      have i0 : (0 : Int) ≤ (k : Int) := by omega
      have i1 : (k : Int) < (ts.length : Int) := by omega
      clear hc hxe
      cases hn : nmB x with
      | false =>
        have HN : Hid (nmB x = false) := hn
        have HV : Hid (namesB ts = false) := namesB_nm hlt (by rw [← XE.out]; exact hn)
        clear hn
        go_wp2_with fail
        refine quietC (C := fun w' => Below wr.heap.size wr w') (by kernel_rfl) (by kernel_rfl) (Below.refl _ _).drew ?_
        go_big_quiet_want
        refine q_val (.slice (some ⟨b, off, none⟩) ts.length cap) (fun w' hw' => by go_simp) ?_
        go_big_quiet_on
        simp only [Act.put, List.setIfInBounds_toArray, List.set_cons_zero, List.set_cons_succ]
        go_big_quiet_want
        refine q_val (.int .i64 ((k : Int))) (fun w' hw' => by go_simp) ?_
        go_big_quiet_on
        simp only [Act.put, List.setIfInBounds_toArray, List.set_cons_zero, List.set_cons_succ]
        go_big_quiet_want
        refine q_val (.pointer (some ⟨b, off + k, none⟩)) (fun w' hw' => by go_simp) ?_
        go_big_quiet_on
        simp only [Act.put, List.setIfInBounds_toArray, List.set_cons_zero, List.set_cons_succ]
        go_big_quiet_want
        refine q_val (.string x) (fun w' hw' => by have c0 : w'.cell? ⟨b, off + k, none⟩ = some (.string x) := (hw'.cell (p := ⟨b, off + k, none⟩) hgl).trans HC.out; go_simp) ?_
        go_big_quiet_on
        simp only [Act.put, List.setIfInBounds_toArray, List.set_cons_zero, List.set_cons_succ]
        go_big_quiet_want
        refine q_callB (W := wr) (.bool false) 66 #[(.string x)] (fun w' hw' => by go_simp) (fun w' hw' => (specName_any x w').mono fun e w'' ⟨h1, h2⟩ => ⟨by rw [h1, HN.out], h2⟩) ?_
        go_big_quiet_on
        simp only [Act.put, List.setIfInBounds_toArray, List.set_cons_zero, List.set_cons_succ]
        go_big_quiet_want
        refine q_val (.bool true) (fun w' hw' => by go_simp) ?_
        go_big_quiet_on
        simp only [Act.put, List.setIfInBounds_toArray, List.set_cons_zero, List.set_cons_succ]
        go_big_quiet_want
        refine q_val (.bool true) (fun w' hw' => by go_simp) ?_
        go_big_quiet_on
        simp only [Act.put, List.setIfInBounds_toArray, List.set_cons_zero, List.set_cons_succ]
        go_big_quiet_skip
        go_big_quiet_skip
        go_big_quiet_skip
        go_big_quiet_skip
        go_big_quiet_skip
        go_big_quiet_skip
        go_big_quiet_skip
        go_big_quiet_skip
        go_big_quiet_skip
        go_big_quiet_skip
        go_big_quiet_skip
        go_big_quiet_skip
        go_big_quiet_skip
        go_big_quiet_skip
        go_big_quiet_want
        refine q_val (.bool true) (fun w' hw' => by go_simp) ?_
        go_big_quiet_on
        simp only [Act.put, List.setIfInBounds_toArray, List.set_cons_zero, List.set_cons_succ]
        refine wpQuiet_nil ?_
        intro w2 c2
        go_wp2_with fail
        go_ret
        exact ⟨by rw [HV.out]; rfl, bl_next hb.out c2⟩
      | true =>
        have HN : Hid (nmB x = true) := hn
        have HA1 : Hid (∀ j (hj : j < ts.length), j < k + 1 → nmB ts[j] = true) := fun j hj h => by
          by_cases e : j = k
          · subst e; rw [← XE.out]; exact HN.out
          · exact HA.out j hj (by omega)
        clear hn
        by_cases hk0 : k = 0
        · have HK : Hid (k = 0) := hk0
          clear hk0
          go_wp2_with fail
          refine quietC (C := fun w' => Below wr.heap.size wr w') (by kernel_rfl) (by kernel_rfl) (Below.refl _ _).drew ?_
          go_big_quiet_want
          refine q_val (.slice (some ⟨b, off, none⟩) ts.length cap) (fun w' hw' => by go_simp) ?_
          go_big_quiet_on
          simp only [Act.put, List.setIfInBounds_toArray, List.set_cons_zero, List.set_cons_succ]
          go_big_quiet_want
          refine q_val (.int .i64 ((k : Int))) (fun w' hw' => by go_simp) ?_
          go_big_quiet_on
          simp only [Act.put, List.setIfInBounds_toArray, List.set_cons_zero, List.set_cons_succ]
          go_big_quiet_want
          refine q_val (.pointer (some ⟨b, off + k, none⟩)) (fun w' hw' => by go_simp) ?_
          go_big_quiet_on
          simp only [Act.put, List.setIfInBounds_toArray, List.set_cons_zero, List.set_cons_succ]
          go_big_quiet_want
          refine q_val (.string x) (fun w' hw' => by have c0 : w'.cell? ⟨b, off + k, none⟩ = some (.string x) := (hw'.cell (p := ⟨b, off + k, none⟩) hgl).trans HC.out; go_simp) ?_
          go_big_quiet_on
          simp only [Act.put, List.setIfInBounds_toArray, List.set_cons_zero, List.set_cons_succ]
          go_big_quiet_want
          refine q_callB (W := wr) (.bool true) 66 #[(.string x)] (fun w' hw' => by go_simp) (fun w' hw' => (specName_any x w').mono fun e w'' ⟨h1, h2⟩ => ⟨by rw [h1, HN.out], h2⟩) ?_
          go_big_quiet_on
          simp only [Act.put, List.setIfInBounds_toArray, List.set_cons_zero, List.set_cons_succ]
          go_big_quiet_want
          refine q_val (.bool false) (fun w' hw' => by go_simp) ?_
          go_big_quiet_on
          simp only [Act.put, List.setIfInBounds_toArray, List.set_cons_zero, List.set_cons_succ]
          go_big_quiet_want
          refine q_val (.bool false) (fun w' hw' => by go_simp) ?_
          go_big_quiet_on
          simp only [Act.put, List.setIfInBounds_toArray, List.set_cons_zero, List.set_cons_succ]
          go_big_quiet_want
          refine q_val (.int .i64 ((k : Int))) (fun w' hw' => by go_simp) ?_
          go_big_quiet_on
          simp only [Act.put, List.setIfInBounds_toArray, List.set_cons_zero, List.set_cons_succ]
          go_big_quiet_want
          refine q_val (.bool false) (fun w' hw' => by have hk0 := HK.out; go_simp) ?_
          go_big_quiet_on
          simp only [Act.put, List.setIfInBounds_toArray, List.set_cons_zero, List.set_cons_succ]
          go_big_quiet_want
          refine q_val (.bool false) (fun w' hw' => by go_simp) ?_
          go_big_quiet_on
          simp only [Act.put, List.setIfInBounds_toArray, List.set_cons_zero, List.set_cons_succ]
          go_big_quiet_skip
          go_big_quiet_skip
          go_big_quiet_skip
          go_big_quiet_skip
          go_big_quiet_skip
          go_big_quiet_skip
          go_big_quiet_skip
          go_big_quiet_skip
          go_big_quiet_skip
          go_big_quiet_skip
          go_big_quiet_want
          refine q_val (.bool false) (fun w' hw' => by go_simp) ?_
          go_big_quiet_on
          simp only [Act.put, List.setIfInBounds_toArray, List.set_cons_zero, List.set_cons_succ]
          go_big_quiet_want
          refine q_val (.bool false) (fun w' hw' => by go_simp) ?_
          go_big_quiet_on
          simp only [Act.put, List.setIfInBounds_toArray, List.set_cons_zero, List.set_cons_succ]
          refine wpQuiet_nil ?_
          intro w2 c2
          have B2 : Hid (Below w.heap.size w w2) := bl_next hb.out c2
          go_wp2_with fail
          go_roundw
          case rel => exact ⟨k + 1, by omega, by go_num, HA1, fun j hj h => absurd h (by have := HK.out; omega), B2⟩
          case measure => simp [intOf]; omega
        · obtain ⟨j, hkj⟩ : ∃ j, k = j + 1 := ⟨k - 1, by omega⟩
          have HJ : Hid (k = j + 1) := hkj
          have hjl : j < ts.length := by omega
          obtain ⟨b', off', hb', _, hc'⟩ := (HX.out.stays hb.out) j hjl
          simp only [Option.some.injEq, Addr.mk.injEq] at hb'
          obtain ⟨rfl, rfl, _⟩ := hb'
          obtain ⟨y, hye⟩ : ∃ y, y = ts[j] := ⟨_, rfl⟩
          have YE : Hid (y = ts[j]) := hye
          have HY : Hid (wr.cell? ⟨b, off + j, none⟩ = some (.string y)) := by rw [hye]; exact hc'
          have j0 : (0 : Int) ≤ (j : Int) := by omega
          have j1 : (j : Int) < (ts.length : Int) := by omega
          have hw1 : IntKind.i64.wrap ((k : Int) - 1) = (j : Int) := by rw [IntKind.wrap_i64]; omega
          clear hye hc' hkj hk0
          cases hq : tltB y x with
          | false =>
            have HV : Hid (namesB ts = false) := namesB_lt (j := j) (by have := HJ.out; omega) (by have hkj := HJ.out; subst hkj; rw [← XE.out, ← YE.out]; intro h; rw [tltB_iff.2 h] at hq; cases hq)
            have hge : (!Op.bytesLess y.toList x.toList) = true := by rw [less_no (by intro h; rw [tltB_iff.2 h] at hq; cases hq)]; rfl
            clear hq
            go_wp2_with fail
            refine quietC (C := fun w' => Below wr.heap.size wr w') (by kernel_rfl) (by kernel_rfl) (Below.refl _ _).drew ?_
            go_big_quiet_want
            refine q_val (.slice (some ⟨b, off, none⟩) ts.length cap) (fun w' hw' => by go_simp) ?_
            go_big_quiet_on
            simp only [Act.put, List.setIfInBounds_toArray, List.set_cons_zero, List.set_cons_succ]
            go_big_quiet_want
            refine q_val (.int .i64 ((k : Int))) (fun w' hw' => by go_simp) ?_
            go_big_quiet_on
            simp only [Act.put, List.setIfInBounds_toArray, List.set_cons_zero, List.set_cons_succ]
            go_big_quiet_want
            refine q_val (.pointer (some ⟨b, off + k, none⟩)) (fun w' hw' => by go_simp) ?_
            go_big_quiet_on
            simp only [Act.put, List.setIfInBounds_toArray, List.set_cons_zero, List.set_cons_succ]
            go_big_quiet_want
            refine q_val (.string x) (fun w' hw' => by have c0 : w'.cell? ⟨b, off + k, none⟩ = some (.string x) := (hw'.cell (p := ⟨b, off + k, none⟩) hgl).trans HC.out; go_simp) ?_
            go_big_quiet_on
            simp only [Act.put, List.setIfInBounds_toArray, List.set_cons_zero, List.set_cons_succ]
            go_big_quiet_want
            refine q_callB (W := wr) (.bool true) 66 #[(.string x)] (fun w' hw' => by go_simp) (fun w' hw' => (specName_any x w').mono fun e w'' ⟨h1, h2⟩ => ⟨by rw [h1, HN.out], h2⟩) ?_
            go_big_quiet_on
            simp only [Act.put, List.setIfInBounds_toArray, List.set_cons_zero, List.set_cons_succ]
            go_big_quiet_want
            refine q_val (.bool false) (fun w' hw' => by go_simp) ?_
            go_big_quiet_on
            simp only [Act.put, List.setIfInBounds_toArray, List.set_cons_zero, List.set_cons_succ]
            go_big_quiet_want
            refine q_val (.bool false) (fun w' hw' => by go_simp) ?_
            go_big_quiet_on
            simp only [Act.put, List.setIfInBounds_toArray, List.set_cons_zero, List.set_cons_succ]
            go_big_quiet_want
            refine q_val (.int .i64 ((k : Int))) (fun w' hw' => by go_simp) ?_
            go_big_quiet_on
            simp only [Act.put, List.setIfInBounds_toArray, List.set_cons_zero, List.set_cons_succ]
            go_big_quiet_want
            refine q_val (.bool true) (fun w' hw' => by have hk0 : 0 < k := (by have := HJ.out; omega); go_simp) ?_
            go_big_quiet_on
            simp only [Act.put, List.setIfInBounds_toArray, List.set_cons_zero, List.set_cons_succ]
            go_big_quiet_want
            refine q_val (.bool true) (fun w' hw' => by go_simp) ?_
            go_big_quiet_on
            simp only [Act.put, List.setIfInBounds_toArray, List.set_cons_zero, List.set_cons_succ]
            go_big_quiet_want
            refine q_val (.slice (some ⟨b, off, none⟩) ts.length cap) (fun w' hw' => by go_simp) ?_
            go_big_quiet_on
            simp only [Act.put, List.setIfInBounds_toArray, List.set_cons_zero, List.set_cons_succ]
            go_big_quiet_want
            refine q_val (.int .i64 ((k : Int))) (fun w' hw' => by go_simp) ?_
            go_big_quiet_on
            simp only [Act.put, List.setIfInBounds_toArray, List.set_cons_zero, List.set_cons_succ]
            go_big_quiet_want
            refine q_val (.int .i64 ((j : Int))) (fun w' hw' => by go_simp) ?_
            go_big_quiet_on
            simp only [Act.put, List.setIfInBounds_toArray, List.set_cons_zero, List.set_cons_succ]
            go_big_quiet_want
            refine q_val (.pointer (some ⟨b, off + j, none⟩)) (fun w' hw' => by go_simp) ?_
            go_big_quiet_on
            simp only [Act.put, List.setIfInBounds_toArray, List.set_cons_zero, List.set_cons_succ]
            go_big_quiet_want
            refine q_val (.string y) (fun w' hw' => by have c0 : w'.cell? ⟨b, off + j, none⟩ = some (.string y) := (hw'.cell (p := ⟨b, off + j, none⟩) hgl).trans HY.out; go_simp) ?_
            go_big_quiet_on
            simp only [Act.put, List.setIfInBounds_toArray, List.set_cons_zero, List.set_cons_succ]
            go_big_quiet_want
            refine q_val (.slice (some ⟨b, off, none⟩) ts.length cap) (fun w' hw' => by go_simp) ?_
            go_big_quiet_on
            simp only [Act.put, List.setIfInBounds_toArray, List.set_cons_zero, List.set_cons_succ]
            go_big_quiet_want
            refine q_val (.int .i64 ((k : Int))) (fun w' hw' => by go_simp) ?_
            go_big_quiet_on
            simp only [Act.put, List.setIfInBounds_toArray, List.set_cons_zero, List.set_cons_succ]
            go_big_quiet_want
            refine q_val (.pointer (some ⟨b, off + k, none⟩)) (fun w' hw' => by go_simp) ?_
            go_big_quiet_on
            simp only [Act.put, List.setIfInBounds_toArray, List.set_cons_zero, List.set_cons_succ]
            go_big_quiet_want
            refine q_val (.string x) (fun w' hw' => by have c0 : w'.cell? ⟨b, off + k, none⟩ = some (.string x) := (hw'.cell (p := ⟨b, off + k, none⟩) hgl).trans HC.out; go_simp) ?_
            go_big_quiet_on
            simp only [Act.put, List.setIfInBounds_toArray, List.set_cons_zero, List.set_cons_succ]
            go_big_quiet_want
            refine q_val (.bool true) (fun w' hw' => by go_simp) ?_
            go_big_quiet_on
            simp only [Act.put, List.setIfInBounds_toArray, List.set_cons_zero, List.set_cons_succ]
            go_big_quiet_want
            refine q_val (.bool true) (fun w' hw' => by go_simp) ?_
            go_big_quiet_on
            simp only [Act.put, List.setIfInBounds_toArray, List.set_cons_zero, List.set_cons_succ]
            go_big_quiet_want
            refine q_val (.bool true) (fun w' hw' => by go_simp) ?_
            go_big_quiet_on
            simp only [Act.put, List.setIfInBounds_toArray, List.set_cons_zero, List.set_cons_succ]
            refine wpQuiet_nil ?_
            intro w2 c2
            go_wp2_with fail
            go_ret
            exact ⟨by rw [HV.out]; rfl, bl_next hb.out c2⟩
          | true =>
            have LT : Hid (Tlt y x) := tltB_iff.1 hq
            have hge : (!Op.bytesLess y.toList x.toList) = false := by rw [less_yes LT.out]; rfl
            clear hq
            go_wp2_with fail
            refine quietC (C := fun w' => Below wr.heap.size wr w') (by kernel_rfl) (by kernel_rfl) (Below.refl _ _).drew ?_
            go_big_quiet_want
            refine q_val (.slice (some ⟨b, off, none⟩) ts.length cap) (fun w' hw' => by go_simp) ?_
            go_big_quiet_on
            simp only [Act.put, List.setIfInBounds_toArray, List.set_cons_zero, List.set_cons_succ]
            go_big_quiet_want
            refine q_val (.int .i64 ((k : Int))) (fun w' hw' => by go_simp) ?_
            go_big_quiet_on
            simp only [Act.put, List.setIfInBounds_toArray, List.set_cons_zero, List.set_cons_succ]
            go_big_quiet_want
            refine q_val (.pointer (some ⟨b, off + k, none⟩)) (fun w' hw' => by go_simp) ?_
            go_big_quiet_on
            simp only [Act.put, List.setIfInBounds_toArray, List.set_cons_zero, List.set_cons_succ]
            go_big_quiet_want
            refine q_val (.string x) (fun w' hw' => by have c0 : w'.cell? ⟨b, off + k, none⟩ = some (.string x) := (hw'.cell (p := ⟨b, off + k, none⟩) hgl).trans HC.out; go_simp) ?_
            go_big_quiet_on
            simp only [Act.put, List.setIfInBounds_toArray, List.set_cons_zero, List.set_cons_succ]
            go_big_quiet_want
            refine q_callB (W := wr) (.bool true) 66 #[(.string x)] (fun w' hw' => by go_simp) (fun w' hw' => (specName_any x w').mono fun e w'' ⟨h1, h2⟩ => ⟨by rw [h1, HN.out], h2⟩) ?_
            go_big_quiet_on
            simp only [Act.put, List.setIfInBounds_toArray, List.set_cons_zero, List.set_cons_succ]
            go_big_quiet_want
            refine q_val (.bool false) (fun w' hw' => by go_simp) ?_
            go_big_quiet_on
            simp only [Act.put, List.setIfInBounds_toArray, List.set_cons_zero, List.set_cons_succ]
            go_big_quiet_want
            refine q_val (.bool false) (fun w' hw' => by go_simp) ?_
            go_big_quiet_on
            simp only [Act.put, List.setIfInBounds_toArray, List.set_cons_zero, List.set_cons_succ]
            go_big_quiet_want
            refine q_val (.int .i64 ((k : Int))) (fun w' hw' => by go_simp) ?_
            go_big_quiet_on
            simp only [Act.put, List.setIfInBounds_toArray, List.set_cons_zero, List.set_cons_succ]
            go_big_quiet_want
            refine q_val (.bool true) (fun w' hw' => by have hk0 : 0 < k := (by have := HJ.out; omega); go_simp) ?_
            go_big_quiet_on
            simp only [Act.put, List.setIfInBounds_toArray, List.set_cons_zero, List.set_cons_succ]
            go_big_quiet_want
            refine q_val (.bool true) (fun w' hw' => by go_simp) ?_
            go_big_quiet_on
            simp only [Act.put, List.setIfInBounds_toArray, List.set_cons_zero, List.set_cons_succ]
            go_big_quiet_want
            refine q_val (.slice (some ⟨b, off, none⟩) ts.length cap) (fun w' hw' => by go_simp) ?_
            go_big_quiet_on
            simp only [Act.put, List.setIfInBounds_toArray, List.set_cons_zero, List.set_cons_succ]
            go_big_quiet_want
            refine q_val (.int .i64 ((k : Int))) (fun w' hw' => by go_simp) ?_
            go_big_quiet_on
            simp only [Act.put, List.setIfInBounds_toArray, List.set_cons_zero, List.set_cons_succ]
            go_big_quiet_want
            refine q_val (.int .i64 ((j : Int))) (fun w' hw' => by go_simp) ?_
            go_big_quiet_on
            simp only [Act.put, List.setIfInBounds_toArray, List.set_cons_zero, List.set_cons_succ]
            go_big_quiet_want
            refine q_val (.pointer (some ⟨b, off + j, none⟩)) (fun w' hw' => by go_simp) ?_
            go_big_quiet_on
            simp only [Act.put, List.setIfInBounds_toArray, List.set_cons_zero, List.set_cons_succ]
            go_big_quiet_want
            refine q_val (.string y) (fun w' hw' => by have c0 : w'.cell? ⟨b, off + j, none⟩ = some (.string y) := (hw'.cell (p := ⟨b, off + j, none⟩) hgl).trans HY.out; go_simp) ?_
            go_big_quiet_on
            simp only [Act.put, List.setIfInBounds_toArray, List.set_cons_zero, List.set_cons_succ]
            go_big_quiet_want
            refine q_val (.slice (some ⟨b, off, none⟩) ts.length cap) (fun w' hw' => by go_simp) ?_
            go_big_quiet_on
            simp only [Act.put, List.setIfInBounds_toArray, List.set_cons_zero, List.set_cons_succ]
            go_big_quiet_want
            refine q_val (.int .i64 ((k : Int))) (fun w' hw' => by go_simp) ?_
            go_big_quiet_on
            simp only [Act.put, List.setIfInBounds_toArray, List.set_cons_zero, List.set_cons_succ]
            go_big_quiet_want
            refine q_val (.pointer (some ⟨b, off + k, none⟩)) (fun w' hw' => by go_simp) ?_
            go_big_quiet_on
            simp only [Act.put, List.setIfInBounds_toArray, List.set_cons_zero, List.set_cons_succ]
            go_big_quiet_want
            refine q_val (.string x) (fun w' hw' => by have c0 : w'.cell? ⟨b, off + k, none⟩ = some (.string x) := (hw'.cell (p := ⟨b, off + k, none⟩) hgl).trans HC.out; go_simp) ?_
            go_big_quiet_on
            simp only [Act.put, List.setIfInBounds_toArray, List.set_cons_zero, List.set_cons_succ]
            go_big_quiet_want
            refine q_val (.bool false) (fun w' hw' => by go_simp) ?_
            go_big_quiet_on
            simp only [Act.put, List.setIfInBounds_toArray, List.set_cons_zero, List.set_cons_succ]
            go_big_quiet_want
            refine q_val (.bool false) (fun w' hw' => by go_simp) ?_
            go_big_quiet_on
            simp only [Act.put, List.setIfInBounds_toArray, List.set_cons_zero, List.set_cons_succ]
            go_big_quiet_want
            refine q_val (.bool false) (fun w' hw' => by go_simp) ?_
            go_big_quiet_on
            simp only [Act.put, List.setIfInBounds_toArray, List.set_cons_zero, List.set_cons_succ]
            refine wpQuiet_nil ?_
            intro w2 c2
            have B2 : Hid (Below w.heap.size w w2) := bl_next hb.out c2
            go_wp2_with fail
            go_roundw
            case rel =>
              refine ⟨k + 1, by omega, by go_num, HA1, fun i hi h => ?_, B2⟩
              have hkj := HJ.out
              by_cases e : i = j
              · subst e; subst hkj; rw [← XE.out, ← YE.out]; exact LT.out
              · exact HT.out i hi (by omega)
            case measure => simp [intOf]; omega
    · have HV : Hid (namesB ts = true) := namesB_yes (fun j hj => HA.out j hj (by omega)) (fun j hj => HT.out j hj (by omega))
      go_wp2_with fail
      go_ret
      exact ⟨by rw [HV.out]; rfl, hb.out⟩
end Go.Proofs.YtmbjflhhffcjdaaDoor


/- The program's isPrivate, ascends. Written by gen_iva.py. -/
namespace Go.Proofs.YtmbjflhhffcjdaaDoor
open Go.RowKit Pl
set_option linter.unusedVariables false
set_option linter.unusedSimpArgs false

set_option maxRecDepth 100000 in
set_option maxHeartbeats 4000000 in
theorem isPriv_any (s : ByteArray) (w : World) (hs : s.size ≤ 1048576) :
    Calls Tryd.prog 49 #[.string s] w fun e w' => e = .returned (.bool (prB s)) ∧ Below w.heap.size w w' := by
  cases hp : privP s with
  | none =>
    have HN : Hid (∀ d t, ¬ IsPriv s d t) := privP_none hp
    have hv : prB s = false := by unfold prB; rw [hp]; rfl
    rw [hv]
    clear hv hp
    go_enter Tryd.func49, Tryd.ntmps49
    go_wp2_with fail
    refine (implSplit_no s w hs HN).mono ?_
    rintro e w1 ⟨rfl, b⟩
    go_wp2_with fail
    go_ret
    exact ⟨rfl, b⟩
  | some q =>
    obtain ⟨d, t⟩ := q
    have HP : IsPriv s d t := privP_is hp
    have hv : prB s = true := by unfold prB; rw [hp]; rfl
    rw [hv]
    clear hv hp
    go_enter Tryd.func49, Tryd.ntmps49
    go_wp2_with fail
    refine (implSplit_yes s d t w HP).mono ?_
    rintro e w1 ⟨rfl, b⟩
    go_wp2_with fail
    go_ret
    exact ⟨rfl, b⟩
set_option maxRecDepth 100000 in
set_option maxHeartbeats 8000000 in
theorem ascNames_any (s : Sv) (ts : List ByteArray) (w : World) (hx : Hid (RT w s.v ts)) (hl : ts.length ≤ 1048576) (hz : Hid (∀ x ∈ ts, x.size ≤ 1048576)) :
    Calls Tryd.prog 51 #[.slice s.a s.n s.c, .func (Fn.func 52) #[] #[]] w fun e w' => e = .returned (.bool (namesB ts)) ∧ Below w.heap.size w w' := by
  obtain ⟨ao, cap, hv, hx0⟩ := hx.out
  have HX : Hid (TextsAt w ao ts) := hx0
  unfold Sv.v at hv
  rw [hv]
  clear hv hx hx0
  go_enter Tryd.func51, Tryd.ntmps51
  go_wp2_with fail
  go_loopw [9] (fun i wr => ∃ k : Nat, k ≤ ts.length ∧ i = .int .i64 k ∧ Hid (∀ j (hj : j < ts.length), j < k → nmB ts[j] = true) ∧ Hid (∀ j (hj : j + 1 < ts.length), j + 1 < k → Tlt ts[j] ts[j + 1]) ∧ Hid (Below w.heap.size w wr)) (fun i _ => ts.length - (intOf i).toNat)
  case atStart => exact ⟨0, Nat.zero_le _, rfl, fun j hj h => absurd h (by omega), fun j hj h => absurd h (by omega), Below.refl _ _⟩
  case round =>
    obtain ⟨k, hk, rfl, HA, HT, hb⟩ := hrel
    by_cases hlt : k < ts.length
    · obtain ⟨b, off, rfl, hbb, hc⟩ := (HX.out.stays hb.out) k hlt
      obtain ⟨x, hxe⟩ : ∃ x, x = ts[k] := ⟨_, rfl⟩
      have XE : Hid (x = ts[k]) := hxe
      have hxz : x.size ≤ 1048576 := by rw [hxe]; exact hz.out _ (List.getElem_mem hlt)
      have hgl : b < wr.heap.size := hbb
      have i0 : (0 : Int) ≤ (k : Int) := by omega
      have i1 : (k : Int) < (ts.length : Int) := by omega
      rw [← hxe] at hc
      clear hxe
      cases hn : nmB x with
      | false =>
        have HN : Hid (nmB x = false) := hn
        have HV : Hid (namesB ts = false) := namesB_nm hlt (by rw [← XE.out]; exact hn)
        clear hn
        go_wp2_with fail
        refine (implName_any x wr).mono ?_
        rintro e w1 ⟨rfl, b1⟩
        rw [HN.out]
        go_wp2_with fail
        go_ret
        exact ⟨by rw [HV.out]; rfl, bl_next hb.out b1⟩
      | true =>
        have HN : Hid (nmB x = true) := hn
        have HA1 : Hid (∀ j (hj : j < ts.length), j < k + 1 → nmB ts[j] = true) := fun j hj h => by
          by_cases e : j = k
          · subst e; rw [← XE.out]; exact HN.out
          · exact HA.out j hj (by omega)
        clear hn
        by_cases hk0 : k = 0
        · have hd : decide (0 < k) = false := by simp; omega
          have HK : Hid (k = 0) := hk0
          clear hk0
          go_wp2_with fail
          refine (implName_any x wr).mono ?_
          rintro e w1 ⟨rfl, b1⟩
          rw [HN.out]
          go_wp2_with fail
          go_roundw
          case rel => exact ⟨k + 1, by omega, by go_num, HA1, fun j hj h => absurd h (by have := HK.out; omega), bl_next hb.out b1⟩
          case measure => simp [intOf]; omega
        · obtain ⟨j, hkj⟩ : ∃ j, k = j + 1 := ⟨k - 1, by omega⟩
          have hd : (0 < k) := by omega
          have HJ : Hid (k = j + 1) := hkj
          have hjl : j < ts.length := by omega
          obtain ⟨b', off', hbe, _, hc'⟩ := (HX.out.stays hb.out) j hjl
          obtain ⟨y, hye⟩ : ∃ y, y = ts[j] := ⟨_, rfl⟩
          have YE : Hid (y = ts[j]) := hye
          simp only [Option.some.injEq, Addr.mk.injEq] at hbe
          obtain ⟨rfl, rfl, _⟩ := hbe
          rw [← hye] at hc'
          have j0 : (0 : Int) ≤ (j : Int) := by omega
          have j1 : (j : Int) < (ts.length : Int) := by omega
          have hw1 : IntKind.i64.wrap ((k : Int) - 1) = (j : Int) := by rw [IntKind.wrap_i64]; omega
          have HCJ : Hid (wr.cell? ⟨b, off + j, none⟩ = some (.string y)) := hc'
          clear hye hc' hkj hk0
          cases hq : tltB y x with
          | false =>
            have HV : Hid (namesB ts = false) := namesB_lt (j := j) (by have := HJ.out; omega) (by have hkj := HJ.out; subst hkj; rw [← XE.out, ← YE.out]; intro h; rw [tltB_iff.2 h] at hq; cases hq)
            have hge : (!Op.bytesLess y.toList x.toList) = true := by rw [less_no (by intro h; rw [tltB_iff.2 h] at hq; cases hq)]; rfl
            clear hq
            go_wp2_with fail
            refine (implName_any x wr).mono ?_
            rintro e w1 ⟨rfl, b1⟩
            rw [HN.out]
            have cy : w1.cell? ⟨b, off + j, none⟩ = some (.string y) := (b1.cell (p := ⟨b, off + j, none⟩) hgl).trans HCJ.out
            go_wp2_with fail
            go_ret
            exact ⟨by rw [HV.out]; rfl, bl_next hb.out b1⟩
          | true =>
            have LT : Hid (Tlt y x) := tltB_iff.1 hq
            have hge : (!Op.bytesLess y.toList x.toList) = false := by rw [less_yes LT.out]; rfl
            clear hq
            go_wp2_with fail
            refine (implName_any x wr).mono ?_
            rintro e w1 ⟨rfl, b1⟩
            rw [HN.out]
            have cy : w1.cell? ⟨b, off + j, none⟩ = some (.string y) := (b1.cell (p := ⟨b, off + j, none⟩) hgl).trans HCJ.out
            go_wp2_with fail
            go_roundw
            case rel =>
              refine ⟨k + 1, by omega, by go_num, HA1, fun i hi h => ?_, bl_next hb.out b1⟩
              by_cases e : i = j
              · subst e; have hkj := HJ.out; subst hkj; rw [← XE.out, ← YE.out]; exact LT.out
              · exact HT.out i hi (by have := HJ.out; omega)
            case measure => simp [intOf]; omega
    · have HV : Hid (namesB ts = true) := namesB_yes (fun j hj => HA.out j hj (by omega)) (fun j hj => HT.out j hj (by omega))
      go_wp2_with fail
      go_ret
      exact ⟨by rw [HV.out]; rfl, hb.out⟩
end Go.Proofs.YtmbjflhhffcjdaaDoor


