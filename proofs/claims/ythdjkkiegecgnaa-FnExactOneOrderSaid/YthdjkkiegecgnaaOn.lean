/- Lists in one order: both OneOrder. Written by gen_on.py. -/
import Derived.Test.YthdjkkiegecgnaaOo
import Derived.Test.YthdjkkiegecgnaaQb
namespace Go.Proofs.Ythdjkkiegecgnaa
open Go.RowKit Pl
set_option linter.unusedVariables false
set_option linter.unusedSimpArgs false

/-- of any two lists one is a beginning of the other one. -/
def oneB (ls : List (List It)) : Bool := (List.range ls.length).all fun i => (List.range i).all fun k => begB (ls.getD i []) (ls.getD k []) || begB (ls.getD k []) (ls.getD i [])
theorem getD_at {ls : List (List It)} {i : Nat} (h : i < ls.length) : ls.getD i [] = ls[i] := by simp [List.getD, h]
theorem oneB_no {ls : List (List It)} {i k : Nat} (hi : i < ls.length) (hk : k < i) (hk' : k < ls.length) (h1 : begB ls[i] ls[k] = false) (h2 : begB ls[k] ls[i] = false) : oneB ls = false := by
  cases ho : oneB ls with
  | false => rfl
  | true =>
    unfold oneB at ho
    rw [List.all_eq_true] at ho
    have h3 := ho i (List.mem_range.2 hi)
    rw [List.all_eq_true] at h3
    have h4 := h3 k (List.mem_range.2 hk)
    rw [getD_at hi, getD_at hk', h1, h2] at h4
    cases h4
theorem oneB_yes {ls : List (List It)} (h : ∀ i (hi : i < ls.length) k (hk : k < ls.length), k < i → (begB ls[i] ls[k] || begB ls[k] ls[i]) = true) : oneB ls = true := by
  unfold oneB
  rw [List.all_eq_true]
  intro i hi
  rw [List.all_eq_true]
  intro k hk
  rw [List.mem_range] at hi hk
  rw [getD_at hi, getD_at (by omega : k < ls.length)]
  exact h i hi k _ hk
theorem oneB_at {ls : List (List It)} (h : oneB ls = true) {i k : Nat} (hi : i < ls.length) (hk : k < ls.length) (hki : k < i) : begB ls[i] ls[k] = true ∨ begB ls[k] ls[i] = true := by
  cases h1 : begB ls[i] ls[k] with
  | true => exact .inl rfl
  | false =>
    cases h2 : begB ls[k] ls[i] with
    | true => exact .inr rfl
    | false => rw [oneB_no hi hki hk h1 h2] at h; cases h
/-- beginnings, in plain words. -/
theorem begB_iff {a b : List It} : begB a b = true ↔ a.length ≤ b.length ∧ a.map ky = (b.take a.length).map ky := by
  unfold begB alB; simp
theorem begB_refl (a : List It) : begB a a = true := begB_iff.2 ⟨Nat.le_refl _, by rw [List.take_length]⟩
theorem begB_nil (b : List It) : begB [] b = true := begB_iff.2 ⟨Nat.zero_le _, rfl⟩
theorem begB_two {a b L : List It} (ha : begB a L = true) (hb : begB b L = true) (hl : a.length ≤ b.length) : begB a b = true := by
  obtain ⟨h1, h2⟩ := begB_iff.1 ha
  obtain ⟨h3, h4⟩ := begB_iff.1 hb
  refine begB_iff.2 ⟨hl, ?_⟩
  rw [h2, List.map_take, List.map_take, h4, List.map_take, List.take_take, Nat.min_eq_left hl]
theorem begB_same {a L : List It} (h : begB L a = true) (hl : a.length ≤ L.length) : begB a L = true := by
  obtain ⟨h1, h2⟩ := begB_iff.1 h
  have he : a.length = L.length := by omega
  refine begB_iff.2 ⟨hl, ?_⟩
  rw [← he, List.take_length] at h2
  rw [he, List.take_length, h2]
/-- held against a longest one alone. -/
theorem oneB_long {ls : List (List It)} {L : List It} (hL : L = [] ∨ L ∈ ls) (hm : ∀ l ∈ ls, l.length ≤ L.length) : oneB ls = ls.all fun l => begB l L := by
  cases h : ls.all fun l => begB l L with
  | true =>
    rw [List.all_eq_true] at h
    refine oneB_yes fun i hi k hk _ => ?_
    have h1 := h _ (List.getElem_mem hi)
    have h2 := h _ (List.getElem_mem hk)
    rw [Bool.or_eq_true]
    by_cases hl : ls[i].length ≤ ls[k].length
    · exact .inl (begB_two h1 h2 hl)
    · exact .inr (begB_two h2 h1 (by omega))
  | false =>
    cases ho : oneB ls with
    | false => rfl
    | true =>
      exfalso
      have : (ls.all fun l => begB l L) = true := by
        rw [List.all_eq_true]
        intro l hl
        have hle := hm l hl
        rcases hL with rfl | hL
        · have : l = [] := List.length_eq_zero_iff.1 (by simpa using hle)
          subst this; exact begB_nil _
        · obtain ⟨i, hi, rfl⟩ := List.getElem_of_mem hl
          obtain ⟨k, hk, rfl⟩ := List.getElem_of_mem hL
          rcases Nat.lt_trichotomy k i with h1 | h1 | h1
          · rcases oneB_at ho hi hk h1 with h2 | h2
            · exact h2
            · exact begB_same h2 hle
          · subst h1; exact begB_refl _
          · rcases oneB_at ho hk hi h1 with h2 | h2
            · exact begB_same h2 hle
            · exact h2
      rw [h] at this; cases this

/-- two of the lists. -/
theorem IsAt.two {w : World} {ao : Option Addr} {ls : List (List It)} (h : IsAt w ao ls) {i k : Nat} (hi : i < ls.length) (hk : k < ls.length) :
    ∃ b off ia ic ka kc, ao = some ⟨b, off, none⟩ ∧ b < w.heap.size ∧ (w.cell? ⟨b, off + i, none⟩ = some (.slice ia ls[i].length ic) ∧ ItemsAt w ia ls[i]) ∧ (w.cell? ⟨b, off + k, none⟩ = some (.slice ka ls[k].length kc) ∧ ItemsAt w ka ls[k]) := by
  obtain ⟨b, off, ia, ic, rfl, h2, h3, h4, _⟩ := h i hi
  obtain ⟨b', off', ka, kc, g1, g2, g3, g4, _⟩ := h k hk
  simp at g1
  obtain ⟨rfl, rfl⟩ := g1
  exact ⟨b, off, ia, ic, ka, kc, rfl, h2, ⟨h3, h4⟩, g3, g4⟩

set_option maxRecDepth 100000 in
set_option maxHeartbeats 4000000 in
theorem spOne_any (ao : Option Addr) (cap : Nat) (ls : List (List It)) (w : World) (hx : Hid (IsAt w ao ls)) (hl : ls.length ≤ 1048576) (hm : Hid (∀ l ∈ ls, l.length ≤ 1048576)) :
    Calls Try.prog 36 #[.slice ao ls.length cap] w fun e w' => e = .returned (.bool (oneB ls)) ∧ Below w.heap.size w w' := by
  obtain ⟨N, hN⟩ : ∃ N, N = ls.length := ⟨_, rfl⟩
  obtain ⟨R, hR⟩ : ∃ R, R = oneB ls := ⟨_, rfl⟩
  rw [← hN, ← hR]
  have HN : Hid (N = ls.length) := hN
  have HR : Hid (R = oneB ls) := hR
  have hl : N ≤ 1048576 := by omega
  clear hN hR
  go_enter Try.func36, Try.ntmps36
  go_wp2_with fail
  go_loopw [3] (fun v wr => ∃ i : Nat, i ≤ N ∧ v = .int .i64 i ∧ Hid (∀ i' (h1 : i' < ls.length) k' (h2 : k' < ls.length), k' < i' → i' < i → (begB ls[i'] ls[k'] || begB ls[k'] ls[i']) = true) ∧ Hid (Below w.heap.size w wr)) (fun v _ => N - (intOf v).toNat)
  case atStart => exact ⟨0, by omega, rfl, fun i' _ k' _ _ h => absurd h (by omega), Below.refl _ _⟩
  case round =>
    obtain ⟨i, hi, rfl, hal, hb⟩ := hrel
    by_cases hlt : i < N
    · go_wp2_with fail
      go_loopw [4] (fun v wr' => ∃ k : Nat, k ≤ i ∧ v = .int .i64 k ∧ Hid (∀ (h1 : i < ls.length) k' (h2 : k' < ls.length), k' < k → (begB ls[i] ls[k'] || begB ls[k'] ls[i]) = true) ∧ Hid (Below w.heap.size w wr')) (fun v _ => i - (intOf v).toNat)
      case atStart => exact ⟨0, by omega, rfl, fun _ k' _ h => absurd h (by omega), hb⟩
      case round =>
        obtain ⟨k, hk, rfl, hal2, hb2⟩ := hrel
        by_cases hlk : k < i
        · have hi' : i < ls.length := by rw [← HN.out]; exact hlt
          have hk' : k < ls.length := by rw [← HN.out]; omega
          obtain ⟨b, off, ia, ic, ka, kc, rfl, hbb, ⟨ci, xi⟩, ck, xk⟩ := (hx.out.stays hb2.out).two hi' hk'
          have hmi : ls[i].length ≤ 1048576 := hm.out _ (List.getElem_mem hi')
          have hmk : ls[k].length ≤ 1048576 := hm.out _ (List.getElem_mem hk')
          obtain ⟨li, hli⟩ : ∃ l, l = ls[i] := ⟨_, rfl⟩
          obtain ⟨lk, hlk'⟩ : ∃ l, l = ls[k] := ⟨_, rfl⟩
          rw [← hli] at ci xi hmi
          rw [← hlk'] at ck xk hmk
          have HI : Hid (ItemsAt wr ia li) := xi
          have HK : Hid (ItemsAt wr ka lk) := xk
          have i0 : (0 : Int) ≤ (i : Int) := by omega
          have i1 : (i : Int) < (N : Int) := by omega
          have i2 : (0 : Int) ≤ (k : Int) := by omega
          have i3 : (k : Int) < (N : Int) := by omega
          have HLI : Hid (li = ls[i]) := hli
          have HLK : Hid (lk = ls[k]) := hlk'
          clear hli hlk' xi xk
          obtain ⟨r1, hr1⟩ : ∃ r, begB li lk = r := ⟨_, rfl⟩
          have R1 : Hid (begB li lk = r1) := hr1
          obtain ⟨r2, hr2⟩ : ∃ r, begB lk li = r := ⟨_, rfl⟩
          have R2 : Hid (begB lk li = r2) := hr2
          clear hr1 hr2
          cases r1 with
          | true =>
            go_wp2_with fail
            refine quietC (C := fun w' => Below wr.heap.size wr w') (by kernel_rfl) (by kernel_rfl) (Below.refl _ _).drew ?_
            go_big_quiet_want
            refine q_val (.slice (some ⟨b, off, none⟩) N cap) (fun w' hw' => by go_simp) ?_
            go_big_quiet_on
            simp only [Act.put, List.setIfInBounds_toArray, List.set_cons_zero, List.set_cons_succ]
            go_big_quiet_want
            refine q_val (.int .i64 ((i : Int))) (fun w' hw' => by go_simp) ?_
            go_big_quiet_on
            simp only [Act.put, List.setIfInBounds_toArray, List.set_cons_zero, List.set_cons_succ]
            go_big_quiet_want
            refine q_val (.pointer (some ⟨b, off + i, none⟩)) (fun w' hw' => by go_simp) ?_
            go_big_quiet_on
            simp only [Act.put, List.setIfInBounds_toArray, List.set_cons_zero, List.set_cons_succ]
            go_big_quiet_want
            refine q_val (.slice ia li.length ic) (fun w' hw' => by have c1 := (hw'.cell (p := ⟨b, off + i, none⟩) hbb).trans ci; go_simp) ?_
            go_big_quiet_on
            simp only [Act.put, List.setIfInBounds_toArray, List.set_cons_zero, List.set_cons_succ]
            go_big_quiet_want
            refine q_val (.slice (some ⟨b, off, none⟩) N cap) (fun w' hw' => by go_simp) ?_
            go_big_quiet_on
            simp only [Act.put, List.setIfInBounds_toArray, List.set_cons_zero, List.set_cons_succ]
            go_big_quiet_want
            refine q_val (.int .i64 ((k : Int))) (fun w' hw' => by go_simp) ?_
            go_big_quiet_on
            simp only [Act.put, List.setIfInBounds_toArray, List.set_cons_zero, List.set_cons_succ]
            go_big_quiet_want
            refine q_val (.pointer (some ⟨b, off + k, none⟩)) (fun w' hw' => by go_simp) ?_
            go_big_quiet_on
            simp only [Act.put, List.setIfInBounds_toArray, List.set_cons_zero, List.set_cons_succ]
            go_big_quiet_want
            refine q_val (.slice ka lk.length kc) (fun w' hw' => by have c2 := (hw'.cell (p := ⟨b, off + k, none⟩) hbb).trans ck; go_simp) ?_
            go_big_quiet_on
            simp only [Act.put, List.setIfInBounds_toArray, List.set_cons_zero, List.set_cons_succ]
            go_big_quiet_want
            refine q_callB (W := wr) (.bool true) 100 #[(.slice ia li.length ic), (.slice ka lk.length kc)] (fun w' hw' => by go_simp) (fun w' hw' => by have hq := begins_any ia ka ic kc li lk w' (show Hid (ItemsAt w' ia li) from HI.out.stays hw') (show Hid (ItemsAt w' ka lk) from HK.out.stays hw') hmi hmk; rw [R1.out] at hq; exact hq) ?_
            go_big_quiet_on
            simp only [Act.put, List.setIfInBounds_toArray, List.set_cons_zero, List.set_cons_succ]
            go_big_quiet_want
            refine q_val (.bool false) (fun w' hw' => by go_simp) ?_
            go_big_quiet_on
            simp only [Act.put, List.setIfInBounds_toArray, List.set_cons_zero, List.set_cons_succ]
            go_big_quiet_want
            refine q_val (.bool false) (fun w' hw' => by go_simp) ?_
            go_big_quiet_on
            simp only [Act.put, List.setIfInBounds_toArray, List.set_cons_zero, List.set_cons_succ]
            go_big_quiet_skip
            go_big_quiet_skip
            go_big_quiet_skip
            go_big_quiet_skip
            go_big_quiet_skip
            go_big_quiet_skip
            go_big_quiet_skip
            go_big_quiet_skip
            go_big_quiet_skip
            go_big_quiet_skip
            go_big_quiet_want
            refine q_val (.bool false) (fun w' hw' => by go_simp) ?_
            go_big_quiet_on
            simp only [Act.put, List.setIfInBounds_toArray, List.set_cons_zero, List.set_cons_succ]
            refine wpQuiet_nil ?_
            intro w1 hcw
            have B1 : Hid (Below w.heap.size w w1) := bl_next hb2.out hcw
            have hal4 : Hid (∀ (h1 : i < ls.length) k' (h2 : k' < ls.length), k' < k + 1 → (begB ls[i] ls[k'] || begB ls[k'] ls[i]) = true) := fun h1 k' h2 h3 => by
              by_cases he : k' = k
              · subst he; rw [← HLI.out, ← HLK.out, R1.out]; rfl
              · exact hal2.out h1 k' h2 (by omega)
            clear hcw ci ck R1 R2 hal2
            go_wp2_with fail
            go_roundw
            case rel => exact ⟨k + 1, by omega, by go_num, hal4, B1⟩
            case measure => simp [intOf]; omega
          | false =>
            cases r2 with
            | true =>
              go_wp2_with fail
              refine quietC (C := fun w' => Below wr.heap.size wr w') (by kernel_rfl) (by kernel_rfl) (Below.refl _ _).drew ?_
              go_big_quiet_want
              refine q_val (.slice (some ⟨b, off, none⟩) N cap) (fun w' hw' => by go_simp) ?_
              go_big_quiet_on
              simp only [Act.put, List.setIfInBounds_toArray, List.set_cons_zero, List.set_cons_succ]
              go_big_quiet_want
              refine q_val (.int .i64 ((i : Int))) (fun w' hw' => by go_simp) ?_
              go_big_quiet_on
              simp only [Act.put, List.setIfInBounds_toArray, List.set_cons_zero, List.set_cons_succ]
              go_big_quiet_want
              refine q_val (.pointer (some ⟨b, off + i, none⟩)) (fun w' hw' => by go_simp) ?_
              go_big_quiet_on
              simp only [Act.put, List.setIfInBounds_toArray, List.set_cons_zero, List.set_cons_succ]
              go_big_quiet_want
              refine q_val (.slice ia li.length ic) (fun w' hw' => by have c1 := (hw'.cell (p := ⟨b, off + i, none⟩) hbb).trans ci; go_simp) ?_
              go_big_quiet_on
              simp only [Act.put, List.setIfInBounds_toArray, List.set_cons_zero, List.set_cons_succ]
              go_big_quiet_want
              refine q_val (.slice (some ⟨b, off, none⟩) N cap) (fun w' hw' => by go_simp) ?_
              go_big_quiet_on
              simp only [Act.put, List.setIfInBounds_toArray, List.set_cons_zero, List.set_cons_succ]
              go_big_quiet_want
              refine q_val (.int .i64 ((k : Int))) (fun w' hw' => by go_simp) ?_
              go_big_quiet_on
              simp only [Act.put, List.setIfInBounds_toArray, List.set_cons_zero, List.set_cons_succ]
              go_big_quiet_want
              refine q_val (.pointer (some ⟨b, off + k, none⟩)) (fun w' hw' => by go_simp) ?_
              go_big_quiet_on
              simp only [Act.put, List.setIfInBounds_toArray, List.set_cons_zero, List.set_cons_succ]
              go_big_quiet_want
              refine q_val (.slice ka lk.length kc) (fun w' hw' => by have c2 := (hw'.cell (p := ⟨b, off + k, none⟩) hbb).trans ck; go_simp) ?_
              go_big_quiet_on
              simp only [Act.put, List.setIfInBounds_toArray, List.set_cons_zero, List.set_cons_succ]
              go_big_quiet_want
              refine q_callB (W := wr) (.bool false) 100 #[(.slice ia li.length ic), (.slice ka lk.length kc)] (fun w' hw' => by go_simp) (fun w' hw' => by have hq := begins_any ia ka ic kc li lk w' (show Hid (ItemsAt w' ia li) from HI.out.stays hw') (show Hid (ItemsAt w' ka lk) from HK.out.stays hw') hmi hmk; rw [R1.out] at hq; exact hq) ?_
              go_big_quiet_on
              simp only [Act.put, List.setIfInBounds_toArray, List.set_cons_zero, List.set_cons_succ]
              go_big_quiet_want
              refine q_val (.bool true) (fun w' hw' => by go_simp) ?_
              go_big_quiet_on
              simp only [Act.put, List.setIfInBounds_toArray, List.set_cons_zero, List.set_cons_succ]
              go_big_quiet_want
              refine q_val (.bool true) (fun w' hw' => by go_simp) ?_
              go_big_quiet_on
              simp only [Act.put, List.setIfInBounds_toArray, List.set_cons_zero, List.set_cons_succ]
              go_big_quiet_want
              refine q_val (.slice (some ⟨b, off, none⟩) N cap) (fun w' hw' => by go_simp) ?_
              go_big_quiet_on
              simp only [Act.put, List.setIfInBounds_toArray, List.set_cons_zero, List.set_cons_succ]
              go_big_quiet_want
              refine q_val (.int .i64 ((k : Int))) (fun w' hw' => by go_simp) ?_
              go_big_quiet_on
              simp only [Act.put, List.setIfInBounds_toArray, List.set_cons_zero, List.set_cons_succ]
              go_big_quiet_want
              refine q_val (.pointer (some ⟨b, off + k, none⟩)) (fun w' hw' => by go_simp) ?_
              go_big_quiet_on
              simp only [Act.put, List.setIfInBounds_toArray, List.set_cons_zero, List.set_cons_succ]
              go_big_quiet_want
              refine q_val (.slice ka lk.length kc) (fun w' hw' => by have c2 := (hw'.cell (p := ⟨b, off + k, none⟩) hbb).trans ck; go_simp) ?_
              go_big_quiet_on
              simp only [Act.put, List.setIfInBounds_toArray, List.set_cons_zero, List.set_cons_succ]
              go_big_quiet_want
              refine q_val (.slice (some ⟨b, off, none⟩) N cap) (fun w' hw' => by go_simp) ?_
              go_big_quiet_on
              simp only [Act.put, List.setIfInBounds_toArray, List.set_cons_zero, List.set_cons_succ]
              go_big_quiet_want
              refine q_val (.int .i64 ((i : Int))) (fun w' hw' => by go_simp) ?_
              go_big_quiet_on
              simp only [Act.put, List.setIfInBounds_toArray, List.set_cons_zero, List.set_cons_succ]
              go_big_quiet_want
              refine q_val (.pointer (some ⟨b, off + i, none⟩)) (fun w' hw' => by go_simp) ?_
              go_big_quiet_on
              simp only [Act.put, List.setIfInBounds_toArray, List.set_cons_zero, List.set_cons_succ]
              go_big_quiet_want
              refine q_val (.slice ia li.length ic) (fun w' hw' => by have c1 := (hw'.cell (p := ⟨b, off + i, none⟩) hbb).trans ci; go_simp) ?_
              go_big_quiet_on
              simp only [Act.put, List.setIfInBounds_toArray, List.set_cons_zero, List.set_cons_succ]
              go_big_quiet_want
              refine q_callB (W := wr) (.bool true) 100 #[(.slice ka lk.length kc), (.slice ia li.length ic)] (fun w' hw' => by go_simp) (fun w' hw' => by have hq := begins_any ka ia kc ic lk li w' (show Hid (ItemsAt w' ka lk) from HK.out.stays hw') (show Hid (ItemsAt w' ia li) from HI.out.stays hw') hmk hmi; rw [R2.out] at hq; exact hq) ?_
              go_big_quiet_on
              simp only [Act.put, List.setIfInBounds_toArray, List.set_cons_zero, List.set_cons_succ]
              go_big_quiet_want
              refine q_val (.bool false) (fun w' hw' => by go_simp) ?_
              go_big_quiet_on
              simp only [Act.put, List.setIfInBounds_toArray, List.set_cons_zero, List.set_cons_succ]
              go_big_quiet_want
              refine q_val (.bool false) (fun w' hw' => by go_simp) ?_
              go_big_quiet_on
              simp only [Act.put, List.setIfInBounds_toArray, List.set_cons_zero, List.set_cons_succ]
              refine wpQuiet_nil ?_
              intro w1 hcw
              have B1 : Hid (Below w.heap.size w w1) := bl_next hb2.out hcw
              have hal4 : Hid (∀ (h1 : i < ls.length) k' (h2 : k' < ls.length), k' < k + 1 → (begB ls[i] ls[k'] || begB ls[k'] ls[i]) = true) := fun h1 k' h2 h3 => by
                by_cases he : k' = k
                · subst he; rw [← HLI.out, ← HLK.out, R1.out, R2.out]; rfl
                · exact hal2.out h1 k' h2 (by omega)
              clear hcw ci ck R1 R2 hal2
              go_wp2_with fail
              go_roundw
              case rel => exact ⟨k + 1, by omega, by go_num, hal4, B1⟩
              case measure => simp [intOf]; omega
            | false =>
              have hRf : R = false := by rw [HR.out]; exact oneB_no hi' hlk hk' (by rw [← HLI.out, ← HLK.out]; exact R1.out) (by rw [← HLI.out, ← HLK.out]; exact R2.out)
              subst hRf
              go_wp2_with fail
              refine quietC (C := fun w' => Below wr.heap.size wr w') (by kernel_rfl) (by kernel_rfl) (Below.refl _ _).drew ?_
              go_big_quiet_want
              refine q_val (.slice (some ⟨b, off, none⟩) N cap) (fun w' hw' => by go_simp) ?_
              go_big_quiet_on
              simp only [Act.put, List.setIfInBounds_toArray, List.set_cons_zero, List.set_cons_succ]
              go_big_quiet_want
              refine q_val (.int .i64 ((i : Int))) (fun w' hw' => by go_simp) ?_
              go_big_quiet_on
              simp only [Act.put, List.setIfInBounds_toArray, List.set_cons_zero, List.set_cons_succ]
              go_big_quiet_want
              refine q_val (.pointer (some ⟨b, off + i, none⟩)) (fun w' hw' => by go_simp) ?_
              go_big_quiet_on
              simp only [Act.put, List.setIfInBounds_toArray, List.set_cons_zero, List.set_cons_succ]
              go_big_quiet_want
              refine q_val (.slice ia li.length ic) (fun w' hw' => by have c1 := (hw'.cell (p := ⟨b, off + i, none⟩) hbb).trans ci; go_simp) ?_
              go_big_quiet_on
              simp only [Act.put, List.setIfInBounds_toArray, List.set_cons_zero, List.set_cons_succ]
              go_big_quiet_want
              refine q_val (.slice (some ⟨b, off, none⟩) N cap) (fun w' hw' => by go_simp) ?_
              go_big_quiet_on
              simp only [Act.put, List.setIfInBounds_toArray, List.set_cons_zero, List.set_cons_succ]
              go_big_quiet_want
              refine q_val (.int .i64 ((k : Int))) (fun w' hw' => by go_simp) ?_
              go_big_quiet_on
              simp only [Act.put, List.setIfInBounds_toArray, List.set_cons_zero, List.set_cons_succ]
              go_big_quiet_want
              refine q_val (.pointer (some ⟨b, off + k, none⟩)) (fun w' hw' => by go_simp) ?_
              go_big_quiet_on
              simp only [Act.put, List.setIfInBounds_toArray, List.set_cons_zero, List.set_cons_succ]
              go_big_quiet_want
              refine q_val (.slice ka lk.length kc) (fun w' hw' => by have c2 := (hw'.cell (p := ⟨b, off + k, none⟩) hbb).trans ck; go_simp) ?_
              go_big_quiet_on
              simp only [Act.put, List.setIfInBounds_toArray, List.set_cons_zero, List.set_cons_succ]
              go_big_quiet_want
              refine q_callB (W := wr) (.bool false) 100 #[(.slice ia li.length ic), (.slice ka lk.length kc)] (fun w' hw' => by go_simp) (fun w' hw' => by have hq := begins_any ia ka ic kc li lk w' (show Hid (ItemsAt w' ia li) from HI.out.stays hw') (show Hid (ItemsAt w' ka lk) from HK.out.stays hw') hmi hmk; rw [R1.out] at hq; exact hq) ?_
              go_big_quiet_on
              simp only [Act.put, List.setIfInBounds_toArray, List.set_cons_zero, List.set_cons_succ]
              go_big_quiet_want
              refine q_val (.bool true) (fun w' hw' => by go_simp) ?_
              go_big_quiet_on
              simp only [Act.put, List.setIfInBounds_toArray, List.set_cons_zero, List.set_cons_succ]
              go_big_quiet_want
              refine q_val (.bool true) (fun w' hw' => by go_simp) ?_
              go_big_quiet_on
              simp only [Act.put, List.setIfInBounds_toArray, List.set_cons_zero, List.set_cons_succ]
              go_big_quiet_want
              refine q_val (.slice (some ⟨b, off, none⟩) N cap) (fun w' hw' => by go_simp) ?_
              go_big_quiet_on
              simp only [Act.put, List.setIfInBounds_toArray, List.set_cons_zero, List.set_cons_succ]
              go_big_quiet_want
              refine q_val (.int .i64 ((k : Int))) (fun w' hw' => by go_simp) ?_
              go_big_quiet_on
              simp only [Act.put, List.setIfInBounds_toArray, List.set_cons_zero, List.set_cons_succ]
              go_big_quiet_want
              refine q_val (.pointer (some ⟨b, off + k, none⟩)) (fun w' hw' => by go_simp) ?_
              go_big_quiet_on
              simp only [Act.put, List.setIfInBounds_toArray, List.set_cons_zero, List.set_cons_succ]
              go_big_quiet_want
              refine q_val (.slice ka lk.length kc) (fun w' hw' => by have c2 := (hw'.cell (p := ⟨b, off + k, none⟩) hbb).trans ck; go_simp) ?_
              go_big_quiet_on
              simp only [Act.put, List.setIfInBounds_toArray, List.set_cons_zero, List.set_cons_succ]
              go_big_quiet_want
              refine q_val (.slice (some ⟨b, off, none⟩) N cap) (fun w' hw' => by go_simp) ?_
              go_big_quiet_on
              simp only [Act.put, List.setIfInBounds_toArray, List.set_cons_zero, List.set_cons_succ]
              go_big_quiet_want
              refine q_val (.int .i64 ((i : Int))) (fun w' hw' => by go_simp) ?_
              go_big_quiet_on
              simp only [Act.put, List.setIfInBounds_toArray, List.set_cons_zero, List.set_cons_succ]
              go_big_quiet_want
              refine q_val (.pointer (some ⟨b, off + i, none⟩)) (fun w' hw' => by go_simp) ?_
              go_big_quiet_on
              simp only [Act.put, List.setIfInBounds_toArray, List.set_cons_zero, List.set_cons_succ]
              go_big_quiet_want
              refine q_val (.slice ia li.length ic) (fun w' hw' => by have c1 := (hw'.cell (p := ⟨b, off + i, none⟩) hbb).trans ci; go_simp) ?_
              go_big_quiet_on
              simp only [Act.put, List.setIfInBounds_toArray, List.set_cons_zero, List.set_cons_succ]
              go_big_quiet_want
              refine q_callB (W := wr) (.bool false) 100 #[(.slice ka lk.length kc), (.slice ia li.length ic)] (fun w' hw' => by go_simp) (fun w' hw' => by have hq := begins_any ka ia kc ic lk li w' (show Hid (ItemsAt w' ka lk) from HK.out.stays hw') (show Hid (ItemsAt w' ia li) from HI.out.stays hw') hmk hmi; rw [R2.out] at hq; exact hq) ?_
              go_big_quiet_on
              simp only [Act.put, List.setIfInBounds_toArray, List.set_cons_zero, List.set_cons_succ]
              go_big_quiet_want
              refine q_val (.bool true) (fun w' hw' => by go_simp) ?_
              go_big_quiet_on
              simp only [Act.put, List.setIfInBounds_toArray, List.set_cons_zero, List.set_cons_succ]
              go_big_quiet_want
              refine q_val (.bool true) (fun w' hw' => by go_simp) ?_
              go_big_quiet_on
              simp only [Act.put, List.setIfInBounds_toArray, List.set_cons_zero, List.set_cons_succ]
              refine wpQuiet_nil ?_
              intro w1 hcw
              have B1 : Hid (Below w.heap.size w w1) := bl_next hb2.out hcw
              clear hcw ci ck R1 R2 hal2
              go_wp2_with fail
              go_ret
              exact ⟨rfl, B1.out⟩
        · have hal3 : Hid (∀ i' (h1 : i' < ls.length) k' (h2 : k' < ls.length), k' < i' → i' < i + 1 → (begB ls[i'] ls[k'] || begB ls[k'] ls[i']) = true) := fun i' h1 k' h2 h3 h4 => by
            by_cases he : i' = i
            · subst he; exact hal2.out h1 k' h2 (by omega)
            · exact hal.out i' h1 k' h2 h3 (by omega)
          clear hal hal2
          go_wp2_with fail
          go_roundw
          case rel => exact ⟨i + 1, by omega, by go_num, hal3, hb2⟩
          case measure => simp [intOf]; omega
    · have hRt : R = true := by
        rw [HR.out]
        exact oneB_yes fun i' h1 k' h2 h3 => hal.out i' h1 k' h2 h3 (by rw [← HN.out] at h1; omega)
      subst hRt
      go_wp2_with fail
      go_ret
      exact ⟨rfl, hb.out⟩

/-- a slice of items, read, and that it has room for what it holds. -/
def RdI (w : World) (ao : Option Addr) (n cap : Nat) (l : List It) : Prop := n = l.length ∧ n ≤ cap ∧ ItemsAt w ao l
theorem RdI.stays {w w' : World} {ao : Option Addr} {n cap : Nat} {l : List It} (h : RdI w ao n cap l) (hb : Below w.heap.size w w') : RdI w' ao n cap l := ⟨h.1, h.2.1, h.2.2.stays hb⟩
theorem SlI.rd {w : World} {B : Nat} {v : Value} {l : List It} (h : SlI w B v l) : ∃ ao n cap, v = .slice ao n cap ∧ RdI w ao n cap l := by
  obtain ⟨ao, cap, hv, hx⟩ := h.items
  refine ⟨ao, l.length, cap, hv, rfl, ?_, hx⟩
  rcases h.2 with ⟨h1, h2⟩ | ⟨g, off, c, cur, h1, _, _, h2, _⟩
  · rw [h1] at hv; simp at hv; omega
  · rw [h1] at hv; simp at hv; omega
theorem RdI.take {w : World} {ao : Option Addr} {n cap : Nat} {l : List It} (h : RdI w ao n cap l) (m : Nat) : ItemsAt w ao (l.take m) := by
  intro i hi
  have hi' : i < l.length := by rw [List.length_take] at hi; omega
  have := h.2.2 i hi'
  rw [List.getElem_take]
  exact this

set_option maxRecDepth 100000 in
set_option maxHeartbeats 4000000 in
theorem one_any (g E n : Nat) (ls : List (List It)) (w : World) (h1 : Hid (RowSs w g E n ls n)) (hn : Hid (ls.length = n)) (hl : n ≤ 1048576) (hm : Hid (∀ l ∈ ls, l.length ≤ 1048576)) :
    Calls Try.prog 38 #[.slice (some ⟨g, 0, none⟩) n n] w fun e w' => e = .returned (.bool (oneB ls)) ∧ Below w.heap.size w w' := by
  obtain ⟨R, hR⟩ : ∃ R, R = oneB ls := ⟨_, rfl⟩
  rw [← hR]
  have HR : Hid (R = oneB ls) := hR
  clear hR
  have H0 : Hid (RdI (w.alloc (.cells #[] 38)) (some ⟨w.heap.size, 0, none⟩) 0 0 []) := ⟨rfl, Nat.le_refl _, fun i hi => absurd hi (by simp)⟩
  have HB : Hid (Below w.heap.size w (w.alloc (.cells #[] 38))) := (Below.refl _ _).alloc (Nat.le_refl _) _
  go_enter Try.func38, Try.ntmps38
  go_wp2_with fail
  go_loopw [3, 11] (fun v3 v11 wr => ∃ (k : Nat) (ao : Option Addr) (nl cap : Nat) (L : List It), k ≤ n ∧ v11 = .int .i64 k ∧ v3 = .slice ao nl cap ∧ Hid (RdI wr ao nl cap L) ∧ Hid ((L = [] ∨ L ∈ ls) ∧ ∀ j (hj : j < ls.length), j < k → ls[j].length ≤ L.length) ∧ Hid (Below w.heap.size w wr)) (fun _ v11 _ => n - (intOf v11).toNat)
  case atStart => exact ⟨0, _, 0, 0, [], by omega, rfl, rfl, H0, ⟨.inl rfl, fun j _ h => absurd h (by omega)⟩, HB⟩
  case round =>
    clear H0 HB
    obtain ⟨k, ao, nl, cap, L, hk, rfl, rfl, hL, hlo, hb⟩ := hrel
    by_cases hlt : k < n
    · have hkl : k < ls.length := by rw [hn.out]; exact hlt
      have R1 : RowSs wr g E n ls n := h1.out.below hb.out
      have hg1 := R1.lt
      obtain ⟨v1, c1, O1⟩ := R1.read k hkl hlt
      obtain ⟨a1, n1, cap1, rfl, O2⟩ := O1.rd
      clear O1
      have O1 : Hid (RdI wr a1 n1 cap1 ls[k]) := O2
      clear O2
      have i0 : (0 : Int) ≤ (k : Int) := by omega
      have i1 : (k : Int) < (n : Int) := by omega
      clear R1
      by_cases hgt : nl < n1
      · go_wp2_with fail
        go_roundw
        case rel => exact ⟨k + 1, a1, n1, cap1, ls[k], by omega, by go_num, rfl, O1, ⟨.inr (List.getElem_mem hkl), fun j hj hjk => by
          by_cases he : j = k
          · subst he; omega
          · have h2 := hlo.out.2 j hj (by omega); have h3 := O1.out.1; have h4 := hL.out.1; omega⟩, hb⟩
        case measure => simp [intOf]; omega
      · go_wp2_with fail
        go_roundw
        case rel => exact ⟨k + 1, ao, nl, cap, L, by omega, by go_num, rfl, hL, ⟨hlo.out.1, fun j hj hjk => by
          by_cases he : j = k
          · subst he; have h3 := O1.out.1; have h4 := hL.out.1; omega
          · exact hlo.out.2 j hj (by omega)⟩, hb⟩
        case measure => simp [intOf]; omega
    · have hlong : Hid (oneB ls = ls.all fun l => begB l L) := oneB_long hlo.out.1 (fun l hl => by
        obtain ⟨j, hj, rfl⟩ := List.getElem_of_mem hl
        exact hlo.out.2 j hj (by rw [hn.out] at hj; omega))
      have hle : Hid (∀ j (hj : j < ls.length), ls[j].length ≤ L.length) := fun j hj => hlo.out.2 j hj (by rw [hn.out] at hj; omega)
      have hLm : Hid (L.length ≤ 1048576) := (by
        rcases hlo.out.1 with h | h
        · rw [h]; simp
        · exact hm.out _ h : L.length ≤ 1048576)
      clear hlo
      go_wp2_with fail
      go_loopw [24] (fun v24 wq => ∃ (k : Nat), k ≤ n ∧ v24 = .int .i64 k ∧ Hid (∀ j (hj : j < ls.length), j < k → begB ls[j] L = true) ∧ Hid (Below w.heap.size w wq) ∧ Hid (Below wr.heap.size wr wq)) (fun v24 _ => n - (intOf v24).toNat)
      case atStart => exact ⟨0, by omega, rfl, fun j _ h => absurd h (by omega), hb, Below.refl _ _⟩
      case round =>
        obtain ⟨k2, hk2, rfl, hal, hb2, hb3⟩ := hrel
        by_cases hlt2 : k2 < n
        · have hkl : k2 < ls.length := by rw [hn.out]; exact hlt2
          have R1 : RowSs wr g E n ls n := h1.out.below hb2.out
          have hg1 := R1.lt
          obtain ⟨v1, c1, O1⟩ := R1.read k2 hkl hlt2
          obtain ⟨a1, n1, cap1, rfl, O2⟩ := O1.rd
          have hO1 := O2.1
          have XI : Hid (ItemsAt wr a1 ls[k2]) := O2.2.2
          have XL : Hid (ItemsAt wr ao (L.take ls[k2].length)) := (hL.out.stays hb3.out).take _
          have hlk := hle.out k2 hkl
          have hTL : Hid ((L.take ls[k2].length).length = n1) := (by rw [List.length_take]; omega : (L.take ls[k2].length).length = n1)
          have hm1 : ls[k2].length ≤ 1048576 := hm.out _ (List.getElem_mem hkl)
          have hm2 : (L.take ls[k2].length).length ≤ 1048576 := by have := hLm.out; rw [List.length_take]; omega
          have hcap : n1 ≤ cap := by have h5 := hL.out.1; have h6 := hL.out.2.1; omega
          have i0 : (0 : Int) ≤ (k2 : Int) := by omega
          have i1 : (k2 : Int) < (n : Int) := by omega
          have i2 : (0 : Int) ≤ (n1 : Int) := by omega
          have i3 : (n1 : Int) ≤ (cap : Int) := by omega
          have SE : Hid (Calls Try.prog 102 #[.slice a1 n1 cap1, .slice ao n1 cap] wr fun e w' => e = .returned (.bool (begB ls[k2] L)) ∧ Below wr.heap.size wr w') := by
            have h := slEq_any a1 ao cap1 cap ls[k2] (L.take ls[k2].length) wr XI XL hm1 hm2
            rw [hTL.out, ← hO1] at h
            have he : begB ls[k2] L = alB ls[k2] (L.take ls[k2].length) := by unfold begB; rw [decide_eq_true hlk]; rfl
            rw [he, ← hO1]; exact h
          obtain ⟨bb, hbb⟩ : ∃ b, b = begB ls[k2] L := ⟨_, rfl⟩
          rw [← hbb] at SE
          have HBB : Hid (bb = begB ls[k2] L) := hbb
          clear hbb R1 O1 O2 XI XL hlk hTL hm1 hm2 hO1
          cases bb with
          | true =>
            go_wp2_with fail
            refine SE.out.mono ?_
            rintro e w5 ⟨rfl, b5⟩
            have B2 : Hid (Below w.heap.size w w5) := bl_next hb2.out b5
            have B3 := bl_next hb3.out b5
            have hal' : Hid (∀ j (hj : j < ls.length), j < k2 + 1 → begB ls[j] L = true) := fun j hj hjk => by
              by_cases he : j = k2
              · subst he; exact HBB.out.symm
              · exact hal.out j hj (by omega)
            clear b5 SE hal
            go_wp2_with fail
            go_roundw
            case rel => exact ⟨k2 + 1, by omega, by go_num, hal', B2, B3⟩
            case measure => simp [intOf]; omega
          | false =>
            have hRf : R = false := by
              rw [HR.out, hlong.out, List.all_eq_false]
              exact ⟨ls[k2], List.getElem_mem hkl, by rw [← HBB.out]; simp⟩
            subst hRf
            go_wp2_with fail
            refine SE.out.mono ?_
            rintro e w5 ⟨rfl, b5⟩
            go_wp2_with fail
            go_ret
            exact ⟨rfl, bl_next hb2.out b5⟩
        · have hRt : R = true := by
            rw [HR.out, hlong.out, List.all_eq_true]
            intro l hl
            obtain ⟨j, hj, rfl⟩ := List.getElem_of_mem hl
            exact hal.out j hj (by rw [hn.out] at hj; omega)
          subst hRt
          go_wp2_with fail
          go_ret
          exact ⟨rfl, hb2.out⟩
end Go.Proofs.Ythdjkkiegecgnaa
