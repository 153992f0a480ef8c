/- Tokens of which all is zero; what a member has to say, by the specification. Written by gen_mp.py. -/
import Derived.Test.YtpbhcbgohgfkcaaMo
namespace Go.Proofs.Ytpbhcbgohgfkcaa
open Go.RowKit Pl
set_option linter.unusedVariables false
set_option linter.unusedSimpArgs false

/-- whether all of a token is zero. -/
def ntB (c r q a b : Int) (ws : List Int) : Bool := (c == 0) && ((r == 0) && ((q == 0) && ((a == 0) && ((b == 0) && ((ws.length : Int) == 0)))))

set_option maxRecDepth 100000 in
set_option maxHeartbeats 2000000 in
theorem noToken_any (c r q a b : Int) (s : Sv) (ws : List Int) (w : World) (hn : Hid (s.n = ws.length)) :
    Calls Try.prog 57 #[.agg #[.int .i64 c, .int .i64 r, .int .i64 q, .int .i64 a, .int .i64 b, .slice s.a s.n s.c]] w fun e w' => e = .returned (.bool (ntB c r q a b ws)) ∧ Below w.heap.size w w' := by
  unfold ntB
  rw [← hn.out]
  clear hn
  have HL : Hid (Below w.heap.size w (w.alloc (.cells #[.int .i64 c, .int .i64 r, .int .i64 q, .int .i64 a, .int .i64 b, .slice s.a s.n s.c] 30))) := (Below.refl _ _).alloc (Nat.le_refl _) _
  obtain ⟨R0, k0⟩ : ∃ R, (c == 0) = R := ⟨_, rfl⟩
  rw [k0]
  cases R0 with
  | false =>
    go_enter Try.func57, Try.ntmps57
    go_wp2_with fail
    go_ret
    exact ⟨rfl, HL.out⟩
  | true =>
    obtain ⟨R1, k1⟩ : ∃ R, (r == 0) = R := ⟨_, rfl⟩
    rw [k1]
    cases R1 with
    | false =>
      go_enter Try.func57, Try.ntmps57
      go_wp2_with fail
      go_ret
      exact ⟨rfl, HL.out⟩
    | true =>
      obtain ⟨R2, k2⟩ : ∃ R, (q == 0) = R := ⟨_, rfl⟩
      rw [k2]
      cases R2 with
      | false =>
        go_enter Try.func57, Try.ntmps57
        go_wp2_with fail
        go_ret
        exact ⟨rfl, HL.out⟩
      | true =>
        obtain ⟨R3, k3⟩ : ∃ R, (a == 0) = R := ⟨_, rfl⟩
        rw [k3]
        cases R3 with
        | false =>
          go_enter Try.func57, Try.ntmps57
          go_wp2_with fail
          go_ret
          exact ⟨rfl, HL.out⟩
        | true =>
          obtain ⟨R4, k4⟩ : ∃ R, (b == 0) = R := ⟨_, rfl⟩
          rw [k4]
          cases R4 with
          | false =>
            go_enter Try.func57, Try.ntmps57
            go_wp2_with fail
            go_ret
            exact ⟨rfl, HL.out⟩
          | true =>
            obtain ⟨R5, k5⟩ : ∃ R, ((s.n : Int) == 0) = R := ⟨_, rfl⟩
            rw [k5]
            cases R5 with
            | false =>
              go_enter Try.func57, Try.ntmps57
              go_wp2_with fail
              go_ret
              exact ⟨rfl, HL.out⟩
            | true =>
              go_enter Try.func57, Try.ntmps57
              go_wp2_with fail
              go_ret
              exact ⟨rfl, HL.out⟩

set_option maxRecDepth 100000 in
set_option maxHeartbeats 1000000 in
theorem sameInts_nil (s : Sv) (w : World) : Calls Try.prog 153 #[.slice s.a s.n s.c, .slice none 0 0] w fun e w' => e = .returned (.bool ((s.n : Int) == 0)) ∧ w' = w := by
  obtain ⟨sa, sn, sc⟩ := s
  by_cases h : sn = 0
  · subst h
    go_enter Try.func153, Try.ntmps153
    go_wp2
    refine wp_loop_rounds 1 ?_
    rw [rounds_succ]
    go_wp2
    go_ret
    exact ⟨rfl, rfl⟩
  · have k : ((sn : Int) == 0) = false := by simp; omega
    have K : Hid (((sn : Int) == 0) = false) := k
    have k2 : ((sn : Int) != 0) = true := by simp; omega
    clear h k
    go_enter Try.func153, Try.ntmps153
    go_wp2
    go_ret
    exact ⟨by rw [K.out]; rfl, rfl⟩

set_option maxRecDepth 100000 in
set_option maxHeartbeats 2000000 in
theorem sameZero_any (c r q a b : Int) (s : Sv) (w : World) :
    Calls Try.prog 136 #[.agg #[.int .i64 c, .int .i64 r, .int .i64 q, .int .i64 a, .int .i64 b, .slice s.a s.n s.c], .agg #[.int .i64 0, .int .i64 0, .int .i64 0, .int .i64 0, .int .i64 0, .slice none 0 0]] w fun e w' => e = .returned (.bool ((c == 0) && ((r == 0) && ((q == 0) && ((a == 0) && ((b == 0) && ((s.n : Int) == 0))))))) ∧ Below w.heap.size w w' := by
  have HL : Hid (Below w.heap.size w ((w.alloc (.cells #[.int .i64 c, .int .i64 r, .int .i64 q, .int .i64 a, .int .i64 b, .slice s.a s.n s.c] 30)).alloc (.cells #[.int .i64 0, .int .i64 0, .int .i64 0, .int .i64 0, .int .i64 0, .slice none 0 0] 30))) := ((Below.refl _ _).alloc (Nat.le_refl _) _).alloc (by simp) _
  obtain ⟨R0, k0⟩ : ∃ R, (c == 0) = R := ⟨_, rfl⟩
  rw [k0]
  cases R0 with
  | false =>
    go_enter Try.func136, Try.ntmps136
    go_wp2_with fail
    go_ret
    exact ⟨rfl, HL.out⟩
  | true =>
    obtain ⟨R1, k1⟩ : ∃ R, (r == 0) = R := ⟨_, rfl⟩
    rw [k1]
    cases R1 with
    | false =>
      go_enter Try.func136, Try.ntmps136
      go_wp2_with fail
      go_ret
      exact ⟨rfl, HL.out⟩
    | true =>
      obtain ⟨R2, k2⟩ : ∃ R, (q == 0) = R := ⟨_, rfl⟩
      rw [k2]
      cases R2 with
      | false =>
        go_enter Try.func136, Try.ntmps136
        go_wp2_with fail
        go_ret
        exact ⟨rfl, HL.out⟩
      | true =>
        obtain ⟨R3, k3⟩ : ∃ R, (a == 0) = R := ⟨_, rfl⟩
        rw [k3]
        cases R3 with
        | false =>
          go_enter Try.func136, Try.ntmps136
          go_wp2_with fail
          go_ret
          exact ⟨rfl, HL.out⟩
        | true =>
          obtain ⟨R4, k4⟩ : ∃ R, (b == 0) = R := ⟨_, rfl⟩
          rw [k4]
          cases R4 with
          | false =>
            go_enter Try.func136, Try.ntmps136
            go_wp2_with fail
            go_ret
            exact ⟨rfl, HL.out⟩
          | true =>
            go_enter Try.func136, Try.ntmps136
            go_wp2_with fail
            refine (sameInts_nil s _).mono ?_
            rintro e w1 ⟨rfl, rfl⟩
            go_wp2_with fail
            go_ret
            exact ⟨rfl, HL.out⟩

set_option maxRecDepth 100000 in
set_option maxHeartbeats 1000000 in
theorem blank_any (c r q a b : Int) (s : Sv) (ws : List Int) (w : World) (hn : Hid (s.n = ws.length)) :
    Calls Try.prog 99 #[.agg #[.int .i64 c, .int .i64 r, .int .i64 q, .int .i64 a, .int .i64 b, .slice s.a s.n s.c]] w fun e w' => e = .returned (.bool (ntB c r q a b ws)) ∧ Below w.heap.size w w' := by
  unfold ntB
  rw [← hn.out]
  clear hn
  go_enter Try.func99, Try.ntmps99
  go_wp2_with fail
  refine (sameZero_any c r q a b s _).mono ?_
  rintro e w1 ⟨rfl, b1⟩
  go_wp2_with fail
  go_ret
  exact ⟨rfl, ((Below.refl _ _).alloc (Nat.le_refl _) _).trans (b1.mono (by simp))⟩

/-- the first k of them may be said. -/
def SaySt (lv : List Int) (tx : List ByteArray) (k : Nat) : Prop := (∀ t ∈ tx.take k, t.size ≤ 60) ∧ ∀ l ∈ lv.take k, lvB l = true
theorem say_step {lv : List Int} {tx : List ByteArray} {k : Nat} (h : SaySt lv tx k) (h1 : k < lv.length) (h2 : k < tx.length) (hl : lvB lv[k] = true) (ht : tx[k].size ≤ 60) : SaySt lv tx (k + 1) := by
  refine ⟨fitB_step h.1 h2 ht, fun l hm => ?_⟩
  rw [List.take_succ_eq_append_getElem h1] at hm
  rcases List.mem_append.1 hm with h3 | h3
  · exact h.2 l h3
  · simp at h3; subst h3; exact hl
theorem say_bad1 {lv : List Int} {tx : List ByteArray} {k : Nat} (h1 : k < lv.length) (hl : lvB lv[k] = false) : sayB lv tx = false := by
  have : lvsB lv = false := by
    cases h : lvsB lv with
    | false => rfl
    | true => unfold lvsB at h; have := List.all_eq_true.1 h _ (List.getElem_mem h1); rw [hl] at this; cases this
  unfold sayB; rw [this]; simp
theorem say_bad2 {lv : List Int} {tx : List ByteArray} {k : Nat} (h1 : k < tx.length) (hl : 60 < tx[k].size) : sayB lv tx = false := by
  unfold sayB; rw [fitB_bad h1 hl]; simp
theorem say_end {lv : List Int} {tx : List ByteArray} {k : Nat} (h : SaySt lv tx k) (hk : ¬ (k < tx.length ∧ k < lv.length)) : sayB lv tx = (decide (tx.length ≤ 20) && decide (lv.length = tx.length)) := by
  unfold sayB
  by_cases he : lv.length = tx.length
  · have h1 := fitB_all (k := k) h.1 (by omega)
    have h2 : lvsB lv = true := by
      unfold lvsB
      have := h.2
      rw [List.take_of_length_le (by omega)] at this
      exact List.all_eq_true.2 this
    rw [h1, h2]; simp
  · simp [he]

set_option maxRecDepth 100000 in
set_option maxHeartbeats 2000000 in
theorem tenTexts_any (s u : Sv) (lv : List Int) (tx : List ByteArray) (w : World) (hx : Hid (RI w s.v lv)) (hy : Hid (RT w u.v tx)) (hl : lv.length ≤ 1048576) (ht : tx.length ≤ 1048576) :
    Calls Try.prog 98 #[.slice s.a s.n s.c, .slice u.a u.n u.c] w fun e w' => e = .returned (.bool (sayB lv tx)) ∧ w' = w := by
  obtain ⟨ao, cap, e1, h1⟩ := hx.out
  obtain ⟨at_, ct, e2, h2⟩ := hy.out
  unfold Sv.v at e1 e2
  rw [e1, e2]
  clear e1 e2 hx hy
  have X1 : Hid (IntsAt w ao lv) := h1
  have Y1 : Hid (TextsAt w at_ tx) := h2
  clear h1 h2
  go_enter Try.func98, Try.ntmps98
  go_wp2
  go_loop [5] (fun i => ∃ k : Nat, k ≤ tx.length ∧ i = .int .i64 k ∧ Hid (SaySt lv tx k)) (fun i => tx.length - (intOf i).toNat)
  case atStart => exact ⟨0, Nat.zero_le _, rfl, ⟨fun t h => by simp at h, fun t h => by simp at h⟩⟩
  case round =>
    obtain ⟨k, hk, rfl, hst⟩ := hrel
    by_cases hlt : k < tx.length
    · have i1 : (k : Int) < (tx.length : Int) := by omega
      by_cases hlv : k < lv.length
      · have i2 : (k : Int) < (lv.length : Int) := by omega
        obtain ⟨b, off, rfl, hbb, hc⟩ := Y1.out k hlt
        obtain ⟨b', off', rfl, hbb', hc'⟩ := X1.out k hlv
        obtain ⟨x, hx⟩ : ∃ x, x = tx[k] := ⟨_, rfl⟩
        obtain ⟨l, hll⟩ : ∃ l, l = lv[k] := ⟨_, rfl⟩
        rw [← hx] at hc
        rw [← hll] at hc'
        have HX : Hid (x = tx[k]) := hx
        have HV : Hid (l = lv[k]) := hll
        clear hx hll
        go_wp2_with fail
        refine (in_any l 1 2 w).mono ?_
        rintro e w1 ⟨rfl, rfl⟩
        obtain ⟨R, hR⟩ : ∃ R, decide (1 ≤ l ∧ l ≤ 2) = R := ⟨_, rfl⟩
        rw [hR]
        have HR : Hid (lvB l = R) := hR
        clear hR
        cases R with
        | false =>
          go_wp2_with fail
          go_ret
          exact ⟨by rw [say_bad1 hlv (by rw [← HV.out]; exact HR.out)]; rfl, rfl⟩
        | true =>
          by_cases h60 : 60 < x.size
          · have hd : decide (60 < (x.size : Int)) = true := by simp; omega
            go_wp2_with fail
            go_ret
            exact ⟨by rw [say_bad2 hlt (by rw [← HX.out]; exact h60)]; rfl, rfl⟩
          · have hd : decide (60 < (x.size : Int)) = false := by simp; omega
            go_wp2_with fail
            go_round
            case rel => exact ⟨k + 1, by omega, by go_num, say_step hst.out hlv hlt (by rw [← HV.out]; exact HR.out) (by rw [← HX.out]; omega)⟩
            case measure => simp [intOf]; omega
      · have i2 : ¬ (k : Int) < (lv.length : Int) := by omega
        have HE : Hid (sayB lv tx = (decide (tx.length ≤ 20) && decide (lv.length = tx.length))) := say_end hst.out (by omega)
        have c2 : ((lv.length : Int) == (tx.length : Int)) = false := by simp; omega
        have C2 : Hid (decide (lv.length = tx.length) = false) := (by simp; omega : decide (lv.length = tx.length) = false)
        by_cases c1 : tx.length ≤ 20
        · have d1 : (tx.length : Int) ≤ 20 := by omega
          go_wp2_with fail
          go_ret
          exact ⟨by rw [HE.out, C2.out]; simp, rfl⟩
        · have d1 : ¬ (tx.length : Int) ≤ 20 := by omega
          go_wp2_with fail
          go_ret
          exact ⟨by rw [HE.out, C2.out]; simp, rfl⟩
    · have i1 : ¬ (k : Int) < (tx.length : Int) := by omega
      have HE : Hid (sayB lv tx = (decide (tx.length ≤ 20) && decide (lv.length = tx.length))) := say_end hst.out (by omega)
      by_cases c1 : tx.length ≤ 20
      · have d1 : (tx.length : Int) ≤ 20 := by omega
        have D1 : Hid (decide (tx.length ≤ 20) = true) := (by simp; omega : decide (tx.length ≤ 20) = true)
        by_cases c2 : lv.length = tx.length
        · have k2 : ((lv.length : Int) == (tx.length : Int)) = true := by simp; omega
          have C2 : Hid (decide (lv.length = tx.length) = true) := (by simp; omega : decide (lv.length = tx.length) = true)
          clear c2
          go_wp2_with fail
          go_ret
          exact ⟨by rw [HE.out, C2.out, D1.out]; rfl, rfl⟩
        · have k2 : ((lv.length : Int) == (tx.length : Int)) = false := by simp; omega
          have C2 : Hid (decide (lv.length = tx.length) = false) := (by simp; omega : decide (lv.length = tx.length) = false)
          clear c2
          go_wp2_with fail
          go_ret
          exact ⟨by rw [HE.out, C2.out]; simp, rfl⟩
      · have d1 : ¬ (tx.length : Int) ≤ 20 := by omega
        have D1 : Hid (decide (tx.length ≤ 20) = false) := (by simp; omega : decide (tx.length ≤ 20) = false)
        go_wp2_with fail
        go_ret
        exact ⟨by rw [HE.out, D1.out]; rfl, rfl⟩
end Go.Proofs.Ytpbhcbgohgfkcaa
