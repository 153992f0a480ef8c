/- What a member has to say, and whether it is right: small walks. -/
import Derived.Test.YthdjkkiegecgnaaWr
import Derived.Test.YthdjkkiegecgnaaBw
import Derived.Test.YthdjkkiegecgnaaCa
import Derived.BigQuiet
import Derived.Deep.QuietTactic
namespace Go.Proofs.Ythdjkkiegecgnaa
open Go.RowKit Pl
set_option linter.unusedVariables false
set_option linter.unusedSimpArgs false

/-- whether texts are short. -/
def fitB (ts : List ByteArray) : Bool := ts.all fun t => decide (t.size ≤ 60)
theorem fitB_true {ts : List ByteArray} : fitB ts = true ↔ ∀ t ∈ ts, t.size ≤ 60 := by
  unfold fitB
  simp [List.all_eq_true]
theorem fitB_step {ts : List ByteArray} {k : Nat} (h : ∀ t ∈ ts.take k, t.size ≤ 60) (hk : k < ts.length) (hs : ts[k].size ≤ 60) : ∀ t ∈ ts.take (k + 1), t.size ≤ 60 := by
  intro t ht
  rw [List.take_succ_eq_append_getElem hk] at ht
  rcases List.mem_append.1 ht with h1 | h1
  · exact h t h1
  · simp at h1; subst h1; exact hs
theorem fitB_bad {ts : List ByteArray} {k : Nat} (hk : k < ts.length) (hs : 60 < ts[k].size) : fitB ts = false := by
  cases h : fitB ts with
  | false => rfl
  | true => have := fitB_true.1 h _ (List.getElem_mem hk); omega
theorem fitB_all {ts : List ByteArray} {k : Nat} (h : ∀ t ∈ ts.take k, t.size ≤ 60) (hk : ts.length ≤ k) : fitB ts = true := by
  rw [List.take_of_length_le hk] at h
  exact fitB_true.2 h
/-- whether a number is a level. -/
def lvB (l : Int) : Bool := decide (1 ≤ l ∧ l ≤ 2)
def lvsB (lv : List Int) : Bool := lv.all lvB
/-- whether it may stand there to be said. -/
def sayB (lv : List Int) (tx : List ByteArray) : Bool := decide (tx.length ≤ 20) && (decide (lv.length = tx.length) && (lvsB lv && fitB tx))

set_option maxRecDepth 100000 in
set_option maxHeartbeats 1000000 in
theorem fits_any (ao : Option Addr) (cap : Nat) (ts : List ByteArray) (w : World) (hx : Hid (TextsAt w ao ts)) (hl : ts.length ≤ 1048576) :
    Calls Try.prog 124 #[.slice ao ts.length cap] w fun e w' => e = .returned (.bool (fitB ts)) ∧ w' = w := by
  go_enter Try.func124, Try.ntmps124
  go_wp2
  go_loop [7] (fun i => ∃ k : Nat, k ≤ ts.length ∧ i = .int .i64 k ∧ Hid (∀ t ∈ ts.take k, t.size ≤ 60)) (fun i => ts.length - (intOf i).toNat)
  case atStart => exact ⟨0, Nat.zero_le _, rfl, fun t ht => by simp at ht⟩
  case round =>
    obtain ⟨k, hk, rfl, hst⟩ := hrel
    by_cases hlt : k < ts.length
    · obtain ⟨b, off, rfl, hbb, hc⟩ := hx.out k hlt
      obtain ⟨x, ht⟩ : ∃ x, x = ts[k] := ⟨_, rfl⟩
      rw [← ht] at hc
      have HT : Hid (x = ts[k]) := ht
      clear ht
      by_cases h1 : 60 < x.size
      · have hd : decide (60 < (x.size : Int)) = true := by simp; omega
        go_wp2
        go_ret
        exact ⟨by rw [fitB_bad hlt (by rw [← HT.out]; exact h1)]; rfl, rfl⟩
      · have hd : decide (60 < (x.size : Int)) = false := by simp; omega
        go_wp2
        go_round
        case rel => exact ⟨k + 1, by omega, by go_num, fitB_step hst.out hlt (by rw [← HT.out]; omega)⟩
        case measure => simp [intOf]; omega
    · go_wp2
      go_ret
      exact ⟨by rw [fitB_all hst.out (by omega)]; rfl, rfl⟩

set_option maxRecDepth 100000 in
set_option maxHeartbeats 1000000 in
theorem isLevel_any (l : Int) (w : World) : Calls Try.prog 66 #[.int .i64 l] w fun e w' => e = .returned (.bool (lvB l)) ∧ w' = w := by
  unfold lvB
  by_cases h1 : l = 1
  · subst h1
    go_enter Try.func66, Try.ntmps66
    go_wp2
    go_ret
    exact ⟨rfl, rfl⟩
  · by_cases h2 : l = 2
    · subst h2
      go_enter Try.func66, Try.ntmps66
      go_wp2
      go_ret
      exact ⟨rfl, rfl⟩
    · have h3 : decide (1 ≤ l ∧ l ≤ 2) = false := by simp; omega
      have HD : Hid (decide (1 ≤ l ∧ l ≤ 2) = false) := h3
      have k1 : (l == 1) = false := by simp; exact h1
      have k2 : (l == 2) = false := by simp; exact h2
      clear h3 h1 h2
      go_enter Try.func66, Try.ntmps66
      go_wp2
      go_ret
      exact ⟨by rw [HD.out]; rfl, rfl⟩

theorem filt_next {lv : List Int} {k : Nat} (hk : k < lv.length) : (lv.take (k + 1)).filter lvB = (lv.take k).filter lvB ++ if lvB lv[k] = true then [lv[k]] else [] := by
  rw [List.take_succ_eq_append_getElem hk, List.filter_append]
  congr 1
  by_cases h : lvB lv[k] = true <;> simp [h]

set_option maxRecDepth 100000 in
set_option maxHeartbeats 1000000 in
theorem keptI_any (ao : Option Addr) (cap : Nat) (lv : List Int) (w : World) (hx : Hid (IntsAt w ao lv)) (hl : lv.length ≤ 1048576) :
    Calls Try.prog 123 #[.slice ao lv.length cap, .func (Fn.func 66) #[] #[]] w fun e w' => ∃ v, e = .returned v ∧ OwnI w' w.heap.size v (lv.filter lvB) ∧ Below w.heap.size w w' := by
  have S0 : Hid (OwnI (w.alloc (.cells #[] 3)) w.heap.size (.slice (some ⟨w.heap.size, 0, none⟩) 0 0) []) := OwnI.made w w.heap.size (Nat.le_refl _)
  have B0 : Hid (Below w.heap.size w (w.alloc (.cells #[] 3))) := (Below.refl _ _).alloc (Nat.le_refl _) _
  go_enter Try.func123, Try.ntmps123
  go_wp2
  go_loopw [5, 11] (fun v i wr => ∃ (k : Nat), k ≤ lv.length ∧ i = .int .i64 k ∧ Hid (OwnI wr w.heap.size v ((lv.take k).filter lvB)) ∧ Hid (Below w.heap.size w wr)) (fun _ i _ => lv.length - (intOf i).toNat)
  case atStart => exact ⟨0, Nat.zero_le _, rfl, S0, B0⟩
  case round =>
    clear S0 B0
    obtain ⟨k, hk, rfl, hS, hb⟩ := hrel
    by_cases hlt : k < lv.length
    · obtain ⟨bb, off, rfl, hbb, h0⟩ := hx.out.stays hb.out k hlt
      have hst := filt_next hlt
      have HP : Hid (∃ x : Int, x = lv[k]) := ⟨_, rfl⟩
      obtain ⟨x, hp⟩ := HP.out
      rw [← hp] at h0 hst
      have HST : Hid _ := hst
      clear hp HP hst
      have S1 := hS.out
      have B1 := hb.out
      have z1 : w.heap.size ≤ wr.heap.size := B1.size
      have hlk : ((lv.take k).filter lvB).length ≤ 1048576 := Nat.le_trans (List.length_filter_le _ _) (by rw [List.length_take]; omega)
      go_wp2_with fail
      refine (isLevel_any x _).mono ?_
      rintro e w1 ⟨rfl, rfl⟩
      obtain ⟨R, hR⟩ : ∃ R, lvB x = R := ⟨_, rfl⟩
      rw [hR]
      have HR : Hid (lvB x = R) := hR
      have S1 : Hid _ := S1
      have B1 : Hid _ := B1
      clear hR hS hb h0
      cases R with
      | true =>
        have HLS : Hid ((lv.take (k + 1)).filter lvB = (lv.take k).filter lvB ++ [x]) := by
          have := HST.out
          rwa [if_pos HR.out] at this
        clear HST
        go_wp2_with (at_builtin; refine wpList_pushI rfl _ _ 24 rfl Try.underlying24 Try.info3' w.heap.size u5 _ rfl S1.out x rfl (by omega) z1 ?_; intro v2 w2 o2 b2)
        have S2 : Hid (OwnI w2 w.heap.size v2 ((lv.take (k + 1)).filter lvB)) := by
          rw [HLS.out]
          exact o2
        have B2 : Hid (Below w.heap.size w w2) := B1.out.trans b2
        go_roundw
        case rel => exact ⟨k + 1, by omega, by go_num, S2, B2⟩
        case measure => simp [intOf]; omega
      | false =>
        have HLS : Hid ((lv.take (k + 1)).filter lvB = (lv.take k).filter lvB) := by
          have := HST.out
          rwa [if_neg (by rw [HR.out]; simp), List.append_nil] at this
        clear HST
        have S2 := S1.out
        rw [← HLS.out] at S2
        have S3 : Hid _ := S2
        clear S2
        go_wp2_with fail
        go_roundw
        case rel => exact ⟨k + 1, by omega, by go_num, S3.out, B1⟩
        case measure => simp [intOf]; omega
    · obtain rfl : k = lv.length := by omega
      go_wp2_with fail
      go_ret
      exact ⟨_, rfl, by have := hS.out; rw [List.take_length] at this; exact this, hb.out⟩

theorem filt_all {lv : List Int} : (lv.filter lvB).length = lv.length ↔ lvsB lv = true := by
  unfold lvsB
  rw [List.length_filter_eq_length_iff, List.all_eq_true]

set_option maxRecDepth 100000 in
set_option maxHeartbeats 1000000 in
theorem toSay_any (s u : Sv) (lv : List Int) (tx : List ByteArray) (w : World) (hx : Hid (RI w s.v lv)) (hy : Hid (RT w u.v tx)) (hl : lv.length ≤ 1048576) (ht : tx.length ≤ 1048576) :
    Calls Try.prog 59 #[.slice s.a s.n s.c, .slice u.a u.n u.c] w fun e w' => e = .returned (.bool (sayB lv tx)) ∧ Below w.heap.size w w' := by
  obtain ⟨ao, cap, e1, h1⟩ := hx.out
  obtain ⟨at_, ct, e2, h2⟩ := hy.out
  unfold Sv.v at e1 e2
  rw [e1, e2]
  clear e1 e2 hx hy
  have X1 : Hid (IntsAt w ao lv) := h1
  have Y1 : Hid (TextsAt w at_ tx) := h2
  clear h1 h2
  unfold sayB
  by_cases c1 : tx.length ≤ 20
  · rw [decide_eq_true c1]
    have d1 : (tx.length : Int) ≤ 20 := by omega
    by_cases c2 : lv.length = tx.length
    · rw [decide_eq_true c2]
      have C2 : Hid (lv.length = tx.length) := c2
      have d2 : ((lv.length : Int) == (tx.length : Int)) = true := by simp; omega
      clear c2
      go_enter Try.func59, Try.ntmps59
      go_wp2_with fail
      refine (keptI_any ao cap lv w X1 hl).mono ?_
      rintro e w1 ⟨v1, rfl, o1, b1⟩
      obtain ⟨ao1, cap1, hf⟩ := o1.form
      subst hf
      have Y2 : Hid (TextsAt w1 at_ tx) := Y1.out.stays b1
      have B1 : Hid (Below w.heap.size w w1) := b1
      clear o1 b1
      by_cases c3 : (lv.filter lvB).length = lv.length
      · have E3 : Hid (lvsB lv = true) := filt_all.1 c3
        have d3 : (((lv.filter lvB).length : Int) == (lv.length : Int)) = true := by simp; omega
        clear c3
        go_wp2_with fail
        refine (fits_any at_ ct tx w1 Y2 ht).mono ?_
        rintro e w2 ⟨rfl, rfl⟩
        go_wp2_with fail
        go_ret
        exact ⟨by rw [E3.out]; rfl, B1.out⟩
      · have E3 : Hid (lvsB lv = false) := by
          cases h : lvsB lv with
          | false => rfl
          | true => exact absurd (filt_all.2 h) c3
        have d3 : (((lv.filter lvB).length : Int) == (lv.length : Int)) = false := by simp; omega
        clear c3
        go_wp2_with fail
        go_ret
        exact ⟨by rw [E3.out]; rfl, B1.out⟩
    · rw [decide_eq_false c2]
      have d2 : ((lv.length : Int) == (tx.length : Int)) = false := by simp; omega
      clear c2
      go_enter Try.func59, Try.ntmps59
      go_wp2_with fail
      go_ret
      exact ⟨rfl, Below.refl _ _⟩
  · rw [decide_eq_false c1]
    have d1 : ¬ (tx.length : Int) ≤ 20 := by omega
    go_enter Try.func59, Try.ntmps59
    go_wp2_with fail
    go_ret
    exact ⟨rfl, Below.refl _ _⟩
end Go.Proofs.Ythdjkkiegecgnaa
