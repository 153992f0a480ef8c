/- The walks over an insertion and over the specification's SortNames. -/
import Derived.Test.YtbdnnmcjnfbloaaT1
namespace Go.Proofs.Ytbdnnmcjnfbloaa
open Go.RowKit Pl
set_option linter.unusedVariables false

/-- the texts ahead of k that are less than x. -/
def lo (us : List ByteArray) (x : ByteArray) (k : Nat) : List ByteArray := (us.take k).filter (fun y => ltB y x)
/-- .. and those that are more. -/
def hi (us : List ByteArray) (x : ByteArray) (k : Nat) : List ByteArray := (us.take k).filter (fun y => ltB x y)

theorem lo_yes {us : List ByteArray} {x : ByteArray} {k : Nat} (hk : k < us.length) (h : Lt us[k] x) : lo us x (k + 1) = lo us x k ++ [us[k]] := by
  unfold lo
  rw [List.take_succ_eq_append_getElem hk, List.filter_append]
  simp [ltB_iff, h]
theorem lo_no {us : List ByteArray} {x : ByteArray} {k : Nat} (hk : k < us.length) (h : ¬ Lt us[k] x) : lo us x (k + 1) = lo us x k := by
  unfold lo
  rw [List.take_succ_eq_append_getElem hk, List.filter_append]
  simp [ltB_iff, h]
theorem hi_yes {us : List ByteArray} {x : ByteArray} {k : Nat} (hk : k < us.length) (h : Lt x us[k]) : hi us x (k + 1) = hi us x k ++ [us[k]] := by
  unfold hi
  rw [List.take_succ_eq_append_getElem hk, List.filter_append]
  simp [ltB_iff, h]
theorem hi_no {us : List ByteArray} {x : ByteArray} {k : Nat} (hk : k < us.length) (h : ¬ Lt x us[k]) : hi us x (k + 1) = hi us x k := by
  unfold hi
  rw [List.take_succ_eq_append_getElem hk, List.filter_append]
  simp [ltB_iff, h]
theorem lo_le (us : List ByteArray) (x : ByteArray) (k : Nat) : (lo us x k).length ≤ us.length := by
  unfold lo
  have h1 : ((us.take k).filter (fun y => ltB y x)).length ≤ (us.take k).length := List.length_filter_le _ _
  have h3 : (us.take k).length ≤ us.length := by rw [List.length_take]; omega
  exact Nat.le_trans h1 h3
theorem hi_le (us : List ByteArray) (x : ByteArray) (k : Nat) : (hi us x k).length ≤ us.length := by
  unfold hi
  have h1 : ((us.take k).filter (fun y => ltB x y)).length ≤ (us.take k).length := List.length_filter_le _ _
  have h3 : (us.take k).length ≤ us.length := by rw [List.length_take]; omega
  exact Nat.le_trans h1 h3
theorem ins_lo_hi (us : List ByteArray) (x : ByteArray) : lo us x us.length ++ [x] ++ hi us x us.length = ins us x := by
  unfold lo hi ins
  rw [List.take_length]
  simp

theorem less_yes {a b : ByteArray} (h : Lt a b) : Op.bytesLess a.toList b.toList = true := by
  rw [bytesLess_eq, ByteArray.toList_eq, ByteArray.toList_eq]
  simpa [Lt] using h
theorem less_no {a b : ByteArray} (h : ¬ Lt a b) : Op.bytesLess a.toList b.toList = false := by
  rw [bytesLess_eq, ByteArray.toList_eq, ByteArray.toList_eq]
  simpa [Lt] using h
theorem more_yes {a b : ByteArray} (h : Lt b a) : Op.bytesLess a.toList b.toList = false ∧ (a.toList == b.toList) = false := by
  refine ⟨less_no (lt_asymm h), ?_⟩
  rw [beq_eq_false_iff_ne, ByteArray.toList_eq, ByteArray.toList_eq]
  intro e
  rw [text_ext e] at h
  exact lt_irrefl h
theorem more_no {a b : ByteArray} (h : ¬ Lt b a) : (Op.bytesLess a.toList b.toList || a.toList == b.toList) = true := by
  by_cases h1 : Lt a b
  · rw [less_yes h1]; rfl
  · have e := lt_total h1 h
    subst e
    simp

set_option maxRecDepth 100000 in
set_option maxHeartbeats 2000000 in
theorem ins_any (w : World) (ao : Option Addr) (cap : Nat) (us : List ByteArray) (x : ByteArray) (hx : Hid (TextsAt w ao us)) (hl : us.length ≤ 1048576) :
    Calls Try.prog 27 #[.slice ao us.length cap, .string x] w fun e w' => ∃ v, e = .returned v ∧ OwnS w' w.heap.size v (ins us x) ∧ Below w.heap.size w w' := by
  go_enter Try.func27, Try.ntmps27
  go_wp2
  go_loopw [5, 6] (fun v i wr => ∃ k : Nat, k ≤ us.length ∧ i = .int .i64 k ∧ OwnS wr w.heap.size v (lo us x k) ∧ Below w.heap.size w wr) (fun _ i _ => us.length - (intOf i).toNat)
  case atStart => exact ⟨0, by omega, rfl, OwnS.made w _ (Nat.le_refl _), (Below.refl _ _).alloc (Nat.le_refl _) _⟩
  case round =>
    obtain ⟨k, hk, rfl, hown, hb⟩ := hrel
    have hsz := hb.size
    have hll := lo_le us x k
    by_cases hlt : k < us.length
    · obtain ⟨b, off, rfl, hbb, hc⟩ := hx.out k hlt
      have hc' : wr.cell? ⟨b, off + k, none⟩ = some (.string us[k]) := (hb.cell (p := ⟨b, off + k, none⟩) hbb).trans hc
      obtain ⟨t, ht⟩ : ∃ t, t = us[k] := ⟨_, rfl⟩
      rw [← ht] at hc'
      clear hc
      by_cases h1 : Lt t x
      · have HL : Hid (lo us x (k + 1) = lo us x k ++ [t]) := by rw [ht] at h1 ⊢; exact lo_yes hlt h1
        have hls := less_yes h1
        clear h1 ht
        go_wp2_with (first | (at_builtin; refine wpList_pushS rfl _ _ 24 rfl Try.underlying24 Try.info9 w.heap.size _ (lo us x k) rfl hown _ rfl (by omega) (by omega) ?_; intro v1 w1 hown1 hb1))
        go_roundw
        case rel => exact ⟨k + 1, by omega, by go_num, by rw [HL.out]; exact hown1, hb.trans hb1⟩
        case measure => simp [intOf]; omega
      · have HL : Hid (lo us x (k + 1) = lo us x k) := by rw [ht] at h1; exact lo_no hlt h1
        have hls := less_no h1
        clear h1 ht
        go_wp2
        go_roundw
        case rel => exact ⟨k + 1, by omega, by go_num, by rw [HL.out]; exact hown, hb⟩
        case measure => simp [intOf]; omega
    · obtain rfl : k = us.length := by omega
      go_wp2_with (first | (at_builtin; refine wpList_pushS rfl _ _ 24 rfl Try.underlying24 Try.info9 w.heap.size _ (lo us x us.length) rfl hown _ rfl (by omega) (by omega) ?_; intro v1 w1 hown1 hb1))
      have hb2 := hb.trans hb1
      clear hown hb hb1 hsz
      go_loopw [5, 7] (fun v i wr => ∃ k : Nat, k ≤ us.length ∧ i = .int .i64 k ∧ OwnS wr w.heap.size v (lo us x us.length ++ [x] ++ hi us x k) ∧ Below w.heap.size w wr) (fun _ i _ => us.length - (intOf i).toNat)
      case atStart => exact ⟨0, by omega, rfl, by simpa [hi] using hown1, hb2⟩
      case round =>
        obtain ⟨k, hk, rfl, hown, hb⟩ := hrel
        have hsz := hb.size
        have hhl := hi_le us x k
        have hlen : (lo us x us.length ++ [x] ++ hi us x k).length < 4000000 := by simp only [List.length_append, List.length_cons, List.length_nil]; omega
        by_cases hlt : k < us.length
        · obtain ⟨b, off, rfl, hbb, hc⟩ := hx.out k hlt
          have hc' : wr.cell? ⟨b, off + k, none⟩ = some (.string us[k]) := (hb.cell (p := ⟨b, off + k, none⟩) hbb).trans hc
          obtain ⟨t, ht⟩ : ∃ t, t = us[k] := ⟨_, rfl⟩
          rw [← ht] at hc'
          clear hc
          by_cases h1 : Lt x t
          · have HL : Hid (lo us x us.length ++ [x] ++ hi us x (k + 1) = lo us x us.length ++ [x] ++ hi us x k ++ [t]) := by
              rw [ht] at h1 ⊢
              show _ = _
              rw [hi_yes hlt h1, ← List.append_assoc]
            obtain ⟨hls, hle⟩ := more_yes h1
            clear h1 ht
            generalize hX : lo us x us.length ++ [x] ++ hi us x k = X at hown hlen HL
            clear hX
            go_wp2_with (first | (at_builtin; refine wpList_pushS rfl _ _ 24 rfl Try.underlying24 Try.info9 w.heap.size _ X rfl hown _ rfl hlen (by omega) ?_; intro v1 w1 hown1 hb1))
            go_roundw
            case rel => exact ⟨k + 1, by omega, by go_num, by rw [HL.out]; exact hown1, hb.trans hb1⟩
            case measure => simp [intOf]; omega
          · have HL : Hid (hi us x (k + 1) = hi us x k) := by rw [ht] at h1; exact hi_no hlt h1
            have hls := more_no h1
            clear h1 ht
            go_wp2
            go_roundw
            case rel => exact ⟨k + 1, by omega, by go_num, by rw [HL.out]; exact hown, hb⟩
            case measure => simp [intOf]; omega
        · obtain rfl : k = us.length := by omega
          go_wp2
          go_ret
          exact ⟨_, rfl, by rw [← ins_lo_hi]; exact hown, hb⟩
end Go.Proofs.Ytbdnnmcjnfbloaa
