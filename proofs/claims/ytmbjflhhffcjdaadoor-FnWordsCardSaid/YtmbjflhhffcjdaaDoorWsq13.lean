/- Joined texts: CTin CTso. -/
import Derived.Test.YtmbjflhhffcjdaaDoorWsq11
import Derived.Test.YtmbjflhhffcjdaaDoorWsq12
/- The walks over an insertion and over the specification's SortNames. -/
namespace Go.Proofs.YtmbjflhhffcjdaaDoor
open Go.RowKit Pl
set_option linter.unusedVariables false

/-- the texts ahead of k that are less than x. -/
def loT (us : List ByteArray) (x : ByteArray) (k : Nat) : List ByteArray := (us.take k).filter (fun y => tltB y x)
/-- .. and those that are more. -/
def hiT (us : List ByteArray) (x : ByteArray) (k : Nat) : List ByteArray := (us.take k).filter (fun y => tltB x y)

theorem loT_yes {us : List ByteArray} {x : ByteArray} {k : Nat} (hk : k < us.length) (h : Tlt us[k] x) : loT us x (k + 1) = loT us x k ++ [us[k]] := by
  unfold loT
  rw [List.take_succ_eq_append_getElem hk, List.filter_append]
  simp [tltB_iff, h]
theorem loT_no {us : List ByteArray} {x : ByteArray} {k : Nat} (hk : k < us.length) (h : ¬ Tlt us[k] x) : loT us x (k + 1) = loT us x k := by
  unfold loT
  rw [List.take_succ_eq_append_getElem hk, List.filter_append]
  simp [tltB_iff, h]
theorem hiT_yes {us : List ByteArray} {x : ByteArray} {k : Nat} (hk : k < us.length) (h : Tlt x us[k]) : hiT us x (k + 1) = hiT us x k ++ [us[k]] := by
  unfold hiT
  rw [List.take_succ_eq_append_getElem hk, List.filter_append]
  simp [tltB_iff, h]
theorem hiT_no {us : List ByteArray} {x : ByteArray} {k : Nat} (hk : k < us.length) (h : ¬ Tlt x us[k]) : hiT us x (k + 1) = hiT us x k := by
  unfold hiT
  rw [List.take_succ_eq_append_getElem hk, List.filter_append]
  simp [tltB_iff, h]
theorem loT_le (us : List ByteArray) (x : ByteArray) (k : Nat) : (loT us x k).length ≤ us.length := by
  unfold loT
  have h1 : ((us.take k).filter (fun y => tltB y x)).length ≤ (us.take k).length := List.length_filter_le _ _
  have h3 : (us.take k).length ≤ us.length := by rw [List.length_take]; omega
  exact Nat.le_trans h1 h3
theorem hiT_le (us : List ByteArray) (x : ByteArray) (k : Nat) : (hiT us x k).length ≤ us.length := by
  unfold hiT
  have h1 : ((us.take k).filter (fun y => tltB x y)).length ≤ (us.take k).length := List.length_filter_le _ _
  have h3 : (us.take k).length ≤ us.length := by rw [List.length_take]; omega
  exact Nat.le_trans h1 h3
theorem insT_lo_hi (us : List ByteArray) (x : ByteArray) : loT us x us.length ++ [x] ++ hiT us x us.length = insT us x := by
  unfold loT hiT insT
  rw [List.take_length]
  simp

theorem less_yes {a b : ByteArray} (h : Tlt a b) : Op.bytesLess a.toList b.toList = true := by
  rw [bytesLess_eq, ByteArray.toList_eq, ByteArray.toList_eq]
  simpa [Tlt] using h
theorem less_no {a b : ByteArray} (h : ¬ Tlt a b) : Op.bytesLess a.toList b.toList = false := by
  rw [bytesLess_eq, ByteArray.toList_eq, ByteArray.toList_eq]
  simpa [Tlt] using h
theorem more_yes {a b : ByteArray} (h : Tlt b a) : Op.bytesLess a.toList b.toList = false ∧ (a.toList == b.toList) = false := by
  refine ⟨less_no (tlt_asymm h), ?_⟩
  rw [beq_eq_false_iff_ne, ByteArray.toList_eq, ByteArray.toList_eq]
  intro e
  rw [text_ext e] at h
  exact tlt_irrefl h
theorem more_no {a b : ByteArray} (h : ¬ Tlt b a) : (Op.bytesLess a.toList b.toList || a.toList == b.toList) = true := by
  by_cases h1 : Tlt a b
  · rw [less_yes h1]; rfl
  · have e := tlt_total h1 h
    subst e
    simp

set_option maxRecDepth 100000 in
set_option maxHeartbeats 2000000 in
theorem insT_any (w : World) (ao : Option Addr) (cap : Nat) (us : List ByteArray) (x : ByteArray) (hx : Hid (TextsAt w ao us)) (hl : us.length ≤ 1048576) :
    Calls Tryd.prog 124 #[.slice ao us.length cap, .string x] w fun e w' => ∃ v, e = .returned v ∧ OwnS w' w.heap.size v (insT us x) ∧ Below w.heap.size w w' := by
  go_enter Tryd.func124, Tryd.ntmps124
  go_wp2
  go_loopw [5, 6] (fun v i wr => ∃ k : Nat, k ≤ us.length ∧ i = .int .i64 k ∧ OwnS wr w.heap.size v (loT us x k) ∧ Below w.heap.size w wr) (fun _ i _ => us.length - (intOf i).toNat)
  case atStart => exact ⟨0, by omega, rfl, OwnS.made w _ (Nat.le_refl _), (Below.refl _ _).alloc (Nat.le_refl _) _⟩
  case round =>
    obtain ⟨k, hk, rfl, hown, hb⟩ := hrel
    have hsz := hb.size
    have hll := loT_le us x k
    by_cases hlt : k < us.length
    · obtain ⟨b, off, rfl, hbb, hc⟩ := hx.out k hlt
      have hc' : wr.cell? ⟨b, off + k, none⟩ = some (.string us[k]) := (hb.cell (p := ⟨b, off + k, none⟩) hbb).trans hc
      obtain ⟨t, ht⟩ : ∃ t, t = us[k] := ⟨_, rfl⟩
      rw [← ht] at hc'
      clear hc
      by_cases h1 : Tlt t x
      · have HL : Hid (loT us x (k + 1) = loT us x k ++ [t]) := by rw [ht] at h1 ⊢; exact loT_yes hlt h1
        have hls := less_yes h1
        clear h1 ht
        go_wp2_with (first | (at_builtin; refine wpList_pushS rfl _ _ 24 rfl Tryd.underlying24 Tryd.info9 w.heap.size _ (loT us x k) rfl hown _ rfl (by omega) (by omega) ?_; intro v1 w1 hown1 hb1))
        go_roundw
        case rel => exact ⟨k + 1, by omega, by go_num, by rw [HL.out]; exact hown1, hb.trans hb1⟩
        case measure => simp [intOf]; omega
      · have HL : Hid (loT us x (k + 1) = loT us x k) := by rw [ht] at h1; exact loT_no hlt h1
        have hls := less_no h1
        clear h1 ht
        go_wp2
        go_roundw
        case rel => exact ⟨k + 1, by omega, by go_num, by rw [HL.out]; exact hown, hb⟩
        case measure => simp [intOf]; omega
    · obtain rfl : k = us.length := by omega
      go_wp2_with (first | (at_builtin; refine wpList_pushS rfl _ _ 24 rfl Tryd.underlying24 Tryd.info9 w.heap.size _ (loT us x us.length) rfl hown _ rfl (by omega) (by omega) ?_; intro v1 w1 hown1 hb1))
      have hb2 := hb.trans hb1
      clear hown hb hb1 hsz
      go_loopw [5, 7] (fun v i wr => ∃ k : Nat, k ≤ us.length ∧ i = .int .i64 k ∧ OwnS wr w.heap.size v (loT us x us.length ++ [x] ++ hiT us x k) ∧ Below w.heap.size w wr) (fun _ i _ => us.length - (intOf i).toNat)
      case atStart => exact ⟨0, by omega, rfl, by simpa [hiT] using hown1, hb2⟩
      case round =>
        obtain ⟨k, hk, rfl, hown, hb⟩ := hrel
        have hsz := hb.size
        have hhl := hiT_le us x k
        have hlen : (loT us x us.length ++ [x] ++ hiT us x k).length < 4000000 := by simp only [List.length_append, List.length_cons, List.length_nil]; omega
        by_cases hlt : k < us.length
        · obtain ⟨b, off, rfl, hbb, hc⟩ := hx.out k hlt
          have hc' : wr.cell? ⟨b, off + k, none⟩ = some (.string us[k]) := (hb.cell (p := ⟨b, off + k, none⟩) hbb).trans hc
          obtain ⟨t, ht⟩ : ∃ t, t = us[k] := ⟨_, rfl⟩
          rw [← ht] at hc'
          clear hc
          by_cases h1 : Tlt x t
          · have HL : Hid (loT us x us.length ++ [x] ++ hiT us x (k + 1) = loT us x us.length ++ [x] ++ hiT us x k ++ [t]) := by
              rw [ht] at h1 ⊢
              show _ = _
              rw [hiT_yes hlt h1, ← List.append_assoc]
            obtain ⟨hls, hle⟩ := more_yes h1
            clear h1 ht
            generalize hX : loT us x us.length ++ [x] ++ hiT us x k = X at hown hlen HL
            clear hX
            go_wp2_with (first | (at_builtin; refine wpList_pushS rfl _ _ 24 rfl Tryd.underlying24 Tryd.info9 w.heap.size _ X rfl hown _ rfl hlen (by omega) ?_; intro v1 w1 hown1 hb1))
            go_roundw
            case rel => exact ⟨k + 1, by omega, by go_num, by rw [HL.out]; exact hown1, hb.trans hb1⟩
            case measure => simp [intOf]; omega
          · have HL : Hid (hiT us x (k + 1) = hiT us x k) := by rw [ht] at h1; exact hiT_no hlt h1
            have hls := more_no h1
            clear h1 ht
            go_wp2
            go_roundw
            case rel => exact ⟨k + 1, by omega, by go_num, by rw [HL.out]; exact hown, hb⟩
            case measure => simp [intOf]; omega
        · obtain rfl : k = us.length := by omega
          go_wp2
          go_ret
          exact ⟨_, rfl, by rw [← insT_lo_hi]; exact hown, hb⟩
end Go.Proofs.YtmbjflhhffcjdaaDoor


/- The walk over the specification's SortNames. -/
namespace Go.Proofs.YtmbjflhhffcjdaaDoor
open Go.RowKit Pl
set_option linter.unusedVariables false

set_option maxRecDepth 100000 in
set_option maxHeartbeats 2000000 in
theorem specSort (w : World) (ao : Option Addr) (cap : Nat) (ts : List ByteArray) (hx : Hid (TextsAt w ao ts)) (hl : ts.length ≤ 1048576) :
    Calls Tryd.prog 119 #[.slice ao ts.length cap] w fun e w' => ∃ v us, e = .returned v ∧ SetOf ts us ∧ us.length ≤ ts.length ∧ OwnS w' w.heap.size v us ∧ Below w.heap.size w w' := by
  go_enter Tryd.func119, Tryd.ntmps119
  go_wp2
  go_loopw [3, 4] (fun v i wr => ∃ (k : Nat) (us : List ByteArray), k ≤ ts.length ∧ i = .int .i64 k ∧ Hid (SetOf (ts.take k) us) ∧ us.length ≤ k ∧ Hid (OwnS wr w.heap.size v us) ∧ Below w.heap.size w wr) (fun _ i _ => ts.length - (intOf i).toNat)
  case atStart => exact ⟨0, [], by omega, rfl, setOf_nil, by simp, OwnS.made w _ (Nat.le_refl _), (Below.refl _ _).alloc (Nat.le_refl _) _⟩
  case round =>
    obtain ⟨k, us, hk, rfl, hst, hul, hown, hb⟩ := hrel
    have hsz := hb.size
    obtain ⟨ao1, cap1, rfl, htx⟩ := hown.out.texts
    by_cases hlt : k < ts.length
    · obtain ⟨b, off, rfl, hbb, hc⟩ := hx.out k hlt
      have hc' : wr.cell? ⟨b, off + k, none⟩ = some (.string ts[k]) := (hb.cell (p := ⟨b, off + k, none⟩) hbb).trans hc
      obtain ⟨t, ht⟩ : ∃ t, t = ts[k] := ⟨_, rfl⟩
      rw [← ht] at hc'
      have HT : Hid (SetOf (ts.take (k + 1)) (insT us t)) := by
        show SetOf _ _
        rw [List.take_succ_eq_append_getElem hlt, ← ht]
        exact setOf_step hst.out t
      have HI := insT_length us t
      clear ht hc
      have HX : Hid (TextsAt wr ao1 us) := htx
      clear htx
      go_wp2_with (first | (go_at_call 124; refine (insT_any _ ao1 cap1 us t HX (by omega)).mono ?_; rintro e w1 ⟨v1, rfl, hown1, hb1⟩))
      go_roundw
      case rel => exact ⟨k + 1, insT us t, by omega, by go_num, HT, by omega, hown1.down hsz, hb.trans (hb1.mono hsz)⟩
      case measure => simp [intOf]; omega
    · obtain rfl : k = ts.length := by omega
      clear htx
      go_wp2
      go_ret
      refine ⟨_, us, rfl, ?_, hul, hown.out, hb⟩
      have := hst.out
      rwa [List.take_length] at this
end Go.Proofs.YtmbjflhhffcjdaaDoor


