/- The walks over a drawn list of names and over the law on what is sorted. -/
import Derived.Test.YtbdnnmcjnfbloaaT5
import Derived.Test.YtbdnnmcjnfbloaaD2
namespace Go.Proofs.Ytbdnnmcjnfbloaa
open Go.RowKit Pl
set_option linter.unusedVariables false

set_option maxRecDepth 100000 in
set_option maxHeartbeats 1000000 in
theorem big_any (w : World) (n cap : Nat) (ao : Option Addr) (b : Bool) (hb : decide (1048576 < (n : Int)) = b) :
    Calls Try.prog 6 #[.slice ao n cap] w fun e w' => e = .returned (.bool b) ∧ w' = w := by
  go_enter Try.func6, Try.ntmps6
  go_wp2
  go_ret
  exact ⟨by rw [← hb]; rfl, rfl⟩

set_option maxRecDepth 100000 in
set_option maxHeartbeats 1000000 in
theorem same_same (v1 v2 : Value) (ss : List ByteArray) (B1 B2 : Nat) (w : World) (h1 : OwnS w B1 v1 ss) (h2 : OwnS w B2 v2 ss) (hl : ss.length ≤ 1048576) :
    Calls Try.prog 10 #[v1, v2] w fun e w' => e = .returned (.bool true) ∧ Below w.heap.size w w' := by
  by_cases h0 : ss.length = 0
  · obtain ⟨ao1, cap1, rfl⟩ := h1.form
    obtain ⟨ao2, cap2, rfl⟩ := h2.form
    rw [h0]
    clear h1 h2
    go_enter Try.func10, Try.ntmps10
    go_wp2
    refine wp_loop_rounds 1 ?_
    rw [rounds_succ]
    go_wp2
    go_ret
    exact ⟨rfl, Below.refl _ _⟩
  · obtain ⟨g1, cap1, rfl, _, hg1, hc1, _⟩ := h1.some (by omega)
    obtain ⟨g2, cap2, rfl, _, hg2, hc2, _⟩ := h2.some (by omega)
    clear h1 h2
    go_enter Try.func10, Try.ntmps10
    go_wp2
    go_loopw [5] (fun i wr => ∃ k : Nat, k ≤ ss.length ∧ i = .int .i64 k ∧ Below w.heap.size w wr) (fun i _ => ss.length - (intOf i).toNat)
    case atStart => exact ⟨0, by omega, rfl, Below.refl _ _⟩
    case round =>
      obtain ⟨k, hk, rfl, hb⟩ := hrel
      by_cases hlt : k < ss.length
      · have hce1 : wr.cell? ⟨g1, k, none⟩ = some (.string ss[k]) := (hb.cell (p := ⟨g1, k, none⟩) hg1).trans (hc1 k hlt)
        have hce2 : wr.cell? ⟨g2, k, none⟩ = some (.string ss[k]) := (hb.cell (p := ⟨g2, k, none⟩) hg2).trans (hc2 k hlt)
        have hq1 : (0 : Int) ≤ (k : Int) := by omega
        have hq2 : (k : Int) < (ss.length : Int) := by omega
        clear hc1 hc2
        go_wp2
        go_quiet (fail)
        go_wp2
        go_roundw
        case rel => exact ⟨k + 1, by omega, by go_num, below_drewN hb _⟩
        case measure => simp [intOf]; omega
      · go_wp2
        go_ret
        exact ⟨rfl, hb⟩


set_option maxRecDepth 100000 in
set_option maxHeartbeats 1000000 in
theorem has_any (w : World) (ao : Option Addr) (cap : Nat) (ss : List ByteArray) (x : ByteArray) (hx : Hid (TextsAt w ao ss)) (hl : ss.length ≤ 1048576) (hm : Hid (x ∈ ss)) :
    Calls Try.prog 9 #[.slice ao ss.length cap, .string x] w fun e w' => e = .returned (.bool true) ∧ w' = w := by
  obtain ⟨m, hm1, hm2⟩ := List.getElem_of_mem hm.out
  have HM : Hid (ss[m] = x) := hm2
  clear hm2
  go_enter Try.func9, Try.ntmps9
  go_wp2
  go_loop [5] (fun i => ∃ k : Nat, k ≤ m ∧ i = .int .i64 k) (fun i => ss.length - (intOf i).toNat)
  case atStart => exact ⟨0, by omega, rfl⟩
  case round =>
    obtain ⟨k, hk, rfl⟩ := hrel
    have hlt : k < ss.length := by omega
    obtain ⟨b, off, rfl, hb, hc⟩ := hx.out k hlt
    obtain ⟨t, ht⟩ : ∃ t, t = ss[k] := ⟨_, rfl⟩
    rw [← ht] at hc
    have HT : Hid (t = ss[k]) := ht
    clear ht
    by_cases he : t = x
    · have hbe : (t.toList == x.toList) = true := by rw [he]; simp
      clear he
      go_wp2
      go_ret
      exact ⟨rfl, rfl⟩
    · have hbe : (t.toList == x.toList) = false := by
        rw [beq_eq_false_iff_ne, ByteArray.toList_eq, ByteArray.toList_eq]
        exact fun e => he (text_ext e)
      have hkm : k ≠ m := by
        intro e
        subst e
        exact he (HT.out.trans HM.out)
      clear he
      go_wp2
      go_round
      case rel => exact ⟨k + 1, by omega, by go_num⟩
      case measure => simp [intOf]; omega

theorem OwnS_keep {w w' : World} {B g : Nat} {v : Value} {ss : List ByteArray} (h : OwnS w B v ss) (hk : KeepBut g w w') (hg : g < B) : OwnS w' B v ss := by
  refine ⟨h.1, ?_⟩
  rcases h.2 with hn | ⟨k, cap, cur, rfl, hbg, hk2, rest⟩
  · exact .inl hn
  · exact .inr ⟨k, cap, cur, rfl, hbg, (hk.block k (Array.getElem?_eq_some_iff.1 hk2).1 (by omega)).trans hk2, rest⟩

/-- short texts. -/
def Short (ts : List ByteArray) : Prop := ∀ t ∈ ts, t.size ≤ 13

set_option maxRecDepth 100000 in
set_option maxHeartbeats 2000000 in
theorem drawSort (w : World) (n cap : Nat) (ao : Option Addr) (hn : n ≤ 1048576) (hk : Hid (CodeAt w w.heap.size ao n)) :
    Calls Try.prog 7 #[.slice ao n cap] w fun e w' => (∃ (v : Value) (ts : List ByteArray), e = .returned v ∧ ts.length ≤ 8 ∧ Hid (Short ts) ∧ Hid (OwnS w' (w.heap.size + 1) v ts)) ∧ Below w.heap.size w w' := by
  go_enter Try.func7, Try.ntmps7
  go_wp2_with (first | (go_at_call 19; refine (new_any _ n cap ao hn hk).mono ?_; rintro e w1 ⟨rfl, hc1, hb1, hs1⟩; have hlt1 : w.heap.size + 1 ≤ w1.heap.size := (by omega); clear hs1))
  go_loopw [4, 5] (fun v i wr => ∃ (k : Nat) (ts : List ByteArray), i = .int .i64 k ∧ k ≤ 7 ∧ ts.length = k ∧ Hid (Short ts) ∧ Hid (OwnS wr (w.heap.size + 1) v ts) ∧ Hid (CurAt wr 45 w.heap.size ao n cap) ∧ Hid (CodeAt wr w.heap.size ao n) ∧ Hid (Below w.heap.size w wr) ∧ w.heap.size + 1 ≤ wr.heap.size) (fun _ i _ => 8 - (intOf i).toNat)
  case atStart =>
    have hb3 : Below w1.heap.size w1 (w1.alloc (.cells #[] 9)) := (Below.refl _ _).alloc (Nat.le_refl _) _
    refine ⟨0, [], rfl, by omega, rfl, (show Short _ from fun x hx => by cases hx), OwnS.made w1 _ hlt1, CurAt.stays hc1.out hb3 (by omega), (hk.out.stays hb1 (Nat.le_refl _)).stays hb3 (by omega), hb1.trans (hb3.mono (by omega)), ?_⟩
    have := hb3.size
    omega
  case round =>
    obtain ⟨k, ts, rfl, hkN, hxl, hsm, hown, hcr, hkr, hbr, hsz⟩ := hrel
    have hd := Drw.start hcr.out hkr.out
    go_wp2_with (first | (go_at_call 20; refine (below_small wr _ w.heap.size w.heap.size n cap 8 ao hn (Nat.le_refl _) (by omega) (by omega) (by assumption)).mono ?_; rintro e w2 ⟨⟨y, hy, rfl⟩, hd2⟩; clear hd) | (go_at_call 21; refine (any_any wr _ w.heap.size w.heap.size n cap ao hn (Nat.le_refl _) (by assumption)).mono ?_; rintro e w3 ⟨⟨t, ht, rfl⟩, hd3⟩; have hs3 : w.heap.size + 1 ≤ w3.heap.size := Nat.le_trans hsz hd3.out.2.2.size; have hown3 := OwnS_keep hown.out hd3.out.2.2 (Nat.lt_succ_self _)) | (at_builtin; refine wpList_pushS rfl _ _ 24 rfl Try.underlying24 Try.info9 (w.heap.size + 1) _ ts rfl hown3 _ rfl (by omega) (by omega) ?_; intro v4 w4 hown4 hb4))
    · go_roundw
      case rel =>
        have hb3 : Below w.heap.size wr w3 := hd3.out.2.2.below (Nat.le_refl _) (by omega)
        have hs4 := hb4.size
        refine ⟨k + 1, _, by go_num, by omega, by simp [hxl], ?_, hown4, CurAt.stays hd3.out.1 hb4 (Nat.lt_succ_self _), hd3.out.2.1.stays hb4 (by omega), (show Below w.heap.size w w4 from (hbr.out.trans hb3).trans (hb4.mono (by omega))), by omega⟩
        show Short _
        intro x hx
        rcases List.mem_append.1 hx with hx | hx
        · exact hsm.out x hx
        · obtain rfl := List.mem_singleton.1 hx
          omega
      case measure => simp [intOf]; omega
    · go_ret
      exact ⟨⟨_, ts, rfl, by omega, hsm, OwnS_keep hown.out hd2.out.2.2 (Nat.lt_succ_self _)⟩, hbr.out.trans (hd2.out.2.2.below (Nat.le_refl _) (by omega))⟩
end Go.Proofs.Ytbdnnmcjnfbloaa
