/- Lists of texts that a law sizes, copies, compares and writes over. -/
import Derived.Test.YtfefjkldjaabbaaOwS
import Derived.Test.YtfefjkldjaabbaaMk
namespace Go.Proofs.Ytfefjkldjaabbaa
open Go.RowKit Pl
set_option linter.unusedVariables false

theorem below_drewK {B : Nat} {a w : World} (h : Below B a w) (n : Nat) : Below B a (w.drewN n) := h.trans ⟨rfl, rfl, rfl, Nat.le_refl _, fun _ _ => rfl⟩
theorem grown_transC {a b c : World} {row : Option Nat} (h : a.grownBy b row) (k : b.grownBy c row) : a.grownBy c row := grown_tr h k
theorem bl_next {a b c : World} (h : Below a.heap.size a b) (k : Below b.heap.size b c) : Below a.heap.size a c := h.trans (k.mono h.size)
theorem Try.info9 : (Try.prog.info? 9).map (fun i => (i.zero, i.size, i.bytes)) = some (some (.string ⟨#[]⟩), 1, 16) := by kernel_rfl

set_option maxRecDepth 100000 in
set_option maxHeartbeats 1000000 in
theorem szS_any (w : World) (ao : Option Addr) (cap L : Nat) (ts : List ByteArray) (hx : Hid (TextsAt w ao ts)) (hlen : ts.length ≤ maxLen) (hsz : Hid (∀ t ∈ ts, t.size ≤ maxLen)) (hL : L ≤ 1048576) :
    Calls Try.prog 29 #[.slice ao ts.length cap, .int .i64 L] w fun e w' => (e = .returned (.int .i64 (-1)) ∨ ∃ r : Nat, e = .returned (.int .i64 r) ∧ Hid (r + ts.length ≤ L ∧ ∀ t ∈ ts, t.size ≤ 1048576)) ∧ w' = w := by
  unfold maxLen at hlen
  by_cases h : ts.length ≤ L
  · go_enter Try.func29, Try.ntmps29
    go_wp2
    go_loop [1, 5] (fun l i => ∃ k r : Nat, k ≤ ts.length ∧ i = .int .i64 k ∧ l = .int .i64 r ∧ r + ts.length ≤ L ∧ Hid (∀ j (hj : j < ts.length), j < k → ts[j].size ≤ 1048576)) (fun _ i => ts.length - (intOf i).toNat)
    case atStart => exact ⟨0, L - ts.length, by omega, rfl, by go_num, by omega, fun j _ hj => by omega⟩
    case round =>
      obtain ⟨k, r, hk, rfl, rfl, hr, hst⟩ := hrel
      by_cases hlt : k < ts.length
      · obtain ⟨b, off, rfl, hb, hc⟩ := hx.out k hlt
        have hm : (ts[k]).size ≤ 9223372036854775807 := by
          have := hsz.out _ (List.getElem_mem hlt)
          unfold maxLen at this
          omega
        obtain ⟨t, ht⟩ : ∃ t, t = ts[k] := ⟨_, rfl⟩
        rw [← ht] at hc hm
        have HT : Hid (t = ts[k]) := ht
        clear ht
        by_cases hle : t.size ≤ r
        · go_wp2
          go_round
          case rel =>
            refine ⟨k + 1, r - t.size, by omega, by go_num, by go_num, by omega, ?_⟩
            show ∀ j (hj : j < ts.length), j < k + 1 → _
            intro j hj hjk
            by_cases e : j = k
            · subst e; rw [← HT.out]; omega
            · exact hst.out j hj (by omega)
          case measure => simp [intOf]; omega
        · go_wp2
          go_ret
          exact ⟨.inl rfl, rfl⟩
      · go_wp2
        go_ret
        refine ⟨.inr ⟨r, rfl, ?_⟩, rfl⟩
        refine ⟨hr, fun t ht => ?_⟩
        obtain ⟨j, hj, rfl⟩ := List.getElem_of_mem ht
        exact hst.out j hj (by omega)
  · go_enter Try.func29, Try.ntmps29
    go_wp2
    go_ret
    exact ⟨.inl rfl, rfl⟩

set_option maxRecDepth 100000 in
set_option maxHeartbeats 1000000 in
theorem toS_any (w : World) (ao : Option Addr) (cap : Nat) (ts : List ByteArray) (hx : Hid (TextsAt w ao ts)) (hl : ts.length ≤ 1048576) :
    Calls Try.prog 30 #[.slice ao ts.length cap] w fun e w' => ∃ v, e = .returned v ∧ OwnS w' w.heap.size v ts ∧ Below w.heap.size w w' := by
  obtain ⟨i0, hi, hz0, hz1, hz2⟩ := info_parts Try.info9
  have hM : madeCells (Value.string ⟨#[]⟩).cells ts.length = ((List.replicate ts.length (⟨#[]⟩ : ByteArray)).map Value.string).toArray := by
    apply Array.ext'
    rw [show (Value.string ⟨#[]⟩).cells = #[Value.string ⟨#[]⟩] from rfl, toList_madeCells_one]
    simp
  have hmk : ∀ W : World, (Instr.makeSlice 26 (.int .i64 (ts.length : Int)) (.int .i64 (ts.length : Int))).run Try.prog W = .ok (.slice (some ⟨W.heap.size, 0, none⟩) ts.length ts.length) (W.alloc (.cells ((List.replicate ts.length (⟨#[]⟩ : ByteArray)).map Value.string).toArray 9)) := fun W => by
    have h := run_make (P := Try.prog) W 26 9 i0 (.string ⟨#[]⟩) Try.underlying26 hi hz0 .i64 .i64 (ts.length : Int) (ts.length : Int) (by omega) (by omega) (by rw [hz2]; omega) (by omega)
    rw [hz1, Int.toNat_natCast, Nat.mul_one, hM] at h
    simpa using h
  clear hM
  have H0 : Hid (OwnS (w.alloc (.cells ((List.replicate ts.length (⟨#[]⟩ : ByteArray)).map Value.string).toArray 9)) w.heap.size (.slice (some ⟨w.heap.size, 0, none⟩) ts.length ts.length) (List.replicate ts.length ⟨#[]⟩)) := by
    have := OwnS.lit w w.heap.size (List.replicate ts.length ⟨#[]⟩) (Nat.le_refl _) (by rw [List.length_replicate]; omega)
    rw [List.length_replicate] at this
    exact this
  generalize hA : ((List.replicate ts.length (⟨#[]⟩ : ByteArray)).map Value.string).toArray = A at hmk H0
  clear hA
  go_enter Try.func30, Try.ntmps30
  go_wp2
  go_loopw [4] (fun i wr => ∃ (k : Nat) (xs : List ByteArray), k ≤ ts.length ∧ i = .int .i64 k ∧ Hid (xs.length = ts.length) ∧ Hid (xs.take k = ts.take k) ∧ Hid (OwnS wr w.heap.size (.slice (some ⟨w.heap.size, 0, none⟩) ts.length ts.length) xs) ∧ w.heap.size < wr.heap.size ∧ Below w.heap.size w wr) (fun i _ => ts.length - (intOf i).toNat)
  case atStart => exact ⟨0, _, by omega, rfl, List.length_replicate, rfl, H0.out, by simp, (Below.refl _ _).alloc (Nat.le_refl _) _⟩
  case round =>
    obtain ⟨k, xs, hk, rfl, hxl, htk, hown, hsz, hb⟩ := hrel
    by_cases hlt : k < ts.length
    · obtain ⟨b, off, rfl, hbb, hc⟩ := hx.out k hlt
      have hc' : wr.cell? ⟨b, off + k, none⟩ = some (.string ts[k]) := (hb.cell (p := ⟨b, off + k, none⟩) hbb).trans hc
      obtain ⟨t, ht⟩ : ∃ t, t = ts[k] := ⟨_, rfl⟩
      rw [← ht] at hc'
      have HT : Hid (t = ts[k]) := ht
      clear ht hc
      have hown2 : OwnS wr w.heap.size (.slice (some ⟨w.heap.size, 0, none⟩) xs.length ts.length) xs := by rw [hxl.out]; exact hown.out
      obtain ⟨x, hce⟩ : ∃ x, wr.cell? ⟨w.heap.size, k, none⟩ = some (.string x) := ⟨xs[k]'(by rw [hxl.out]; exact hlt), by
        have := World.ownsRow.cellAt hown2 k (by rw [hxl.out]; omega)
        rw [this]
        simp [hxl.out, hlt]⟩
      have hfz : wr.frozen? ⟨w.heap.size, k, none⟩ = false := World.ownsRow.frozenAt hown2 k
      have HO : Hid _ := hown2.store k t
      clear hown2
      go_wp2
      go_roundw
      case rel =>
        refine ⟨k + 1, xs.set k t, by omega, by go_num, by rw [List.length_set]; exact hxl.out, ?_, ?_, ?_, hb.setCell (Nat.le_refl _) _⟩
        · show (xs.set k t).take (k + 1) = ts.take (k + 1)
          have hkx : k < xs.length := by rw [hxl.out]; exact hlt
          rw [List.take_succ_eq_append_getElem (by rw [List.length_set]; exact hkx), List.take_succ_eq_append_getElem hlt, List.take_set_of_le (Nat.le_refl _), htk.out, HT.out]
          simp
        · show OwnS _ _ _ _
          have := HO.out.1
          rw [hxl.out] at this
          exact this
        · have := HO.out.2.size
          omega
      case measure => simp [intOf]; omega
    · obtain rfl : k = ts.length := by omega
      go_wp2
      go_ret
      refine ⟨_, rfl, ?_, hb⟩
      have e : xs = ts := by
        have := htk.out
        rwa [List.take_of_length_le (by rw [hxl.out]; exact Nat.le_refl _), List.take_of_length_le (Nat.le_refl _)] at this
      rw [← e, hxl.out]
      exact hown.out



set_option maxRecDepth 100000 in
set_option maxHeartbeats 1000000 in
theorem eqS_same (v1 v2 : Value) (ss : List ByteArray) (B1 B2 : Nat) (w : World) (h1 : OwnS w B1 v1 ss) (h2 : OwnS w B2 v2 ss) (hl : ss.length ≤ 1048577) :
    Calls Try.prog 19 #[v1, v2] w fun e w' => e = .returned (.bool true) ∧ Below w.heap.size w w' := by
  by_cases h0 : ss.length = 0
  · obtain ⟨ao1, cap1, rfl⟩ := h1.form
    obtain ⟨ao2, cap2, rfl⟩ := h2.form
    rw [h0]
    clear h1 h2
    go_enter Try.func19, Try.ntmps19
    go_wp2
    refine wp_loop_rounds 1 ?_
    rw [rounds_succ]
    go_wp2
    go_ret
    exact ⟨rfl, Below.refl _ _⟩
  · obtain ⟨g1, cap1, rfl, _, hg1, hc1, _⟩ := h1.some (by omega)
    obtain ⟨g2, cap2, rfl, _, hg2, hc2, _⟩ := h2.some (by omega)
    clear h1 h2
    go_enter Try.func19, Try.ntmps19
    go_wp2
    go_loopw [5] (fun i wr => ∃ k : Nat, k ≤ ss.length ∧ i = .int .i64 k ∧ Below w.heap.size w wr) (fun i _ => ss.length - (intOf i).toNat)
    case atStart => exact ⟨0, by omega, rfl, Below.refl _ _⟩
    case round =>
      obtain ⟨k, hk, rfl, hb⟩ := hrel
      by_cases hlt : k < ss.length
      · have hce1 : wr.cell? ⟨g1, k, none⟩ = some (.string ss[k]) := (hb.cell (p := ⟨g1, k, none⟩) hg1).trans (hc1 k hlt)
        have hce2 : wr.cell? ⟨g2, k, none⟩ = some (.string ss[k]) := (hb.cell (p := ⟨g2, k, none⟩) hg2).trans (hc2 k hlt)
        have hq1 : (0 : Int) ≤ (k : Int) := by omega
        have hq2 : (k : Int) < (ss.length : Int) := by omega
        clear hc1 hc2
        go_wp2
        go_quiet (fail)
        go_wp2
        go_roundw
        case rel => exact ⟨k + 1, by omega, by go_num, below_drewK hb _⟩
        case measure => simp [intOf]; omega
      · go_wp2
        go_ret
        exact ⟨rfl, hb⟩

set_option maxRecDepth 100000 in
set_option maxHeartbeats 1000000 in
theorem markSt_any (v : Value) (ss : List ByteArray) (B K : Nat) (w : World) (h1 : OwnS w B v ss) (hl : K + ss.length ≤ 4999990) (hK : 0 < K) :
    Calls Try.prog 20 #[v, .int .i64 K] w fun e w' => e = .returned (.int .i64 ((K + ss.length : Nat) : Int)) ∧ w.grownBy w' v.ownBlock := by
  by_cases h0 : ss.length = 0
  · obtain ⟨ao1, cap1, rfl⟩ := h1.form
    clear h1
    rw [h0]
    go_enter Try.func20, Try.ntmps20
    go_wp2
    refine wp_loop_rounds 1 ?_
    rw [rounds_succ]
    go_wp2
    go_ret
    exact ⟨rfl, World.grownBy.refl _ _⟩
  · obtain ⟨g, cap, rfl, hB, hg, hc, hf⟩ := h1.some (by omega)
    clear hc hf
    have HOWN : Hid (OwnS w B (.slice (some ⟨g, 0, none⟩) ss.length cap) ss) := h1
    clear h1
    go_enter Try.func20, Try.ntmps20
    go_wp2
    go_loopw [1, 5] (fun kk i wr => ∃ (j : Nat) (xs : List ByteArray), j ≤ ss.length ∧ i = .int .i64 j ∧ kk = .int .i64 ((K + j : Nat) : Int) ∧ Hid (xs.length = ss.length) ∧ OwnS wr B (.slice (some ⟨g, 0, none⟩) ss.length cap) xs ∧ g < wr.heap.size ∧ Hid (w.grownBy wr (some g))) (fun _ i _ => ss.length - (intOf i).toNat)
    case atStart => exact ⟨0, ss, by omega, rfl, rfl, rfl, HOWN.out, hg, World.grownBy.refl _ _⟩
    case round =>
      obtain ⟨j, xs, hj, rfl, rfl, hxl, hown, hgs, hgr⟩ := hrel
      by_cases hlt : j < ss.length
      · have hxl' := hxl.out
        have hown' : OwnS wr B (.slice (some ⟨g, 0, none⟩) xs.length cap) xs := by rw [hxl']; exact hown
        have hjx : j < xs.length := by omega
        obtain ⟨x, hce⟩ : ∃ x, wr.cell? ⟨g, j, none⟩ = some (.string x) := ⟨xs[j], by
          have := World.ownsRow.cellAt hown' j (by omega)
          rw [this]
          simp [hjx]⟩
        have hfz : wr.frozen? ⟨g, j, none⟩ = false := World.ownsRow.frozenAt hown' j
        clear hxl' hown'
        go_wp2_with (first | (go_at_call 47; refine (mark_at _ _ (by omega) (by omega)).mono ?_; rintro e w3 ⟨rfl, hb3⟩; have hce3 : w3.cell? ⟨g, j, none⟩ = some (.string x) := (hb3.cell (p := ⟨g, j, none⟩) hgs).trans hce; have hfz3 : w3.frozen? ⟨g, j, none⟩ = false := (hb3.frozen (p := ⟨g, j, none⟩) hgs).trans hfz))
        go_roundw
        case rel =>
          have hxl' := hxl.out
          have hown3 : OwnS w3 B (.slice (some ⟨g, 0, none⟩) xs.length cap) xs := by
            rw [hxl']
            exact hown.stays hb3 (fun t ht => by cases ht; exact hgs)
          have hst := hown3.store j (markS (K + j))
          have hs1 := hst.1
          rw [hxl'] at hs1
          refine ⟨j + 1, xs.set j (markS (K + j)), by omega, by go_num, by go_num, ?_, hs1, ?_, ?_⟩
          · show (xs.set j (markS (K + j))).length = ss.length
            rw [List.length_set]; exact hxl'
          · have h2 := hb3.size
            have h3 := hst.2.size
            omega
          · exact grown_transC hgr.out (grown_transC (grown_blM hb3) hst.2)
        case measure => simp [intOf]; omega
      · obtain rfl : j = ss.length := by omega
        go_wp2
        go_ret
        exact ⟨ret_int' (by omega), hgr.out⟩

theorem ownS_kept {w w' : World} {row : Option Nat} {B : Nat} {v : Value} {ss : List ByteArray} (h : OwnS w B v ss) (hg : w.grownBy w' row) (hne : ∀ k, v.ownBlock = Option.some k → Option.some k ≠ row) : OwnS w' B v ss := by
  refine ⟨h.1, ?_⟩
  rcases h.2 with hn | ⟨g, cap, cur, rfl, hbg, hk, rest⟩
  · exact .inl hn
  · exact .inr ⟨g, cap, cur, rfl, hbg, (hg.block g (Array.getElem?_eq_some_iff.1 hk).1 (hne g rfl)).trans hk, rest⟩
theorem ownS_later {w w' : World} {B : Nat} {v : Value} {ss : List ByteArray} (h : OwnS w B v ss) (hb : Below w.heap.size w w') : OwnS w' B v ss := h.stays hb (fun k hk => (h.lt k hk).2)
end Go.Proofs.Ytfefjkldjaabbaa
