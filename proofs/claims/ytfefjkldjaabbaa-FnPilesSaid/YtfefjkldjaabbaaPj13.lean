/- Joined texts: Mk Tx Ss0 Xm Mn DT. -/
import Derived.Test.YtfefjkldjaabbaaChecked
import Derived.Test.YtfefjkldjaabbaaPj1
import Derived.WalkKit
import Derived.WalkSpells
import Derived.WalkLawsBesides
import Derived.Below
import Derived.Test.YtfefjkldjaabbaaPj12
import Derived.Deep.RegionHeld3
import Derived.Deep.QuietTactic
import Derived.BigQuiet
import Derived.Test.YtfefjkldjaabbaaPj4
/- What a law writes over items, and looks at again. -/
namespace Go.Proofs.Ytfefjkldjaabbaa
open Go.RowKit Pl
set_option linter.unusedVariables false

theorem strOfNums_append (xs ys : List Int) : strOfNums xs ++ strOfNums ys = strOfNums (xs ++ ys) := by
  unfold strOfNums
  rw [ByteArray.mk_append_mk, List.map_append]

/-- what markText writes. -/
def markS (k : Nat) : ByteArray := strOfNums (109 :: decR k)

theorem strOf_one' {w : World} {b : Int} : (convert 22 9 (.slice (some ⟨w.heap.size, 0, none⟩) 1 1)).run Try.prog (w.alloc (.cells #[.int .u8 b] 5)) = .ok (.string (strOfNums [b])) (w.alloc (.cells #[.int .u8 b] 5)) := by
  refine run_convert_bytes_arg _ 22 5 Try.underlying22 Try.underlying5 w.heap.size 0 1 1 [b] rfl ?_ 9 Try.underlying9
  intro i hi
  obtain rfl : i = 0 := by omega
  simp

set_option maxRecDepth 100000 in
set_option maxHeartbeats 1000000 in
theorem markT_any (N : Nat) (w : World) (hN : N ≤ 5000000) (h0 : 0 < N) :
    Calls Try.prog 47 #[.int .i64 N] w fun e w' => e = .returned (.string (markS N)) ∧ Below w.heap.size w w' := by
  have hN0 : decide ((N : Int) ≤ 0) = false := by simp; omega
  go_enter Try.func47, Try.ntmps47
  go_wp2
  go_loopw [0, 3] (fun n v wr => ∃ (m : Nat) (xs : List Int), n = .int .i64 m ∧ m ≤ N ∧ v = .string (strOfNums xs) ∧ xs.length + m ≤ N ∧ Hid (decR m ++ xs = decR N) ∧ Below w.heap.size w wr) (fun n _ _ => (intOf n).toNat)
  case atStart => exact ⟨N, [], rfl, Nat.le_refl _, rfl, by simp, List.append_nil _, Below.refl _ _⟩
  case round =>
    obtain ⟨m, xs, rfl, hm, rfl, hx, hst, hb⟩ := hrel
    have hsz := hb.size
    have hss := strOfNums_size xs
    have hnn : ¬ 9223372036854775807 < 1 + xs.length := by omega
    by_cases hm0 : m = 0
    · subst hm0
      go_wp2
      go_ret
      have e1 : decR N = xs := by rw [← hst.out, decR_zero]; rfl
      refine ⟨?_, hb⟩
      rw [markS, e1, show strOfNums (109 :: xs) = (⟨#[109]⟩ : ByteArray) ++ strOfNums xs from (strOfNums_append [109] xs).symm]
      rfl
    · have hmp : 0 < m := by omega
      have hs1 : ∀ b : Int, (strOfNums [b]).size = 1 := fun b => rfl
      have hone := fun b => strOf_one' (w := wr) (b := b)
      go_wp2
      go_roundw
      case rel =>
        refine ⟨m / 10, (48 + ((m % 10 : Nat) : Int)) :: xs, by go_num, by omega, ?_, by simp; omega, ?_, hb.alloc hsz _⟩
        · show Value.string _ = Value.string (strOfNums ([48 + ((m % 10 : Nat) : Int)] ++ xs))
          rw [← strOfNums_append]; rfl
        · show decR (m / 10) ++ (48 + ((m % 10 : Nat) : Int)) :: xs = decR N
          rw [← hst.out, decR_pos hm0]
          simp
      case measure => simp [intOf]; omega

theorem ret_int' {k : IntKind} {a b : Int} (h : a = b) : Ending.returned (.int k a) = .returned (.int k b) := by rw [h]

theorem mark_at (a : Int) (w : World) (h0 : 0 < a) (h1 : a ≤ 5000000) :
    Calls Try.prog 47 #[.int .i64 a] w fun e w' => e = .returned (.string (markS a.toNat)) ∧ Below w.heap.size w w' := by
  obtain ⟨N, rfl⟩ : ∃ N : Nat, a = N := ⟨a.toNat, by omega⟩
  exact markT_any N w (by omega) (by omega)


theorem set_right {α : Type} (a b : List α) (n : Nat) (h : a.length = n) (j : Nat) (x : α) : (a ++ b).set (n + j) x = a ++ b.set j x := by
  subst h
  rw [List.set_append_right _ _ (by omega)]
  congr 2
  omega
theorem grown_tr {a b c : World} {row : Option Nat} (h : a.grownBy b row) (k : b.grownBy c row) : a.grownBy c row :=
  ⟨k.os.trans h.os, k.tape.trans h.tape, k.output.trans h.output, Nat.le_trans h.size k.size, fun i hi hn => (k.block i (Nat.lt_of_lt_of_le hi h.size) hn).trans (h.block i hi hn)⟩
theorem grown_blM {a b : World} {row : Option Nat} (h : Below a.heap.size a b) : a.grownBy b row := ⟨h.os, h.tape, h.output, h.size, fun k hk _ => h.block k hk⟩

theorem mkS_q (N : Nat) (w : World) (hN : N ≤ 5000000) (h0 : 0 < N) : Calls Try.prog 47 #[.int .i64 (N : Int)] w fun e w' => e = .returned (.string (markS N)) ∧ Below w.heap.size w w' := markT_any N w hN h0

end Go.Proofs.Ytfefjkldjaabbaa

/- Lists of texts that a law sizes, copies, compares and writes over. -/
namespace Go.Proofs.Ytfefjkldjaabbaa
open Go.RowKit Pl
set_option linter.unusedVariables false

theorem below_drewK {B : Nat} {a w : World} (h : Below B a w) (n : Nat) : Below B a (w.drewN n) := h.trans ⟨rfl, rfl, rfl, Nat.le_refl _, fun _ _ => rfl⟩
theorem grown_transC {a b c : World} {row : Option Nat} (h : a.grownBy b row) (k : b.grownBy c row) : a.grownBy c row := grown_tr h k
theorem bl_next {a b c : World} (h : Below a.heap.size a b) (k : Below b.heap.size b c) : Below a.heap.size a c := h.trans (k.mono h.size)
theorem Try.info9 : (Try.prog.info? 9).map (fun i => (i.zero, i.size, i.bytes)) = some (some (.string ⟨#[]⟩), 1, 16) := by kernel_rfl

set_option maxRecDepth 100000 in
set_option maxHeartbeats 1000000 in
theorem szS_any (w : World) (ao : Option Addr) (cap L : Nat) (ts : List ByteArray) (hx : Hid (TextsAt w ao ts)) (hlen : ts.length ≤ maxLen) (hsz : Hid (∀ t ∈ ts, t.size ≤ maxLen)) (hL : L ≤ 1048576) :
    Calls Try.prog 29 #[.slice ao ts.length cap, .int .i64 L] w fun e w' => (e = .returned (.int .i64 (-1)) ∨ ∃ r : Nat, e = .returned (.int .i64 r) ∧ Hid (r + ts.length ≤ L ∧ ∀ t ∈ ts, t.size ≤ 1048576)) ∧ w' = w := by
  unfold maxLen at hlen
  by_cases h : ts.length ≤ L
  · go_enter Try.func29, Try.ntmps29
    go_wp2
    go_loop [1, 5] (fun l i => ∃ k r : Nat, k ≤ ts.length ∧ i = .int .i64 k ∧ l = .int .i64 r ∧ r + ts.length ≤ L ∧ Hid (∀ j (hj : j < ts.length), j < k → ts[j].size ≤ 1048576)) (fun _ i => ts.length - (intOf i).toNat)
    case atStart => exact ⟨0, L - ts.length, by omega, rfl, by go_num, by omega, fun j _ hj => by omega⟩
    case round =>
      obtain ⟨k, r, hk, rfl, rfl, hr, hst⟩ := hrel
      by_cases hlt : k < ts.length
      · obtain ⟨b, off, rfl, hb, hc⟩ := hx.out k hlt
        have hm : (ts[k]).size ≤ 9223372036854775807 := by
          have := hsz.out _ (List.getElem_mem hlt)
          unfold maxLen at this
          omega
        obtain ⟨t, ht⟩ : ∃ t, t = ts[k] := ⟨_, rfl⟩
        rw [← ht] at hc hm
        have HT : Hid (t = ts[k]) := ht
        clear ht
        by_cases hle : t.size ≤ r
        · go_wp2
          go_round
          case rel =>
            refine ⟨k + 1, r - t.size, by omega, by go_num, by go_num, by omega, ?_⟩
            show ∀ j (hj : j < ts.length), j < k + 1 → _
            intro j hj hjk
            by_cases e : j = k
            · subst e; rw [← HT.out]; omega
            · exact hst.out j hj (by omega)
          case measure => simp [intOf]; omega
        · go_wp2
          go_ret
          exact ⟨.inl rfl, rfl⟩
      · go_wp2
        go_ret
        refine ⟨.inr ⟨r, rfl, ?_⟩, rfl⟩
        refine ⟨hr, fun t ht => ?_⟩
        obtain ⟨j, hj, rfl⟩ := List.getElem_of_mem ht
        exact hst.out j hj (by omega)
  · go_enter Try.func29, Try.ntmps29
    go_wp2
    go_ret
    exact ⟨.inl rfl, rfl⟩

set_option maxRecDepth 100000 in
set_option maxHeartbeats 1000000 in
theorem toS_any (w : World) (ao : Option Addr) (cap : Nat) (ts : List ByteArray) (hx : Hid (TextsAt w ao ts)) (hl : ts.length ≤ 1048576) :
    Calls Try.prog 30 #[.slice ao ts.length cap] w fun e w' => ∃ v, e = .returned v ∧ OwnS w' w.heap.size v ts ∧ Below w.heap.size w w' := by
  obtain ⟨i0, hi, hz0, hz1, hz2⟩ := info_parts Try.info9
  have hM : madeCells (Value.string ⟨#[]⟩).cells ts.length = ((List.replicate ts.length (⟨#[]⟩ : ByteArray)).map Value.string).toArray := by
    apply Array.ext'
    rw [show (Value.string ⟨#[]⟩).cells = #[Value.string ⟨#[]⟩] from rfl, toList_madeCells_one]
    simp
  have hmk : ∀ W : World, (Instr.makeSlice 26 (.int .i64 (ts.length : Int)) (.int .i64 (ts.length : Int))).run Try.prog W = .ok (.slice (some ⟨W.heap.size, 0, none⟩) ts.length ts.length) (W.alloc (.cells ((List.replicate ts.length (⟨#[]⟩ : ByteArray)).map Value.string).toArray 9)) := fun W => by
    have h := run_make (P := Try.prog) W 26 9 i0 (.string ⟨#[]⟩) Try.underlying26 hi hz0 .i64 .i64 (ts.length : Int) (ts.length : Int) (by omega) (by omega) (by rw [hz2]; omega) (by omega)
    rw [hz1, Int.toNat_natCast, Nat.mul_one, hM] at h
    simpa using h
  clear hM
  have H0 : Hid (OwnS (w.alloc (.cells ((List.replicate ts.length (⟨#[]⟩ : ByteArray)).map Value.string).toArray 9)) w.heap.size (.slice (some ⟨w.heap.size, 0, none⟩) ts.length ts.length) (List.replicate ts.length ⟨#[]⟩)) := by
    have := OwnS.lit w w.heap.size (List.replicate ts.length ⟨#[]⟩) (Nat.le_refl _) (by rw [List.length_replicate]; omega)
    rw [List.length_replicate] at this
    exact this
  generalize hA : ((List.replicate ts.length (⟨#[]⟩ : ByteArray)).map Value.string).toArray = A at hmk H0
  clear hA
  go_enter Try.func30, Try.ntmps30
  go_wp2
  go_loopw [4] (fun i wr => ∃ (k : Nat) (xs : List ByteArray), k ≤ ts.length ∧ i = .int .i64 k ∧ Hid (xs.length = ts.length) ∧ Hid (xs.take k = ts.take k) ∧ Hid (OwnS wr w.heap.size (.slice (some ⟨w.heap.size, 0, none⟩) ts.length ts.length) xs) ∧ w.heap.size < wr.heap.size ∧ Below w.heap.size w wr) (fun i _ => ts.length - (intOf i).toNat)
  case atStart => exact ⟨0, _, by omega, rfl, List.length_replicate, rfl, H0.out, by simp, (Below.refl _ _).alloc (Nat.le_refl _) _⟩
  case round =>
    obtain ⟨k, xs, hk, rfl, hxl, htk, hown, hsz, hb⟩ := hrel
    by_cases hlt : k < ts.length
    · obtain ⟨b, off, rfl, hbb, hc⟩ := hx.out k hlt
      have hc' : wr.cell? ⟨b, off + k, none⟩ = some (.string ts[k]) := (hb.cell (p := ⟨b, off + k, none⟩) hbb).trans hc
      obtain ⟨t, ht⟩ : ∃ t, t = ts[k] := ⟨_, rfl⟩
      rw [← ht] at hc'
      have HT : Hid (t = ts[k]) := ht
      clear ht hc
      have hown2 : OwnS wr w.heap.size (.slice (some ⟨w.heap.size, 0, none⟩) xs.length ts.length) xs := by rw [hxl.out]; exact hown.out
      obtain ⟨x, hce⟩ : ∃ x, wr.cell? ⟨w.heap.size, k, none⟩ = some (.string x) := ⟨xs[k]'(by rw [hxl.out]; exact hlt), by
        have := World.ownsRow.cellAt hown2 k (by rw [hxl.out]; omega)
        rw [this]
        simp [hxl.out, hlt]⟩
      have hfz : wr.frozen? ⟨w.heap.size, k, none⟩ = false := World.ownsRow.frozenAt hown2 k
      have HO : Hid _ := hown2.store k t
      clear hown2
      go_wp2
      go_roundw
      case rel =>
        refine ⟨k + 1, xs.set k t, by omega, by go_num, by rw [List.length_set]; exact hxl.out, ?_, ?_, ?_, hb.setCell (Nat.le_refl _) _⟩
        · show (xs.set k t).take (k + 1) = ts.take (k + 1)
          have hkx : k < xs.length := by rw [hxl.out]; exact hlt
          rw [List.take_succ_eq_append_getElem (by rw [List.length_set]; exact hkx), List.take_succ_eq_append_getElem hlt, List.take_set_of_le (Nat.le_refl _), htk.out, HT.out]
          simp
        · show OwnS _ _ _ _
          have := HO.out.1
          rw [hxl.out] at this
          exact this
        · have := HO.out.2.size
          omega
      case measure => simp [intOf]; omega
    · obtain rfl : k = ts.length := by omega
      go_wp2
      go_ret
      refine ⟨_, rfl, ?_, hb⟩
      have e : xs = ts := by
        have := htk.out
        rwa [List.take_of_length_le (by rw [hxl.out]; exact Nat.le_refl _), List.take_of_length_le (Nat.le_refl _)] at this
      rw [← e, hxl.out]
      exact hown.out



set_option maxRecDepth 100000 in
set_option maxHeartbeats 1000000 in
theorem eqS_same (v1 v2 : Value) (ss : List ByteArray) (B1 B2 : Nat) (w : World) (h1 : OwnS w B1 v1 ss) (h2 : OwnS w B2 v2 ss) (hl : ss.length ≤ 1048577) :
    Calls Try.prog 19 #[v1, v2] w fun e w' => e = .returned (.bool true) ∧ Below w.heap.size w w' := by
  by_cases h0 : ss.length = 0
  · obtain ⟨ao1, cap1, rfl⟩ := h1.form
    obtain ⟨ao2, cap2, rfl⟩ := h2.form
    rw [h0]
    clear h1 h2
    go_enter Try.func19, Try.ntmps19
    go_wp2
    refine wp_loop_rounds 1 ?_
    rw [rounds_succ]
    go_wp2
    go_ret
    exact ⟨rfl, Below.refl _ _⟩
  · obtain ⟨g1, cap1, rfl, _, hg1, hc1, _⟩ := h1.some (by omega)
    obtain ⟨g2, cap2, rfl, _, hg2, hc2, _⟩ := h2.some (by omega)
    clear h1 h2
    go_enter Try.func19, Try.ntmps19
    go_wp2
    go_loopw [5] (fun i wr => ∃ k : Nat, k ≤ ss.length ∧ i = .int .i64 k ∧ Below w.heap.size w wr) (fun i _ => ss.length - (intOf i).toNat)
    case atStart => exact ⟨0, by omega, rfl, Below.refl _ _⟩
    case round =>
      obtain ⟨k, hk, rfl, hb⟩ := hrel
      by_cases hlt : k < ss.length
      · have hce1 : wr.cell? ⟨g1, k, none⟩ = some (.string ss[k]) := (hb.cell (p := ⟨g1, k, none⟩) hg1).trans (hc1 k hlt)
        have hce2 : wr.cell? ⟨g2, k, none⟩ = some (.string ss[k]) := (hb.cell (p := ⟨g2, k, none⟩) hg2).trans (hc2 k hlt)
        have hq1 : (0 : Int) ≤ (k : Int) := by omega
        have hq2 : (k : Int) < (ss.length : Int) := by omega
        clear hc1 hc2
        go_wp2
        go_quiet (fail)
        go_wp2
        go_roundw
        case rel => exact ⟨k + 1, by omega, by go_num, below_drewK hb _⟩
        case measure => simp [intOf]; omega
      · go_wp2
        go_ret
        exact ⟨rfl, hb⟩

set_option maxRecDepth 100000 in
set_option maxHeartbeats 1000000 in
theorem markSt_any (v : Value) (ss : List ByteArray) (B K : Nat) (w : World) (h1 : OwnS w B v ss) (hl : K + ss.length ≤ 4999990) (hK : 0 < K) :
    Calls Try.prog 20 #[v, .int .i64 K] w fun e w' => e = .returned (.int .i64 ((K + ss.length : Nat) : Int)) ∧ w.grownBy w' v.ownBlock := by
  by_cases h0 : ss.length = 0
  · obtain ⟨ao1, cap1, rfl⟩ := h1.form
    clear h1
    rw [h0]
    go_enter Try.func20, Try.ntmps20
    go_wp2
    refine wp_loop_rounds 1 ?_
    rw [rounds_succ]
    go_wp2
    go_ret
    exact ⟨rfl, World.grownBy.refl _ _⟩
  · obtain ⟨g, cap, rfl, hB, hg, hc, hf⟩ := h1.some (by omega)
    clear hc hf
    have HOWN : Hid (OwnS w B (.slice (some ⟨g, 0, none⟩) ss.length cap) ss) := h1
    clear h1
    go_enter Try.func20, Try.ntmps20
    go_wp2
    go_loopw [1, 5] (fun kk i wr => ∃ (j : Nat) (xs : List ByteArray), j ≤ ss.length ∧ i = .int .i64 j ∧ kk = .int .i64 ((K + j : Nat) : Int) ∧ Hid (xs.length = ss.length) ∧ OwnS wr B (.slice (some ⟨g, 0, none⟩) ss.length cap) xs ∧ g < wr.heap.size ∧ Hid (w.grownBy wr (some g))) (fun _ i _ => ss.length - (intOf i).toNat)
    case atStart => exact ⟨0, ss, by omega, rfl, rfl, rfl, HOWN.out, hg, World.grownBy.refl _ _⟩
    case round =>
      obtain ⟨j, xs, hj, rfl, rfl, hxl, hown, hgs, hgr⟩ := hrel
      by_cases hlt : j < ss.length
      · have hxl' := hxl.out
        have hown' : OwnS wr B (.slice (some ⟨g, 0, none⟩) xs.length cap) xs := by rw [hxl']; exact hown
        have hjx : j < xs.length := by omega
        obtain ⟨x, hce⟩ : ∃ x, wr.cell? ⟨g, j, none⟩ = some (.string x) := ⟨xs[j], by
          have := World.ownsRow.cellAt hown' j (by omega)
          rw [this]
          simp [hjx]⟩
        have hfz : wr.frozen? ⟨g, j, none⟩ = false := World.ownsRow.frozenAt hown' j
        clear hxl' hown'
        go_wp2_with (first | (go_at_call 47; refine (mark_at _ _ (by omega) (by omega)).mono ?_; rintro e w3 ⟨rfl, hb3⟩; have hce3 : w3.cell? ⟨g, j, none⟩ = some (.string x) := (hb3.cell (p := ⟨g, j, none⟩) hgs).trans hce; have hfz3 : w3.frozen? ⟨g, j, none⟩ = false := (hb3.frozen (p := ⟨g, j, none⟩) hgs).trans hfz))
        go_roundw
        case rel =>
          have hxl' := hxl.out
          have hown3 : OwnS w3 B (.slice (some ⟨g, 0, none⟩) xs.length cap) xs := by
            rw [hxl']
            exact hown.stays hb3 (fun t ht => by cases ht; exact hgs)
          have hst := hown3.store j (markS (K + j))
          have hs1 := hst.1
          rw [hxl'] at hs1
          refine ⟨j + 1, xs.set j (markS (K + j)), by omega, by go_num, by go_num, ?_, hs1, ?_, ?_⟩
          · show (xs.set j (markS (K + j))).length = ss.length
            rw [List.length_set]; exact hxl'
          · have h2 := hb3.size
            have h3 := hst.2.size
            omega
          · exact grown_transC hgr.out (grown_transC (grown_blM hb3) hst.2)
        case measure => simp [intOf]; omega
      · obtain rfl : j = ss.length := by omega
        go_wp2
        go_ret
        exact ⟨ret_int' (by omega), hgr.out⟩

theorem ownS_kept {w w' : World} {row : Option Nat} {B : Nat} {v : Value} {ss : List ByteArray} (h : OwnS w B v ss) (hg : w.grownBy w' row) (hne : ∀ k, v.ownBlock = Option.some k → Option.some k ≠ row) : OwnS w' B v ss := by
  refine ⟨h.1, ?_⟩
  rcases h.2 with hn | ⟨g, cap, cur, rfl, hbg, hk, rest⟩
  · exact .inl hn
  · exact .inr ⟨g, cap, cur, rfl, hbg, (hg.block g (Array.getElem?_eq_some_iff.1 hk).1 (hne g rfl)).trans hk, rest⟩
theorem ownS_later {w w' : World} {B : Nat} {v : Value} {ss : List ByteArray} (h : OwnS w B v ss) (hb : Below w.heap.size w w') : OwnS w' B v ss := h.stays hb (fun k hk => (h.lt k hk).2)
end Go.Proofs.Ytfefjkldjaabbaa

/- Of what was there the blocks of a set alone may have turned. -/
namespace Go.Proofs.Ytfefjkldjaabbaa
open Go.RowKit Pl
set_option linter.unusedVariables false

/-- of what was there the blocks of S alone may have turned. -/
structure Gr (S : Nat → Prop) (w w' : World) : Prop where
  os : w'.os = w.os
  tape : w'.tape = w.tape
  output : w'.output = w.output
  size : w.heap.size ≤ w'.heap.size
  block : ∀ k, k < w.heap.size → ¬ S k → w'.heap[k]? = w.heap[k]?
theorem Gr.refl (S : Nat → Prop) (w : World) : Gr S w w := ⟨rfl, rfl, rfl, Nat.le_refl _, fun _ _ _ => rfl⟩
theorem Gr.trans {S : Nat → Prop} {a b c : World} (h : Gr S a b) (k : Gr S b c) : Gr S a c :=
  ⟨k.os.trans h.os, k.tape.trans h.tape, k.output.trans h.output, Nat.le_trans h.size k.size, fun i hi hs => (k.block i (Nat.lt_of_lt_of_le hi h.size) hs).trans (h.block i hi hs)⟩
theorem Gr.ofGrown {S : Nat → Prop} {a b : World} {row : Option Nat} (h : a.grownBy b row) (hs : ∀ k, row = some k → S k) : Gr S a b := ⟨h.os, h.tape, h.output, h.size, fun k hk hn => h.block k hk (fun he => hn (hs k he.symm))⟩
theorem Gr.below {S : Nat → Prop} {a b : World} {B : Nat} (h : Gr S a b) (hs : ∀ k, S k → B ≤ k) (hB : B ≤ a.heap.size) : Below B a b := ⟨h.os, h.tape, h.output, h.size, fun k hk => h.block k (by omega) (fun h1 => by have := hs k h1; omega)⟩
theorem gr_below {S : Nat → Prop} {a b : World} (h : Below a.heap.size a b) : Gr S a b := ⟨h.os, h.tape, h.output, h.size, fun k hk _ => h.block k hk⟩
end Go.Proofs.Ytfefjkldjaabbaa

/- Lists of texts that are marked, and looked at again. -/
namespace Go.Proofs.Ytfefjkldjaabbaa
open Go.RowKit Pl
set_option linter.unusedVariables false

/-- the texts that marks are. -/
def mkT (K n : Nat) : List ByteArray := (List.range n).map fun j => markS (K + j)
theorem mkT_length (K n : Nat) : (mkT K n).length = n := by simp [mkT]
theorem mkT_eq {xs : List ByteArray} {K n : Nat} (hl : xs.length = n) (h : ∀ t, t < n → xs[t]? = some (markS (K + t))) : xs = mkT K n := by
  apply List.ext_getElem (by rw [hl, mkT_length])
  intro i h1 h2
  have := h i (by omega)
  rw [List.getElem?_eq_getElem h1] at this
  simp at this
  simp [mkT, this]

set_option maxRecDepth 100000 in
set_option maxHeartbeats 1000000 in
theorem markSo_any (v : Value) (ss : List ByteArray) (B K : Nat) (w : World) (h1 : OwnS w B v ss) (hl : K + ss.length ≤ 4999990) (hK : 0 < K) :
    Calls Try.prog 20 #[v, .int .i64 K] w fun e w' => e = .returned (.int .i64 ((K + ss.length : Nat) : Int)) ∧ OwnS w' B v (mkT K ss.length) ∧ w.grownBy w' v.ownBlock := by
  by_cases h0 : ss.length = 0
  · have HN : Hid (OwnS w B v (mkT K ss.length)) := by
      have e : ss = [] := List.eq_nil_of_length_eq_zero h0
      subst e
      exact h1
    obtain ⟨ao1, cap1, rfl⟩ := h1.form
    clear h1
    rw [h0] at HN ⊢
    go_enter Try.func20, Try.ntmps20
    go_wp2
    refine wp_loop_rounds 1 ?_
    rw [rounds_succ]
    go_wp2
    go_ret
    exact ⟨rfl, HN.out, World.grownBy.refl _ _⟩
  · obtain ⟨g, cap, rfl, hB, hg, hc, hf⟩ := h1.some (by omega)
    clear hc hf
    have HOWN : Hid (OwnS w B (.slice (some ⟨g, 0, none⟩) ss.length cap) ss) := h1
    clear h1
    go_enter Try.func20, Try.ntmps20
    go_wp2
    go_loopw [1, 5] (fun kk i wr => ∃ (j : Nat) (xs : List ByteArray), j ≤ ss.length ∧ i = .int .i64 j ∧ kk = .int .i64 ((K + j : Nat) : Int) ∧ Hid (xs.length = ss.length) ∧ Hid (∀ t, t < j → xs[t]? = some (markS (K + t))) ∧ OwnS wr B (.slice (some ⟨g, 0, none⟩) ss.length cap) xs ∧ g < wr.heap.size ∧ Hid (w.grownBy wr (some g))) (fun _ i _ => ss.length - (intOf i).toNat)
    case atStart => exact ⟨0, ss, by omega, rfl, rfl, rfl, (fun t ht => absurd ht (by omega)), HOWN.out, hg, World.grownBy.refl _ _⟩
    case round =>
      obtain ⟨j, xs, hj, rfl, rfl, hxl, hmk, hown, hgs, hgr⟩ := hrel
      by_cases hlt : j < ss.length
      · have hxl' := hxl.out
        have hown' : OwnS wr B (.slice (some ⟨g, 0, none⟩) xs.length cap) xs := by rw [hxl']; exact hown
        have hjx : j < xs.length := by omega
        obtain ⟨x, hce⟩ : ∃ x, wr.cell? ⟨g, j, none⟩ = some (.string x) := ⟨xs[j], by
          have := World.ownsRow.cellAt hown' j (by omega)
          rw [this]
          simp [hjx]⟩
        have hfz : wr.frozen? ⟨g, j, none⟩ = false := World.ownsRow.frozenAt hown' j
        clear hxl' hown'
        go_wp2_with (first | (go_at_call 47; refine (mark_at _ _ (by omega) (by omega)).mono ?_; rintro e w3 ⟨rfl, hb3⟩; have hce3 : w3.cell? ⟨g, j, none⟩ = some (.string x) := (hb3.cell (p := ⟨g, j, none⟩) hgs).trans hce; have hfz3 : w3.frozen? ⟨g, j, none⟩ = false := (hb3.frozen (p := ⟨g, j, none⟩) hgs).trans hfz))
        go_roundw
        case rel =>
          have hxl' := hxl.out
          have hown3 : OwnS w3 B (.slice (some ⟨g, 0, none⟩) xs.length cap) xs := by
            rw [hxl']
            exact hown.stays hb3 (fun t ht => by cases ht; exact hgs)
          have hst := hown3.store j (markS (K + j))
          have hs1 := hst.1
          rw [hxl'] at hs1
          refine ⟨j + 1, xs.set j (markS (K + j)), by omega, by go_num, by go_num, ?_, ?_, hs1, ?_, ?_⟩
          · show (xs.set j (markS (K + j))).length = ss.length
            rw [List.length_set]; exact hxl'
          · refine (fun t ht => ?_ : ∀ t, t < j + 1 → (xs.set j (markS (K + j)))[t]? = some (markS (K + t)))
            by_cases e : t = j
            · subst e; rw [List.getElem?_set_self hjx]
            · rw [List.getElem?_set_ne (fun h => e h.symm)]; exact hmk.out t (by omega)
          · have h2 := hb3.size
            have h3 := hst.2.size
            omega
          · exact grown_transC hgr.out (grown_transC (grown_blM hb3) hst.2)
        case measure => simp [intOf]; omega
      · obtain rfl : j = ss.length := by omega
        go_wp2
        go_ret
        exact ⟨ret_int' (by omega), (by have e := mkT_eq hxl.out hmk.out; rw [← e]; have := hxl.out; unfold OwnS at hown ⊢; rw [this] at hown ⊢; exact hown), hgr.out⟩

set_option maxRecDepth 100000 in
set_option maxHeartbeats 1000000 in
theorem heldSt_any (ao : Option Addr) (cap : Nat) (xs : List ByteArray) (K : Nat) (w : World) (h1 : Hid (TextsAt w ao xs)) (hl : K + xs.length ≤ 4999990) (hK : 0 < K) (hmk : Hid (∀ t (h : t < xs.length), xs[t] = markS (K + t))) :
    Calls Try.prog 21 #[.slice ao xs.length cap, .int .i64 K] w fun e w' => e = .returned (.int .i64 ((K + xs.length : Nat) : Int)) ∧ Below w.heap.size w w' := by
  go_enter Try.func21, Try.ntmps21
  go_wp2
  go_loopw [1, 5] (fun kk i wr => ∃ j : Nat, j ≤ xs.length ∧ i = .int .i64 j ∧ kk = .int .i64 ((K + j : Nat) : Int) ∧ Below w.heap.size w wr) (fun _ i _ => xs.length - (intOf i).toNat)
  case atStart => exact ⟨0, by omega, rfl, rfl, Below.refl _ _⟩
  case round =>
    obtain ⟨j, hj, rfl, rfl, hb⟩ := hrel
    have hsz := hb.size
    by_cases hlt : j < xs.length
    · obtain ⟨g, off, rfl, hgw, hc⟩ := h1.out.stays hb j hlt
      have hce : wr.cell? ⟨g, off + j, none⟩ = some (.string (markS (K + j))) := by
        rw [hc, hmk.out j hlt]
      clear hc
      have hq1 : (0 : Int) ≤ (j : Int) := by omega
      have hq2 : (j : Int) < (xs.length : Int) := by omega
      have hce2 : wr.cell? ⟨g, off + (j : Int).toNat, none⟩ = some (.string (markS (K + j))) := by simpa using hce
      have htn : ((K : Int) + (j : Int)).toNat = K + j := by omega
      go_wp2
      go_region_held3 (fun w' => w'.cell? ⟨g, off + (j : Int).toNat, none⟩ = some (.string (markS (K + j))) ∧ w'.cell? ⟨g, off + j, none⟩ = some (.string (markS (K + j)))) (first | exact ⟨hce2, hce⟩ | exact ⟨hk4, hk3⟩) (first | (go_at_call 47; refine (mark_at _ _ (by omega) (by omega)).mono ?_; rintro e w3 ⟨rfl, hb3⟩; have hk3 : w3.cell? ⟨g, off + j, none⟩ = some (.string (markS (K + j))) := (hb3.cell (p := ⟨g, off + j, none⟩) hgw).trans hce; have hk4 : w3.cell? ⟨g, off + (j : Int).toNat, none⟩ = some (.string (markS (K + j))) := (hb3.cell (p := ⟨g, off + (j : Int).toNat, none⟩) hgw).trans hce2))
      go_wp2
      go_roundw
      case rel => exact ⟨j + 1, by omega, by go_num, by go_num, hb.drew.trans (hb3.mono hsz)⟩
      case measure => simp [intOf]; omega
    · obtain rfl : j = xs.length := by omega
      go_wp2
      go_ret
      exact ⟨ret_int' (by omega), hb⟩

theorem heldSo_any (v : Value) (n B K : Nat) (w : World) (h1 : OwnS w B v (mkT K n)) (hl : K + n ≤ 4999990) (hK : 0 < K) :
    Calls Try.prog 21 #[v, .int .i64 K] w fun e w' => e = .returned (.int .i64 ((K + n : Nat) : Int)) ∧ Below w.heap.size w w' := by
  obtain ⟨ao, cap, rfl, hx⟩ := h1.texts
  have := heldSt_any ao cap (mkT K n) K w hx (by rw [mkT_length]; exact hl) hK (fun t h => by simp [mkT])
  rw [mkT_length] at this ⊢
  exact this
end Go.Proofs.Ytfefjkldjaabbaa

/- Where a slice of texts of the call's own lies. -/
namespace Go.Proofs.Ytfefjkldjaabbaa
open Go.RowKit Pl
set_option linter.unusedVariables false

/-- what another slice's writing leaves. -/
theorem OwnS_grown {w w' : World} {B : Nat} {v u : Value} {ss : List ByteArray} (h : OwnS w B v ss) (hg : w.grownBy w' u.ownBlock) (hne : ∀ k k', v.ownBlock = some k → u.ownBlock = some k' → k ≠ k') : OwnS w' B v ss := by
  refine World.ownsRow.kept h hg ?_
  cases e0 : v.ownBlock with
  | none => exact .inl rfl
  | some k0 =>
    refine .inr ?_
    cases e1 : u.ownBlock with
    | none => simp
    | some k1 =>
      have := hne k0 k1 e0 e1
      simpa using this

/-- A slice of the call's own, and where it lies. -/
structure Mine (w : World) (v : Value) (ss : List ByteArray) (lo hi : Nat) : Prop where
  own : OwnS w 0 v ss
  at' : ∀ k, v.ownBlock = some k → lo ≤ k ∧ k < hi
  le : hi ≤ w.heap.size

theorem Mine.mk' {w w' : World} {v : Value} {ss : List ByteArray} (h : OwnS w' w.heap.size v ss) : Mine w' v ss w.heap.size w'.heap.size :=
  ⟨h.down (Nat.zero_le _), fun k hk => h.lt k hk, Nat.le_refl _⟩
theorem Mine.stays {w w' : World} {v : Value} {ss : List ByteArray} {lo hi : Nat} (h : Mine w v ss lo hi) (hb : Below w.heap.size w w') : Mine w' v ss lo hi :=
  ⟨h.own.stays hb (fun k hk => Nat.lt_of_lt_of_le (h.at' k hk).2 h.le), h.at', Nat.le_trans h.le hb.size⟩
theorem Mine.grown {w w' : World} {v u : Value} {ss : List ByteArray} {lo hi lo' hi' : Nat} (h : Mine w v ss lo hi) (hu : ∀ k, u.ownBlock = some k → lo' ≤ k ∧ k < hi') (hg : w.grownBy w' u.ownBlock) (ho : hi ≤ lo' ∨ hi' ≤ lo) : Mine w' v ss lo hi := by
  refine ⟨OwnS_grown h.own hg ?_, h.at', Nat.le_trans h.le hg.size⟩
  intro k k' hk hk'
  have h1 := h.at' k hk
  have h2 := hu k' hk'
  omega

end Go.Proofs.Ytfefjkldjaabbaa

/- The walk over drawn texts. -/
namespace Go.Proofs.Ytfefjkldjaabbaa
open Go.RowKit Pl
set_option linter.unusedVariables false
theorem OwnS_keep {w w' : World} {B g : Nat} {v : Value} {ss : List ByteArray} (h : OwnS w B v ss) (hk : KeepBut g w w') (hg : g < B) : OwnS w' B v ss := by
  refine ⟨h.1, ?_⟩
  rcases h.2 with hn | ⟨k, cap, cur, rfl, hbg, hk2, rest⟩
  · exact .inl hn
  · exact .inr ⟨k, cap, cur, rfl, hbg, (hk.block k (Array.getElem?_eq_some_iff.1 hk2).1 (by omega)).trans hk2, rest⟩
/-- short texts. -/
def Short (ts : List ByteArray) : Prop := ∀ t ∈ ts, t.size < 12

end Go.Proofs.Ytfefjkldjaabbaa

