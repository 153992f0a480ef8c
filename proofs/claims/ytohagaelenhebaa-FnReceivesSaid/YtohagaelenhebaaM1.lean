/- The walks over what the law uses: texts compared, written over and looked at again. -/
import Derived.Test.YtohagaelenhebaaCl
import Derived.Test.YtohagaelenhebaaLk
import Derived.Test.YtohagaelenhebaaDec
import Derived.Deep.RegionHeld3
import Derived.Deep.QuietTactic
import Derived.BigQuiet
namespace Go.Proofs.Ytohagaelenhebaa
open Go.RowKit Pl
set_option linter.unusedVariables false

theorem strOfNums_append (xs ys : List Int) : strOfNums xs ++ strOfNums ys = strOfNums (xs ++ ys) := by
  unfold strOfNums
  rw [ByteArray.mk_append_mk, List.map_append]

/-- what markText writes. -/
def markS (k : Nat) : ByteArray := strOfNums (109 :: decR k)

theorem strOf_one' {w : World} {b : Int} : (convert 22 9 (.slice (some ⟨w.heap.size, 0, none⟩) 1 1)).run Try.prog (w.alloc (.cells #[.int .u8 b] 5)) = .ok (.string (strOfNums [b])) (w.alloc (.cells #[.int .u8 b] 5)) := by
  refine run_convert_bytes_arg _ 22 5 Try.underlying22 Try.underlying5 w.heap.size 0 1 1 [b] rfl ?_ 9 Try.underlying9
  intro i hi
  obtain rfl : i = 0 := by omega
  simp

set_option maxRecDepth 100000 in
set_option maxHeartbeats 1000000 in
theorem mark_any (N : Nat) (w : World) (hN : N ≤ 2000000) (h0 : 0 < N) :
    Calls Try.prog 68 #[.int .i64 N] w fun e w' => e = .returned (.string (markS N)) ∧ Below w.heap.size w w' := by
  have hN0 : decide ((N : Int) ≤ 0) = false := by simp; omega
  go_enter Try.func68, Try.ntmps68
  go_wp2
  go_loopw [0, 3] (fun n v wr => ∃ (m : Nat) (xs : List Int), n = .int .i64 m ∧ m ≤ N ∧ v = .string (strOfNums xs) ∧ xs.length + m ≤ N ∧ Hid (decR m ++ xs = decR N) ∧ Below w.heap.size w wr) (fun n _ _ => (intOf n).toNat)
  case atStart => exact ⟨N, [], rfl, Nat.le_refl _, rfl, by simp, List.append_nil _, Below.refl _ _⟩
  case round =>
    obtain ⟨m, xs, rfl, hm, rfl, hx, hst, hb⟩ := hrel
    have hsz := hb.size
    have hss := strOfNums_size xs
    have hnn : ¬ 9223372036854775807 < 1 + xs.length := by omega
    by_cases hm0 : m = 0
    · subst hm0
      go_wp2
      go_ret
      have e1 : decR N = xs := by rw [← hst.out, decR_zero]; rfl
      refine ⟨?_, hb⟩
      rw [markS, e1, show strOfNums (109 :: xs) = (⟨#[109]⟩ : ByteArray) ++ strOfNums xs from (strOfNums_append [109] xs).symm]
      rfl
    · have hmp : 0 < m := by omega
      have hs1 : ∀ b : Int, (strOfNums [b]).size = 1 := fun b => rfl
      have hone := fun b => strOf_one' (w := wr) (b := b)
      go_wp2
      go_roundw
      case rel =>
        refine ⟨m / 10, (48 + ((m % 10 : Nat) : Int)) :: xs, by go_num, by omega, ?_, by simp; omega, ?_, hb.alloc hsz _⟩
        · show Value.string _ = Value.string (strOfNums ([48 + ((m % 10 : Nat) : Int)] ++ xs))
          rw [← strOfNums_append]; rfl
        · show decR (m / 10) ++ (48 + ((m % 10 : Nat) : Int)) :: xs = decR N
          rw [← hst.out, decR_pos hm0]
          simp
      case measure => simp [intOf]; omega

theorem ret_int' {k : IntKind} {a b : Int} (h : a = b) : Ending.returned (.int k a) = .returned (.int k b) := by rw [h]

theorem mark_at (a : Int) (w : World) (h0 : 0 < a) (h1 : a ≤ 2000000) :
    Calls Try.prog 68 #[.int .i64 a] w fun e w' => e = .returned (.string (markS a.toNat)) ∧ Below w.heap.size w w' := by
  obtain ⟨N, rfl⟩ : ∃ N : Nat, a = N := ⟨a.toNat, by omega⟩
  exact mark_any N w (by omega) (by omega)


set_option maxRecDepth 100000 in
set_option maxHeartbeats 1000000 in
theorem eqS_same (a1 a2 : Option Addr) (c1 c2 : Nat) (ss : List ByteArray) (w : World) (h1 : Hid (TextsAt w a1 ss)) (h2 : Hid (TextsAt w a2 ss)) (hl : ss.length ≤ 1048577) :
    Calls Try.prog 41 #[.slice a1 ss.length c1, .slice a2 ss.length c2] w fun e w' => e = .returned (.bool true) ∧ Below w.heap.size w w' := by
  go_enter Try.func41, Try.ntmps41
  go_wp2
  go_loopw [5] (fun i wr => ∃ k : Nat, k ≤ ss.length ∧ i = .int .i64 k ∧ Below w.heap.size w wr) (fun i _ => ss.length - (intOf i).toNat)
  case atStart => exact ⟨0, by omega, rfl, Below.refl _ _⟩
  case round =>
    obtain ⟨k, hk, rfl, hb⟩ := hrel
    by_cases hlt : k < ss.length
    · obtain ⟨b1, o1, rfl, hb1, hc1⟩ := h1.out.stays hb k hlt
      obtain ⟨b2, o2, rfl, hb2, hc2⟩ := h2.out.stays hb k hlt
      have hq1 : (0 : Int) ≤ (k : Int) := by omega
      have hq2 : (k : Int) < (ss.length : Int) := by omega
      go_wp2
      go_quiet (fail)
      go_wp2
      go_roundw
      case rel => exact ⟨k + 1, by omega, by go_num, below_drewN hb _⟩
      case measure => simp [intOf]; omega
    · go_wp2
      go_ret
      exact ⟨rfl, hb⟩
theorem eqS_slt {v1 v2 : Value} {ss : List ByteArray} {B1 B2 : Nat} (w : World) (h1 : SlT w B1 v1 ss) (h2 : SlT w B2 v2 ss) (hl : ss.length ≤ 1048577) :
    Calls Try.prog 41 #[v1, v2] w fun e w' => e = .returned (.bool true) ∧ Below w.heap.size w w' := by
  obtain ⟨a1, c1, rfl, t1⟩ := h1.texts
  obtain ⟨a2, c2, rfl, t2⟩ := h2.texts
  exact eqS_same a1 a2 c1 c2 ss w t1 t2 hl

theorem grown_trans {a b c : World} {row : Option Nat} (h1 : a.grownBy b row) (h2 : b.grownBy c row) : a.grownBy c row :=
  ⟨h2.os.trans h1.os, h2.tape.trans h1.tape, h2.output.trans h1.output, Nat.le_trans h1.size h2.size, fun k hk hne => (h2.block k (Nat.lt_of_lt_of_le hk h1.size) hne).trans (h1.block k hk hne)⟩
theorem grown_below {a b : World} {row : Option Nat} (h : Below a.heap.size a b) : a.grownBy b row := ⟨h.os, h.tape, h.output, h.size, fun k hk _ => h.block k hk⟩

/-- the first j texts are marks from K on. -/
def Marked (xs : List ByteArray) (K j : Nat) : Prop := ∀ t, t < j → xs[t]? = some (markS (K + t))
theorem marked_step {xs : List ByteArray} {K j : Nat} (h : Marked xs K j) (hj : j < xs.length) : Marked (xs.set j (markS (K + j))) K (j + 1) := by
  intro t ht
  by_cases e : t = j
  · subst e; simp [hj]
  · rw [List.getElem?_set_ne (by omega)]
    exact h t (by omega)

theorem slt_put {w : World} {B g off cap n : Nat} {ss : List ByteArray} (hn : n = ss.length) (h : SlT w B (.slice (some ⟨g, off, none⟩) n cap) ss) (j : Nat) (x : ByteArray) :
    SlT (w.setCell ⟨g, off + j, none⟩ (.string x)) B (.slice (some ⟨g, off, none⟩) n cap) (ss.set j x) := by
  subst hn
  have := Sl.put h j (.string x)
  unfold SlT
  rw [List.length_set, List.map_set]
  exact this

/-- what markStringS leaves. -/
def MkPost (w : World) (B : Nat) (v : Value) (n K : Nat) (w' : World) : Prop := w.grownBy w' v.ownBlock ∧ ∃ xs : List ByteArray, xs.length = n ∧ Marked xs K n ∧ SlT w' B v xs

set_option maxRecDepth 100000 in
set_option maxHeartbeats 1000000 in
theorem markS_any (v : Value) (ss : List ByteArray) (B K : Nat) (w : World) (h1 : SlT w B v ss) (hl : K + ss.length ≤ 2000000) (hK : 0 < K) :
    Calls Try.prog 43 #[v, .int .i64 K] w fun e w' => e = .returned (.int .i64 ((K + ss.length : Nat) : Int)) ∧ MkPost w B v ss.length K w' := by
  by_cases h0 : ss.length = 0
  · have H1 : Hid (MkPost w B v ss.length K w) := ⟨World.grownBy.refl _ _, ss, rfl, fun t ht => by omega, h1⟩
    obtain ⟨ao1, cap1, rfl⟩ := Sl.form h1
    clear h1
    rw [h0] at H1 ⊢
    go_enter Try.func43, Try.ntmps43
    go_wp2
    refine wp_loop_rounds 1 ?_
    rw [rounds_succ]
    go_wp2
    go_ret
    exact ⟨rfl, H1.out⟩
  · obtain ⟨g, off, cap, rfl, hB, hg, hc, hf⟩ := Sl.read h1 (by omega)
    clear hc hf
    have HOWN : Hid (SlT w B (.slice (some ⟨g, off, none⟩) ss.length cap) ss) := h1
    clear h1
    go_enter Try.func43, Try.ntmps43
    go_wp2
    go_loopw [1, 5] (fun kk i wr => ∃ (j : Nat) (xs : List ByteArray), j ≤ ss.length ∧ i = .int .i64 j ∧ kk = .int .i64 ((K + j : Nat) : Int) ∧ Hid (xs.length = ss.length) ∧ Hid (Marked xs K j) ∧ SlT wr B (.slice (some ⟨g, off, none⟩) ss.length cap) xs ∧ g < wr.heap.size ∧ Hid (w.grownBy wr (some g))) (fun _ i _ => ss.length - (intOf i).toNat)
    case atStart => exact ⟨0, ss, by omega, rfl, rfl, rfl, fun t ht => by omega, HOWN.out, hg, World.grownBy.refl _ _⟩
    case round =>
      obtain ⟨j, xs, hj, rfl, rfl, hxl, hmk, hown, hgs, hgr⟩ := hrel
      by_cases hlt : j < ss.length
      · have hxl' := hxl.out
        have hjx : j < xs.length := by omega
        obtain ⟨x, hce⟩ : ∃ x, wr.cell? ⟨g, off + j, none⟩ = some (.string x) := ⟨xs[j], by
          have h2 : Sl wr 9 1 B (.slice (some ⟨g, off, none⟩) ss.length cap) ss.length (xs.map Value.string) := by
            have : SlT wr B (.slice (some ⟨g, off, none⟩) ss.length cap) xs := hown
            unfold SlT at this
            rw [hxl'] at this
            exact this
          obtain ⟨g', off', cap', hv, _, _, hc, _⟩ := Sl.read h2 (by omega)
          simp at hv
          obtain ⟨⟨rfl, rfl⟩, rfl⟩ := hv
          exact hc j _ (by simp [hjx])⟩
        have hfz : wr.frozen? ⟨g, off + j, none⟩ = false := by
          have h2 : Sl wr 9 1 B (.slice (some ⟨g, off, none⟩) ss.length cap) xs.length (xs.map Value.string) := hown
          rw [hxl'] at h2
          obtain ⟨g', off', cap', hv, _, _, _, hf⟩ := Sl.read h2 (by omega)
          simp at hv
          obtain ⟨⟨rfl, rfl⟩, rfl⟩ := hv
          exact hf _
        clear hxl'
        go_wp2_with (first | (go_at_call 68; refine (mark_at _ _ (by omega) (by omega)).mono ?_; rintro e w3 ⟨rfl, hb3⟩; have hce3 : w3.cell? ⟨g, off + j, none⟩ = some (.string x) := (hb3.cell (p := ⟨g, off + j, none⟩) hgs).trans hce; have hfz3 : w3.frozen? ⟨g, off + j, none⟩ = false := (hb3.frozen (p := ⟨g, off + j, none⟩) hgs).trans hfz))
        go_roundw
        case rel =>
          have hxl' := hxl.out
          have hown3 : SlT w3 B (.slice (some ⟨g, off, none⟩) ss.length cap) xs := Sl.stays hown hb3 (fun t ht => by cases ht; exact hgs)
          have hst := slt_put hxl'.symm hown3 j (markS (K + j))
          refine ⟨j + 1, xs.set j (markS (K + j)), by omega, by go_num, by go_num, ?_, marked_step hmk.out (by omega), ?_, ?_, ?_⟩
          · show (xs.set j (markS (K + j))).length = ss.length
            rw [List.length_set]; exact hxl'
          · first | exact hst | simpa using hst
          · have h2 := hb3.size
            have h3 : (w3.setCell ⟨g, off + j, none⟩ (.string (markS (K + j)))).heap.size = w3.heap.size := by simp [World.setCell]
            first | omega | (simp; omega)
          · exact grown_trans hgr.out (grown_trans (grown_below hb3) (grown_cell w3 g (off + j) _))
        case measure => simp [intOf]; omega
      · obtain rfl : j = ss.length := by omega
        go_wp2
        go_ret
        exact ⟨ret_int' (by omega), hgr.out, xs, hxl.out, hmk.out, hown⟩

set_option maxRecDepth 100000 in
set_option maxHeartbeats 1000000 in
theorem heldS_any (ao : Option Addr) (cap : Nat) (xs : List ByteArray) (K : Nat) (w : World) (h1 : Hid (TextsAt w ao xs)) (hl : K + xs.length ≤ 2000000) (hK : 0 < K) (hmk : Hid (Marked xs K xs.length)) :
    Calls Try.prog 45 #[.slice ao xs.length cap, .int .i64 K] w fun e w' => e = .returned (.int .i64 ((K + xs.length : Nat) : Int)) ∧ Below w.heap.size w w' := by
  go_enter Try.func45, Try.ntmps45
  go_wp2
  go_loopw [1, 5] (fun kk i wr => ∃ j : Nat, j ≤ xs.length ∧ i = .int .i64 j ∧ kk = .int .i64 ((K + j : Nat) : Int) ∧ Below w.heap.size w wr) (fun _ i _ => xs.length - (intOf i).toNat)
  case atStart => exact ⟨0, by omega, rfl, rfl, Below.refl _ _⟩
  case round =>
    obtain ⟨j, hj, rfl, rfl, hb⟩ := hrel
    have hsz := hb.size
    by_cases hlt : j < xs.length
    · obtain ⟨g, off, rfl, hgw, hc⟩ := h1.out.stays hb j hlt
      have hce : wr.cell? ⟨g, off + j, none⟩ = some (.string (markS (K + j))) := by
        rw [hc]
        have := hmk.out j hlt
        rw [List.getElem?_eq_getElem hlt] at this
        rw [Option.some.inj this]
      clear hc
      have hq1 : (0 : Int) ≤ (j : Int) := by omega
      have hq2 : (j : Int) < (xs.length : Int) := by omega
      have hce2 : wr.cell? ⟨g, off + (j : Int).toNat, none⟩ = some (.string (markS (K + j))) := by simpa using hce
      have htn : ((K : Int) + (j : Int)).toNat = K + j := by omega
      go_wp2
      go_region_held3 (fun w' => w'.cell? ⟨g, off + (j : Int).toNat, none⟩ = some (.string (markS (K + j))) ∧ w'.cell? ⟨g, off + j, none⟩ = some (.string (markS (K + j)))) (first | exact ⟨hce2, hce⟩ | exact ⟨hk4, hk3⟩) (first | (go_at_call 68; refine (mark_at _ _ (by omega) (by omega)).mono ?_; rintro e w3 ⟨rfl, hb3⟩; have hk3 : w3.cell? ⟨g, off + j, none⟩ = some (.string (markS (K + j))) := (hb3.cell (p := ⟨g, off + j, none⟩) hgw).trans hce; have hk4 : w3.cell? ⟨g, off + (j : Int).toNat, none⟩ = some (.string (markS (K + j))) := (hb3.cell (p := ⟨g, off + (j : Int).toNat, none⟩) hgw).trans hce2))
      go_wp2
      go_roundw
      case rel => exact ⟨j + 1, by omega, by go_num, by go_num, hb.drew.trans (hb3.mono hsz)⟩
      case measure => simp [intOf]; omega
    · obtain rfl : j = xs.length := by omega
      go_wp2
      go_ret
      exact ⟨ret_int' (by omega), hb⟩
end Go.Proofs.Ytohagaelenhebaa
