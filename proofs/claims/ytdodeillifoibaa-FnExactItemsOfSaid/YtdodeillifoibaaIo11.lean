/- Joined texts: CMk CTx CXm CMt CBw CRl1 CGm CGi CGh CQb. -/
import Derived.Test.YtdodeillifoibaaIo8
import Derived.Test.YtdodeillifoibaaIo9
import Derived.Deep.RegionHeld3
import Derived.Deep.QuietTactic
import Derived.BigQuiet
import Derived.Test.YtdodeillifoibaaIo1
import Derived.Test.YtdodeillifoibaaIo5
import Derived.Test.YtdodeillifoibaaIo10
import Derived.Deep.MidRow
/- What a law writes over items, and looks at again. -/
namespace Go.Proofs.Ytdodeillifoibaa
open Go.RowKit Pl
set_option linter.unusedVariables false

theorem strOfNums_append (xs ys : List Int) : strOfNums xs ++ strOfNums ys = strOfNums (xs ++ ys) := by
  unfold strOfNums
  rw [ByteArray.mk_append_mk, List.map_append]

/-- what markText writes. -/
def markS (k : Nat) : ByteArray := strOfNums (109 :: decR k)

theorem strOf_one' {w : World} {b : Int} : (convert 99 9 (.slice (some ⟨w.heap.size, 0, none⟩) 1 1)).run Try.prog (w.alloc (.cells #[.int .u8 b] 5)) = .ok (.string (strOfNums [b])) (w.alloc (.cells #[.int .u8 b] 5)) := by
  refine run_convert_bytes_arg _ 99 5 Try.underlying99 Try.underlying5 w.heap.size 0 1 1 [b] rfl ?_ 9 Try.underlying9
  intro i hi
  obtain rfl : i = 0 := by omega
  simp

set_option maxRecDepth 100000 in
set_option maxHeartbeats 1000000 in
theorem markT_any (N : Nat) (w : World) (hN : N ≤ 40000000) (h0 : 0 < N) :
    Calls Try.prog 32 #[.int .i64 N] w fun e w' => e = .returned (.string (markS N)) ∧ Below w.heap.size w w' := by
  have hN0 : decide ((N : Int) ≤ 0) = false := by simp; omega
  go_enter Try.func32, Try.ntmps32
  go_wp2
  go_loopw [0, 3] (fun n v wr => ∃ (m : Nat) (xs : List Int), n = .int .i64 m ∧ m ≤ N ∧ v = .string (strOfNums xs) ∧ xs.length + m ≤ N ∧ Hid (decR m ++ xs = decR N) ∧ Below w.heap.size w wr) (fun n _ _ => (intOf n).toNat)
  case atStart => exact ⟨N, [], rfl, Nat.le_refl _, rfl, by simp, List.append_nil _, Below.refl _ _⟩
  case round =>
    obtain ⟨m, xs, rfl, hm, rfl, hx, hst, hb⟩ := hrel
    have hsz := hb.size
    have hss := strOfNums_size xs
    have hnn : ¬ 9223372036854775807 < 1 + xs.length := by omega
    by_cases hm0 : m = 0
    · subst hm0
      go_wp2
      go_ret
      have e1 : decR N = xs := by rw [← hst.out, decR_zero]; rfl
      refine ⟨?_, hb⟩
      rw [markS, e1, show strOfNums (109 :: xs) = (⟨#[109]⟩ : ByteArray) ++ strOfNums xs from (strOfNums_append [109] xs).symm]
      rfl
    · have hmp : 0 < m := by omega
      have hs1 : ∀ b : Int, (strOfNums [b]).size = 1 := fun b => rfl
      have hone := fun b => strOf_one' (w := wr) (b := b)
      go_wp2
      go_roundw
      case rel =>
        refine ⟨m / 10, (48 + ((m % 10 : Nat) : Int)) :: xs, by go_num, by omega, ?_, by simp; omega, ?_, hb.alloc hsz _⟩
        · show Value.string _ = Value.string (strOfNums ([48 + ((m % 10 : Nat) : Int)] ++ xs))
          rw [← strOfNums_append]; rfl
        · show decR (m / 10) ++ (48 + ((m % 10 : Nat) : Int)) :: xs = decR N
          rw [← hst.out, decR_pos hm0]
          simp
      case measure => simp [intOf]; omega

theorem mark_at (a : Int) (w : World) (h0 : 0 < a) (h1 : a ≤ 40000000) :
    Calls Try.prog 32 #[.int .i64 a] w fun e w' => e = .returned (.string (markS a.toNat)) ∧ Below w.heap.size w w' := by
  obtain ⟨N, rfl⟩ : ∃ N : Nat, a = N := ⟨a.toNat, by omega⟩
  exact markT_any N w (by omega) (by omega)


/-- the n items that are written from K on. -/
def mkI (K n : Nat) : List It := (List.range n).map fun j => (((K + 4 * j : Nat) : Int), ((K + 4 * j + 1 : Nat) : Int), ((K + 4 * j + 2 : Nat) : Int), markS (K + 4 * j + 3))
theorem mkI_length (K n : Nat) : (mkI K n).length = n := by simp [mkI]
theorem mkI_succ (K n : Nat) : mkI K (n + 1) = mkI K n ++ [(((K + 4 * n : Nat) : Int), ((K + 4 * n + 1 : Nat) : Int), ((K + 4 * n + 2 : Nat) : Int), markS (K + 4 * n + 3))] := by
  unfold mkI
  rw [List.range_succ, List.map_append]
  rfl
theorem mkI_at (K n : Nat) {j : Nat} (h : j < (mkI K n).length) : (mkI K n)[j] = (((K + 4 * j : Nat) : Int), ((K + 4 * j + 1 : Nat) : Int), ((K + 4 * j + 2 : Nat) : Int), markS (K + 4 * j + 3)) := by
  simp [mkI]
theorem set_right {α : Type} (a b : List α) (n : Nat) (h : a.length = n) (j : Nat) (x : α) : (a ++ b).set (n + j) x = a ++ b.set j x := by
  subst h
  rw [List.set_append_right _ _ (by omega)]
  congr 2
  omega
theorem cels_set (L R : List It) (x y : It) (k : Nat) (hL : L.length = k) : ((((cels (L ++ x :: R)).set (k * 4) (.int .i64 y.1)).set (k * 4 + 1) (.int .i64 y.2.1)).set (k * 4 + 2) (.int .i64 y.2.2.1)).set (k * 4 + 3) (.string y.2.2.2) = cels (L ++ y :: R) := by
  have hl : (cels L).length = k * 4 := by rw [cels_length, hL]
  have e := set_right (cels L) (cels (x :: R)) (k * 4) hl
  have e0 := e 0 (.int .i64 y.1)
  rw [Nat.add_zero] at e0
  rw [cels_append, e0, set_right _ _ _ hl, set_right _ _ _ hl, set_right _ _ _ hl, cels_append]
  rfl
theorem grown_tr {a b c : World} {row : Option Nat} (h : a.grownBy b row) (k : b.grownBy c row) : a.grownBy c row :=
  ⟨k.os.trans h.os, k.tape.trans h.tape, k.output.trans h.output, Nat.le_trans h.size k.size, fun i hi hn => (k.block i (Nat.lt_of_lt_of_le hi h.size) hn).trans (h.block i hi hn)⟩
theorem grown_blM {a b : World} {row : Option Nat} (h : Below a.heap.size a b) : a.grownBy b row := ⟨h.os, h.tape, h.output, h.size, fun k hk _ => h.block k hk⟩

set_option maxRecDepth 100000 in
set_option maxHeartbeats 2000000 in
theorem markItems_any (v : Value) (ts : List It) (B K : Nat) (w : World) (h : Hid (SlI w B v ts)) (hl : K + 4 * ts.length ≤ 39999990) (hK : 0 < K) :
    Calls Try.prog 14 #[v, .int .i64 K] w fun e w' => e = .returned (.int .i64 ((K + 4 * ts.length : Nat) : Int)) ∧ SlI w' B v (mkI K ts.length) ∧ w.grownBy w' v.ownBlock := by
  obtain ⟨ao, cap, rfl⟩ := Sl.form h.out
  go_enter Try.func14, Try.ntmps14
  go_wp2
  go_loopw [1, 5] (fun n i wr => ∃ (k : Nat), k ≤ ts.length ∧ n = .int .i64 ((K + 4 * k : Nat) : Int) ∧ i = .int .i64 k ∧ Hid (Sl wr 57 4 B (.slice ao ts.length cap) ts.length (cels (mkI K k ++ ts.drop k))) ∧ Hid (w.grownBy wr (Value.slice ao ts.length cap).ownBlock)) (fun _ i _ => ts.length - (intOf i).toNat)
  case atStart => exact ⟨0, Nat.zero_le _, rfl, rfl, h.out, World.grownBy.refl _ _⟩
  case round =>
    obtain ⟨k, hk, rfl, rfl, hS, hg⟩ := hrel
    by_cases hlt : k < ts.length
    · have HN : Hid (∀ y : It, cels (mkI K k ++ y :: ts.drop (k + 1)) = ((((cels (mkI K k ++ ts.drop k)).set (k * 4) (.int .i64 y.1)).set (k * 4 + 1) (.int .i64 y.2.1)).set (k * 4 + 2) (.int .i64 y.2.2.1)).set (k * 4 + 3) (.string y.2.2.2)) := fun y => by
        rw [List.drop_eq_getElem_cons hlt, cels_set _ _ _ _ k (mkI_length K k)]
      have hlen : (cels (mkI K k ++ ts.drop k)).length = ts.length * 4 := hS.out.1
      obtain ⟨g, off, cap', hv, hBg, hgl, hc, hf⟩ := Sl.read hS.out (by omega)
      simp at hv
      obtain ⟨rfl, rfl⟩ := hv
      have hcr : ∀ r, r < 4 → ∃ u, wr.cell? ⟨g, off + k * 4 + r, none⟩ = some u := fun r hr => by
        have hj : k * 4 + r < (cels (mkI K k ++ ts.drop k)).length := by omega
        refine ⟨(cels (mkI K k ++ ts.drop k))[k * 4 + r], ?_⟩
        rw [Nat.add_assoc]
        exact hc (k * 4 + r) _ (List.getElem?_eq_getElem hj)
      obtain ⟨a0, z0⟩ := hcr 0 (by omega)
      obtain ⟨a1, z1⟩ := hcr 1 (by omega)
      obtain ⟨a2, z2⟩ := hcr 2 (by omega)
      obtain ⟨a3, z3⟩ := hcr 3 (by omega)
      rw [Nat.add_zero] at z0
      have f0 := hf (off + k * 4)
      have f1 := hf (off + k * 4 + 1)
      have f2 := hf (off + k * 4 + 2)
      have f3 := hf (off + k * 4 + 3)
      obtain ⟨M, hM⟩ : ∃ M : Nat, M = K + 4 * k := ⟨_, rfl⟩
      rw [← hM]
      have HM : Hid (M = K + 4 * k) := hM
      have hMl : M ≤ 39999986 := by omega
      have hM0 : 0 < M := by omega
      clear hM hcr hc hf hlen
      have S3 : Hid (Sl (((wr.setCell ⟨g, off + k * 4, none⟩ (.int .i64 (M : Int))).setCell ⟨g, off + k * 4 + 1, none⟩ (.int .i64 ((M : Int) + 1))).setCell ⟨g, off + k * 4 + 2, none⟩ (.int .i64 ((M : Int) + 1 + 1))) 57 4 B (.slice (some ⟨g, off, none⟩) ts.length cap) ts.length (((((cels (mkI K k ++ ts.drop k)).set (k * 4) (.int .i64 (M : Int))).set (k * 4 + 1) (.int .i64 ((M : Int) + 1))).set (k * 4 + 2) (.int .i64 ((M : Int) + 1 + 1))))) := by
        have q0 := Sl.put hS.out (k * 4) (.int .i64 (M : Int))
        have q1 := Sl.put q0 (k * 4 + 1) (.int .i64 ((M : Int) + 1))
        have q2 := Sl.put q1 (k * 4 + 2) (.int .i64 ((M : Int) + 1 + 1))
        rw [← Nat.add_assoc, ← Nat.add_assoc] at q2
        exact q2
      have G3 : Hid (w.grownBy (((wr.setCell ⟨g, off + k * 4, none⟩ (.int .i64 (M : Int))).setCell ⟨g, off + k * 4 + 1, none⟩ (.int .i64 ((M : Int) + 1))).setCell ⟨g, off + k * 4 + 2, none⟩ (.int .i64 ((M : Int) + 1 + 1))) (some g)) := grown_tr (grown_tr (grown_tr hg.out (grown_cell _ _ _ _)) (grown_cell _ _ _ _)) (grown_cell _ _ _ _)
      go_wp2_with fail
      clear z0 z1 z2 z3 f0 f1 f2 f3 hS hg
      generalize ((wr.setCell ⟨g, off + k * 4, none⟩ (.int .i64 (M : Int))).setCell ⟨g, off + k * 4 + 1, none⟩ (.int .i64 ((M : Int) + 1))).setCell ⟨g, off + k * 4 + 2, none⟩ (.int .i64 ((M : Int) + 1 + 1)) = W3 at *
      refine (mark_at ((M : Int) + 1 + 1 + 1) W3 (by omega) (by omega)).mono ?_
      rintro e w4 ⟨rfl, hb4⟩
      rw [show ((M : Int) + 1 + 1 + 1).toNat = M + 3 by omega]
      have S4 := Sl.below S3.out hb4
      have G4 : Hid (w.grownBy w4 (some g)) := grown_tr G3.out (grown_blM hb4)
      have hlen4 := S4.1
      have z3 : ∃ u, w4.cell? ⟨g, off + k * 4 + 3, none⟩ = some u := by
        obtain ⟨g', off', cap', hv, _, _, hc, _⟩ := Sl.read S4 (by omega)
        simp at hv
        obtain ⟨⟨rfl, rfl⟩, rfl⟩ := hv
        rw [Nat.add_assoc]
        exact ⟨_, hc (k * 4 + 3) _ (List.getElem?_eq_getElem (by rw [hlen4]; omega))⟩
      have f3 : w4.frozen? ⟨g, off + k * 4 + 3, none⟩ = false := by
        obtain ⟨g', off', cap', hv, _, _, _, hf⟩ := Sl.read S4 (by omega)
        simp at hv
        obtain ⟨⟨rfl, rfl⟩, rfl⟩ := hv
        exact hf _
      obtain ⟨a3, z3⟩ := z3
      have S5 : Hid (Sl (w4.setCell ⟨g, off + k * 4 + 3, none⟩ (.string (markS (M + 3)))) 57 4 B (.slice (some ⟨g, off, none⟩) ts.length cap) ts.length (cels (mkI K (k + 1) ++ ts.drop (k + 1)))) := by
        have q := Sl.put S4 (k * 4 + 3) (.string (markS (M + 3)))
        rw [← Nat.add_assoc] at q
        have e := HN.out ((M : Int), (M : Int) + 1, (M : Int) + 1 + 1, markS (M + 3))
        dsimp only at e
        rw [← e] at q
        rw [mkI_succ, List.append_assoc]
        have hM := HM.out
        have e2 : (((K + 4 * k : Nat) : Int), ((K + 4 * k + 1 : Nat) : Int), ((K + 4 * k + 2 : Nat) : Int), markS (K + 4 * k + 3)) = ((M : Int), (M : Int) + 1, (M : Int) + 1 + 1, markS (M + 3)) := by
          subst hM
          refine Prod.ext rfl (Prod.ext ?_ (Prod.ext ?_ rfl))
          · show ((K + 4 * k + 1 : Nat) : Int) = ((K + 4 * k : Nat) : Int) + 1; omega
          · show ((K + 4 * k + 2 : Nat) : Int) = ((K + 4 * k : Nat) : Int) + 1 + 1; omega
        rw [e2]
        exact q
      have G5 : Hid (w.grownBy (w4.setCell ⟨g, off + k * 4 + 3, none⟩ (.string (markS (M + 3)))) (some g)) := grown_tr G4.out (grown_cell _ _ _ _)
      clear S4 G4 hb4 hlen4 S3 G3 HN
      go_wp2_with fail
      go_roundw
      case rel => exact ⟨k + 1, by omega, by have := HM.out; congr 1; omega, by go_num, S5, G5⟩
      case measure => simp [intOf]; omega
    · obtain rfl : k = ts.length := by omega
      go_wp2_with fail
      go_ret
      refine ⟨rfl, ?_, hg.out⟩
      have := hS.out
      rw [List.drop_length, List.append_nil] at this
      unfold SlI
      rw [mkI_length]
      exact this

set_option maxRecDepth 100000 in
set_option maxHeartbeats 2000000 in
theorem heldItems_any (v : Value) (n B K : Nat) (w : World) (h : Hid (SlI w B v (mkI K n))) (hl : K + 4 * n ≤ 39999990) (hK : 0 < K) :
    Calls Try.prog 15 #[v, .int .i64 K] w fun e w' => e = .returned (.int .i64 ((K + 4 * n : Nat) : Int)) ∧ Below w.heap.size w w' := by
  obtain ⟨ao, cap, rfl, hx⟩ := h.out.items
  have HX : Hid (ItemsAt w ao (mkI K n)) := hx
  have hml := mkI_length K n
  rw [hml]
  clear hml hx h
  go_enter Try.func15, Try.ntmps15
  go_wp2
  go_loopw [1, 5] (fun m i wr => ∃ (k : Nat), k ≤ n ∧ m = .int .i64 ((K + 4 * k : Nat) : Int) ∧ i = .int .i64 k ∧ Hid (Below w.heap.size w wr)) (fun _ i _ => n - (intOf i).toNat)
  case atStart => exact ⟨0, Nat.zero_le _, rfl, rfl, Below.refl _ _⟩
  case round =>
    obtain ⟨k, hk, rfl, rfl, hb⟩ := hrel
    by_cases hlt : k < n
    · obtain ⟨b, off, rfl, hbb, h0, h1, h2, h3⟩ := HX.out.stays hb.out k (by rw [mkI_length]; exact hlt)
      rw [mkI_at] at h0 h1 h2 h3
      dsimp only at h0 h1 h2 h3
      obtain ⟨M, hM⟩ : ∃ M : Nat, M = K + 4 * k := ⟨_, rfl⟩
      rw [← hM] at h0 h1 h2 h3 ⊢
      have HM : Hid (M = K + 4 * k) := hM
      have hMl : M ≤ 39999986 := by omega
      have hM0 : 0 < M := by omega
      clear hM
      rw [show ((M + 1 : Nat) : Int) = (M : Int) + 1 by omega] at h1
      rw [show ((M + 2 : Nat) : Int) = (M : Int) + 1 + 1 by omega] at h2
      have i0 : (0 : Int) ≤ (k : Int) := by omega
      have i1 : (k : Int) < (n : Int) := by omega
      have hmk : ((M : Int) + 1 + 1 + 1) = ((M + 3 : Nat) : Int) := by omega
      go_wp2_with fail
      refine quietC (C := (fun w' => w'.cell? ⟨b, off + k * 4 + 3, none⟩ = some (.string (markS (M + 3))) ∧ Hid (Below wr.heap.size wr w'))) (by kernel_rfl) (by kernel_rfl) ⟨h3, (Below.refl _ _).drew⟩ ?_
      go_big_quiet_want
      go_big_quiet_op
      go_big_quiet_on
      go_big_quiet_want
      go_big_quiet_op
      go_big_quiet_on
      go_big_quiet_want
      refine q_val (.pointer (some ⟨b, off + k * 4, none⟩)) (fun w' hw' => by go_simp) ?_
      go_big_quiet_on
      simp only [Act.put, List.setIfInBounds_toArray, List.set_cons_zero, List.set_cons_succ]
      go_big_quiet_want
      refine q_val (.pointer (some ⟨b, off + k * 4 + 3, none⟩)) (fun w' hw' => by go_simp) ?_
      go_big_quiet_on
      simp only [Act.put, List.setIfInBounds_toArray, List.set_cons_zero, List.set_cons_succ]
      go_big_quiet_want
      refine q_val (.string (markS (M + 3))) (fun w' hw' => by obtain ⟨g3, _⟩ := hw'; go_simp) ?_
      go_big_quiet_on
      simp only [Act.put, List.setIfInBounds_toArray, List.set_cons_zero, List.set_cons_succ]
      go_big_quiet_want
      go_big_quiet_op
      go_big_quiet_on
      go_big_quiet_want
      refine q_call (.string (markS (M + 3))) 32 #[.int .i64 ((M : Int) + 1 + 1 + 1)] (fun w' hw' => by go_simp) (fun w' hw' => (mark_at ((M : Int) + 1 + 1 + 1) w' (by omega) (by omega)).mono fun e w'' ⟨he, hb1⟩ => ⟨by rw [he, show ((M : Int) + 1 + 1 + 1).toNat = M + 3 by omega], (hb1.cell (p := ⟨b, off + k * 4 + 3, none⟩) (Nat.lt_of_lt_of_le hbb hw'.2.out.size)).trans hw'.1, hw'.2.out.trans (hb1.mono hw'.2.out.size)⟩) ?_
      go_big_quiet_on
      simp only [Act.put, List.setIfInBounds_toArray, List.set_cons_zero, List.set_cons_succ]
      go_big_quiet_want
      refine q_val (.bool false) (fun w' hw' => by go_simp) ?_
      go_big_quiet_on
      simp only [Act.put, List.setIfInBounds_toArray, List.set_cons_zero, List.set_cons_succ]
      refine wpQuiet_nil ?_
      intro w1 hcw
      have B1 : Hid (Below w.heap.size w w1) := hb.out.trans (hcw.2.out.mono hb.out.size)
      clear hcw h0 h1 h2 h3
      go_wp2_with fail
      go_roundw
      case rel => exact ⟨k + 1, by omega, by have := HM.out; congr 1; omega, by go_num, B1⟩
      case measure => simp [intOf]; omega
    · obtain rfl : k = n := by omega
      go_wp2_with fail
      go_ret
      exact ⟨rfl, hb.out⟩
end Go.Proofs.Ytdodeillifoibaa


/- Lists of texts that a law sizes, copies, compares and writes over. -/
namespace Go.Proofs.Ytdodeillifoibaa
open Go.RowKit Pl
set_option linter.unusedVariables false

end Go.Proofs.Ytdodeillifoibaa


/- Lists of texts that are marked, and looked at again. -/
namespace Go.Proofs.Ytdodeillifoibaa
open Go.RowKit Pl
set_option linter.unusedVariables false

/-- the texts that marks are. -/
def mkT (K n : Nat) : List ByteArray := (List.range n).map fun j => markS (K + j)
end Go.Proofs.Ytdodeillifoibaa


/- Members of a ring in plain words, and where they lie. -/
namespace Go.Proofs.Ytdodeillifoibaa
open Go.RowKit Pl
set_option linter.unusedVariables false

/-- a token, plain. -/
structure Tok where
  c : Int
  r : Int
  q : Int
  a : Int
  b : Int
  ws : List Int
/-- a member, plain. -/
structure Mt where
  id : Int
  rid : Int
  ms : List Int
  its : List It
  lv : List Int
  tx : List ByteArray
  rd : Int
  se : Int
  li : Int
  he : Int
  la : Tok
/-- a slice. -/
structure Sv where
  a : Option Addr
  n : Nat
  c : Nat
def Sv.v (s : Sv) : Value := .slice s.a s.n s.c
/-- a member's lists, as slices. -/
structure Mv where
  ms : Sv
  its : Sv
  lv : Sv
  tx : Sv
  ws : Sv
def zTok : Tok := ⟨0, 0, 0, 0, 0, []⟩
def zMt : Mt := ⟨0, 0, [], [], [], [], 0, 0, 0, 0, zTok⟩
def zSv : Sv := ⟨none, 0, 0⟩
def zMv : Mv := ⟨zSv, zSv, zSv, zSv, zSv⟩

/-- the block g holds these cells. -/
def Bx (w : World) (g : Nat) (T : TypeId) (cs : List Value) : Prop := w.heap[g]? = some (.cells cs.toArray T (0, 0))
section
variable {w w' : World} {g T : Nat} {cs : List Value}
theorem Bx.new (w : World) (T : TypeId) (cs : List Value) : Bx (w.alloc (.cells cs.toArray T)) w.heap.size T cs := heap_alloc_new w _
theorem Bx.cell (h : Bx w g T cs) (k : Nat) : w.cell? ⟨g, k, none⟩ = cs[k]? := by
  rw [cell_of_row w g k _ T (0, 0) h]; simp
theorem Bx.frozen (h : Bx w g T cs) (k : Nat) : w.frozen? ⟨g, k, none⟩ = false := frozen_of_row w g k _ T h
theorem Bx.lt (h : Bx w g T cs) : g < w.heap.size := (Array.getElem?_eq_some_iff.1 h).1
theorem Bx.stays {B : Nat} (h : Bx w g T cs) (hb : Below B w w') (hg : g < B) : Bx w' g T cs := (hb.block g hg).trans h
theorem Bx.later (h : Bx w g T cs) (hb : Below w.heap.size w w') : Bx w' g T cs := h.stays hb h.lt
theorem Bx.set (h : Bx w g T cs) (k : Nat) (u : Value) : Bx (w.setCell ⟨g, k, none⟩ u) g T (cs.set k u) := by
  have := heap_setCell_same w g k _ T u h
  simpa [Bx] using this
theorem Bx.turn {k : Nat} (h : Bx w g T cs) (ht : TurnAt k w w') (hne : g ≠ k) : Bx w' g T cs := (ht.block g hne).trans h
theorem Bx.grown {row : Option Nat} (h : Bx w g T cs) (hg : w.grownBy w' row) (hne : some g ≠ row) : Bx w' g T cs := (hg.block g h.lt hne).trans h
end

/-- lists that are read. -/
def RI (w : World) (v : Value) (xs : List Int) : Prop := ∃ ao cap, v = .slice ao xs.length cap ∧ IntsAt w ao xs
def RT (w : World) (v : Value) (xs : List ByteArray) : Prop := ∃ ao cap, v = .slice ao xs.length cap ∧ TextsAt w ao xs
def RIt (w : World) (v : Value) (xs : List It) : Prop := ∃ ao cap, v = .slice ao xs.length cap ∧ ItemsAt w ao xs
section
variable {w w' : World} {v : Value}
theorem RI.stays {xs : List Int} (h : RI w v xs) (hb : Below w.heap.size w w') : RI w' v xs := by obtain ⟨a, c, h1, h2⟩ := h; exact ⟨a, c, h1, h2.stays hb⟩
theorem RT.stays {xs : List ByteArray} (h : RT w v xs) (hb : Below w.heap.size w w') : RT w' v xs := by obtain ⟨a, c, h1, h2⟩ := h; exact ⟨a, c, h1, h2.stays hb⟩
theorem RIt.stays {xs : List It} (h : RIt w v xs) (hb : Below w.heap.size w w') : RIt w' v xs := by obtain ⟨a, c, h1, h2⟩ := h; exact ⟨a, c, h1, h2.stays hb⟩
theorem Pl.OwnI.ri {B : Nat} {xs : List Int} (h : OwnI w B v xs) : RI w v xs := h.ints
theorem Pl.OwnS.rt {B : Nat} {xs : List ByteArray} (h : OwnS w B v xs) : RT w v xs := h.texts
theorem SlI.rit {B : Nat} {xs : List It} (h : SlI w B v xs) : RIt w v xs := h.items
end
/-- a member's lists are read. -/
structure MtR (w : World) (m : Mt) (v : Mv) : Prop where
  ms : RI w v.ms.v m.ms
  its : RIt w v.its.v m.its
  lv : RI w v.lv.v m.lv
  tx : RT w v.tx.v m.tx
  ws : RI w v.ws.v m.la.ws
theorem MtR.stays {w w' : World} {m : Mt} {v : Mv} (h : MtR w m v) (hb : Below w.heap.size w w') : MtR w' m v := ⟨h.ms.stays hb, h.its.stays hb, h.lv.stays hb, h.tx.stays hb, h.ws.stays hb⟩
/-- .. and are not too long. -/
structure MtS (m : Mt) : Prop where
  ms : m.ms.length ≤ 1048576
  its : m.its.length ≤ 1048576
  lv : m.lv.length ≤ 1048576
  tx : m.tx.length ≤ 1048576
  ws : m.la.ws.length ≤ 1048576
  it : ∀ x ∈ m.its, x.2.2.2.size ≤ 1048576
  te : ∀ x ∈ m.tx, x.size ≤ 1048576
  all : m.ms.length + m.its.length + m.lv.length + m.tx.length + m.la.ws.length ≤ 1048576

/-- two values that don't share a block. -/
def Ap (a b : Value) : Prop := ∀ k, a.ownBlock = some k → b.ownBlock ≠ some k
theorem Ap.symm {a b : Value} (h : Ap a b) : Ap b a := fun k hb ha => h k ha hb
theorem own_is_i {w : World} {B : Nat} {v : Value} {xs : List Int} (h : OwnI w B v xs) {k : Nat} (hk : v.ownBlock = some k) : ∃ cs, w.heap[k]? = some (.cells cs 3 (0, 0)) := by
  rcases h.2 with ⟨rfl, _⟩ | ⟨g, cap, cur, rfl, _, hg, _⟩
  · cases hk
  · cases hk; exact ⟨_, hg⟩
theorem own_is_s {w : World} {B : Nat} {v : Value} {xs : List ByteArray} (h : OwnS w B v xs) {k : Nat} (hk : v.ownBlock = some k) : ∃ cs, w.heap[k]? = some (.cells cs 9 (0, 0)) := by
  rcases h.2 with ⟨rfl, _⟩ | ⟨g, cap, cur, rfl, _, hg, _⟩
  · cases hk
  · cases hk; exact ⟨_, hg⟩
theorem own_is_it {w : World} {B : Nat} {v : Value} {xs : List It} (h : SlI w B v xs) {k : Nat} (hk : v.ownBlock = some k) : ∃ cs, w.heap[k]? = some (.cells cs 57 (0, 0)) := by
  rcases h.2 with ⟨rfl, _⟩ | ⟨g, off, cap, cur, rfl, _, hg, _⟩
  · cases hk
  · cases hk; exact ⟨_, hg⟩
theorem bx_i_ne {w : World} {B g T : Nat} {a : Value} {xs : List Int} {cs : List Value} (h : OwnI w B a xs) (k : Bx w g T cs) (hT : T ≠ 3) : a.ownBlock ≠ some g := fun h1 => by
  obtain ⟨_, e1⟩ := own_is_i h h1; unfold Bx at k; rw [e1] at k; simp at k; exact hT k.2.symm
theorem bx_s_ne {w : World} {B g T : Nat} {a : Value} {xs : List ByteArray} {cs : List Value} (h : OwnS w B a xs) (k : Bx w g T cs) (hT : T ≠ 9) : a.ownBlock ≠ some g := fun h1 => by
  obtain ⟨_, e1⟩ := own_is_s h h1; unfold Bx at k; rw [e1] at k; simp at k; exact hT k.2.symm
theorem bx_it_ne {w : World} {B g T : Nat} {a : Value} {xs : List It} {cs : List Value} (h : SlI w B a xs) (k : Bx w g T cs) (hT : T ≠ 57) : a.ownBlock ≠ some g := fun h1 => by
  obtain ⟨_, e1⟩ := own_is_it h h1; unfold Bx at k; rw [e1] at k; simp at k; exact hT k.2.symm

/-- a member's lists are its own, each apart. -/
structure MtO (w : World) (B : Nat) (m : Mt) (v : Mv) : Prop where
  ms : OwnI w B v.ms.v m.ms
  its : SlI w B v.its.v m.its
  lv : OwnI w B v.lv.v m.lv
  tx : OwnS w B v.tx.v m.tx
  ws : OwnI w B v.ws.v m.la.ws
  a1 : Ap v.ms.v v.lv.v
  a2 : Ap v.ms.v v.ws.v
  a3 : Ap v.lv.v v.ws.v
/-- the blocks of a member's lists. -/
def Mv.own (v : Mv) (k : Nat) : Prop := v.ms.v.ownBlock = some k ∨ v.its.v.ownBlock = some k ∨ v.lv.v.ownBlock = some k ∨ v.tx.v.ownBlock = some k ∨ v.ws.v.ownBlock = some k
section
variable {w w' : World} {B : Nat} {m : Mt} {v : Mv}
theorem MtO.r (h : MtO w B m v) : MtR w m v := ⟨h.ms.ri, h.its.rit, h.lv.ri, h.tx.rt, h.ws.ri⟩
theorem MtO.lt (h : MtO w B m v) {k : Nat} (hk : v.own k) : B ≤ k ∧ k < w.heap.size := by
  rcases hk with h1 | h1 | h1 | h1 | h1
  · exact h.ms.lt k h1
  · exact h.its.lt k h1
  · exact h.lv.lt k h1
  · exact h.tx.lt k h1
  · exact h.ws.lt k h1
theorem Pl.OwnS.keep' {w w' : World} {B : Nat} {v : Value} {ss : List ByteArray} (h : OwnS w B v ss) (hk : ∀ k, v.ownBlock = Option.some k → k < w.heap.size → w'.heap[k]? = w.heap[k]?) : OwnS w' B v ss := by
  refine ⟨h.1, ?_⟩
  rcases h.2 with hn | ⟨g, cap, cur, rfl, hbg, hg, rest⟩
  · exact .inl hn
  · exact .inr ⟨g, cap, cur, rfl, hbg, (hk g rfl (Array.getElem?_eq_some_iff.1 hg).1).trans hg, rest⟩
theorem MtO.keep (h : MtO w B m v) (hk : ∀ k, v.own k → k < w.heap.size → w'.heap[k]? = w.heap[k]?) : MtO w' B m v :=
  ⟨h.ms.keep fun k a b => hk k (.inl a) b, h.its.keep fun k a b => hk k (.inr (.inl a)) b, h.lv.keep fun k a b => hk k (.inr (.inr (.inl a))) b, h.tx.keep' fun k a b => hk k (.inr (.inr (.inr (.inl a)))) b, h.ws.keep fun k a b => hk k (.inr (.inr (.inr (.inr a)))) b, h.a1, h.a2, h.a3⟩
theorem MtO.later (h : MtO w B m v) (hb : Below w.heap.size w w') : MtO w' B m v := h.keep fun k _ hk => hb.block k hk
theorem MtO.down {B' : Nat} (h : MtO w B m v) (hB : B' ≤ B) : MtO w B' m v := ⟨h.ms.down hB, h.its.down hB, h.lv.down hB, h.tx.down hB, h.ws.down hB, h.a1, h.a2, h.a3⟩
end

/-- the block g is a member. -/
def MtB (w : World) (g T : Nat) (m : Mt) (v : Mv) : Prop := Bx w g T [.int .i64 m.id, .int .i64 m.rid, .slice v.ms.a v.ms.n v.ms.c, .slice v.its.a v.its.n v.its.c, .slice v.lv.a v.lv.n v.lv.c, .slice v.tx.a v.tx.n v.tx.c, .int .i64 m.rd, .int .i64 m.se, .int .i64 m.li, .int .i64 m.he, .int .i64 m.la.c, .int .i64 m.la.r, .int .i64 m.la.q, .int .i64 m.la.a, .int .i64 m.la.b, .slice v.ws.a v.ws.n v.ws.c]
theorem MtB.cells {w : World} {g T : Nat} {m : Mt} {v : Mv} (h : MtB w g T m v) :
    (w.cell? ⟨g, 0, none⟩ = some (.int .i64 m.id) ∧ w.cell? ⟨g, 1, none⟩ = some (.int .i64 m.rid) ∧ w.cell? ⟨g, 2, none⟩ = some (.slice v.ms.a v.ms.n v.ms.c) ∧ w.cell? ⟨g, 3, none⟩ = some (.slice v.its.a v.its.n v.its.c) ∧ w.cell? ⟨g, 4, none⟩ = some (.slice v.lv.a v.lv.n v.lv.c) ∧ w.cell? ⟨g, 5, none⟩ = some (.slice v.tx.a v.tx.n v.tx.c)) ∧
    (w.cell? ⟨g, 6, none⟩ = some (.int .i64 m.rd) ∧ w.cell? ⟨g, 7, none⟩ = some (.int .i64 m.se) ∧ w.cell? ⟨g, 8, none⟩ = some (.int .i64 m.li) ∧ w.cell? ⟨g, 9, none⟩ = some (.int .i64 m.he)) ∧
    (w.cell? ⟨g, 10, none⟩ = some (.int .i64 m.la.c) ∧ w.cell? ⟨g, 11, none⟩ = some (.int .i64 m.la.r) ∧ w.cell? ⟨g, 12, none⟩ = some (.int .i64 m.la.q) ∧ w.cell? ⟨g, 13, none⟩ = some (.int .i64 m.la.a) ∧ w.cell? ⟨g, 14, none⟩ = some (.int .i64 m.la.b) ∧ w.cell? ⟨g, 15, none⟩ = some (.slice v.ws.a v.ws.n v.ws.c)) :=
  ⟨⟨Bx.cell h 0, Bx.cell h 1, Bx.cell h 2, Bx.cell h 3, Bx.cell h 4, Bx.cell h 5⟩, ⟨Bx.cell h 6, Bx.cell h 7, Bx.cell h 8, Bx.cell h 9⟩, Bx.cell h 10, Bx.cell h 11, Bx.cell h 12, Bx.cell h 13, Bx.cell h 14, Bx.cell h 15⟩
end Go.Proofs.Ytdodeillifoibaa


/- Boxes that are loaded and stored as a whole, or in a part, in a walk. No function of the program is named here. -/
namespace Go.Proofs.Ytdodeillifoibaa
open Go.RowKit Pl
set_option linter.unusedVariables false

section
variable {P : Program} {ops : Array Oper} {rest : List Oper} {o : Oper} {a : Act} {w : World} {Q : Exit → Act → World → Prop}
theorem Bx.range {g T : Nat} {all : List Value} (h : Bx w g T all) (off : Nat) (cs : List Value) (hp : (all.drop off).take cs.length = cs) : w.rangeAt g off cs := by
  intro j v hv
  rw [h.cell]
  have hj : j < cs.length := (List.getElem?_eq_some_iff.1 hv).1
  rw [← hp, List.getElem?_take, if_pos hj, List.getElem?_drop] at hv
  exact hv
theorem Bx.there {g T : Nat} {all : List Value} (h : Bx w g T all) (off n : Nat) (hn : off + n ≤ all.length) : w.there g off n := fun j hj => by
  refine ⟨?_, h.frozen _⟩
  rw [h.cell, List.getElem?_eq_getElem (by omega)]
  rfl
theorem setCells_list : ∀ (vs : List Value) (w : World) (g o T : Nat) (all : List Value), Bx w g T all → o + vs.length ≤ all.length → Bx (w.setCells g o vs) g T (all.take o ++ vs ++ all.drop (o + vs.length)) := by
  intro vs
  induction vs with
  | nil => intro w g o T all h _; simpa [World.setCells] using h
  | cons x vs ih =>
    intro w g o T all h hl
    simp only [List.length_cons] at hl
    have h1 := h.set o x
    have h2 := ih _ g (o + 1) T _ h1 (by simp; omega)
    rw [World.setCells]
    have e : (all.set o x).take (o + 1) ++ vs ++ (all.set o x).drop (o + 1 + vs.length) = all.take o ++ x :: vs ++ all.drop (o + (x :: vs).length) := by
      rw [List.drop_set, if_pos (by omega), List.take_set]
      have e1 : (all.take (o + 1)).set o x = all.take o ++ [x] := by
        rw [List.take_succ_eq_append_getElem (by omega), List.set_append, if_neg (by rw [List.length_take]; omega)]
        simp [List.length_take, Nat.min_eq_left (show o ≤ all.length by omega)]
      rw [e1]
      simp [Nat.add_assoc, Nat.add_comm 1 vs.length]
    rw [e] at h2
    exact h2
theorem setCells_turn : ∀ (vs : List Value) (w : World) (g o : Nat), TurnAt g w (w.setCells g o vs) := by
  intro vs
  induction vs with
  | nil => intro w g o; exact TurnAt.refl _ _
  | cons x vs ih =>
    intro w g o
    rw [World.setCells]
    exact ((TurnAt.refl g w).setCell o x).trans (ih _ g (o + 1))

/-- one cell of a box is stored. -/
theorem run_st1 {P : Program} {w : World} {g T : Nat} {all : List Value} (hB : Bx w g T all) (off : Nat) (u : Value) (hl : off < all.length) (h1 : u.oneCell' = true) (ty : TypeId) (hi : (P.info? ty).map (·.size) = some 1) : (Instr.storeAt ty (.pointer (some ⟨g, off, none⟩)) u).run P w = .ok () (w.setCell ⟨g, off, none⟩ u) := by
  have hc : w.cell? ⟨g, off, none⟩ = some all[off] := by rw [hB.cell, List.getElem?_eq_getElem hl]
  have hf := hB.frozen off
  have hcs : u.cells = #[u] := by cases u <;> first | rfl | (simp [Value.oneCell'] at h1)
  cases hq : P.info? ty with
  | none => simp [hq] at hi
  | some i =>
    have hs : i.size = 1 := by simpa [hq] using hi
    have ha : (⟨g, off, none⟩ : Addr).add 0 = ⟨g, off, none⟩ := by unfold Addr.add; split <;> simp_all
    have hst := run_store P w ⟨g, off, none⟩ u .plain h1
    rw [hc, hf] at hst
    simp [Instr.storeAt, Instr.sureAddr, storeVar, sizeOf, typeInfo, hq, hs, hcs, storeCells, ha]
    simpa using hst
theorem wpList_st1 (hgd : o.guard = none) (ty : TypeId) (x y : Operand) (ho : o.op = .store ty x y) (g off : Nat) (hx : a.eval x = .pointer (some ⟨g, off, none⟩)) (T : Nat) (all : List Value) (hB : Bx w g T all) (u : Value) (hy : a.eval y = u) (hl : off < all.length) (h1 : u.oneCell' = true)
    (hi : (P.info? ty).map (·.size) = some 1) (all' : List Value) (he : all.set off u = all') (h : ∀ w', Bx w' g T all' → TurnAt g w w' → wpList P ops Q rest (a.put o.dst undef) w') : wpList P ops Q (o :: rest) a w :=
  wpList_plain hgd fun K hK => by
    unfold Oper.wp execOp
    simp only [ho, hx, hy, Sem.run_bind, run_st1 hB off u hl h1 ty hi, Result.andThen_ok, Sem.run_pure]
    subst he
    exact hK _ _ (h _ (hB.set off u) ((TurnAt.refl g w).setCell off u))
/-- what a store into a box leaves. -/
theorem Bx.store {g T : Nat} {all : List Value} (hB : Bx w g T all) (P : Program) (ty : TypeId) (off : Nat) (cs : List Value) (hl : off + cs.length ≤ all.length) (hi : (P.info? ty).map (·.size) = some cs.length) (h1 : cs.all (·.oneCell') = true) (all' : List Value) (he : all.take off ++ cs ++ all.drop (off + cs.length) = all') :
    ∃ w', (storeVar ty ⟨g, off, none⟩ (.agg cs.toArray)).run P w = .ok () w' ∧ Bx w' g T all' ∧ TurnAt g w w' := by
  subst he
  exact ⟨_, run_storeVar_mid w g off ty cs.toArray (by simpa using hB.there off cs.length hl) (by simpa using hi) (all_oneCell_toArray (List.all_eq_true.1 h1)), by simpa using setCells_list cs w g off T all hB hl, by simpa using setCells_turn cs w g off⟩
/-- .. in an operation that is guarded, and wanted. -/
theorem wpList_ldG (hw : Region.wanted o (yielded ops a.tmps) = true) (ty : TypeId) (x : Operand) (ho : o.op = .load ty x) (g off : Nat) (hx : a.eval x = .pointer (some ⟨g, off, none⟩)) (T : Nat) (all : List Value) (hB : Bx w g T all) (cs : List Value) (hp : (all.drop off).take cs.length = cs)
    (d : TypeDesc) (hu : P.underlying ty = some d) (hd : d.isRow = true) (hi : (P.info? ty).map (·.size) = some cs.length)
    (h : wpList P ops Q rest (a.put o.dst (.agg cs.toArray)) w) : wpList P ops Q (o :: rest) a w :=
  wpList_step fun K hK => by
    rw [if_pos hw]
    exact wp_load_mid ty x ho g off hx cs d (hB.range off cs hp) hu hd hi (hK _ _ h)
/-- a struct is stored into a box, or into a part of it. -/
theorem wpList_stB (hgd : o.guard = none) (ty : TypeId) (x y : Operand) (ho : o.op = .store ty x y) (g off : Nat) (hx : a.eval x = .pointer (some ⟨g, off, none⟩)) (T : Nat) (all : List Value) (hB : Bx w g T all) (cs : List Value) (hy : a.eval y = .agg cs.toArray)
    (hl : off + cs.length ≤ all.length) (hi : (P.info? ty).map (·.size) = some cs.length) (h1 : cs.all (·.oneCell') = true) (all' : List Value) (he : all.take off ++ cs ++ all.drop (off + cs.length) = all')
    (h : ∀ w', Bx w' g T all' → TurnAt g w w' → wpList P ops Q rest (a.put o.dst undef) w') : wpList P ops Q (o :: rest) a w := by
  refine wpList_store_mid hgd ty x y ho g off cs.toArray hx hy (by simpa using hB.there off cs.length hl) (by simpa using hi) (all_oneCell_toArray (List.all_eq_true.1 h1)) ?_
  subst he
  exact h _ (by simpa using setCells_list cs w g off T all hB hl) (by simpa using setCells_turn cs w g off)
end

/-- what is owned stands where a box of another kind has turned. -/
theorem Pl.OwnI.past {w w' : World} {B g T : Nat} {v : Value} {xs : List Int} {cs : List Value} (h : OwnI w B v xs) (hB : Bx w g T cs) (ht : TurnAt g w w') (hT : T ≠ 3) : OwnI w' B v xs := h.keep fun k hk _ => ht.block k (fun e => bx_i_ne h hB hT (e ▸ hk))
theorem Pl.OwnS.past {w w' : World} {B g T : Nat} {v : Value} {xs : List ByteArray} {cs : List Value} (h : OwnS w B v xs) (hB : Bx w g T cs) (ht : TurnAt g w w') (hT : T ≠ 9) : OwnS w' B v xs := h.keep' fun k hk _ => ht.block k (fun e => bx_s_ne h hB hT (e ▸ hk))
theorem SlI.past {w w' : World} {B g T : Nat} {v : Value} {xs : List It} {cs : List Value} (h : SlI w B v xs) (hB : Bx w g T cs) (ht : TurnAt g w w') (hT : T ≠ 57) : SlI w' B v xs := h.keep fun k hk _ => ht.block k (fun e => bx_it_ne h hB hT (e ▸ hk))
section
variable {P : Program} {w : World} {fn : Func} {tmps : Array Value}
theorem results_b {p : Tmp} {ty : TypeId} (h : fn.results = #[.cell p ty]) (g T : Nat) (cs : List Value) (d : TypeDesc) (hp : tmps.getD p undef = .pointer (some ⟨g, 0, none⟩)) (hB : Bx w g T cs)
    (hu : P.underlying ty = some d) (hd : d.isRow = true) (hi : (P.info? ty).map (·.size) = some cs.length) : (results fn tmps).run P w = .ok (.agg cs.toArray) w := by
  have hl := run_loadVar_mid (P := P) w g 0 ty cs d (hB.range 0 cs (by simp)) hu hd hi
  have hp' : tmps[p]?.getD undef = .pointer (some ⟨g, 0, none⟩) := by simpa using hp
  simp [results, h, hp', asAddr, hl]
end
theorem Try.size3 : (Try.prog.info? 3).map (·.size) = some 1 := by kernel_rfl
theorem Try.sizeNs : (Try.prog.info? 49).map (·.size) = some 1 := by kernel_rfl
theorem Try.sizeR : (Try.prog.info? 56).map (·.size) = some 2 := by kernel_rfl
theorem Try.sizeI : (Try.prog.info? 57).map (·.size) = some 4 := by kernel_rfl
end Go.Proofs.Ytdodeillifoibaa


/- A statement that leaves its order open, walked with a condition on the worlds that it passes through, its last operation apart: that one waits for all others, and the condition need not hold behind it. -/
namespace Go.Proofs.Ytdodeillifoibaa.Pl
open Go Go.RowKit
set_option linter.unusedVariables false

section
variable {P : Program} {ops : Array Oper} {Q : Exit → Act → World → Prop} {a : Act} {w : World}
/-! ### a statement that leaves its order open, its last operation apart -/
/-- i comes, by edges, ahead of j. -/
def reachB (ops : Array Oper) : Nat → Nat → Nat → Bool
  | 0, _, _ => false
  | f + 1, j, i => ((ops[j]?).map (fun o => o.after.any fun e => Region.binds .any e && (e.on == i || reachB ops f e.on i))).getD false
/-- every edge goes back. -/
def backB (ops : Array Oper) : Bool := (List.range ops.size).all fun i => ((ops[i]?).map (fun o => o.after.all fun e => !Region.binds .any e || decide (e.on < i))).getD true

def DownL (ops : Array Oper) (listed : Array Bool) : Prop := ∀ i o, ops[i]? = some o → listed.getD i false = true → ∀ e ∈ o.after, Region.binds .any e = true → listed.getD e.on false = true

end
section
variable {P : Program} {Q : Exit → Act → World → Prop} {S : World → Prop}
/-- Q, but behind all the others: the last operation. -/
def LastQ (P : Program) (ops : Array Oper) (Q : Exit → Act → World → Prop) (m : Nat) : Exit → Act → World → Prop
  | .normal, a, w => wpOp P ops Q m (fun a' w' => Q .normal a' w') a w
  | e, a, w => Q e a w

end
end Go.Proofs.Ytdodeillifoibaa.Pl


/- Places that are marked one after another, whatever lists they lie in: each cell once, all else stays. -/
namespace Go.Proofs.Ytdodeillifoibaa
open Go.RowKit Pl
set_option linter.unusedVariables false

/-- a place: block, offset, and what a number becomes there (0: a number, 1: a bool, 2: a text). -/
abbrev Spot := Nat × Nat × Nat
def vk (d k : Nat) : Value := if d = 0 then .int .i64 (k : Int) else if d = 1 then .bool (decide (k % 3 = 0)) else .string (markS k)
theorem vk0 (k : Nat) : vk 0 k = .int .i64 (k : Int) := rfl
theorem vk2 (k : Nat) : vk 2 k = .string (markS k) := rfl
/-- places that may be marked: none twice, each lies there, none is frozen. -/
structure TLok (w : World) (TL : List Spot) : Prop where
  nd : TL.Pairwise fun a b => ¬ (a.1 = b.1 ∧ a.2.1 = b.2.1)
  lt : ∀ s ∈ TL, s.1 < w.heap.size
  live : ∀ s ∈ TL, ∃ u, w.cell? ⟨s.1, s.2.1, none⟩ = some u
  fr : ∀ s ∈ TL, w.frozen? ⟨s.1, s.2.1, none⟩ = false
/-- the first n of them are marked, from K on; what was new at ws (boxes of a call's own) is as it was there. -/
structure MkI (w0 ws : World) (TL : List Spot) (K n : Nat) (w : World) : Prop where
  news : ws.heap.size ≤ w.heap.size ∧ ∀ g, w0.heap.size ≤ g → g < ws.heap.size → w.heap[g]? = ws.heap[g]?
  blk : ∀ g, g < w0.heap.size → (∀ s ∈ TL, s.1 ≠ g) → w.heap[g]? = w0.heap[g]?
  below : ∀ B, (∀ s ∈ TL, B ≤ s.1) → B ≤ w0.heap.size → Below B w0 w
  size : w0.heap.size ≤ w.heap.size
  cells : ∀ g o, g < w0.heap.size → (∀ s ∈ TL, ¬ (s.1 = g ∧ s.2.1 = o)) → w.cell? ⟨g, o, none⟩ = w0.cell? ⟨g, o, none⟩
  live : ∀ g o u, g < w0.heap.size → w0.cell? ⟨g, o, none⟩ = some u → ∃ u', w.cell? ⟨g, o, none⟩ = some u'
  froz : ∀ g o, g < w0.heap.size → w.frozen? ⟨g, o, none⟩ = w0.frozen? ⟨g, o, none⟩
  done : ∀ i s, i < n → TL[i]? = some s → w.cell? ⟨s.1, s.2.1, none⟩ = some (vk s.2.2 (K + i))
section
variable {w0 ws w w' : World} {TL : List Spot} {K n g o d : Nat}
theorem MkI.start (w0 : World) (TL : List Spot) (K : Nat) : MkI w0 w0 TL K 0 w0 :=
  ⟨⟨Nat.le_refl _, fun _ _ _ => rfl⟩, fun _ _ _ => rfl, fun B _ _ => Below.refl _ _, Nat.le_refl _, fun _ _ _ _ => rfl, fun _ _ u _ h => ⟨u, h⟩, fun _ _ _ => rfl, fun i s h => absurd h (by omega)⟩
theorem frozen_block {a b : World} {g o : Nat} (h : a.heap[g]? = b.heap[g]?) : a.frozen? ⟨g, o, none⟩ = b.frozen? ⟨g, o, none⟩ := by
  unfold World.frozen?
  rw [h]
theorem cell_block {a b : World} {g o : Nat} (h : a.heap[g]? = b.heap[g]?) : a.cell? ⟨g, o, none⟩ = b.cell? ⟨g, o, none⟩ := by
  unfold World.cell?
  rw [h]
theorem MkI.anchor (h : MkI w0 ws TL K n w) : MkI w0 w TL K n w := ⟨⟨Nat.le_refl _, fun _ _ _ => rfl⟩, h.blk, h.below, h.size, h.cells, h.live, h.froz, h.done⟩
theorem MkI.back {m : Nat} (h : MkI w0 ws TL K n w) (k : MkI w0 w TL K m w') : MkI w0 ws TL K m w' := ⟨⟨Nat.le_trans h.news.1 k.news.1, fun g h1 h2 => (k.news.2 g h1 (by have := h.news.1; omega)).trans (h.news.2 g h1 h2)⟩, k.blk, k.below, k.size, k.cells, k.live, k.froz, k.done⟩
theorem MkI.later (hT : TLok w0 TL) (h : MkI w0 ws TL K n w) (b : Below w.heap.size w w') : MkI w0 ws TL K n w' :=
  ⟨⟨Nat.le_trans h.news.1 b.size, fun g h1 h2 => (b.block g (by have := h.news.1; omega)).trans (h.news.2 g h1 h2)⟩, fun g h1 h2 => (b.block g (by have := h.size; omega)).trans (h.blk g h1 h2), fun B h1 h2 => (h.below B h1 h2).trans (b.mono (Nat.le_trans h2 h.size)), Nat.le_trans h.size b.size,
   fun g o hg hs => (cell_block (b.block g (by have := h.size; omega))).trans (h.cells g o hg hs),
   fun g o u hg hu => by rw [cell_block (b.block g (by have := h.size; omega))]; exact h.live g o u hg hu,
   fun g o hg => (frozen_block (b.block g (by have := h.size; omega))).trans (h.froz g o hg),
   fun i s hi hs => (cell_block (b.block s.1 (by have := hT.lt s (List.mem_of_getElem? hs); have := h.size; omega))).trans (h.done i s hi hs)⟩
/-- the next place lies there and may be written. -/
theorem MkI.next (hT : TLok w0 TL) (h : MkI w0 ws TL K n w) {i : Nat} (hs : TL[i]? = some (g, o, d)) : (∃ u, w.cell? ⟨g, o, none⟩ = some u) ∧ w.frozen? ⟨g, o, none⟩ = false := by
  have hm : (g, o, d) ∈ TL := List.mem_of_getElem? hs
  obtain ⟨u, hu⟩ := hT.live _ hm
  exact ⟨h.live g o u (hT.lt _ hm) hu, (h.froz g o (hT.lt _ hm)).trans (hT.fr _ hm)⟩
theorem TLok.apart (hT : TLok w0 TL) {i j : Nat} {s t : Spot} (hi : TL[i]? = some s) (hj : TL[j]? = some t) (hij : i ≠ j) : ¬ (s.1 = t.1 ∧ s.2.1 = t.2.1) := by
  obtain ⟨hil, rfl⟩ := List.getElem?_eq_some_iff.1 hi
  obtain ⟨hjl, rfl⟩ := List.getElem?_eq_some_iff.1 hj
  rcases Nat.lt_or_gt_of_ne hij with h | h
  · exact List.pairwise_iff_getElem.1 hT.nd i j hil hjl h
  · exact fun e => List.pairwise_iff_getElem.1 hT.nd j i hjl hil h ⟨e.1.symm, e.2.symm⟩
theorem MkI.step (hT : TLok w0 TL) (h : MkI w0 ws TL K n w) (hs : TL[n]? = some (g, o, d)) : MkI w0 ws TL K (n + 1) (w.setCell ⟨g, o, none⟩ (vk d (K + n))) := by
  have hm : (g, o, d) ∈ TL := List.mem_of_getElem? hs
  have hother : ∀ g' o', ¬ (g' = g ∧ o' = o) → (w.setCell ⟨g, o, none⟩ (vk d (K + n))).cell? ⟨g', o', none⟩ = w.cell? ⟨g', o', none⟩ := fun g' o' hne =>
    World.cell?_setCell_other _ _ _ _ (fun e => hne (by simp only [Addr.mk.injEq] at e; exact ⟨e.1.symm, e.2.1.symm⟩))
  obtain ⟨u, hu⟩ := (h.next hT hs).1
  refine ⟨⟨by simpa [World.setCell] using h.news.1, fun g' h1 h2 => (Below.heap_setCell _ _ _ _ (by have := hT.lt _ hm; simp only; omega)).trans (h.news.2 g' h1 h2)⟩, fun g' h1 h2 => (Below.heap_setCell _ _ _ _ (fun e => h2 _ hm e.symm)).trans (h.blk g' h1 h2), fun B h1 h2 => (h.below B h1 h2).setCell (h1 _ hm) _, by simpa [World.setCell] using h.size, ?_, ?_, ?_, ?_⟩
  · intro g' o' hg' hn
    rw [hother g' o' (fun e => hn _ hm ⟨e.1.symm, e.2.symm⟩)]
    exact h.cells g' o' hg' hn
  · intro g' o' u' hg' hu'
    by_cases e : g' = g ∧ o' = o
    · obtain ⟨rfl, rfl⟩ := e
      exact ⟨_, World.cell?_setCell_same _ _ _ hu⟩
    · rw [hother g' o' e]
      exact h.live g' o' u' hg' hu'
  · intro g' o' hg'
    rw [World.frozen?_setCell]
    exact h.froz g' o' hg'
  · intro i s hi hsi
    by_cases e : i = n
    · subst e
      rw [hs] at hsi
      simp only [Option.some.injEq] at hsi
      subst hsi
      exact World.cell?_setCell_same _ _ _ hu
    · rw [hother s.1 s.2.1 (hT.apart hsi hs e)]
      exact h.done i s (by omega) hsi
end
/-- all of them are marked. -/
def Held (w : World) (TL : List Spot) (K : Nat) : Prop := ∀ i s, TL[i]? = some s → s.1 < w.heap.size ∧ w.cell? ⟨s.1, s.2.1, none⟩ = some (vk s.2.2 (K + i))
theorem MkI.held {w0 ws w : World} {TL : List Spot} {K : Nat} (hT : TLok w0 TL) (h : MkI w0 ws TL K TL.length w) : Held w TL K := fun i s hs => by
  have hil : i < TL.length := (List.getElem?_eq_some_iff.1 hs).1
  exact ⟨by have := hT.lt s (List.mem_of_getElem? hs); have := h.size; omega, h.done i s hil hs⟩
theorem Held.later {w w' : World} {TL : List Spot} {K : Nat} (h : Held w TL K) (b : Below w.heap.size w w') : Held w' TL K := fun i s hs => by
  obtain ⟨h1, h2⟩ := h i s hs
  exact ⟨by have := b.size; omega, (cell_block (b.block s.1 h1)).trans h2⟩
/-- a list's places: n numbers on; size cells an element, of the kinds ds. -/
def Seg (TL : List Spot) (n : Nat) (ao : Option Addr) (len : Nat) (ds : List Nat) : Prop := ∀ i, i < len → ∃ g off, ao = some ⟨g, off, none⟩ ∧ ∀ r d, ds[r]? = some d → TL[n + i * ds.length + r]? = some (g, off + i * ds.length + r, d)
end Go.Proofs.Ytdodeillifoibaa


/- Lists of numbers, of items and of texts, marked and looked at again, place by place. -/
namespace Go.Proofs.Ytdodeillifoibaa
open Go.RowKit Pl
set_option linter.unusedVariables false
set_option linter.unusedSimpArgs false

theorem Seg.one {TL : List Spot} {n len d : Nat} {ao : Option Addr} (h : Seg TL n ao len [d]) {i : Nat} (hi : i < len) : ∃ g off, ao = some ⟨g, off, none⟩ ∧ TL[n + i]? = some (g, off + i, d) := by
  obtain ⟨g, off, h1, h2⟩ := h i hi
  have := h2 0 d rfl
  simp only [List.length_singleton, Nat.mul_one, Nat.add_zero] at this
  exact ⟨g, off, h1, this⟩
set_option maxRecDepth 100000 in
set_option maxHeartbeats 2000000 in
theorem markI_sp (w0 : World) (TL : List Spot) (K n : Nat) (ao : Option Addr) (len cap : Nat) (w : World) (hT : Hid (TLok w0 TL)) (hI : Hid (MkI w0 w TL K n w)) (hs : Hid (Seg TL n ao len [0])) (hl : K + n + len ≤ 39999990) :
    Calls Try.prog 31 #[.slice ao len cap, .int .i64 ((K + n : Nat) : Int)] w fun e w' => e = .returned (.int .i64 ((K + n + len : Nat) : Int)) ∧ MkI w0 w TL K (n + len) w' := by
  go_enter Try.func31, Try.ntmps31
  go_wp2
  go_loopw [1, 5] (fun kk i wr => ∃ (j : Nat), j ≤ len ∧ i = .int .i64 (j : Int) ∧ kk = .int .i64 ((K + n + j : Nat) : Int) ∧ Hid (MkI w0 w TL K (n + j) wr)) (fun _ i _ => len - (intOf i).toNat)
  case atStart => exact ⟨0, by omega, rfl, rfl, hI⟩
  case round =>
    obtain ⟨j, hj, rfl, rfl, HI⟩ := hrel
    by_cases hlt : j < len
    · obtain ⟨g, off, rfl, hsp⟩ := hs.out.one hlt
      obtain ⟨⟨u, hc⟩, hf⟩ := HI.out.next hT.out hsp
      have HO : Hid _ := HI.out.step hT.out hsp
      rw [vk0, show K + (n + j) = K + n + j by omega] at HO
      obtain ⟨M, hM⟩ : ∃ M : Nat, M = K + n + j := ⟨_, rfl⟩
      rw [← hM] at HO ⊢
      have HM : Hid (M = K + n + j) := hM
      have hMl : M ≤ 39999990 := by omega
      clear hM hsp HI
      go_wp2
      go_roundw
      case rel => exact ⟨j + 1, by omega, by go_num, by have := HM.out; go_num, HO.out⟩
      case measure => simp [intOf]; omega
    · obtain rfl : j = len := by omega
      go_wp2
      go_ret
      exact ⟨rfl, HI.out⟩

theorem MkI.stepV {w0 ws w : World} {TL : List Spot} {K n g o d : Nat} (hT : TLok w0 TL) (h : MkI w0 ws TL K n w) (hs : TL[n]? = some (g, o, d)) {v : Value} (hv : v = vk d (K + n)) : MkI w0 ws TL K (n + 1) (w.setCell ⟨g, o, none⟩ v) := by
  subst hv
  exact h.step hT hs
theorem vkI {k : Nat} {z : Int} (h : z = (k : Int)) : Value.int .i64 z = vk 0 k := by subst h; rfl

end Go.Proofs.Ytdodeillifoibaa


/- Lists of items and of texts, looked at again, place by place. -/
namespace Go.Proofs.Ytdodeillifoibaa
open Go.RowKit Pl
set_option linter.unusedVariables false
set_option linter.unusedSimpArgs false

end Go.Proofs.Ytdodeillifoibaa


/- A drawn region that only reads and calls, walked operation by operation: a callee that leaves what was there. -/
namespace Go.Proofs.Ytdodeillifoibaa
open Go.RowKit Pl
set_option linter.unusedVariables false

end Go.Proofs.Ytdodeillifoibaa


