/- What a law writes over items, and looks at again. -/
import Derived.Test.YtlflcjdpdbdbkaaNu
import Derived.Test.YtlflcjdpdbdbkaaDec
import Derived.Deep.RegionHeld3
import Derived.Deep.QuietTactic
import Derived.BigQuiet
namespace Go.Proofs.Ytlflcjdpdbdbkaa
open Go.RowKit Pl
set_option linter.unusedVariables false

theorem strOfNums_append (xs ys : List Int) : strOfNums xs ++ strOfNums ys = strOfNums (xs ++ ys) := by
  unfold strOfNums
  rw [ByteArray.mk_append_mk, List.map_append]

/-- what markText writes. -/
def markS (k : Nat) : ByteArray := strOfNums (109 :: decR k)

theorem strOf_one' {w : World} {b : Int} : (convert 86 9 (.slice (some ⟨w.heap.size, 0, none⟩) 1 1)).run Try.prog (w.alloc (.cells #[.int .u8 b] 5)) = .ok (.string (strOfNums [b])) (w.alloc (.cells #[.int .u8 b] 5)) := by
  refine run_convert_bytes_arg _ 86 5 Try.underlying86 Try.underlying5 w.heap.size 0 1 1 [b] rfl ?_ 9 Try.underlying9
  intro i hi
  obtain rfl : i = 0 := by omega
  simp

set_option maxRecDepth 100000 in
set_option maxHeartbeats 1000000 in
theorem markT_any (N : Nat) (w : World) (hN : N ≤ 5000000) (h0 : 0 < N) :
    Calls Try.prog 48 #[.int .i64 N] w fun e w' => e = .returned (.string (markS N)) ∧ Below w.heap.size w w' := by
  have hN0 : decide ((N : Int) ≤ 0) = false := by simp; omega
  go_enter Try.func48, Try.ntmps48
  go_wp2
  go_loopw [0, 3] (fun n v wr => ∃ (m : Nat) (xs : List Int), n = .int .i64 m ∧ m ≤ N ∧ v = .string (strOfNums xs) ∧ xs.length + m ≤ N ∧ Hid (decR m ++ xs = decR N) ∧ Below w.heap.size w wr) (fun n _ _ => (intOf n).toNat)
  case atStart => exact ⟨N, [], rfl, Nat.le_refl _, rfl, by simp, List.append_nil _, Below.refl _ _⟩
  case round =>
    obtain ⟨m, xs, rfl, hm, rfl, hx, hst, hb⟩ := hrel
    have hsz := hb.size
    have hss := strOfNums_size xs
    have hnn : ¬ 9223372036854775807 < 1 + xs.length := by omega
    by_cases hm0 : m = 0
    · subst hm0
      go_wp2
      go_ret
      have e1 : decR N = xs := by rw [← hst.out, decR_zero]; rfl
      refine ⟨?_, hb⟩
      rw [markS, e1, show strOfNums (109 :: xs) = (⟨#[109]⟩ : ByteArray) ++ strOfNums xs from (strOfNums_append [109] xs).symm]
      rfl
    · have hmp : 0 < m := by omega
      have hs1 : ∀ b : Int, (strOfNums [b]).size = 1 := fun b => rfl
      have hone := fun b => strOf_one' (w := wr) (b := b)
      go_wp2
      go_roundw
      case rel =>
        refine ⟨m / 10, (48 + ((m % 10 : Nat) : Int)) :: xs, by go_num, by omega, ?_, by simp; omega, ?_, hb.alloc hsz _⟩
        · show Value.string _ = Value.string (strOfNums ([48 + ((m % 10 : Nat) : Int)] ++ xs))
          rw [← strOfNums_append]; rfl
        · show decR (m / 10) ++ (48 + ((m % 10 : Nat) : Int)) :: xs = decR N
          rw [← hst.out, decR_pos hm0]
          simp
      case measure => simp [intOf]; omega

theorem ret_int' {k : IntKind} {a b : Int} (h : a = b) : Ending.returned (.int k a) = .returned (.int k b) := by rw [h]

theorem mark_at (a : Int) (w : World) (h0 : 0 < a) (h1 : a ≤ 5000000) :
    Calls Try.prog 48 #[.int .i64 a] w fun e w' => e = .returned (.string (markS a.toNat)) ∧ Below w.heap.size w w' := by
  obtain ⟨N, rfl⟩ : ∃ N : Nat, a = N := ⟨a.toNat, by omega⟩
  exact markT_any N w (by omega) (by omega)


/-- the n items that are written from K on. -/
def mkI (K n : Nat) : List It := (List.range n).map fun j => (((K + 4 * j : Nat) : Int), ((K + 4 * j + 1 : Nat) : Int), ((K + 4 * j + 2 : Nat) : Int), markS (K + 4 * j + 3))
theorem mkI_length (K n : Nat) : (mkI K n).length = n := by simp [mkI]
theorem mkI_succ (K n : Nat) : mkI K (n + 1) = mkI K n ++ [(((K + 4 * n : Nat) : Int), ((K + 4 * n + 1 : Nat) : Int), ((K + 4 * n + 2 : Nat) : Int), markS (K + 4 * n + 3))] := by
  unfold mkI
  rw [List.range_succ, List.map_append]
  rfl
theorem mkI_at (K n : Nat) {j : Nat} (h : j < (mkI K n).length) : (mkI K n)[j] = (((K + 4 * j : Nat) : Int), ((K + 4 * j + 1 : Nat) : Int), ((K + 4 * j + 2 : Nat) : Int), markS (K + 4 * j + 3)) := by
  simp [mkI]
theorem set_right {α : Type} (a b : List α) (n : Nat) (h : a.length = n) (j : Nat) (x : α) : (a ++ b).set (n + j) x = a ++ b.set j x := by
  subst h
  rw [List.set_append_right _ _ (by omega)]
  congr 2
  omega
theorem cels_set (L R : List It) (x y : It) (k : Nat) (hL : L.length = k) : ((((cels (L ++ x :: R)).set (k * 4) (.int .i64 y.1)).set (k * 4 + 1) (.int .i64 y.2.1)).set (k * 4 + 2) (.int .i64 y.2.2.1)).set (k * 4 + 3) (.string y.2.2.2) = cels (L ++ y :: R) := by
  have hl : (cels L).length = k * 4 := by rw [cels_length, hL]
  have e := set_right (cels L) (cels (x :: R)) (k * 4) hl
  have e0 := e 0 (.int .i64 y.1)
  rw [Nat.add_zero] at e0
  rw [cels_append, e0, set_right _ _ _ hl, set_right _ _ _ hl, set_right _ _ _ hl, cels_append]
  rfl
theorem SlI.grow {w w' : World} {B : Nat} {v : Value} {ts : List It} (h : SlI w B v ts) (hg : w.grownBy w' none) : SlI w' B v ts := h.kept hg (fun k _ => by simp)
theorem grown_tr {a b c : World} {row : Option Nat} (h : a.grownBy b row) (k : b.grownBy c row) : a.grownBy c row :=
  ⟨k.os.trans h.os, k.tape.trans h.tape, k.output.trans h.output, Nat.le_trans h.size k.size, fun i hi hn => (k.block i (Nat.lt_of_lt_of_le hi h.size) hn).trans (h.block i hi hn)⟩
theorem grown_blM {a b : World} {row : Option Nat} (h : Below a.heap.size a b) : a.grownBy b row := ⟨h.os, h.tape, h.output, h.size, fun k hk _ => h.block k hk⟩

set_option maxRecDepth 100000 in
set_option maxHeartbeats 2000000 in
theorem markItems_any (v : Value) (ts : List It) (B K : Nat) (w : World) (h : Hid (SlI w B v ts)) (hl : K + 4 * ts.length ≤ 4999990) (hK : 0 < K) :
    Calls Try.prog 24 #[v, .int .i64 K] w fun e w' => e = .returned (.int .i64 ((K + 4 * ts.length : Nat) : Int)) ∧ SlI w' B v (mkI K ts.length) ∧ w.grownBy w' v.ownBlock := by
  obtain ⟨ao, cap, rfl⟩ := Sl.form h.out
  go_enter Try.func24, Try.ntmps24
  go_wp2
  go_loopw [1, 5] (fun n i wr => ∃ (k : Nat), k ≤ ts.length ∧ n = .int .i64 ((K + 4 * k : Nat) : Int) ∧ i = .int .i64 k ∧ Hid (Sl wr 69 4 B (.slice ao ts.length cap) ts.length (cels (mkI K k ++ ts.drop k))) ∧ Hid (w.grownBy wr (Value.slice ao ts.length cap).ownBlock)) (fun _ i _ => ts.length - (intOf i).toNat)
  case atStart => exact ⟨0, Nat.zero_le _, rfl, rfl, h.out, World.grownBy.refl _ _⟩
  case round =>
    obtain ⟨k, hk, rfl, rfl, hS, hg⟩ := hrel
    by_cases hlt : k < ts.length
    · have HN : Hid (∀ y : It, cels (mkI K k ++ y :: ts.drop (k + 1)) = ((((cels (mkI K k ++ ts.drop k)).set (k * 4) (.int .i64 y.1)).set (k * 4 + 1) (.int .i64 y.2.1)).set (k * 4 + 2) (.int .i64 y.2.2.1)).set (k * 4 + 3) (.string y.2.2.2)) := fun y => by
        rw [List.drop_eq_getElem_cons hlt, cels_set _ _ _ _ k (mkI_length K k)]
      have hlen : (cels (mkI K k ++ ts.drop k)).length = ts.length * 4 := hS.out.1
      obtain ⟨g, off, cap', hv, hBg, hgl, hc, hf⟩ := Sl.read hS.out (by omega)
      simp at hv
      obtain ⟨rfl, rfl⟩ := hv
      have hcr : ∀ r, r < 4 → ∃ u, wr.cell? ⟨g, off + k * 4 + r, none⟩ = some u := fun r hr => by
        have hj : k * 4 + r < (cels (mkI K k ++ ts.drop k)).length := by omega
        refine ⟨(cels (mkI K k ++ ts.drop k))[k * 4 + r], ?_⟩
        rw [Nat.add_assoc]
        exact hc (k * 4 + r) _ (List.getElem?_eq_getElem hj)
      obtain ⟨a0, z0⟩ := hcr 0 (by omega)
      obtain ⟨a1, z1⟩ := hcr 1 (by omega)
      obtain ⟨a2, z2⟩ := hcr 2 (by omega)
      obtain ⟨a3, z3⟩ := hcr 3 (by omega)
      rw [Nat.add_zero] at z0
      have f0 := hf (off + k * 4)
      have f1 := hf (off + k * 4 + 1)
      have f2 := hf (off + k * 4 + 2)
      have f3 := hf (off + k * 4 + 3)
      obtain ⟨M, hM⟩ : ∃ M : Nat, M = K + 4 * k := ⟨_, rfl⟩
      rw [← hM]
      have HM : Hid (M = K + 4 * k) := hM
      have hMl : M ≤ 4999986 := by omega
      have hM0 : 0 < M := by omega
      clear hM hcr hc hf hlen
      have S3 : Hid (Sl (((wr.setCell ⟨g, off + k * 4, none⟩ (.int .i64 (M : Int))).setCell ⟨g, off + k * 4 + 1, none⟩ (.int .i64 ((M : Int) + 1))).setCell ⟨g, off + k * 4 + 2, none⟩ (.int .i64 ((M : Int) + 1 + 1))) 69 4 B (.slice (some ⟨g, off, none⟩) ts.length cap) ts.length (((((cels (mkI K k ++ ts.drop k)).set (k * 4) (.int .i64 (M : Int))).set (k * 4 + 1) (.int .i64 ((M : Int) + 1))).set (k * 4 + 2) (.int .i64 ((M : Int) + 1 + 1))))) := by
        have q0 := Sl.put hS.out (k * 4) (.int .i64 (M : Int))
        have q1 := Sl.put q0 (k * 4 + 1) (.int .i64 ((M : Int) + 1))
        have q2 := Sl.put q1 (k * 4 + 2) (.int .i64 ((M : Int) + 1 + 1))
        rw [← Nat.add_assoc, ← Nat.add_assoc] at q2
        exact q2
      have G3 : Hid (w.grownBy (((wr.setCell ⟨g, off + k * 4, none⟩ (.int .i64 (M : Int))).setCell ⟨g, off + k * 4 + 1, none⟩ (.int .i64 ((M : Int) + 1))).setCell ⟨g, off + k * 4 + 2, none⟩ (.int .i64 ((M : Int) + 1 + 1))) (some g)) := grown_tr (grown_tr (grown_tr hg.out (grown_cell _ _ _ _)) (grown_cell _ _ _ _)) (grown_cell _ _ _ _)
      go_wp2_with fail
      clear z0 z1 z2 z3 f0 f1 f2 f3 hS hg
      generalize ((wr.setCell ⟨g, off + k * 4, none⟩ (.int .i64 (M : Int))).setCell ⟨g, off + k * 4 + 1, none⟩ (.int .i64 ((M : Int) + 1))).setCell ⟨g, off + k * 4 + 2, none⟩ (.int .i64 ((M : Int) + 1 + 1)) = W3 at *
      refine (mark_at ((M : Int) + 1 + 1 + 1) W3 (by omega) (by omega)).mono ?_
      rintro e w4 ⟨rfl, hb4⟩
      rw [show ((M : Int) + 1 + 1 + 1).toNat = M + 3 by omega]
      have S4 := Sl.below S3.out hb4
      have G4 : Hid (w.grownBy w4 (some g)) := grown_tr G3.out (grown_blM hb4)
      have hlen4 := S4.1
      have z3 : ∃ u, w4.cell? ⟨g, off + k * 4 + 3, none⟩ = some u := by
        obtain ⟨g', off', cap', hv, _, _, hc, _⟩ := Sl.read S4 (by omega)
        simp at hv
        obtain ⟨⟨rfl, rfl⟩, rfl⟩ := hv
        rw [Nat.add_assoc]
        exact ⟨_, hc (k * 4 + 3) _ (List.getElem?_eq_getElem (by rw [hlen4]; omega))⟩
      have f3 : w4.frozen? ⟨g, off + k * 4 + 3, none⟩ = false := by
        obtain ⟨g', off', cap', hv, _, _, _, hf⟩ := Sl.read S4 (by omega)
        simp at hv
        obtain ⟨⟨rfl, rfl⟩, rfl⟩ := hv
        exact hf _
      obtain ⟨a3, z3⟩ := z3
      have S5 : Hid (Sl (w4.setCell ⟨g, off + k * 4 + 3, none⟩ (.string (markS (M + 3)))) 69 4 B (.slice (some ⟨g, off, none⟩) ts.length cap) ts.length (cels (mkI K (k + 1) ++ ts.drop (k + 1)))) := by
        have q := Sl.put S4 (k * 4 + 3) (.string (markS (M + 3)))
        rw [← Nat.add_assoc] at q
        have e := HN.out ((M : Int), (M : Int) + 1, (M : Int) + 1 + 1, markS (M + 3))
        dsimp only at e
        rw [← e] at q
        rw [mkI_succ, List.append_assoc]
        have hM := HM.out
        have e2 : (((K + 4 * k : Nat) : Int), ((K + 4 * k + 1 : Nat) : Int), ((K + 4 * k + 2 : Nat) : Int), markS (K + 4 * k + 3)) = ((M : Int), (M : Int) + 1, (M : Int) + 1 + 1, markS (M + 3)) := by
          subst hM
          refine Prod.ext rfl (Prod.ext ?_ (Prod.ext ?_ rfl))
          · show ((K + 4 * k + 1 : Nat) : Int) = ((K + 4 * k : Nat) : Int) + 1; omega
          · show ((K + 4 * k + 2 : Nat) : Int) = ((K + 4 * k : Nat) : Int) + 1 + 1; omega
        rw [e2]
        exact q
      have G5 : Hid (w.grownBy (w4.setCell ⟨g, off + k * 4 + 3, none⟩ (.string (markS (M + 3)))) (some g)) := grown_tr G4.out (grown_cell _ _ _ _)
      clear S4 G4 hb4 hlen4 S3 G3 HN
      go_wp2_with fail
      go_roundw
      case rel => exact ⟨k + 1, by omega, by have := HM.out; congr 1; omega, by go_num, S5, G5⟩
      case measure => simp [intOf]; omega
    · obtain rfl : k = ts.length := by omega
      go_wp2_with fail
      go_ret
      refine ⟨rfl, ?_, hg.out⟩
      have := hS.out
      rw [List.drop_length, List.append_nil] at this
      unfold SlI
      rw [mkI_length]
      exact this

theorem mkS_q (N : Nat) (w : World) (hN : N ≤ 5000000) (h0 : 0 < N) : Calls Try.prog 48 #[.int .i64 (N : Int)] w fun e w' => e = .returned (.string (markS N)) ∧ Below w.heap.size w w' := markT_any N w hN h0

set_option maxRecDepth 100000 in
set_option maxHeartbeats 2000000 in
theorem heldItems_any (v : Value) (n B K : Nat) (w : World) (h : Hid (SlI w B v (mkI K n))) (hl : K + 4 * n ≤ 4999990) (hK : 0 < K) :
    Calls Try.prog 25 #[v, .int .i64 K] w fun e w' => e = .returned (.int .i64 ((K + 4 * n : Nat) : Int)) ∧ Below w.heap.size w w' := by
  obtain ⟨ao, cap, rfl, hx⟩ := h.out.items
  have HX : Hid (ItemsAt w ao (mkI K n)) := hx
  have hml := mkI_length K n
  rw [hml]
  clear hml hx h
  go_enter Try.func25, Try.ntmps25
  go_wp2
  go_loopw [1, 5] (fun m i wr => ∃ (k : Nat), k ≤ n ∧ m = .int .i64 ((K + 4 * k : Nat) : Int) ∧ i = .int .i64 k ∧ Hid (Below w.heap.size w wr)) (fun _ i _ => n - (intOf i).toNat)
  case atStart => exact ⟨0, Nat.zero_le _, rfl, rfl, Below.refl _ _⟩
  case round =>
    obtain ⟨k, hk, rfl, rfl, hb⟩ := hrel
    by_cases hlt : k < n
    · obtain ⟨b, off, rfl, hbb, h0, h1, h2, h3⟩ := HX.out.stays hb.out k (by rw [mkI_length]; exact hlt)
      rw [mkI_at] at h0 h1 h2 h3
      dsimp only at h0 h1 h2 h3
      obtain ⟨M, hM⟩ : ∃ M : Nat, M = K + 4 * k := ⟨_, rfl⟩
      rw [← hM] at h0 h1 h2 h3 ⊢
      have HM : Hid (M = K + 4 * k) := hM
      have hMl : M ≤ 4999986 := by omega
      have hM0 : 0 < M := by omega
      clear hM
      rw [show ((M + 1 : Nat) : Int) = (M : Int) + 1 by omega] at h1
      rw [show ((M + 2 : Nat) : Int) = (M : Int) + 1 + 1 by omega] at h2
      have i0 : (0 : Int) ≤ (k : Int) := by omega
      have i1 : (k : Int) < (n : Int) := by omega
      have hmk : ((M : Int) + 1 + 1 + 1) = ((M + 3 : Nat) : Int) := by omega
      go_wp2_with fail
      refine quietC (C := (fun w' => w'.cell? ⟨b, off + k * 4 + 3, none⟩ = some (.string (markS (M + 3))) ∧ Hid (Below wr.heap.size wr w'))) (by kernel_rfl) (by kernel_rfl) ⟨h3, (Below.refl _ _).drew⟩ ?_
      go_big_quiet_want
      go_big_quiet_op
      go_big_quiet_on
      go_big_quiet_want
      go_big_quiet_op
      go_big_quiet_on
      go_big_quiet_want
      refine q_val (.pointer (some ⟨b, off + k * 4, none⟩)) (fun w' hw' => by go_simp) ?_
      go_big_quiet_on
      simp only [Act.put, List.setIfInBounds_toArray, List.set_cons_zero, List.set_cons_succ]
      go_big_quiet_want
      refine q_val (.pointer (some ⟨b, off + k * 4 + 3, none⟩)) (fun w' hw' => by go_simp) ?_
      go_big_quiet_on
      simp only [Act.put, List.setIfInBounds_toArray, List.set_cons_zero, List.set_cons_succ]
      go_big_quiet_want
      refine q_val (.string (markS (M + 3))) (fun w' hw' => by obtain ⟨g3, _⟩ := hw'; go_simp) ?_
      go_big_quiet_on
      simp only [Act.put, List.setIfInBounds_toArray, List.set_cons_zero, List.set_cons_succ]
      go_big_quiet_want
      go_big_quiet_op
      go_big_quiet_on
      go_big_quiet_want
      refine q_call (.string (markS (M + 3))) 48 #[.int .i64 ((M : Int) + 1 + 1 + 1)] (fun w' hw' => by go_simp) (fun w' hw' => (mark_at ((M : Int) + 1 + 1 + 1) w' (by omega) (by omega)).mono fun e w'' ⟨he, hb1⟩ => ⟨by rw [he, show ((M : Int) + 1 + 1 + 1).toNat = M + 3 by omega], (hb1.cell (p := ⟨b, off + k * 4 + 3, none⟩) (Nat.lt_of_lt_of_le hbb hw'.2.out.size)).trans hw'.1, hw'.2.out.trans (hb1.mono hw'.2.out.size)⟩) ?_
      go_big_quiet_on
      simp only [Act.put, List.setIfInBounds_toArray, List.set_cons_zero, List.set_cons_succ]
      go_big_quiet_want
      refine q_val (.bool false) (fun w' hw' => by go_simp) ?_
      go_big_quiet_on
      simp only [Act.put, List.setIfInBounds_toArray, List.set_cons_zero, List.set_cons_succ]
      refine wpQuiet_nil ?_
      intro w1 hcw
      have B1 : Hid (Below w.heap.size w w1) := hb.out.trans (hcw.2.out.mono hb.out.size)
      clear hcw h0 h1 h2 h3
      go_wp2_with fail
      go_roundw
      case rel => exact ⟨k + 1, by omega, by have := HM.out; congr 1; omega, by go_num, B1⟩
      case measure => simp [intOf]; omega
    · obtain rfl : k = n := by omega
      go_wp2_with fail
      go_ret
      exact ⟨rfl, hb.out⟩
end Go.Proofs.Ytlflcjdpdbdbkaa
