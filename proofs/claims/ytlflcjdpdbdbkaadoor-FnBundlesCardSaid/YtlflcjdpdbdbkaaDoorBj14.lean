/- Joined texts: Mk Dj13 Hs Dc13 Dk13. -/
import Derived.Test.YtlflcjdpdbdbkaaDoorBj10
import Derived.Test.YtlflcjdpdbdbkaaDoorBj11
import Derived.Deep.RegionHeld3
import Derived.Deep.QuietTactic
import Derived.BigQuiet
import Derived.Test.YtlflcjdpdbdbkaaDoorBj12
import Derived.Test.YtlflcjdpdbdbkaaDoorBj13
/- What a law writes over items, and looks at again. -/
namespace Go.Proofs.YtlflcjdpdbdbkaaDoor
open Go.RowKit Pl
set_option linter.unusedVariables false

theorem strOfNums_append (xs ys : List Int) : strOfNums xs ++ strOfNums ys = strOfNums (xs ++ ys) := by
  unfold strOfNums
  rw [ByteArray.mk_append_mk, List.map_append]

/-- what markText writes. -/
def markS (k : Nat) : ByteArray := strOfNums (109 :: decR k)

theorem strOf_one' {w : World} {b : Int} : (convert 22 9 (.slice (some ⟨w.heap.size, 0, none⟩) 1 1)).run Tryd.prog (w.alloc (.cells #[.int .u8 b] 5)) = .ok (.string (strOfNums [b])) (w.alloc (.cells #[.int .u8 b] 5)) := by
  refine run_convert_bytes_arg _ 22 5 Tryd.underlying22 Tryd.underlying5 w.heap.size 0 1 1 [b] rfl ?_ 9 Tryd.underlying9
  intro i hi
  obtain rfl : i = 0 := by omega
  simp

set_option maxRecDepth 100000 in
set_option maxHeartbeats 1000000 in
theorem markT_any (N : Nat) (w : World) (hN : N ≤ 5000000) (h0 : 0 < N) :
    Calls Tryd.prog 77 #[.int .i64 N] w fun e w' => e = .returned (.string (markS N)) ∧ Below w.heap.size w w' := by
  have hN0 : decide ((N : Int) ≤ 0) = false := by simp; omega
  go_enter Tryd.func77, Tryd.ntmps77
  go_wp2
  go_loopw [0, 3] (fun n v wr => ∃ (m : Nat) (xs : List Int), n = .int .i64 m ∧ m ≤ N ∧ v = .string (strOfNums xs) ∧ xs.length + m ≤ N ∧ Hid (decR m ++ xs = decR N) ∧ Below w.heap.size w wr) (fun n _ _ => (intOf n).toNat)
  case atStart => exact ⟨N, [], rfl, Nat.le_refl _, rfl, by simp, List.append_nil _, Below.refl _ _⟩
  case round =>
    obtain ⟨m, xs, rfl, hm, rfl, hx, hst, hb⟩ := hrel
    have hsz := hb.size
    have hss := strOfNums_size xs
    have hnn : ¬ 9223372036854775807 < 1 + xs.length := by omega
    by_cases hm0 : m = 0
    · subst hm0
      go_wp2
      go_ret
      have e1 : decR N = xs := by rw [← hst.out, decR_zero]; rfl
      refine ⟨?_, hb⟩
      rw [markS, e1, show strOfNums (109 :: xs) = (⟨#[109]⟩ : ByteArray) ++ strOfNums xs from (strOfNums_append [109] xs).symm]
      rfl
    · have hmp : 0 < m := by omega
      have hs1 : ∀ b : Int, (strOfNums [b]).size = 1 := fun b => rfl
      have hone := fun b => strOf_one' (w := wr) (b := b)
      go_wp2
      go_roundw
      case rel =>
        refine ⟨m / 10, (48 + ((m % 10 : Nat) : Int)) :: xs, by go_num, by omega, ?_, by simp; omega, ?_, hb.alloc hsz _⟩
        · show Value.string _ = Value.string (strOfNums ([48 + ((m % 10 : Nat) : Int)] ++ xs))
          rw [← strOfNums_append]; rfl
        · show decR (m / 10) ++ (48 + ((m % 10 : Nat) : Int)) :: xs = decR N
          rw [← hst.out, decR_pos hm0]
          simp
      case measure => simp [intOf]; omega

theorem ret_int' {k : IntKind} {a b : Int} (h : a = b) : Ending.returned (.int k a) = .returned (.int k b) := by rw [h]

theorem mark_at (a : Int) (w : World) (h0 : 0 < a) (h1 : a ≤ 5000000) :
    Calls Tryd.prog 77 #[.int .i64 a] w fun e w' => e = .returned (.string (markS a.toNat)) ∧ Below w.heap.size w w' := by
  obtain ⟨N, rfl⟩ : ∃ N : Nat, a = N := ⟨a.toNat, by omega⟩
  exact markT_any N w (by omega) (by omega)


/-- the n items that are written from K on. -/
def mkI (K n : Nat) : List It := (List.range n).map fun j => (((K + 4 * j : Nat) : Int), ((K + 4 * j + 1 : Nat) : Int), ((K + 4 * j + 2 : Nat) : Int), markS (K + 4 * j + 3))
theorem mkI_length (K n : Nat) : (mkI K n).length = n := by simp [mkI]
theorem mkI_succ (K n : Nat) : mkI K (n + 1) = mkI K n ++ [(((K + 4 * n : Nat) : Int), ((K + 4 * n + 1 : Nat) : Int), ((K + 4 * n + 2 : Nat) : Int), markS (K + 4 * n + 3))] := by
  unfold mkI
  rw [List.range_succ, List.map_append]
  rfl
theorem mkI_at (K n : Nat) {j : Nat} (h : j < (mkI K n).length) : (mkI K n)[j] = (((K + 4 * j : Nat) : Int), ((K + 4 * j + 1 : Nat) : Int), ((K + 4 * j + 2 : Nat) : Int), markS (K + 4 * j + 3)) := by
  simp [mkI]
theorem set_right {α : Type} (a b : List α) (n : Nat) (h : a.length = n) (j : Nat) (x : α) : (a ++ b).set (n + j) x = a ++ b.set j x := by
  subst h
  rw [List.set_append_right _ _ (by omega)]
  congr 2
  omega
theorem cels_set (L R : List It) (x y : It) (k : Nat) (hL : L.length = k) : ((((cels (L ++ x :: R)).set (k * 4) (.int .i64 y.1)).set (k * 4 + 1) (.int .i64 y.2.1)).set (k * 4 + 2) (.int .i64 y.2.2.1)).set (k * 4 + 3) (.string y.2.2.2) = cels (L ++ y :: R) := by
  have hl : (cels L).length = k * 4 := by rw [cels_length, hL]
  have e := set_right (cels L) (cels (x :: R)) (k * 4) hl
  have e0 := e 0 (.int .i64 y.1)
  rw [Nat.add_zero] at e0
  rw [cels_append, e0, set_right _ _ _ hl, set_right _ _ _ hl, set_right _ _ _ hl, cels_append]
  rfl
theorem SlI.grow {w w' : World} {B : Nat} {v : Value} {ts : List It} (h : SlI w B v ts) (hg : w.grownBy w' none) : SlI w' B v ts := h.kept hg (fun k _ => by simp)
theorem grown_tr {a b c : World} {row : Option Nat} (h : a.grownBy b row) (k : b.grownBy c row) : a.grownBy c row :=
  ⟨k.os.trans h.os, k.tape.trans h.tape, k.output.trans h.output, Nat.le_trans h.size k.size, fun i hi hn => (k.block i (Nat.lt_of_lt_of_le hi h.size) hn).trans (h.block i hi hn)⟩
theorem grown_blM {a b : World} {row : Option Nat} (h : Below a.heap.size a b) : a.grownBy b row := ⟨h.os, h.tape, h.output, h.size, fun k hk _ => h.block k hk⟩

set_option maxRecDepth 100000 in
set_option maxHeartbeats 2000000 in
theorem markItems_any (v : Value) (ts : List It) (B K : Nat) (w : World) (h : Hid (SlI w B v ts)) (hl : K + 4 * ts.length ≤ 4999990) (hK : 0 < K) :
    Calls Tryd.prog 50 #[v, .int .i64 K] w fun e w' => e = .returned (.int .i64 ((K + 4 * ts.length : Nat) : Int)) ∧ SlI w' B v (mkI K ts.length) ∧ w.grownBy w' v.ownBlock := by
  obtain ⟨ao, cap, rfl⟩ := Sl.form h.out
  go_enter Tryd.func50, Tryd.ntmps50
  go_wp2
  go_loopw [1, 5] (fun n i wr => ∃ (k : Nat), k ≤ ts.length ∧ n = .int .i64 ((K + 4 * k : Nat) : Int) ∧ i = .int .i64 k ∧ Hid (Sl wr 57 4 B (.slice ao ts.length cap) ts.length (cels (mkI K k ++ ts.drop k))) ∧ Hid (w.grownBy wr (Value.slice ao ts.length cap).ownBlock)) (fun _ i _ => ts.length - (intOf i).toNat)
  case atStart => exact ⟨0, Nat.zero_le _, rfl, rfl, h.out, World.grownBy.refl _ _⟩
  case round =>
    obtain ⟨k, hk, rfl, rfl, hS, hg⟩ := hrel
    by_cases hlt : k < ts.length
    · have HN : Hid (∀ y : It, cels (mkI K k ++ y :: ts.drop (k + 1)) = ((((cels (mkI K k ++ ts.drop k)).set (k * 4) (.int .i64 y.1)).set (k * 4 + 1) (.int .i64 y.2.1)).set (k * 4 + 2) (.int .i64 y.2.2.1)).set (k * 4 + 3) (.string y.2.2.2)) := fun y => by
        rw [List.drop_eq_getElem_cons hlt, cels_set _ _ _ _ k (mkI_length K k)]
      have hlen : (cels (mkI K k ++ ts.drop k)).length = ts.length * 4 := hS.out.1
      obtain ⟨g, off, cap', hv, hBg, hgl, hc, hf⟩ := Sl.read hS.out (by omega)
      simp at hv
      obtain ⟨rfl, rfl⟩ := hv
      have hcr : ∀ r, r < 4 → ∃ u, wr.cell? ⟨g, off + k * 4 + r, none⟩ = some u := fun r hr => by
        have hj : k * 4 + r < (cels (mkI K k ++ ts.drop k)).length := by omega
        refine ⟨(cels (mkI K k ++ ts.drop k))[k * 4 + r], ?_⟩
        rw [Nat.add_assoc]
        exact hc (k * 4 + r) _ (List.getElem?_eq_getElem hj)
      obtain ⟨a0, z0⟩ := hcr 0 (by omega)
      obtain ⟨a1, z1⟩ := hcr 1 (by omega)
      obtain ⟨a2, z2⟩ := hcr 2 (by omega)
      obtain ⟨a3, z3⟩ := hcr 3 (by omega)
      rw [Nat.add_zero] at z0
      have f0 := hf (off + k * 4)
      have f1 := hf (off + k * 4 + 1)
      have f2 := hf (off + k * 4 + 2)
      have f3 := hf (off + k * 4 + 3)
      obtain ⟨M, hM⟩ : ∃ M : Nat, M = K + 4 * k := ⟨_, rfl⟩
      rw [← hM]
      have HM : Hid (M = K + 4 * k) := hM
      have hMl : M ≤ 4999986 := by omega
      have hM0 : 0 < M := by omega
      clear hM hcr hc hf hlen
      have S3 : Hid (Sl (((wr.setCell ⟨g, off + k * 4, none⟩ (.int .i64 (M : Int))).setCell ⟨g, off + k * 4 + 1, none⟩ (.int .i64 ((M : Int) + 1))).setCell ⟨g, off + k * 4 + 2, none⟩ (.int .i64 ((M : Int) + 1 + 1))) 57 4 B (.slice (some ⟨g, off, none⟩) ts.length cap) ts.length (((((cels (mkI K k ++ ts.drop k)).set (k * 4) (.int .i64 (M : Int))).set (k * 4 + 1) (.int .i64 ((M : Int) + 1))).set (k * 4 + 2) (.int .i64 ((M : Int) + 1 + 1))))) := by
        have q0 := Sl.put hS.out (k * 4) (.int .i64 (M : Int))
        have q1 := Sl.put q0 (k * 4 + 1) (.int .i64 ((M : Int) + 1))
        have q2 := Sl.put q1 (k * 4 + 2) (.int .i64 ((M : Int) + 1 + 1))
        rw [← Nat.add_assoc, ← Nat.add_assoc] at q2
        exact q2
      have G3 : Hid (w.grownBy (((wr.setCell ⟨g, off + k * 4, none⟩ (.int .i64 (M : Int))).setCell ⟨g, off + k * 4 + 1, none⟩ (.int .i64 ((M : Int) + 1))).setCell ⟨g, off + k * 4 + 2, none⟩ (.int .i64 ((M : Int) + 1 + 1))) (some g)) := grown_tr (grown_tr (grown_tr hg.out (grown_cell _ _ _ _)) (grown_cell _ _ _ _)) (grown_cell _ _ _ _)
      go_wp2_with fail
      clear z0 z1 z2 z3 f0 f1 f2 f3 hS hg
      generalize ((wr.setCell ⟨g, off + k * 4, none⟩ (.int .i64 (M : Int))).setCell ⟨g, off + k * 4 + 1, none⟩ (.int .i64 ((M : Int) + 1))).setCell ⟨g, off + k * 4 + 2, none⟩ (.int .i64 ((M : Int) + 1 + 1)) = W3 at *
      refine (mark_at ((M : Int) + 1 + 1 + 1) W3 (by omega) (by omega)).mono ?_
      rintro e w4 ⟨rfl, hb4⟩
      rw [show ((M : Int) + 1 + 1 + 1).toNat = M + 3 by omega]
      have S4 := Sl.below S3.out hb4
      have G4 : Hid (w.grownBy w4 (some g)) := grown_tr G3.out (grown_blM hb4)
      have hlen4 := S4.1
      have z3 : ∃ u, w4.cell? ⟨g, off + k * 4 + 3, none⟩ = some u := by
        obtain ⟨g', off', cap', hv, _, _, hc, _⟩ := Sl.read S4 (by omega)
        simp at hv
        obtain ⟨⟨rfl, rfl⟩, rfl⟩ := hv
        rw [Nat.add_assoc]
        exact ⟨_, hc (k * 4 + 3) _ (List.getElem?_eq_getElem (by rw [hlen4]; omega))⟩
      have f3 : w4.frozen? ⟨g, off + k * 4 + 3, none⟩ = false := by
        obtain ⟨g', off', cap', hv, _, _, _, hf⟩ := Sl.read S4 (by omega)
        simp at hv
        obtain ⟨⟨rfl, rfl⟩, rfl⟩ := hv
        exact hf _
      obtain ⟨a3, z3⟩ := z3
      have S5 : Hid (Sl (w4.setCell ⟨g, off + k * 4 + 3, none⟩ (.string (markS (M + 3)))) 57 4 B (.slice (some ⟨g, off, none⟩) ts.length cap) ts.length (cels (mkI K (k + 1) ++ ts.drop (k + 1)))) := by
        have q := Sl.put S4 (k * 4 + 3) (.string (markS (M + 3)))
        rw [← Nat.add_assoc] at q
        have e := HN.out ((M : Int), (M : Int) + 1, (M : Int) + 1 + 1, markS (M + 3))
        dsimp only at e
        rw [← e] at q
        rw [mkI_succ, List.append_assoc]
        have hM := HM.out
        have e2 : (((K + 4 * k : Nat) : Int), ((K + 4 * k + 1 : Nat) : Int), ((K + 4 * k + 2 : Nat) : Int), markS (K + 4 * k + 3)) = ((M : Int), (M : Int) + 1, (M : Int) + 1 + 1, markS (M + 3)) := by
          subst hM
          refine Prod.ext rfl (Prod.ext ?_ (Prod.ext ?_ rfl))
          · show ((K + 4 * k + 1 : Nat) : Int) = ((K + 4 * k : Nat) : Int) + 1; omega
          · show ((K + 4 * k + 2 : Nat) : Int) = ((K + 4 * k : Nat) : Int) + 1 + 1; omega
        rw [e2]
        exact q
      have G5 : Hid (w.grownBy (w4.setCell ⟨g, off + k * 4 + 3, none⟩ (.string (markS (M + 3)))) (some g)) := grown_tr G4.out (grown_cell _ _ _ _)
      clear S4 G4 hb4 hlen4 S3 G3 HN
      go_wp2_with fail
      go_roundw
      case rel => exact ⟨k + 1, by omega, by have := HM.out; congr 1; omega, by go_num, S5, G5⟩
      case measure => simp [intOf]; omega
    · obtain rfl : k = ts.length := by omega
      go_wp2_with fail
      go_ret
      refine ⟨rfl, ?_, hg.out⟩
      have := hS.out
      rw [List.drop_length, List.append_nil] at this
      unfold SlI
      rw [mkI_length]
      exact this

theorem mkS_q (N : Nat) (w : World) (hN : N ≤ 5000000) (h0 : 0 < N) : Calls Tryd.prog 77 #[.int .i64 (N : Int)] w fun e w' => e = .returned (.string (markS N)) ∧ Below w.heap.size w w' := markT_any N w hN h0

set_option maxRecDepth 100000 in
set_option maxHeartbeats 2000000 in
theorem heldItems_any (v : Value) (n B K : Nat) (w : World) (h : Hid (SlI w B v (mkI K n))) (hl : K + 4 * n ≤ 4999990) (hK : 0 < K) :
    Calls Tryd.prog 51 #[v, .int .i64 K] w fun e w' => e = .returned (.int .i64 ((K + 4 * n : Nat) : Int)) ∧ Below w.heap.size w w' := by
  obtain ⟨ao, cap, rfl, hx⟩ := h.out.items
  have HX : Hid (ItemsAt w ao (mkI K n)) := hx
  have hml := mkI_length K n
  rw [hml]
  clear hml hx h
  go_enter Tryd.func51, Tryd.ntmps51
  go_wp2
  go_loopw [1, 5] (fun m i wr => ∃ (k : Nat), k ≤ n ∧ m = .int .i64 ((K + 4 * k : Nat) : Int) ∧ i = .int .i64 k ∧ Hid (Below w.heap.size w wr)) (fun _ i _ => n - (intOf i).toNat)
  case atStart => exact ⟨0, Nat.zero_le _, rfl, rfl, Below.refl _ _⟩
  case round =>
    obtain ⟨k, hk, rfl, rfl, hb⟩ := hrel
    by_cases hlt : k < n
    · obtain ⟨b, off, rfl, hbb, h0, h1, h2, h3⟩ := HX.out.stays hb.out k (by rw [mkI_length]; exact hlt)
      rw [mkI_at] at h0 h1 h2 h3
      dsimp only at h0 h1 h2 h3
      obtain ⟨M, hM⟩ : ∃ M : Nat, M = K + 4 * k := ⟨_, rfl⟩
      rw [← hM] at h0 h1 h2 h3 ⊢
      have HM : Hid (M = K + 4 * k) := hM
      have hMl : M ≤ 4999986 := by omega
      have hM0 : 0 < M := by omega
      clear hM
      rw [show ((M + 1 : Nat) : Int) = (M : Int) + 1 by omega] at h1
      rw [show ((M + 2 : Nat) : Int) = (M : Int) + 1 + 1 by omega] at h2
      have i0 : (0 : Int) ≤ (k : Int) := by omega
      have i1 : (k : Int) < (n : Int) := by omega
      have hmk : ((M : Int) + 1 + 1 + 1) = ((M + 3 : Nat) : Int) := by omega
      go_wp2_with fail
      refine quietC (C := (fun w' => w'.cell? ⟨b, off + k * 4 + 3, none⟩ = some (.string (markS (M + 3))) ∧ Hid (Below wr.heap.size wr w'))) (by kernel_rfl) (by kernel_rfl) ⟨h3, (Below.refl _ _).drew⟩ ?_
      go_big_quiet_want
      go_big_quiet_op
      go_big_quiet_on
      go_big_quiet_want
      go_big_quiet_op
      go_big_quiet_on
      go_big_quiet_want
      refine q_val (.pointer (some ⟨b, off + k * 4, none⟩)) (fun w' hw' => by go_simp) ?_
      go_big_quiet_on
      simp only [Act.put, List.setIfInBounds_toArray, List.set_cons_zero, List.set_cons_succ]
      go_big_quiet_want
      refine q_val (.pointer (some ⟨b, off + k * 4 + 3, none⟩)) (fun w' hw' => by go_simp) ?_
      go_big_quiet_on
      simp only [Act.put, List.setIfInBounds_toArray, List.set_cons_zero, List.set_cons_succ]
      go_big_quiet_want
      refine q_val (.string (markS (M + 3))) (fun w' hw' => by obtain ⟨g3, _⟩ := hw'; go_simp) ?_
      go_big_quiet_on
      simp only [Act.put, List.setIfInBounds_toArray, List.set_cons_zero, List.set_cons_succ]
      go_big_quiet_want
      go_big_quiet_op
      go_big_quiet_on
      go_big_quiet_want
      refine q_call (.string (markS (M + 3))) 77 #[.int .i64 ((M : Int) + 1 + 1 + 1)] (fun w' hw' => by go_simp) (fun w' hw' => (mark_at ((M : Int) + 1 + 1 + 1) w' (by omega) (by omega)).mono fun e w'' ⟨he, hb1⟩ => ⟨by rw [he, show ((M : Int) + 1 + 1 + 1).toNat = M + 3 by omega], (hb1.cell (p := ⟨b, off + k * 4 + 3, none⟩) (Nat.lt_of_lt_of_le hbb hw'.2.out.size)).trans hw'.1, hw'.2.out.trans (hb1.mono hw'.2.out.size)⟩) ?_
      go_big_quiet_on
      simp only [Act.put, List.setIfInBounds_toArray, List.set_cons_zero, List.set_cons_succ]
      go_big_quiet_want
      refine q_val (.bool false) (fun w' hw' => by go_simp) ?_
      go_big_quiet_on
      simp only [Act.put, List.setIfInBounds_toArray, List.set_cons_zero, List.set_cons_succ]
      refine wpQuiet_nil ?_
      intro w1 hcw
      have B1 : Hid (Below w.heap.size w w1) := hb.out.trans (hcw.2.out.mono hb.out.size)
      clear hcw h0 h1 h2 h3
      go_wp2_with fail
      go_roundw
      case rel => exact ⟨k + 1, by omega, by have := HM.out; congr 1; omega, by go_num, B1⟩
      case measure => simp [intOf]; omega
    · obtain rfl : k = n := by omega
      go_wp2_with fail
      go_ret
      exact ⟨rfl, hb.out⟩
end Go.Proofs.YtlflcjdpdbdbkaaDoor

/- The walks over drawn lists of items that may be wrong, and over DrawPutItem, DrawStores. -/
namespace Go.Proofs.YtlflcjdpdbdbkaaDoor
open Go.RowKit Pl
set_option linter.unusedVariables false

theorem cels_set0 {ts : List It} {k : Nat} (hk : k < ts.length) (z : Int) : (cels ts).set (k * 4) (.int .i64 z) = cels (ts.set k (z, ts[k].2)) := by
  have hl : (cels (ts.take k)).length = k * 4 := by rw [cels_length, List.length_take, Nat.min_eq_left (by omega)]
  have e1 : ts = ts.take k ++ ts[k] :: ts.drop (k + 1) := by rw [← List.drop_eq_getElem_cons hk, List.take_append_drop]
  have e2 : ts.set k (z, ts[k].2) = ts.take k ++ (z, ts[k].2) :: ts.drop (k + 1) := by rw [List.set_eq_take_append_cons_drop, if_pos hk]
  have e0 : (cels (ts.take k) ++ cels (ts[k] :: ts.drop (k + 1))).set (k * 4) (.int .i64 z) = cels (ts.take k) ++ (cels (ts[k] :: ts.drop (k + 1))).set 0 (.int .i64 z) := set_right (cels (ts.take k)) (cels (ts[k] :: ts.drop (k + 1))) (k * 4) hl 0 (.int .i64 z)
  rw [e2, cels_append]
  have e3 : cels ts = cels (ts.take k) ++ cels (ts[k] :: ts.drop (k + 1)) := by rw [← cels_append, ← e1]
  rw [e3, e0]
  rfl
theorem code_up {w : World} {B B' n : Nat} {ao : Option Addr} (h : CodeAt w B ao n) (hB : B ≤ B') : Hid (CodeAt w B' ao n) := by
  intro i hi
  obtain ⟨b, off, z, h1, h2, h3⟩ := h i hi
  exact ⟨b, off, z, h1, Nat.lt_of_lt_of_le h2 hB, h3⟩
/-- a list that is short, of short texts. -/
def Short (ts : List It) : Prop := ts.length ≤ 10 ∧ ∀ x ∈ ts, x.2.2.2.size ≤ 61
theorem upto_shortI {ts : List It} (h : UptoI ts 10) : Short ts := ⟨by have := h.2.2.1; omega, fun x hx => by have := h.2.2.2 x hx; omega⟩

set_option maxRecDepth 100000 in
set_option maxHeartbeats 4000000 in
theorem anyItems_any (w0 w : World) (B g n cap : Nat) (ao : Option Addr) (hn : n ≤ 1048576) (hB : B ≤ g) (hd : Hid (Drw w0 w B g ao n cap)) :
    Calls Tryd.prog 56 #[.pointer (some ⟨g, 0, none⟩)] w fun e w' => (∃ v ts, e = .returned v ∧ SlI w' w.heap.size v ts ∧ Short ts) ∧ Hid (Drw w w' B g ao n cap) := by
  have hg := hd.out.lt
  go_enter Tryd.func56, Tryd.ntmps56
  go_wp2_with fail
  refine (drawItems_any w0 w B g n cap ao hn hB hd).mono ?_
  rintro e w1 ⟨⟨v, ts, rfl, S1, U1⟩, D1⟩
  have S1 : Hid (SlI w1 w.heap.size v ts) := S1
  have U1 : Hid (UptoI ts 10) := U1
  clear hd
  go_wp2_with fail
  refine (below_small w1 w1 B g n cap 16 ao hn hB (by omega) (by omega) D1.out.here).mono ?_
  rintro e w2 ⟨⟨x, hx, rfl⟩, hd2⟩
  have S2 : Hid (SlI w2 w.heap.size v ts) := S1.out.but hd2.out.2.2 hg
  have D2 := D1.out.back hd2.out
  have hl9 : ts.length ≤ 9 := by have := U1.out.2.2.1; omega
  clear hd2 S1 D1
  by_cases x0 : x = 0
  · subst x0
    go_wp2_with fail
    refine (anyItem_any w2 w2 B g n cap ao hn hB D2.out.here).mono ?_
    rintro e w3 ⟨⟨q, f, l, t, ht, rfl⟩, hd3⟩
    have S3 : SlI w3 w.heap.size v ts := S2.out.but hd3.out.2.2 hg
    have D3 := D2.out.back hd3.out
    have z3 : w.heap.size ≤ w3.heap.size := D3.out.2.2.size
    have hlt : ts.length ≤ 1048576 := by omega
    clear hd3 S2 D2
    go_wp2_with (at_builtin; refine wpList_pushIt rfl _ _ 24 rfl Tryd.underlying24 w.heap.size v ts rfl S3 (q, f, l, t) rfl hlt z3 ?_; intro v4 w4 S4 g4 b4 _)
    have D4 := D3.out.push b4 hg hB
    go_ret
    refine ⟨⟨_, _, rfl, S4, by simp; omega, fun x hx => ?_⟩, D4⟩
    rcases List.mem_append.1 hx with h3 | h3
    · exact (upto_shortI U1.out).2 x h3
    · rw [List.mem_singleton.1 h3]; exact ht
  · by_cases x1 : x = 1
    · subst x1
      obtain ⟨vo, vc, rfl⟩ := Sl.form S2.out
      by_cases h0 : 0 < ts.length
      · have h0i : (0 : Int) < (ts.length : Int) := by omega
        go_wp2_with fail
        refine (below_small w2 w2 B g n cap ts.length ao hn hB h0 (by omega) D2.out.here).mono ?_
        rintro e w3 ⟨⟨k, hk, rfl⟩, hd3⟩
        have S3 : Hid (SlI w3 w.heap.size (.slice vo ts.length vc) ts) := S2.out.but hd3.out.2.2 hg
        have D3 := D2.out.back hd3.out
        have hg3 := D3.out.lt
        clear hd3 S2 D2
        have D3a : Hid (Drw w (w3.alloc (.cells #[.int .i64 0, .int .i64 (-1), .int .i64 3, .int .i64 61] 3)) B g ao n cap) := D3.out.alloc hB _
        have hb3 : Below w3.heap.size w3 (w3.alloc (.cells #[.int .i64 0, .int .i64 (-1), .int .i64 3, .int .i64 61] 3)) := (Below.refl _ _).alloc (Nat.le_refl _) _
        have S3a : Hid (SlI (w3.alloc (.cells #[.int .i64 0, .int .i64 (-1), .int .i64 3, .int .i64 61] 3)) w.heap.size (.slice vo ts.length vc) ts) := S3.out.below hb3
        have R3a : Hid (RowI (w3.alloc (.cells #[.int .i64 0, .int .i64 (-1), .int .i64 3, .int .i64 61] 3)) w3.heap.size 4) := rowI_new w3 [0, -1, 3, 61] 4 rfl
        have hS : w3.heap.size < (w3.alloc (.cells #[.int .i64 0, .int .i64 (-1), .int .i64 3, .int .i64 61] 3)).heap.size := by simp
        clear hb3 S3 D3
        go_wp2_with fail
        generalize w3.alloc (.cells #[.int .i64 0, .int .i64 (-1), .int .i64 3, .int .i64 61] 3) = W3 at *
        refine (pickInt_any W3 _ B g n cap w3.heap.size 4 ao hn hB (by omega) (by omega) hS (by omega) R3a D3a.out.here).mono ?_
        rintro e w4 ⟨⟨z, rfl⟩, hd4⟩
        have S4 : Hid (SlI w4 w.heap.size (.slice vo ts.length vc) ts) := S3a.out.but hd4.out.2.2 hg
        have D4 := D3a.out.back hd4.out
        clear hd4 S3a D3a R3a
        obtain ⟨gb, off, cap', hv, hBg, hgl, hc, hf⟩ := Sl.read S4.out h0
        simp at hv
        obtain ⟨rfl, rfl⟩ := hv
        have c0 := hc (k * 4) _ (cels_at hk).1
        have f0 := hf (off + k * 4)
        have S5 : Hid (SlI (w4.setCell ⟨gb, off + k * 4, none⟩ (.int .i64 z)) w.heap.size (.slice (some ⟨gb, off, none⟩) ts.length vc) (ts.set k (z, ts[k].2))) := by
          unfold SlI
          rw [List.length_set, ← cels_set0 hk]
          exact Sl.put S4.out (k * 4) (.int .i64 z)
        have b5 : Below w.heap.size w4 (w4.setCell ⟨gb, off + k * 4, none⟩ (.int .i64 z)) := (Below.refl _ _).setCell hBg _
        have D5 := D4.out.push b5 hg hB
        have hki : (k : Int) < (ts.length : Int) := by omega
        have hk0 : (0 : Int) ≤ (k : Int) := by omega
        clear hc hf b5
        go_wp2_with fail
        go_ret
        refine ⟨⟨_, _, rfl, S5.out, by simp; omega, fun x hx => ?_⟩, D5⟩
        rcases List.mem_or_eq_of_mem_set hx with h3 | h3
        · exact (upto_shortI U1.out).2 x h3
        · rw [h3]; exact (upto_shortI U1.out).2 ts[k] (List.getElem_mem hk)
      · have h0i : ¬ (0 : Int) < (ts.length : Int) := by omega
        go_wp2_with fail
        go_ret
        exact ⟨⟨_, _, rfl, S2.out, upto_shortI U1.out⟩, D2⟩
    · have x0i : ¬ (x : Int) = 0 := by omega
      have x1i : ¬ (x : Int) = 1 := by omega
      go_wp2_with fail
      go_ret
      exact ⟨⟨_, _, rfl, S2.out, upto_shortI U1.out⟩, D2⟩

end Go.Proofs.YtlflcjdpdbdbkaaDoor

/- A walk that stops at a store or an append; slices of items beside boxes. No function of the program is named here. -/
namespace Go.Proofs.YtlflcjdpdbdbkaaDoor
open Go.RowKit Pl
set_option linter.unusedVariables false

/-- a walk that stops. -/
structure Stp (p : Prop) : Prop where
  out : p
theorem Stp.here {p : Prop} (h : Stp p) : p := h.out
theorem Stp.go {p : Prop} (h : p) : Stp p := ⟨h⟩
theorem wpList_haltS {P : Program} {w : World} {ops : Array Oper} {rest : List Oper} {o : Oper} {a : Act} {Q : Exit → Act → World → Prop} (t : TypeId) (x y : Operand) (ho : o.op = .store t x y) (h : Stp (wpList P ops Q (o :: rest) a w)) : wpList P ops Q (o :: rest) a w := h.out
theorem wpList_haltA {P : Program} {w : World} {ops : Array Oper} {rest : List Oper} {o : Oper} {a : Act} {Q : Exit → Act → World → Prop} (x y : Operand) (ts : Array TypeId) (ho : o.op = .call { callee := .builtin .append, args := #[x, y], argTypes := ts }) (h : Stp (wpList P ops Q (o :: rest) a w)) : wpList P ops Q (o :: rest) a w := h.out

theorem bl_next {w0 w w' : World} {B : Nat} (h : Below B w0 w) (hb : Below w.heap.size w w') (hB : B ≤ w.heap.size) : Below B w0 w' := h.trans (hb.mono hB)
theorem bl_nxt {w0 w w' : World} (h : Below w0.heap.size w0 w) (hb : Below w.heap.size w w') : Below w0.heap.size w0 w' := h.trans (hb.mono h.size)
theorem sl_bx_ne {w : World} {B g T : Nat} {v : Value} {ts : List It} {cs : List Value} (h : SlI w B v ts) (hB : Bx w g T cs) (hT : T ≠ 57) : v.ownBlock ≠ some g := by
  intro e
  rcases h.2 with ⟨hn, _⟩ | ⟨k, off, cap, cur, rfl, hbg, hk, rest⟩
  · subst hn; cases e
  · cases e
    unfold Bx at hB
    rw [hk] at hB
    simp at hB
    exact hT hB.2.symm
theorem SlI.past {w w' : World} {B g T : Nat} {v : Value} {ts : List It} {cs : List Value} (h : SlI w B v ts) (hB : Bx w g T cs) (ht : TurnAt g w w') (hT : T ≠ 57) : SlI w' B v ts := h.keep fun k hk _ => ht.block k (fun e => sl_bx_ne h hB hT (e ▸ hk))
theorem SlI.keepb {w w' : World} {B g T : Nat} {v : Value} {ts : List It} {cs : List Value} (h : SlI w B v ts) (hB : Bx w g T cs) (ht : KeepBut g w w') (hT : T ≠ 57) : SlI w' B v ts := h.keep fun k hk hl => ht.block k hl (fun e => sl_bx_ne h hB hT (e ▸ hk))
theorem SlI.zero (w : World) (B : Nat) : SlI w B (.slice none 0 0) [] := Sl.zero w 57 4 B
theorem SlI.sv {w : World} {B : Nat} {v : Value} {ts : List It} (h : SlI w B v ts) : ∃ s : Sv, v = s.v ∧ s.n = ts.length := by
  obtain ⟨ao, cap, rfl⟩ := Sl.form h
  exact ⟨⟨ao, ts.length, cap⟩, rfl, rfl⟩
/-- a list of items that is read. -/
def RIt (w : World) (s : Sv) (ts : List It) : Prop := s.n = ts.length ∧ ItemsAt w s.a ts
theorem RIt.stays {w w' : World} {s : Sv} {ts : List It} (h : RIt w s ts) (hb : Below w.heap.size w w') : RIt w' s ts := ⟨h.1, h.2.stays hb⟩
theorem SlI.rit {w : World} {B : Nat} {s : Sv} {ts : List It} (h : SlI w B s.v ts) : RIt w s ts := by
  obtain ⟨ao, cap, he, hx⟩ := h.items
  unfold Sv.v at he
  simp only [Value.slice.injEq] at he
  obtain ⟨h1, h2, h3⟩ := he
  exact ⟨h2, by rw [h1]; exact hx⟩
theorem bx_next (w : World) (o : Obj) (T : TypeId) (cs : List Value) : Bx ((w.alloc o).alloc (.cells cs.toArray T)) (w.heap.size + 1) T cs := by
  have h := Bx.new (w.alloc o) T cs
  rw [show (w.alloc o).heap.size = w.heap.size + 1 by simp] at h
  exact h
theorem grown_box {w w' : World} {row : Option Nat} (o : Obj) (h : (w.alloc o).grownBy w' row) : w.grownBy w' row := grown_tr (grown_blM ((Below.refl _ _).alloc (Nat.le_refl _) o)) h
theorem Tryd.sizeIs : (Tryd.prog.info? 24).map (·.size) = some 1 := by kernel_rfl
theorem Tryd.sizeBu : (Tryd.prog.info? 26).map (·.size) = some 4 := by kernel_rfl
theorem Tryd.sizeLBu : (Tryd.prog.info? 37).map (·.size) = some 4 := by kernel_rfl
end Go.Proofs.YtlflcjdpdbdbkaaDoor

/- The specification's Decimal at one figure. -/
namespace Go.Proofs.YtlflcjdpdbdbkaaDoor
open Go.RowKit Pl
set_option linter.unusedVariables false

def figS (d : Nat) : ByteArray := ⟨#[UInt8.ofNat (48 + d)]⟩
theorem specFig (d : Nat) (w : World) (h1 : 1 ≤ d) (h2 : d ≤ 9) :
    Calls Tryd.prog 89 #[.int .i64 d] w fun e w' => e = .returned (.int .u8 (48 + d)) ∧ w' = w := by
  go_enter Tryd.func89, Tryd.ntmps89
  go_wp2
  go_ret
  exact ⟨by first | rfl | (simp; done), rfl⟩

theorem strOf_one {w : World} {b : Int} : (convert 22 9 (.slice (some ⟨w.heap.size, 0, none⟩) 1 1)).run Tryd.prog (w.alloc (.cells #[.int .u8 b] 5)) = .ok (.string (strOfNums [b])) (w.alloc (.cells #[.int .u8 b] 5)) := by
  refine run_convert_bytes_arg _ 22 5 Tryd.underlying22 Tryd.underlying5 w.heap.size 0 1 1 [b] rfl ?_ 9 Tryd.underlying9
  intro i hi
  obtain rfl : i = 0 := by omega
  simp

theorem figS_eq (d : Nat) (h2 : d ≤ 9) : strOfNums [(48 : Int) + d] ++ ⟨#[]⟩ = figS d := by
  have hd : d = 0 ∨ d = 1 ∨ d = 2 ∨ d = 3 ∨ d = 4 ∨ d = 5 ∨ d = 6 ∨ d = 7 ∨ d = 8 ∨ d = 9 := by omega
  rcases hd with rfl | rfl | rfl | rfl | rfl | rfl | rfl | rfl | rfl | rfl <;> rfl

set_option maxRecDepth 100000 in
set_option maxHeartbeats 1000000 in
theorem specDec (d : Nat) (w : World) (h1 : 1 ≤ d) (h2 : d ≤ 9) :
    Calls Tryd.prog 79 #[.int .i64 d] w fun e w' => e = .returned (.string (figS d)) ∧ Below w.heap.size w w' := by
  have hN0 : ((d : Int) == 0) = false := by simp; omega
  have hN1 : decide ((d : Int) < 0) = false := by simp
  have HF := figS_eq d h2
  have HF' : Hid (strOfNums [(48 : Int) + d] ++ ⟨#[]⟩ = figS d) := HF
  clear HF
  go_enter Tryd.func79, Tryd.ntmps79
  go_wp2
  go_loopw [0, 4] (fun n v wr => (∃ (m : Nat) (s : ByteArray), n = .int .i64 m ∧ v = .string s ∧ Hid ((m = d ∧ s = ⟨#[]⟩) ∨ (m = 0 ∧ s = figS d))) ∧ Below w.heap.size w wr) (fun n _ _ => (intOf n).toNat)
  case atStart => exact ⟨⟨d, _, rfl, rfl, Or.inl ⟨rfl, rfl⟩⟩, Below.refl _ _⟩
  case round =>
    obtain ⟨⟨m, s, rfl, rfl, hst⟩, hb⟩ := hrel
    have hsz := hb.size
    rcases hst.out with ⟨rfl, rfl⟩ | ⟨rfl, rfl⟩
    · have hmod : Int.tmod (m : Int) 10 = (m : Int) := by rw [Int.tmod_eq_emod_of_nonneg (by omega)]; omega
      have hdiv : Int.tdiv (m : Int) 10 = 0 := by rw [Int.tdiv_eq_ediv_of_nonneg (by omega)]; omega
      have hone := fun b => strOf_one (w := wr) (b := b)
      go_wp2_with (first | (go_at_call 89; refine (specFig _ _ h1 h2).mono ?_; rintro e w1 ⟨rfl, rfl⟩))
      go_roundw
      case rel => exact ⟨⟨0, _, by go_num, rfl, Or.inr ⟨rfl, HF'.out⟩⟩, hb.alloc hsz _⟩
      case measure => simp [intOf]; omega
    · go_wp2
      go_ret
      exact ⟨rfl, hb⟩
end Go.Proofs.YtlflcjdpdbdbkaaDoor

/- A drawn bundle for a ring. -/
namespace Go.Proofs.YtlflcjdpdbdbkaaDoor
open Go.RowKit Pl
set_option linter.unusedVariables false
set_option linter.unusedSimpArgs false

theorem Bx.next2 (w : World) (o o' : Obj) (T : TypeId) (cs : List Value) : Bx (((w.alloc o).alloc o').alloc (.cells cs.toArray T)) (w.heap.size + 2) T cs := by
  have h := Bx.new ((w.alloc o).alloc o') T cs
  simpa using h

theorem wp_pushItD {W : World} {B H : Nat} {v : Value} {o : Oper} {a : Act} {Q : Exit → Act → World → Prop} {K : Act → World → Prop} (s x : Operand) (t : TypeId) (ho : o.op = .call { callee := .builtin .append, args := #[s, x], argTypes := #[t, t] })
    (ht : Tryd.prog.underlying t = some (.slice 57)) (ts : List It) (hs : a.eval s = v) (h : SlI W B v ts) (y : It)
    (hH : W.heap.size = H) (hx : a.eval x = .slice (some ⟨H, 0, none⟩) 1 1) (hn : ts.length < 4000000) (hB : B ≤ W.heap.size)
    (hh : ∀ v' w', SlI w' B v' (ts ++ [y]) → W.grownBy w' v.ownBlock → K (a.put o.dst v') w') :
    Oper.wp Tryd.prog o a (W.alloc (.cells #[.int .i64 y.1, .int .i64 y.2.1, .int .i64 y.2.2.1, .string y.2.2.2] 57)) K Q := by
  refine wp_pushE s x ho (.agg #[.int .i64 0, .int .i64 0, .int .i64 0, .string ⟨#[]⟩]) 40 ht Tryd.infoI rfl hs h (cels [y]) rfl cels_one hH hx hn (by omega) hB fun v' w' h2 h3 => hh v' w' ?_ h3
  unfold SlI
  rw [List.length_append, cels_append]
  exact h2

set_option maxRecDepth 100000 in
set_option maxHeartbeats 8000000 in
theorem bundleD_any (w0 w : World) (B g n cap : Nat) (ao : Option Addr) (id : Nat) (fr : Int) (am : Option Addr) (lm cm : Nat) (hn : n ≤ 1048576) (hB : B ≤ g) (h1 : 1 ≤ id) (h4 : id ≤ 4) (hd : Hid (Drw w0 w B g ao n cap)) :
    Calls Tryd.prog 54 #[.pointer (some ⟨g, 0, none⟩), .agg #[.int .i64 (id : Int), .slice am lm cm], .int .i64 fr] w fun e w' => (∃ (o : Int) (u : Sv) (ts : List It), e = .returned (.agg #[.int .i64 fr, .int .i64 (id : Int), .int .i64 o, .slice u.a u.n u.c]) ∧ SlI w' w.heap.size u.v ts ∧ ts.length ≤ 6) ∧ Hid (Drw w w' B g ao n cap) := by
  have hg := hd.out.lt
  have b1 : Below w.heap.size w (w.alloc (.cells #[.int .i64 (id : Int), .slice am lm cm] 75)) := (Below.refl _ _).alloc (Nat.le_refl _) _
  have b2 := b1.alloc b1.size (.cells #[.int .i64 0, .int .i64 0, .int .i64 0, .slice none 0 0] 26)
  have b3 := b2.alloc b2.size (.cells #[.int .i64 0, .int .i64 0, .int .i64 0, .slice none 0 0] 26)
  have D0 := hd.out.here.out.push b3 hg hB
  have G0 : Hid (Bx ((((w.alloc (.cells #[.int .i64 (id : Int), .slice am lm cm] 75)).alloc (.cells #[.int .i64 0, .int .i64 0, .int .i64 0, .slice none 0 0] 26)).alloc (.cells #[.int .i64 0, .int .i64 0, .int .i64 0, .slice none 0 0] 26))) w.heap.size 75 [.int .i64 (id : Int), .slice am lm cm]) := ((Bx.new w 75 [.int .i64 (id : Int), .slice am lm cm]).later ((Below.refl _ _).alloc (Nat.le_refl _) _)).later ((Below.refl _ _).alloc (Nat.le_refl _) _)
  have R0 : Hid (Bx ((((w.alloc (.cells #[.int .i64 (id : Int), .slice am lm cm] 75)).alloc (.cells #[.int .i64 0, .int .i64 0, .int .i64 0, .slice none 0 0] 26)).alloc (.cells #[.int .i64 0, .int .i64 0, .int .i64 0, .slice none 0 0] 26))) (w.heap.size + 1) 26 [.int .i64 0, .int .i64 0, .int .i64 0, .slice none 0 0]) := (bx_next w _ 26 [.int .i64 0, .int .i64 0, .int .i64 0, .slice none 0 0]).later ((Below.refl _ _).alloc (Nat.le_refl _) _)
  have M0 : Hid (Bx ((((w.alloc (.cells #[.int .i64 (id : Int), .slice am lm cm] 75)).alloc (.cells #[.int .i64 0, .int .i64 0, .int .i64 0, .slice none 0 0] 26)).alloc (.cells #[.int .i64 0, .int .i64 0, .int .i64 0, .slice none 0 0] 26))) (w.heap.size + 2) 26 [.int .i64 0, .int .i64 0, .int .i64 0, .slice none 0 0]) := Bx.next2 w _ _ 26 [.int .i64 0, .int .i64 0, .int .i64 0, .slice none 0 0]
  have HB3 : Hid _ := b3
  clear b1 b2 b3 hd
  go_enter Tryd.func54, Tryd.ntmps54
  go_wp2_with (first | (with_reducible refine wpList_haltS 26 _ _ rfl ?_))
  refine Stp.go ?_
  generalize ((((w.alloc (.cells #[.int .i64 (id : Int), .slice am lm cm] 75)).alloc (.cells #[.int .i64 0, .int .i64 0, .int .i64 0, .slice none 0 0] 26)).alloc (.cells #[.int .i64 0, .int .i64 0, .int .i64 0, .slice none 0 0] 26))) = W0 at *
  refine wpList_stB rfl 26 _ _ rfl (w.heap.size + 2) 0 rfl 26 _ M0.out [.int .i64 fr, .int .i64 (id : Int), .int .i64 0, .slice none 0 0] rfl (by simp) Tryd.sizeBu rfl [.int .i64 fr, .int .i64 (id : Int), .int .i64 0, .slice none 0 0] rfl ?_
  intro W1 M1 T1
  have M1 : Hid (Bx W1 (w.heap.size + 2) 26 [.int .i64 fr, .int .i64 (id : Int), .int .i64 0, .slice none 0 0]) := M1
  have G1 : Hid (Bx W1 w.heap.size 75 [.int .i64 (id : Int), .slice am lm cm]) := G0.out.turn T1 (by omega)
  have R1 : Hid (Bx W1 (w.heap.size + 1) 26 [.int .i64 0, .int .i64 0, .int .i64 0, .slice none 0 0]) := R0.out.turn T1 (by omega)
  have D1 : Hid (Drw w W1 B g ao n cap) := D0.out.push (T1.below (by omega)) hg hB
  clear D0 M0 R0 G0 T1 HB3
  have g0 := G1.out.cell 0
  simp only [List.getElem?_cons_succ, List.getElem?_cons_zero] at g0
  -- what is handed back
  have FIN : Hid (∀ (o : Int) (u : Sv) (ts : List It) (a : Act) (W : World), True) := fun _ _ _ _ _ => trivial
  by_cases hi : id = 1
  · subst hi
    have m0 := M1.out.cell 0
    have m1 := M1.out.cell 1
    have m2 := M1.out.cell 2
    have m3 := M1.out.cell 3
    simp only [List.getElem?_cons_succ, List.getElem?_cons_zero] at m0 m1 m2 m3
    go_wp2_with (first | (with_reducible refine wpList_haltS 26 _ _ rfl ?_))
    refine Stp.go ?_
    refine wpList_stB rfl 26 _ _ rfl (w.heap.size + 1) 0 rfl 26 _ R1.out [.int .i64 fr, .int .i64 ((1 : Nat) : Int), .int .i64 0, .slice none 0 0] rfl (by simp) Tryd.sizeBu rfl [.int .i64 fr, .int .i64 ((1 : Nat) : Int), .int .i64 0, .slice none 0 0] rfl ?_
    intro W9 R9 T9
    have D9 : Hid (Drw w W9 B g ao n cap) := D1.out.push (T9.below (by omega)) hg hB
    clear T9 m0 m1 m2 m3 g0
    go_wp2_with fail
    refine bodyPost_ret (results_b Tryd.results54 (w.heap.size + 1) 26 [.int .i64 fr, .int .i64 ((1 : Nat) : Int), .int .i64 0, .slice none 0 0] _ rfl R9 Tryd.underlying26 rfl Tryd.sizeBu) rfl ?_
    exact ⟨⟨0, ⟨none, 0, 0⟩, [], rfl, SlI.zero _ _, by simp⟩, D9⟩
  · have hgt : (1 : Int) < (id : Int) := by omega
    go_wp2_with fail
    refine (once_any W1 W1 B g n cap 4 ao hn hB (by omega) (by omega) D1.out.here).mono ?_
    rintro e w2 ⟨⟨b, rfl⟩, hd2⟩
    have G2 : Hid (Bx w2 w.heap.size 75 [.int .i64 (id : Int), .slice am lm cm]) := G1.out.keepb hd2.out.2.2 (by omega)
    have R2 : Hid (Bx w2 (w.heap.size + 1) 26 [.int .i64 0, .int .i64 0, .int .i64 0, .slice none 0 0]) := R1.out.keepb hd2.out.2.2 (by omega)
    have M2 : Hid (Bx w2 (w.heap.size + 2) 26 [.int .i64 fr, .int .i64 (id : Int), .int .i64 0, .slice none 0 0]) := M1.out.keepb hd2.out.2.2 (by omega)
    have D2 := D1.out.back hd2.out
    clear hd2 D1 M1 R1 G1 g0
    have g0 := G2.out.cell 0
    have m0 := M2.out.cell 0
    have m1 := M2.out.cell 1
    have m2 := M2.out.cell 2
    have m3 := M2.out.cell 3
    simp only [List.getElem?_cons_succ, List.getElem?_cons_zero] at m0 m1 m2 m3 g0
    cases b with
    | true =>
      go_wp2_with (first | (with_reducible refine wpList_haltS 26 _ _ rfl ?_))
      refine Stp.go ?_
      refine wpList_stB rfl 26 _ _ rfl (w.heap.size + 1) 0 rfl 26 _ R2.out [.int .i64 fr, .int .i64 (id : Int), .int .i64 0, .slice none 0 0] rfl (by simp) Tryd.sizeBu rfl [.int .i64 fr, .int .i64 (id : Int), .int .i64 0, .slice none 0 0] rfl ?_
      intro W9 R9 T9
      have D9 : Hid (Drw w W9 B g ao n cap) := D2.out.push (T9.below (by omega)) hg hB
      clear T9 m0 m1 m2 m3 g0
      go_wp2_with fail
      refine bodyPost_ret (results_b Tryd.results54 (w.heap.size + 1) 26 [.int .i64 fr, .int .i64 (id : Int), .int .i64 0, .slice none 0 0] _ rfl R9 Tryd.underlying26 rfl Tryd.sizeBu) rfl ?_
      exact ⟨⟨0, ⟨none, 0, 0⟩, [], rfl, SlI.zero _ _, by simp⟩, D9⟩
    | false =>
      have e1 : IntKind.i64.wrap ((id : Int) - 1) = ((id - 1 : Nat) : Int) := by rw [IntKind.wrap_i64]; omega
      have f2 := M2.out.frozen 2
      go_wp2_with fail
      refine (below_small w2 w2 B g n cap (id - 1) ao hn hB (by omega) (by omega) D2.out.here).mono ?_
      rintro e w3 ⟨⟨x, hx, rfl⟩, hd3⟩
      have R3 : Hid (Bx w3 (w.heap.size + 1) 26 [.int .i64 0, .int .i64 0, .int .i64 0, .slice none 0 0]) := R2.out.keepb hd3.out.2.2 (by omega)
      have M3 : Hid (Bx w3 (w.heap.size + 2) 26 [.int .i64 fr, .int .i64 (id : Int), .int .i64 0, .slice none 0 0]) := M2.out.keepb hd3.out.2.2 (by omega)
      have D3 := D2.out.back hd3.out
      clear hd3 D2 M2 R2 G2 g0 m0 m1 m2 m3 f2 e1
      have m2 := M3.out.cell 2
      have f2 := M3.out.frozen 2
      simp only [List.getElem?_cons_succ, List.getElem?_cons_zero] at m2
      go_wp2_with (first | (with_reducible refine wpList_haltS 3 _ _ rfl ?_))
      refine Stp.go ?_
      refine wpList_st1 rfl 3 _ _ rfl (w.heap.size + 2) 2 rfl 26 _ M3.out (.int .i64 (1 + (x : Int))) rfl (by simp) rfl Tryd.size3 [.int .i64 fr, .int .i64 (id : Int), .int .i64 (1 + (x : Int)), .slice none 0 0] rfl ?_
      intro W4 M4 T4
      have M4 : Hid (Bx W4 (w.heap.size + 2) 26 [.int .i64 fr, .int .i64 (id : Int), .int .i64 (1 + (x : Int)), .slice none 0 0]) := M4
      have R4 : Hid (Bx W4 (w.heap.size + 1) 26 [.int .i64 0, .int .i64 0, .int .i64 0, .slice none 0 0]) := R3.out.turn T4 (by omega)
      have D4 : Hid (Drw w W4 B g ao n cap) := D3.out.push (T4.below (by omega)) hg hB
      clear T4 M3 R3 D3 m2 f2
      generalize 1 + (x : Int) = o at *
      have z4 : w.heap.size ≤ W4.heap.size := by have := R4.out.lt; omega
      have be : Below W4.heap.size W4 (W4.alloc (.cells #[] 57)) := (Below.refl _ _).alloc (Nat.le_refl _) _
      have A5 : Hid (SlI (W4.alloc (.cells #[] 57)) w.heap.size (.slice (some ⟨W4.heap.size, 0, none⟩) 0 0) []) := SlI.made W4 w.heap.size z4
      have R5 : Hid (Bx (W4.alloc (.cells #[] 57)) (w.heap.size + 1) 26 [.int .i64 0, .int .i64 0, .int .i64 0, .slice none 0 0]) := R4.out.later be
      have M5 : Hid (Bx (W4.alloc (.cells #[] 57)) (w.heap.size + 2) 26 [.int .i64 fr, .int .i64 (id : Int), .int .i64 o, .slice none 0 0]) := M4.out.later be
      have D5 : Hid (Drw w (W4.alloc (.cells #[] 57)) B g ao n cap) := D4.out.push (be.mono z4) hg hB
      clear be R4 M4 D4
      go_wp2_with fail
      generalize W4.alloc (.cells #[] 57) = W5 at *
      generalize W4.heap.size = h5 at *
      go_loopw [8, 9] (fun v j wr => ∃ (i : Nat) (ts : List It), 1 ≤ i ∧ i ≤ 7 ∧ j = .int .i64 i ∧ ts.length + 1 ≤ i ∧ Hid (SlI wr w.heap.size v ts) ∧ Hid (Bx wr (w.heap.size + 2) 26 [.int .i64 fr, .int .i64 (id : Int), .int .i64 o, .slice none 0 0]) ∧ Hid (Bx wr (w.heap.size + 1) 26 [.int .i64 0, .int .i64 0, .int .i64 0, .slice none 0 0]) ∧ Hid (Drw w wr B g ao n cap)) (fun _ j _ => 7 - (intOf j).toNat)
      case atStart => exact ⟨1, [], by omega, by omega, rfl, by simp, A5, M5, R5, D5⟩
      case round =>
        clear A5 M5 R5 D5
        obtain ⟨i, ts, hi1, hi2, rfl, htl, A6, M6, R6, D6⟩ := hrel
        by_cases hi6 : i ≤ 6
        · have hi6' : (i : Int) ≤ 6 := by omega
          go_wp2_with fail
          refine (specDec i wr hi1 (by omega)).mono ?_
          rintro e w7 ⟨rfl, hb7⟩
          have A7 : SlI w7 w.heap.size u8 ts := A6.out.below hb7
          have R7 : Hid (Bx w7 (w.heap.size + 1) 26 [.int .i64 0, .int .i64 0, .int .i64 0, .slice none 0 0]) := R6.out.later hb7
          have M7 : Hid (Bx w7 (w.heap.size + 2) 26 [.int .i64 fr, .int .i64 (id : Int), .int .i64 o, .slice none 0 0]) := M6.out.later hb7
          have z7 : w.heap.size ≤ w7.heap.size := by have := R7.out.lt; omega
          have D7 : Hid (Drw w w7 B g ao n cap) := D6.out.push (hb7.mono (by have := R6.out.lt; omega)) hg hB
          clear A6 R6 M6 D6 hb7
          go_wp2_with (at_builtin; refine wpList_pushIt rfl _ _ 24 rfl Tryd.underlying24 w.heap.size u8 ts rfl A7 ((i : Int), 1 + (i : Int) % 3, 1 + (i : Int) % 2, figS i) rfl (by omega) z7 ?_; intro v8 w8 A8 g8 b8 _)
          have R8 : Hid (Bx w8 (w.heap.size + 1) 26 [.int .i64 0, .int .i64 0, .int .i64 0, .slice none 0 0]) := R7.out.grown g8 (fun h => sl_bx_ne A7 R7.out (by decide) h.symm)
          have M8 : Hid (Bx w8 (w.heap.size + 2) 26 [.int .i64 fr, .int .i64 (id : Int), .int .i64 o, .slice none 0 0]) := M7.out.grown g8 (fun h => sl_bx_ne A7 M7.out (by decide) h.symm)
          have D8 : Hid (Drw w w8 B g ao n cap) := D7.out.push b8 hg hB
          clear b8 g8 A7 R7 M7 D7
          go_roundw
          case rel => exact ⟨i + 1, _, by omega, by omega, by go_num, by simp; omega, A8, M8, R8, D8⟩
          case measure => simp [intOf]; omega
        · have hi6' : ¬ (i : Int) ≤ 6 := by omega
          obtain ⟨vo, vc, rfl⟩ := Sl.form A6.out
          have N0 : ∃ N, N = wr.heap.size := ⟨_, rfl⟩
          obtain ⟨N, hN⟩ := N0
          have wN : w.heap.size + 3 ≤ N := by rw [hN]; exact M6.out.lt
          have A6l : Hid (∀ j, (Value.slice vo ts.length vc).ownBlock = some j → j < N) := fun j hj => by rw [hN]; exact (A6.out.lt j hj).2
          have Z6 : N ≤ wr.heap.size := by omega
          clear hN
          go_wp2_with fail
          go_loopw [10] (fun j wr => ∃ (k : Nat) (us : List It) (s : Sv), k ≤ ts.length ∧ j = .int .i64 k ∧ us.length ≤ k ∧ N ≤ wr.heap.size ∧ Hid (SlI wr N s.v us) ∧ Hid (Bx wr (w.heap.size + 2) 26 [.int .i64 fr, .int .i64 (id : Int), .int .i64 o, .slice s.a s.n s.c]) ∧ Hid (Bx wr (w.heap.size + 1) 26 [.int .i64 0, .int .i64 0, .int .i64 0, .slice none 0 0]) ∧ Hid (SlI wr w.heap.size (.slice vo ts.length vc) ts) ∧ Hid (Drw w wr B g ao n cap)) (fun j _ => ts.length - (intOf j).toNat)
          case atStart => exact ⟨0, [], ⟨none, 0, 0⟩, by omega, rfl, by simp, Z6, SlI.zero _ _, M6, R6, A6, D6⟩
          case round =>
            clear A6 M6 R6 D6 Z6
            obtain ⟨k, us, s, hk, rfl, hul, z6, U6, M6, R6, A6, D6⟩ := hrel
            by_cases hkl : k < ts.length
            · have hki : (k : Int) < (ts.length : Int) := by omega
              go_wp2_with fail
              refine (once_any wr wr B g n cap 3 ao hn hB (by omega) (by omega) D6.out.here).mono ?_
              rintro e w7 ⟨⟨b, rfl⟩, hd7⟩
              have zs : wr.heap.size ≤ w7.heap.size := hd7.out.2.2.size
              have U7 : Hid (SlI w7 N s.v us) := U6.out.but hd7.out.2.2 (by omega)
              have R7 : Hid (Bx w7 (w.heap.size + 1) 26 [.int .i64 0, .int .i64 0, .int .i64 0, .slice none 0 0]) := R6.out.keepb hd7.out.2.2 (by omega)
              have M7 : Hid (Bx w7 (w.heap.size + 2) 26 [.int .i64 fr, .int .i64 (id : Int), .int .i64 o, .slice s.a s.n s.c]) := M6.out.keepb hd7.out.2.2 (by omega)
              have A7 : Hid (SlI w7 w.heap.size (.slice vo ts.length vc) ts) := A6.out.but hd7.out.2.2 hg
              have D7 := D6.out.back hd7.out
              clear hd7 U6 R6 M6 A6 D6
              cases b with
              | true =>
                go_wp2_with fail
                go_roundw
                case rel => exact ⟨k + 1, us, s, by omega, by go_num, by omega, by omega, U7, M7, R7, A7, D7⟩
                case measure => simp [intOf]; omega
              | false =>
                go_wp2_with fail
                have bd : Below w7.heap.size w7 w7.drew := (Below.refl _ _).drew
                have U6 : Hid (SlI w7.drew N s.v us) := U7.out.below bd
                have R6 : Hid (Bx w7.drew (w.heap.size + 1) 26 [.int .i64 0, .int .i64 0, .int .i64 0, .slice none 0 0]) := R7.out.later bd
                have M6 : Hid (Bx w7.drew (w.heap.size + 2) 26 [.int .i64 fr, .int .i64 (id : Int), .int .i64 o, .slice s.a s.n s.c]) := M7.out.later bd
                have A6 : Hid (SlI w7.drew w.heap.size (.slice vo ts.length vc) ts) := A7.out.below bd
                have D6 : Hid (Drw w w7.drew B g ao n cap) := D7.out.drew
                have z6 : N ≤ w7.drew.heap.size := Nat.le_trans (Nat.le_trans z6 zs) bd.size
                clear U7 R7 M7 A7 D7 bd zs
                refine wp_region_held_drew (S := fun _ => True) (by kernel_rfl) trivial (fun hHeld => ?_)
                generalize w7.drew = W at *
                obtain ⟨gb, off, cap', hv, hBg, hgl, hc, hf⟩ := Sl.read A6.out (by omega)
                simp at hv
                obtain ⟨rfl, rfl⟩ := hv
                have c0 := hc (k * 4) _ (cels_at hkl).1
                have c1 := hc (k * 4 + 1) _ (cels_at hkl).2.1
                have c2 := hc (k * 4 + 2) _ (cels_at hkl).2.2.1
                have c3 := hc (k * 4 + 3) _ (cels_at hkl).2.2.2
                rw [← Nat.add_assoc] at c1 c2 c3
                generalize ts[k].1 = q at *
                generalize ts[k].2.1 = f at *
                generalize ts[k].2.2.1 = l at *
                generalize ts[k].2.2.2 = x at *
                have m3 := M6.out.cell 3
                simp only [List.getElem?_cons_succ, List.getElem?_cons_zero] at m3
                clear hc hf
                have hk0 : (0 : Int) ≤ (k : Int) := by omega
                refine wpAnyH_take (i := 0) (v := ?v0b1) rfl (by kernel_rfl) (by kernel_rfl) (by kernel_rfl) (fun _ _ _ h => h) (Or.inl ⟨by rfl, ?hy0b1⟩) (by assumption) ?_
                case hy0b1 => (intro w hSw; (try dsimp only at hSw); simp only [List.getElem_toArray, List.getElem_cons_zero, List.getElem_cons_succ]; go_simp; try with_reducible rfl)
                try simp only [Act.put, List.getElem_toArray, List.getElem_cons_zero, List.getElem_cons_succ, List.setIfInBounds_toArray, List.set_cons_zero, List.set_cons_succ]
                refine wpAnyH_take (i := 2) (v := ?v2b2) rfl (by kernel_rfl) (by kernel_rfl) (by kernel_rfl) (fun _ _ _ h => h) (Or.inl ⟨by rfl, ?hy2b2⟩) (by assumption) ?_
                case hy2b2 => (intro w hSw; (try dsimp only at hSw); simp only [List.getElem_toArray, List.getElem_cons_zero, List.getElem_cons_succ]; go_simp; try with_reducible rfl)
                try simp only [Act.put, List.getElem_toArray, List.getElem_cons_zero, List.getElem_cons_succ, List.setIfInBounds_toArray, List.set_cons_zero, List.set_cons_succ]
                refine wpAnyH_take (i := 3) (v := ?v3b3) rfl (by kernel_rfl) (by kernel_rfl) (by kernel_rfl) (fun _ _ _ h => h) (Or.inl ⟨by rfl, ?hy3b3⟩) (by assumption) ?_
                case hy3b3 => (intro w hSw; (try dsimp only at hSw); simp only [List.getElem_toArray, List.getElem_cons_zero, List.getElem_cons_succ]; go_simp; try with_reducible rfl)
                try simp only [Act.put, List.getElem_toArray, List.getElem_cons_zero, List.getElem_cons_succ, List.setIfInBounds_toArray, List.set_cons_zero, List.set_cons_succ]
                refine wpAnyH_take (i := 4) (v := ?v4b4) rfl (by kernel_rfl) (by kernel_rfl) (by kernel_rfl) (fun _ _ _ h => h) (Or.inl ⟨by rfl, ?hy4b4⟩) (by assumption) ?_
                case hy4b4 => (intro w hSw; (try dsimp only at hSw); simp only [List.getElem_toArray, List.getElem_cons_zero, List.getElem_cons_succ]; go_simp; try with_reducible rfl)
                try simp only [Act.put, List.getElem_toArray, List.getElem_cons_zero, List.getElem_cons_succ, List.setIfInBounds_toArray, List.set_cons_zero, List.set_cons_succ]
                refine wpAnyH_ready (rs := [1, 5]) (by kernel_rfl) (by simp) ?_
                refine (AllReadyH.cons (i := 1) rfl (fun K hK => ?_) (AllReadyH.cons (i := 5) rfl (fun K hK => ?_) AllReadyH.nil))
                · skip
                  rw [if_pos (by rfl)]
                  simp only [List.getElem_toArray, List.getElem_cons_zero, List.getElem_cons_succ]
                  go_simp
                  refine hK.out _ _ (trivial) (fun hHeld => ?_)
                  clear hK K
                  try simp only [Act.put, List.getElem_toArray, List.getElem_cons_zero, List.getElem_cons_succ, List.setIfInBounds_toArray, List.set_cons_zero, List.set_cons_succ]
                  refine wpAnyH_ready (rs := [5]) (by kernel_rfl) (by simp) ?_
                  refine AllReadyH.cons (i := 5) rfl (fun K hK => ?_) AllReadyH.nil
                  rw [if_pos (by rfl)]
                  simp only [List.getElem_toArray, List.getElem_cons_zero, List.getElem_cons_succ]
                  go_simp
                  refine hK.out _ _ (trivial) (fun hHeld => ?_)
                  clear hK K
                  try simp only [Act.put, List.getElem_toArray, List.getElem_cons_zero, List.getElem_cons_succ, List.setIfInBounds_toArray, List.set_cons_zero, List.set_cons_succ]
                  refine wpAnyH_ready (rs := [6]) (by kernel_rfl) (by simp) ?_
                  refine AllReadyH.cons (i := 6) rfl (fun K hK => ?_) AllReadyH.nil
                  rw [if_pos (by rfl)]
                  simp only [List.getElem_toArray, List.getElem_cons_zero, List.getElem_cons_succ]
                  go_simp
                  have m4 : (W.alloc (.cells #[.int .i64 q, .int .i64 f, .int .i64 l, .string x] 57)).cell? ⟨w.heap.size + 2, 3, none⟩ = some (.slice s.a s.n s.c) := (M6.out.later ((Below.refl _ _).alloc (Nat.le_refl _) _)).cell 3
                  refine hK.out _ _ (trivial) (fun hHeld => ?_)
                  clear hK K
                  try simp only [Act.put, List.getElem_toArray, List.getElem_cons_zero, List.getElem_cons_succ, List.setIfInBounds_toArray, List.set_cons_zero, List.set_cons_succ]
                  refine wpAnyH_ready (rs := [7]) (by kernel_rfl) (by simp) ?_
                  refine AllReadyH.cons (i := 7) rfl (fun K hK => ?_) AllReadyH.nil
                  rw [if_pos (by rfl)]
                  simp only [List.getElem_toArray, List.getElem_cons_zero, List.getElem_cons_succ]
                  refine wp_pushItD _ _ 24 rfl Tryd.underlying24 us (by rfl) U6.out (q, f, l, x) rfl (by rfl) (by omega) z6 ?_
                  intro v7 w7 U7 G7
                  obtain ⟨s7, rfl, e7⟩ := U7.sv
                  have U7 : Hid (SlI w7 N s7.v (us ++ [(q, f, l, x)])) := U7
                  have R7 : Hid (Bx w7 (w.heap.size + 1) 26 [.int .i64 0, .int .i64 0, .int .i64 0, .slice none 0 0]) := R6.out.grown G7 (fun h => sl_bx_ne U6.out R6.out (by decide) h.symm)
                  have M7 : Hid (Bx w7 (w.heap.size + 2) 26 [.int .i64 fr, .int .i64 (id : Int), .int .i64 o, .slice s.a s.n s.c]) := M6.out.grown G7 (fun h => sl_bx_ne U6.out M6.out (by decide) h.symm)
                  have A7 : Hid (SlI w7 w.heap.size (.slice (some ⟨gb, off, none⟩) ts.length vc) ts) := A6.out.kept G7 (fun j hj h => by have h1 := (A6l.out j hj); have h2 := (U6.out.lt j h.symm).1; omega)
                  have B7 : Below w.heap.size W w7 := (Below.refl _ _).grown G7 (by omega) (fun j hj => by have := (U6.out.lt j hj).1; omega)
                  have D7 : Hid (Drw w w7 B g ao n cap) := D6.out.push B7 hg hB
                  have Z7 : N ≤ w7.heap.size := Nat.le_trans z6 G7.size
                  clear B7 G7 U6 R6 M6 D6
                  refine hK.out _ _ (trivial) (fun hHeld => ?_)
                  clear hK K
                  try simp only [Act.put, List.getElem_toArray, List.getElem_cons_zero, List.getElem_cons_succ, List.setIfInBounds_toArray, List.set_cons_zero, List.set_cons_succ]
                  refine wpAnyH_take (i := 8) (v := ?v8b5) rfl (by kernel_rfl) (by kernel_rfl) (by kernel_rfl) (fun _ _ _ h => h) (Or.inl ⟨by rfl, ?hy8b5⟩) (by assumption) ?_
                  case hy8b5 => (intro w hSw; (try dsimp only at hSw); simp only [List.getElem_toArray, List.getElem_cons_zero, List.getElem_cons_succ]; go_simp; try with_reducible rfl)
                  try simp only [Act.put, List.getElem_toArray, List.getElem_cons_zero, List.getElem_cons_succ, List.setIfInBounds_toArray, List.set_cons_zero, List.set_cons_succ]
                  refine wpAnyH_ready (rs := [9]) (by kernel_rfl) (by simp) ?_
                  refine AllReadyH.cons (i := 9) rfl (fun K hK => ?_) AllReadyH.nil
                  rw [if_pos (by rfl)]
                  simp only [List.getElem_toArray, List.getElem_cons_zero, List.getElem_cons_succ]
                  refine wp_st1 24 _ _ rfl (w.heap.size + 2) 3 (by rfl) 26 _ M7.out (.slice s7.a s7.n s7.c) (by rfl) (by simp) rfl Tryd.sizeIs [.int .i64 fr, .int .i64 (id : Int), .int .i64 o, .slice s7.a s7.n s7.c] rfl ?_
                  intro w8 M8 T8
                  have M8 : Hid (Bx w8 (w.heap.size + 2) 26 [.int .i64 fr, .int .i64 (id : Int), .int .i64 o, .slice s7.a s7.n s7.c]) := M8
                  have R8 : Hid (Bx w8 (w.heap.size + 1) 26 [.int .i64 0, .int .i64 0, .int .i64 0, .slice none 0 0]) := R7.out.turn T8 (by omega)
                  have U8 : Hid (SlI w8 N s7.v (us ++ [(q, f, l, x)])) := U7.out.past M7.out T8 (by decide)
                  have A8 : Hid (SlI w8 w.heap.size (.slice (some ⟨gb, off, none⟩) ts.length vc) ts) := A7.out.past M7.out T8 (by decide)
                  have D8 : Hid (Drw w w8 B g ao n cap) := D7.out.push (T8.below (by omega)) hg hB
                  have Z8 : N ≤ w8.heap.size := by rw [T8.size]; exact Z7
                  clear T8 M7 R7 U7 A7 D7
                  refine hK.out _ _ (trivial) (fun hHeld => ?_)
                  clear hK K
                  try simp only [Act.put, List.getElem_toArray, List.getElem_cons_zero, List.getElem_cons_succ, List.setIfInBounds_toArray, List.set_cons_zero, List.set_cons_succ]
                  refine wpAnyH_done (by kernel_rfl) ?_ _
                  go_wp2_with fail
                  go_roundw
                  case rel => exact ⟨k + 1, us ++ [(q, f, l, x)], s7, by omega, by go_num, by simp; omega, Z8, U8, M8, R8, A8, D8⟩
                  case measure => simp [intOf]; omega
                · skip
                  rw [if_pos (by rfl)]
                  simp only [List.getElem_toArray, List.getElem_cons_zero, List.getElem_cons_succ]
                  go_simp
                  refine hK.out _ _ (trivial) (fun hHeld => ?_)
                  clear hK K
                  try simp only [Act.put, List.getElem_toArray, List.getElem_cons_zero, List.getElem_cons_succ, List.setIfInBounds_toArray, List.set_cons_zero, List.set_cons_succ]
                  refine wpAnyH_ready (rs := [1, 6]) (by kernel_rfl) (by simp) ?_
                  refine (AllReadyH.cons (i := 1) rfl (fun K hK => ?_) (AllReadyH.cons (i := 6) rfl (fun K hK => ?_) AllReadyH.nil))
                  · skip
                    rw [if_pos (by rfl)]
                    simp only [List.getElem_toArray, List.getElem_cons_zero, List.getElem_cons_succ]
                    go_simp
                    refine hK.out _ _ (trivial) (fun hHeld => ?_)
                    clear hK K
                    try simp only [Act.put, List.getElem_toArray, List.getElem_cons_zero, List.getElem_cons_succ, List.setIfInBounds_toArray, List.set_cons_zero, List.set_cons_succ]
                    refine wpAnyH_ready (rs := [6]) (by kernel_rfl) (by simp) ?_
                    refine AllReadyH.cons (i := 6) rfl (fun K hK => ?_) AllReadyH.nil
                    rw [if_pos (by rfl)]
                    simp only [List.getElem_toArray, List.getElem_cons_zero, List.getElem_cons_succ]
                    go_simp
                    have m4 : (W.alloc (.cells #[.int .i64 q, .int .i64 f, .int .i64 l, .string x] 57)).cell? ⟨w.heap.size + 2, 3, none⟩ = some (.slice s.a s.n s.c) := (M6.out.later ((Below.refl _ _).alloc (Nat.le_refl _) _)).cell 3
                    refine hK.out _ _ (trivial) (fun hHeld => ?_)
                    clear hK K
                    try simp only [Act.put, List.getElem_toArray, List.getElem_cons_zero, List.getElem_cons_succ, List.setIfInBounds_toArray, List.set_cons_zero, List.set_cons_succ]
                    refine wpAnyH_ready (rs := [7]) (by kernel_rfl) (by simp) ?_
                    refine AllReadyH.cons (i := 7) rfl (fun K hK => ?_) AllReadyH.nil
                    rw [if_pos (by rfl)]
                    simp only [List.getElem_toArray, List.getElem_cons_zero, List.getElem_cons_succ]
                    refine wp_pushItD _ _ 24 rfl Tryd.underlying24 us (by rfl) U6.out (q, f, l, x) rfl (by rfl) (by omega) z6 ?_
                    intro v7 w7 U7 G7
                    obtain ⟨s7, rfl, e7⟩ := U7.sv
                    have U7 : Hid (SlI w7 N s7.v (us ++ [(q, f, l, x)])) := U7
                    have R7 : Hid (Bx w7 (w.heap.size + 1) 26 [.int .i64 0, .int .i64 0, .int .i64 0, .slice none 0 0]) := R6.out.grown G7 (fun h => sl_bx_ne U6.out R6.out (by decide) h.symm)
                    have M7 : Hid (Bx w7 (w.heap.size + 2) 26 [.int .i64 fr, .int .i64 (id : Int), .int .i64 o, .slice s.a s.n s.c]) := M6.out.grown G7 (fun h => sl_bx_ne U6.out M6.out (by decide) h.symm)
                    have A7 : Hid (SlI w7 w.heap.size (.slice (some ⟨gb, off, none⟩) ts.length vc) ts) := A6.out.kept G7 (fun j hj h => by have h1 := (A6l.out j hj); have h2 := (U6.out.lt j h.symm).1; omega)
                    have B7 : Below w.heap.size W w7 := (Below.refl _ _).grown G7 (by omega) (fun j hj => by have := (U6.out.lt j hj).1; omega)
                    have D7 : Hid (Drw w w7 B g ao n cap) := D6.out.push B7 hg hB
                    have Z7 : N ≤ w7.heap.size := Nat.le_trans z6 G7.size
                    clear B7 G7 U6 R6 M6 D6
                    refine hK.out _ _ (trivial) (fun hHeld => ?_)
                    clear hK K
                    try simp only [Act.put, List.getElem_toArray, List.getElem_cons_zero, List.getElem_cons_succ, List.setIfInBounds_toArray, List.set_cons_zero, List.set_cons_succ]
                    refine wpAnyH_take (i := 8) (v := ?v8b6) rfl (by kernel_rfl) (by kernel_rfl) (by kernel_rfl) (fun _ _ _ h => h) (Or.inl ⟨by rfl, ?hy8b6⟩) (by assumption) ?_
                    case hy8b6 => (intro w hSw; (try dsimp only at hSw); simp only [List.getElem_toArray, List.getElem_cons_zero, List.getElem_cons_succ]; go_simp; try with_reducible rfl)
                    try simp only [Act.put, List.getElem_toArray, List.getElem_cons_zero, List.getElem_cons_succ, List.setIfInBounds_toArray, List.set_cons_zero, List.set_cons_succ]
                    refine wpAnyH_ready (rs := [9]) (by kernel_rfl) (by simp) ?_
                    refine AllReadyH.cons (i := 9) rfl (fun K hK => ?_) AllReadyH.nil
                    rw [if_pos (by rfl)]
                    simp only [List.getElem_toArray, List.getElem_cons_zero, List.getElem_cons_succ]
                    refine wp_st1 24 _ _ rfl (w.heap.size + 2) 3 (by rfl) 26 _ M7.out (.slice s7.a s7.n s7.c) (by rfl) (by simp) rfl Tryd.sizeIs [.int .i64 fr, .int .i64 (id : Int), .int .i64 o, .slice s7.a s7.n s7.c] rfl ?_
                    intro w8 M8 T8
                    have M8 : Hid (Bx w8 (w.heap.size + 2) 26 [.int .i64 fr, .int .i64 (id : Int), .int .i64 o, .slice s7.a s7.n s7.c]) := M8
                    have R8 : Hid (Bx w8 (w.heap.size + 1) 26 [.int .i64 0, .int .i64 0, .int .i64 0, .slice none 0 0]) := R7.out.turn T8 (by omega)
                    have U8 : Hid (SlI w8 N s7.v (us ++ [(q, f, l, x)])) := U7.out.past M7.out T8 (by decide)
                    have A8 : Hid (SlI w8 w.heap.size (.slice (some ⟨gb, off, none⟩) ts.length vc) ts) := A7.out.past M7.out T8 (by decide)
                    have D8 : Hid (Drw w w8 B g ao n cap) := D7.out.push (T8.below (by omega)) hg hB
                    have Z8 : N ≤ w8.heap.size := by rw [T8.size]; exact Z7
                    clear T8 M7 R7 U7 A7 D7
                    refine hK.out _ _ (trivial) (fun hHeld => ?_)
                    clear hK K
                    try simp only [Act.put, List.getElem_toArray, List.getElem_cons_zero, List.getElem_cons_succ, List.setIfInBounds_toArray, List.set_cons_zero, List.set_cons_succ]
                    refine wpAnyH_done (by kernel_rfl) ?_ _
                    go_wp2_with fail
                    go_roundw
                    case rel => exact ⟨k + 1, us ++ [(q, f, l, x)], s7, by omega, by go_num, by simp; omega, Z8, U8, M8, R8, A8, D8⟩
                    case measure => simp [intOf]; omega
                  · skip
                    rw [if_pos (by rfl)]
                    simp only [List.getElem_toArray, List.getElem_cons_zero, List.getElem_cons_succ]
                    go_simp
                    have m4 : (W.alloc (.cells #[.int .i64 q, .int .i64 f, .int .i64 l, .string x] 57)).cell? ⟨w.heap.size + 2, 3, none⟩ = some (.slice s.a s.n s.c) := (M6.out.later ((Below.refl _ _).alloc (Nat.le_refl _) _)).cell 3
                    refine hK.out _ _ (trivial) (fun hHeld => ?_)
                    clear hK K
                    try simp only [Act.put, List.getElem_toArray, List.getElem_cons_zero, List.getElem_cons_succ, List.setIfInBounds_toArray, List.set_cons_zero, List.set_cons_succ]
                    refine wpAnyH_ready (rs := [1]) (by kernel_rfl) (by simp) ?_
                    refine AllReadyH.cons (i := 1) rfl (fun K hK => ?_) AllReadyH.nil
                    rw [if_pos (by rfl)]
                    simp only [List.getElem_toArray, List.getElem_cons_zero, List.getElem_cons_succ]
                    go_simp
                    refine hK.out _ _ (trivial) (fun hHeld => ?_)
                    clear hK K
                    try simp only [Act.put, List.getElem_toArray, List.getElem_cons_zero, List.getElem_cons_succ, List.setIfInBounds_toArray, List.set_cons_zero, List.set_cons_succ]
                    refine wpAnyH_ready (rs := [7]) (by kernel_rfl) (by simp) ?_
                    refine AllReadyH.cons (i := 7) rfl (fun K hK => ?_) AllReadyH.nil
                    rw [if_pos (by rfl)]
                    simp only [List.getElem_toArray, List.getElem_cons_zero, List.getElem_cons_succ]
                    refine wp_pushItD _ _ 24 rfl Tryd.underlying24 us (by rfl) U6.out (q, f, l, x) rfl (by rfl) (by omega) z6 ?_
                    intro v7 w7 U7 G7
                    obtain ⟨s7, rfl, e7⟩ := U7.sv
                    have U7 : Hid (SlI w7 N s7.v (us ++ [(q, f, l, x)])) := U7
                    have R7 : Hid (Bx w7 (w.heap.size + 1) 26 [.int .i64 0, .int .i64 0, .int .i64 0, .slice none 0 0]) := R6.out.grown G7 (fun h => sl_bx_ne U6.out R6.out (by decide) h.symm)
                    have M7 : Hid (Bx w7 (w.heap.size + 2) 26 [.int .i64 fr, .int .i64 (id : Int), .int .i64 o, .slice s.a s.n s.c]) := M6.out.grown G7 (fun h => sl_bx_ne U6.out M6.out (by decide) h.symm)
                    have A7 : Hid (SlI w7 w.heap.size (.slice (some ⟨gb, off, none⟩) ts.length vc) ts) := A6.out.kept G7 (fun j hj h => by have h1 := (A6l.out j hj); have h2 := (U6.out.lt j h.symm).1; omega)
                    have B7 : Below w.heap.size W w7 := (Below.refl _ _).grown G7 (by omega) (fun j hj => by have := (U6.out.lt j hj).1; omega)
                    have D7 : Hid (Drw w w7 B g ao n cap) := D6.out.push B7 hg hB
                    have Z7 : N ≤ w7.heap.size := Nat.le_trans z6 G7.size
                    clear B7 G7 U6 R6 M6 D6
                    refine hK.out _ _ (trivial) (fun hHeld => ?_)
                    clear hK K
                    try simp only [Act.put, List.getElem_toArray, List.getElem_cons_zero, List.getElem_cons_succ, List.setIfInBounds_toArray, List.set_cons_zero, List.set_cons_succ]
                    refine wpAnyH_take (i := 8) (v := ?v8b7) rfl (by kernel_rfl) (by kernel_rfl) (by kernel_rfl) (fun _ _ _ h => h) (Or.inl ⟨by rfl, ?hy8b7⟩) (by assumption) ?_
                    case hy8b7 => (intro w hSw; (try dsimp only at hSw); simp only [List.getElem_toArray, List.getElem_cons_zero, List.getElem_cons_succ]; go_simp; try with_reducible rfl)
                    try simp only [Act.put, List.getElem_toArray, List.getElem_cons_zero, List.getElem_cons_succ, List.setIfInBounds_toArray, List.set_cons_zero, List.set_cons_succ]
                    refine wpAnyH_ready (rs := [9]) (by kernel_rfl) (by simp) ?_
                    refine AllReadyH.cons (i := 9) rfl (fun K hK => ?_) AllReadyH.nil
                    rw [if_pos (by rfl)]
                    simp only [List.getElem_toArray, List.getElem_cons_zero, List.getElem_cons_succ]
                    refine wp_st1 24 _ _ rfl (w.heap.size + 2) 3 (by rfl) 26 _ M7.out (.slice s7.a s7.n s7.c) (by rfl) (by simp) rfl Tryd.sizeIs [.int .i64 fr, .int .i64 (id : Int), .int .i64 o, .slice s7.a s7.n s7.c] rfl ?_
                    intro w8 M8 T8
                    have M8 : Hid (Bx w8 (w.heap.size + 2) 26 [.int .i64 fr, .int .i64 (id : Int), .int .i64 o, .slice s7.a s7.n s7.c]) := M8
                    have R8 : Hid (Bx w8 (w.heap.size + 1) 26 [.int .i64 0, .int .i64 0, .int .i64 0, .slice none 0 0]) := R7.out.turn T8 (by omega)
                    have U8 : Hid (SlI w8 N s7.v (us ++ [(q, f, l, x)])) := U7.out.past M7.out T8 (by decide)
                    have A8 : Hid (SlI w8 w.heap.size (.slice (some ⟨gb, off, none⟩) ts.length vc) ts) := A7.out.past M7.out T8 (by decide)
                    have D8 : Hid (Drw w w8 B g ao n cap) := D7.out.push (T8.below (by omega)) hg hB
                    have Z8 : N ≤ w8.heap.size := by rw [T8.size]; exact Z7
                    clear T8 M7 R7 U7 A7 D7
                    refine hK.out _ _ (trivial) (fun hHeld => ?_)
                    clear hK K
                    try simp only [Act.put, List.getElem_toArray, List.getElem_cons_zero, List.getElem_cons_succ, List.setIfInBounds_toArray, List.set_cons_zero, List.set_cons_succ]
                    refine wpAnyH_done (by kernel_rfl) ?_ _
                    go_wp2_with fail
                    go_roundw
                    case rel => exact ⟨k + 1, us ++ [(q, f, l, x)], s7, by omega, by go_num, by simp; omega, Z8, U8, M8, R8, A8, D8⟩
                    case measure => simp [intOf]; omega
            · have hki : ¬ (k : Int) < (ts.length : Int) := by omega
              have m0 := M6.out.cell 0
              have m1 := M6.out.cell 1
              have m2 := M6.out.cell 2
              have m3 := M6.out.cell 3
              simp only [List.getElem?_cons_succ, List.getElem?_cons_zero] at m0 m1 m2 m3
              go_wp2_with (first | (with_reducible refine wpList_haltS 26 _ _ rfl ?_))
              refine Stp.go ?_
              refine wpList_stB rfl 26 _ _ rfl (w.heap.size + 1) 0 rfl 26 _ R6.out [.int .i64 fr, .int .i64 (id : Int), .int .i64 o, .slice s.a s.n s.c] rfl (by simp) Tryd.sizeBu rfl [.int .i64 fr, .int .i64 (id : Int), .int .i64 o, .slice s.a s.n s.c] rfl ?_
              intro W9 R9 T9
              have D9 : Hid (Drw w W9 B g ao n cap) := D6.out.push (T9.below (by omega)) hg hB
              have U9 : Hid (SlI W9 w.heap.size s.v us) := (U6.out.past R6.out T9 (by decide)).down (by omega)
              clear T9 m0 m1 m2 m3
              go_wp2_with fail
              refine bodyPost_ret (results_b Tryd.results54 (w.heap.size + 1) 26 [.int .i64 fr, .int .i64 (id : Int), .int .i64 o, .slice s.a s.n s.c] _ rfl R9 Tryd.underlying26 rfl Tryd.sizeBu) rfl ?_
              exact ⟨⟨o, s, us, rfl, U9.out, by omega⟩, D9⟩
end Go.Proofs.YtlflcjdpdbdbkaaDoor

