/- Joined texts: Bb Bn. -/
import Derived.Test.YtlflcjdpdbdbkaaDoorBj5
import Derived.Test.YtlflcjdpdbdbkaaDoorBj12
import Derived.Test.YtlflcjdpdbdbkaaDoorBj1
import Derived.Test.YtlflcjdpdbdbkaaDoorBj16
/- Bundles: when one is right; both BundleOk. Written by gen_bb.py. -/
namespace Go.Proofs.YtlflcjdpdbdbkaaDoor
open Go.RowKit Pl
set_option linter.unusedVariables false

/-- whether a bundle is right. -/
def bunB (f n o : Int) (ts : List It) : Bool := decide (1 ≤ f ∧ f ≤ 5) && (decide (1 ≤ n ∧ n ≤ 9) && (decide (0 ≤ o ∧ o ≤ n - 1) && (iGo 0 ts && (decide (0 < o) || decide (ts.length = 0)))))
theorem bunB_parts {f n o : Int} {ts : List It} (h : bunB f n o ts = true) : (1 ≤ f ∧ f ≤ 5) ∧ (1 ≤ n ∧ n ≤ 9) ∧ (0 ≤ o ∧ o ≤ n - 1) ∧ iGo 0 ts = true ∧ (0 < o ∨ ts.length = 0) := by
  unfold bunB at h
  simp only [Bool.and_eq_true, Bool.or_eq_true, decide_eq_true_eq] at h
  exact h

theorem itemsOk_is {ao : Option Addr} {cap : Nat} {ts : List It} {b : Bool} (w : World) (hx : Hid (ItemsAt w ao ts)) (hl : ts.length ≤ 1048576) (h : iGo 0 ts = b) :
    Calls Tryd.prog 37 #[.slice ao ts.length cap] w fun e w' => e = .returned (.bool b) ∧ Below w.heap.size w w' := by rw [← h]; exact itemsOk_any ao cap ts w hx hl
theorem spItemsOk_is {ao : Option Addr} {cap : Nat} {ts : List It} {b : Bool} (w : World) (hx : Hid (ItemsAt w ao ts)) (hl : ts.length ≤ 1048576) (h : iGo 0 ts = b) :
    Calls Tryd.prog 39 #[.slice ao ts.length cap] w fun e w' => e = .returned (.bool b) ∧ Below w.heap.size w w' := by rw [← h]; exact spItemsOk_any ao cap ts w hx hl
set_option maxRecDepth 100000 in
set_option maxHeartbeats 2000000 in
theorem bundleOk_0 (f n o : Int) (ao : Option Addr) (cap : Nat) (ts : List It) (w : World) (hx : Hid (ItemsAt w ao ts)) (hl : ts.length ≤ 1048576) (h1 : decide (1 ≤ f ∧ f ≤ 5) = false) :
    Calls Tryd.prog 11 #[.agg #[.int .i64 f, .int .i64 n, .int .i64 o, .slice ao ts.length cap]] w fun e w' => e = .returned (.bool (false)) ∧ Below w.heap.size w w' := by
  have HB : Hid (Below w.heap.size w (w.alloc (.cells #[.int .i64 f, .int .i64 n, .int .i64 o, .slice ao ts.length cap] 26))) := (Below.refl _ _).alloc (Nat.le_refl _) _
  clear hx
  go_enter Tryd.func11, Tryd.ntmps11
  go_wp2_with fail
  refine (within_is _ h1).mono ?_
  rintro e w1 ⟨rfl, rfl⟩
  go_wp2_with fail
  go_ret
  exact ⟨rfl, HB.out⟩
set_option maxRecDepth 100000 in
set_option maxHeartbeats 2000000 in
theorem bundleOk_1 (f n o : Int) (ao : Option Addr) (cap : Nat) (ts : List It) (w : World) (hx : Hid (ItemsAt w ao ts)) (hl : ts.length ≤ 1048576) (h1 : decide (1 ≤ f ∧ f ≤ 5) = true) (h2 : decide (1 ≤ n ∧ n ≤ 9) = false) :
    Calls Tryd.prog 11 #[.agg #[.int .i64 f, .int .i64 n, .int .i64 o, .slice ao ts.length cap]] w fun e w' => e = .returned (.bool (false)) ∧ Below w.heap.size w w' := by
  have HB : Hid (Below w.heap.size w (w.alloc (.cells #[.int .i64 f, .int .i64 n, .int .i64 o, .slice ao ts.length cap] 26))) := (Below.refl _ _).alloc (Nat.le_refl _) _
  clear hx
  go_enter Tryd.func11, Tryd.ntmps11
  go_wp2_with fail
  refine (within_is _ h1).mono ?_
  rintro e w1 ⟨rfl, rfl⟩
  go_wp2_with fail
  refine (within_is _ h2).mono ?_
  rintro e w2 ⟨rfl, rfl⟩
  go_wp2_with fail
  go_ret
  exact ⟨rfl, HB.out⟩
set_option maxRecDepth 100000 in
set_option maxHeartbeats 2000000 in
theorem bundleOk_2 (f n o : Int) (ao : Option Addr) (cap : Nat) (ts : List It) (w : World) (hx : Hid (ItemsAt w ao ts)) (hl : ts.length ≤ 1048576) (h1 : decide (1 ≤ f ∧ f ≤ 5) = true) (h2 : decide (1 ≤ n ∧ n ≤ 9) = true) (h3 : decide (0 ≤ o ∧ o ≤ n - 1) = false) :
    Calls Tryd.prog 11 #[.agg #[.int .i64 f, .int .i64 n, .int .i64 o, .slice ao ts.length cap]] w fun e w' => e = .returned (.bool (false)) ∧ Below w.heap.size w w' := by
  have HB : Hid (Below w.heap.size w (w.alloc (.cells #[.int .i64 f, .int .i64 n, .int .i64 o, .slice ao ts.length cap] 26))) := (Below.refl _ _).alloc (Nat.le_refl _) _
  have hn : 1 ≤ n ∧ n ≤ 9 := of_decide_eq_true h2
  have hw : IntKind.i64.wrap (n - 1) = n - 1 := by rw [IntKind.wrap_i64]; omega
  clear hx
  go_enter Tryd.func11, Tryd.ntmps11
  go_wp2_with fail
  refine (within_is _ h1).mono ?_
  rintro e w1 ⟨rfl, rfl⟩
  go_wp2_with fail
  refine (within_is _ h2).mono ?_
  rintro e w2 ⟨rfl, rfl⟩
  go_wp2_with fail
  refine (within_is _ h3).mono ?_
  rintro e w3 ⟨rfl, rfl⟩
  go_wp2_with fail
  go_ret
  exact ⟨rfl, HB.out⟩
set_option maxRecDepth 100000 in
set_option maxHeartbeats 2000000 in
theorem bundleOk_3 (f n o : Int) (ao : Option Addr) (cap : Nat) (ts : List It) (w : World) (hx : Hid (ItemsAt w ao ts)) (hl : ts.length ≤ 1048576) (h1 : decide (1 ≤ f ∧ f ≤ 5) = true) (h2 : decide (1 ≤ n ∧ n ≤ 9) = true) (h3 : decide (0 ≤ o ∧ o ≤ n - 1) = true) (h4 : Hid (iGo 0 ts = false)) :
    Calls Tryd.prog 11 #[.agg #[.int .i64 f, .int .i64 n, .int .i64 o, .slice ao ts.length cap]] w fun e w' => e = .returned (.bool (false)) ∧ Below w.heap.size w w' := by
  have HB : Hid (Below w.heap.size w (w.alloc (.cells #[.int .i64 f, .int .i64 n, .int .i64 o, .slice ao ts.length cap] 26))) := (Below.refl _ _).alloc (Nat.le_refl _) _
  have hn : 1 ≤ n ∧ n ≤ 9 := of_decide_eq_true h2
  have hw : IntKind.i64.wrap (n - 1) = n - 1 := by rw [IntKind.wrap_i64]; omega
  have HX : Hid (ItemsAt (w.alloc (.cells #[.int .i64 f, .int .i64 n, .int .i64 o, .slice ao ts.length cap] 26)) ao ts) := hx.out.stays HB.out
  have HBx : Hid (Bx (w.alloc (.cells #[.int .i64 f, .int .i64 n, .int .i64 o, .slice ao ts.length cap] 26)) w.heap.size 26 [.int .i64 f, .int .i64 n, .int .i64 o, .slice ao ts.length cap]) := Bx.new w 26 _
  clear hx
  go_enter Tryd.func11, Tryd.ntmps11
  go_wp2_with fail
  refine (within_is _ h1).mono ?_
  rintro e w1 ⟨rfl, rfl⟩
  go_wp2_with fail
  refine (within_is _ h2).mono ?_
  rintro e w2 ⟨rfl, rfl⟩
  go_wp2_with fail
  refine (within_is _ h3).mono ?_
  rintro e w3 ⟨rfl, rfl⟩
  go_wp2_with fail
  generalize w.alloc (.cells #[.int .i64 f, .int .i64 n, .int .i64 o, .slice ao ts.length cap] 26) = W at *
  refine (itemsOk_is _ HX hl h4.out).mono ?_
  rintro e w4 ⟨rfl, hb4⟩
  have B4 : Hid (Below w.heap.size w w4) := HB.out.trans (hb4.mono HB.out.size)
  have X4 := HBx.out.later hb4
  have c2 := X4.cell 2
  have c3 := X4.cell 3
  simp only [List.getElem?_cons_succ, List.getElem?_cons_zero] at c2 c3
  clear hb4 X4 HX HBx HB h1 h2 h3 h4 hn hw
  go_wp2_with fail
  go_ret
  exact ⟨rfl, B4.out⟩
set_option maxRecDepth 100000 in
set_option maxHeartbeats 2000000 in
theorem bundleOk_4 (f n o : Int) (ao : Option Addr) (cap : Nat) (ts : List It) (w : World) (hx : Hid (ItemsAt w ao ts)) (hl : ts.length ≤ 1048576) (h1 : decide (1 ≤ f ∧ f ≤ 5) = true) (h2 : decide (1 ≤ n ∧ n ≤ 9) = true) (h3 : decide (0 ≤ o ∧ o ≤ n - 1) = true) (h4 : Hid (iGo 0 ts = true)) (h5 : 0 < o) :
    Calls Tryd.prog 11 #[.agg #[.int .i64 f, .int .i64 n, .int .i64 o, .slice ao ts.length cap]] w fun e w' => e = .returned (.bool (true)) ∧ Below w.heap.size w w' := by
  have HB : Hid (Below w.heap.size w (w.alloc (.cells #[.int .i64 f, .int .i64 n, .int .i64 o, .slice ao ts.length cap] 26))) := (Below.refl _ _).alloc (Nat.le_refl _) _
  have hn : 1 ≤ n ∧ n ≤ 9 := of_decide_eq_true h2
  have hw : IntKind.i64.wrap (n - 1) = n - 1 := by rw [IntKind.wrap_i64]; omega
  have HX : Hid (ItemsAt (w.alloc (.cells #[.int .i64 f, .int .i64 n, .int .i64 o, .slice ao ts.length cap] 26)) ao ts) := hx.out.stays HB.out
  have HBx : Hid (Bx (w.alloc (.cells #[.int .i64 f, .int .i64 n, .int .i64 o, .slice ao ts.length cap] 26)) w.heap.size 26 [.int .i64 f, .int .i64 n, .int .i64 o, .slice ao ts.length cap]) := Bx.new w 26 _
  clear hx
  go_enter Tryd.func11, Tryd.ntmps11
  go_wp2_with fail
  refine (within_is _ h1).mono ?_
  rintro e w1 ⟨rfl, rfl⟩
  go_wp2_with fail
  refine (within_is _ h2).mono ?_
  rintro e w2 ⟨rfl, rfl⟩
  go_wp2_with fail
  refine (within_is _ h3).mono ?_
  rintro e w3 ⟨rfl, rfl⟩
  go_wp2_with fail
  generalize w.alloc (.cells #[.int .i64 f, .int .i64 n, .int .i64 o, .slice ao ts.length cap] 26) = W at *
  refine (itemsOk_is _ HX hl h4.out).mono ?_
  rintro e w4 ⟨rfl, hb4⟩
  have B4 : Hid (Below w.heap.size w w4) := HB.out.trans (hb4.mono HB.out.size)
  have X4 := HBx.out.later hb4
  have c2 := X4.cell 2
  have c3 := X4.cell 3
  simp only [List.getElem?_cons_succ, List.getElem?_cons_zero] at c2 c3
  clear hb4 X4 HX HBx HB h1 h2 h3 h4 hn hw
  go_wp2_with fail
  go_ret
  exact ⟨rfl, B4.out⟩
set_option maxRecDepth 100000 in
set_option maxHeartbeats 2000000 in
theorem bundleOk_5 (f n o : Int) (ao : Option Addr) (cap : Nat) (ts : List It) (w : World) (hx : Hid (ItemsAt w ao ts)) (hl : ts.length ≤ 1048576) (h1 : decide (1 ≤ f ∧ f ≤ 5) = true) (h2 : decide (1 ≤ n ∧ n ≤ 9) = true) (h3 : decide (0 ≤ o ∧ o ≤ n - 1) = true) (h4 : Hid (iGo 0 ts = true)) (h5 : ¬ 0 < o) (he : ((ts.length : Int) == 0) = true) :
    Calls Tryd.prog 11 #[.agg #[.int .i64 f, .int .i64 n, .int .i64 o, .slice ao ts.length cap]] w fun e w' => e = .returned (.bool (true)) ∧ Below w.heap.size w w' := by
  have HB : Hid (Below w.heap.size w (w.alloc (.cells #[.int .i64 f, .int .i64 n, .int .i64 o, .slice ao ts.length cap] 26))) := (Below.refl _ _).alloc (Nat.le_refl _) _
  have hn : 1 ≤ n ∧ n ≤ 9 := of_decide_eq_true h2
  have hw : IntKind.i64.wrap (n - 1) = n - 1 := by rw [IntKind.wrap_i64]; omega
  have HX : Hid (ItemsAt (w.alloc (.cells #[.int .i64 f, .int .i64 n, .int .i64 o, .slice ao ts.length cap] 26)) ao ts) := hx.out.stays HB.out
  have HBx : Hid (Bx (w.alloc (.cells #[.int .i64 f, .int .i64 n, .int .i64 o, .slice ao ts.length cap] 26)) w.heap.size 26 [.int .i64 f, .int .i64 n, .int .i64 o, .slice ao ts.length cap]) := Bx.new w 26 _
  clear hx
  go_enter Tryd.func11, Tryd.ntmps11
  go_wp2_with fail
  refine (within_is _ h1).mono ?_
  rintro e w1 ⟨rfl, rfl⟩
  go_wp2_with fail
  refine (within_is _ h2).mono ?_
  rintro e w2 ⟨rfl, rfl⟩
  go_wp2_with fail
  refine (within_is _ h3).mono ?_
  rintro e w3 ⟨rfl, rfl⟩
  go_wp2_with fail
  generalize w.alloc (.cells #[.int .i64 f, .int .i64 n, .int .i64 o, .slice ao ts.length cap] 26) = W at *
  refine (itemsOk_is _ HX hl h4.out).mono ?_
  rintro e w4 ⟨rfl, hb4⟩
  have B4 : Hid (Below w.heap.size w w4) := HB.out.trans (hb4.mono HB.out.size)
  have X4 := HBx.out.later hb4
  have c2 := X4.cell 2
  have c3 := X4.cell 3
  simp only [List.getElem?_cons_succ, List.getElem?_cons_zero] at c2 c3
  clear hb4 X4 HX HBx HB h1 h2 h3 h4 hn hw
  go_wp2_with fail
  go_ret
  exact ⟨rfl, B4.out⟩
set_option maxRecDepth 100000 in
set_option maxHeartbeats 2000000 in
theorem bundleOk_6 (f n o : Int) (ao : Option Addr) (cap : Nat) (ts : List It) (w : World) (hx : Hid (ItemsAt w ao ts)) (hl : ts.length ≤ 1048576) (h1 : decide (1 ≤ f ∧ f ≤ 5) = true) (h2 : decide (1 ≤ n ∧ n ≤ 9) = true) (h3 : decide (0 ≤ o ∧ o ≤ n - 1) = true) (h4 : Hid (iGo 0 ts = true)) (h5 : ¬ 0 < o) (he : ((ts.length : Int) == 0) = false) :
    Calls Tryd.prog 11 #[.agg #[.int .i64 f, .int .i64 n, .int .i64 o, .slice ao ts.length cap]] w fun e w' => e = .returned (.bool (false)) ∧ Below w.heap.size w w' := by
  have HB : Hid (Below w.heap.size w (w.alloc (.cells #[.int .i64 f, .int .i64 n, .int .i64 o, .slice ao ts.length cap] 26))) := (Below.refl _ _).alloc (Nat.le_refl _) _
  have hn : 1 ≤ n ∧ n ≤ 9 := of_decide_eq_true h2
  have hw : IntKind.i64.wrap (n - 1) = n - 1 := by rw [IntKind.wrap_i64]; omega
  have HX : Hid (ItemsAt (w.alloc (.cells #[.int .i64 f, .int .i64 n, .int .i64 o, .slice ao ts.length cap] 26)) ao ts) := hx.out.stays HB.out
  have HBx : Hid (Bx (w.alloc (.cells #[.int .i64 f, .int .i64 n, .int .i64 o, .slice ao ts.length cap] 26)) w.heap.size 26 [.int .i64 f, .int .i64 n, .int .i64 o, .slice ao ts.length cap]) := Bx.new w 26 _
  clear hx
  go_enter Tryd.func11, Tryd.ntmps11
  go_wp2_with fail
  refine (within_is _ h1).mono ?_
  rintro e w1 ⟨rfl, rfl⟩
  go_wp2_with fail
  refine (within_is _ h2).mono ?_
  rintro e w2 ⟨rfl, rfl⟩
  go_wp2_with fail
  refine (within_is _ h3).mono ?_
  rintro e w3 ⟨rfl, rfl⟩
  go_wp2_with fail
  generalize w.alloc (.cells #[.int .i64 f, .int .i64 n, .int .i64 o, .slice ao ts.length cap] 26) = W at *
  refine (itemsOk_is _ HX hl h4.out).mono ?_
  rintro e w4 ⟨rfl, hb4⟩
  have B4 : Hid (Below w.heap.size w w4) := HB.out.trans (hb4.mono HB.out.size)
  have X4 := HBx.out.later hb4
  have c2 := X4.cell 2
  have c3 := X4.cell 3
  simp only [List.getElem?_cons_succ, List.getElem?_cons_zero] at c2 c3
  clear hb4 X4 HX HBx HB h1 h2 h3 h4 hn hw
  go_wp2_with fail
  go_ret
  exact ⟨by simp; omega, B4.out⟩
theorem bundleOk_any (f n o : Int) (ao : Option Addr) (cap : Nat) (ts : List It) (w : World) (hx : Hid (ItemsAt w ao ts)) (hl : ts.length ≤ 1048576) :
    Calls Tryd.prog 11 #[.agg #[.int .i64 f, .int .i64 n, .int .i64 o, .slice ao ts.length cap]] w fun e w' => e = .returned (.bool (bunB f n o ts)) ∧ Below w.heap.size w w' := by
  unfold bunB
  cases h1 : decide (1 ≤ f ∧ f ≤ 5) with
  | false => exact bundleOk_0 f n o ao cap ts w hx hl h1
  | true =>
    cases h2 : decide (1 ≤ n ∧ n ≤ 9) with
    | false => exact bundleOk_1 f n o ao cap ts w hx hl h1 h2
    | true =>
      cases h3 : decide (0 ≤ o ∧ o ≤ n - 1) with
      | false => exact bundleOk_2 f n o ao cap ts w hx hl h1 h2 h3
      | true =>
        cases h4 : iGo 0 ts with
        | false => exact bundleOk_3 f n o ao cap ts w hx hl h1 h2 h3 h4
        | true =>
          by_cases h5 : 0 < o
          · have h6 : decide (0 < o) = true := decide_eq_true h5
            rw [h6]
            exact bundleOk_4 f n o ao cap ts w hx hl h1 h2 h3 h4 h5
          · have h6 : decide (0 < o) = false := decide_eq_false h5
            rw [h6]
            by_cases h7 : ts.length = 0
            · rw [decide_eq_true h7]
              exact bundleOk_5 f n o ao cap ts w hx hl h1 h2 h3 h4 h5 (by simp [h7])
            · rw [decide_eq_false h7]
              exact bundleOk_6 f n o ao cap ts w hx hl h1 h2 h3 h4 h5 (by simp; intro h; exact h7 (by simp [h]))
theorem bundleOk_is {f n o : Int} {ao : Option Addr} {cap : Nat} {ts : List It} {b : Bool} (w : World) (hx : Hid (ItemsAt w ao ts)) (hl : ts.length ≤ 1048576) (h : bunB f n o ts = b) :
    Calls Tryd.prog 11 #[.agg #[.int .i64 f, .int .i64 n, .int .i64 o, .slice ao ts.length cap]] w fun e w' => e = .returned (.bool b) ∧ Below w.heap.size w w' := by rw [← h]; exact bundleOk_any f n o ao cap ts w hx hl
set_option maxRecDepth 100000 in
set_option maxHeartbeats 2000000 in
theorem spBundleOk_0 (f n o : Int) (ao : Option Addr) (cap : Nat) (ts : List It) (w : World) (hx : Hid (ItemsAt w ao ts)) (hl : ts.length ≤ 1048576) (h1 : decide (1 ≤ f ∧ f ≤ 5) = false) :
    Calls Tryd.prog 12 #[.agg #[.int .i64 f, .int .i64 n, .int .i64 o, .slice ao ts.length cap]] w fun e w' => e = .returned (.bool (false)) ∧ Below w.heap.size w w' := by
  have HB : Hid (Below w.heap.size w (w.alloc (.cells #[.int .i64 f, .int .i64 n, .int .i64 o, .slice ao ts.length cap] 26))) := (Below.refl _ _).alloc (Nat.le_refl _) _
  clear hx
  go_enter Tryd.func12, Tryd.ntmps12
  go_wp2_with fail
  refine (in_is _ h1).mono ?_
  rintro e w1 ⟨rfl, rfl⟩
  go_wp2_with fail
  go_ret
  exact ⟨rfl, HB.out⟩
set_option maxRecDepth 100000 in
set_option maxHeartbeats 2000000 in
theorem spBundleOk_1 (f n o : Int) (ao : Option Addr) (cap : Nat) (ts : List It) (w : World) (hx : Hid (ItemsAt w ao ts)) (hl : ts.length ≤ 1048576) (h1 : decide (1 ≤ f ∧ f ≤ 5) = true) (h2 : decide (1 ≤ n ∧ n ≤ 9) = false) :
    Calls Tryd.prog 12 #[.agg #[.int .i64 f, .int .i64 n, .int .i64 o, .slice ao ts.length cap]] w fun e w' => e = .returned (.bool (false)) ∧ Below w.heap.size w w' := by
  have HB : Hid (Below w.heap.size w (w.alloc (.cells #[.int .i64 f, .int .i64 n, .int .i64 o, .slice ao ts.length cap] 26))) := (Below.refl _ _).alloc (Nat.le_refl _) _
  clear hx
  go_enter Tryd.func12, Tryd.ntmps12
  go_wp2_with fail
  refine (in_is _ h1).mono ?_
  rintro e w1 ⟨rfl, rfl⟩
  go_wp2_with fail
  refine (in_is _ h2).mono ?_
  rintro e w2 ⟨rfl, rfl⟩
  go_wp2_with fail
  go_ret
  exact ⟨rfl, HB.out⟩
set_option maxRecDepth 100000 in
set_option maxHeartbeats 2000000 in
theorem spBundleOk_2 (f n o : Int) (ao : Option Addr) (cap : Nat) (ts : List It) (w : World) (hx : Hid (ItemsAt w ao ts)) (hl : ts.length ≤ 1048576) (h1 : decide (1 ≤ f ∧ f ≤ 5) = true) (h2 : decide (1 ≤ n ∧ n ≤ 9) = true) (h3 : decide (0 ≤ o ∧ o ≤ n - 1) = false) :
    Calls Tryd.prog 12 #[.agg #[.int .i64 f, .int .i64 n, .int .i64 o, .slice ao ts.length cap]] w fun e w' => e = .returned (.bool (false)) ∧ Below w.heap.size w w' := by
  have HB : Hid (Below w.heap.size w (w.alloc (.cells #[.int .i64 f, .int .i64 n, .int .i64 o, .slice ao ts.length cap] 26))) := (Below.refl _ _).alloc (Nat.le_refl _) _
  have hn : 1 ≤ n ∧ n ≤ 9 := of_decide_eq_true h2
  have hw : IntKind.i64.wrap (n - 1) = n - 1 := by rw [IntKind.wrap_i64]; omega
  clear hx
  go_enter Tryd.func12, Tryd.ntmps12
  go_wp2_with fail
  refine (in_is _ h1).mono ?_
  rintro e w1 ⟨rfl, rfl⟩
  go_wp2_with fail
  refine (in_is _ h2).mono ?_
  rintro e w2 ⟨rfl, rfl⟩
  go_wp2_with fail
  refine (in_is _ h3).mono ?_
  rintro e w3 ⟨rfl, rfl⟩
  go_wp2_with fail
  go_ret
  exact ⟨rfl, HB.out⟩
set_option maxRecDepth 100000 in
set_option maxHeartbeats 2000000 in
theorem spBundleOk_3 (f n o : Int) (ao : Option Addr) (cap : Nat) (ts : List It) (w : World) (hx : Hid (ItemsAt w ao ts)) (hl : ts.length ≤ 1048576) (h1 : decide (1 ≤ f ∧ f ≤ 5) = true) (h2 : decide (1 ≤ n ∧ n ≤ 9) = true) (h3 : decide (0 ≤ o ∧ o ≤ n - 1) = true) (h4 : Hid (iGo 0 ts = false)) :
    Calls Tryd.prog 12 #[.agg #[.int .i64 f, .int .i64 n, .int .i64 o, .slice ao ts.length cap]] w fun e w' => e = .returned (.bool (false)) ∧ Below w.heap.size w w' := by
  have HB : Hid (Below w.heap.size w (w.alloc (.cells #[.int .i64 f, .int .i64 n, .int .i64 o, .slice ao ts.length cap] 26))) := (Below.refl _ _).alloc (Nat.le_refl _) _
  have hn : 1 ≤ n ∧ n ≤ 9 := of_decide_eq_true h2
  have hw : IntKind.i64.wrap (n - 1) = n - 1 := by rw [IntKind.wrap_i64]; omega
  have HX : Hid (ItemsAt (w.alloc (.cells #[.int .i64 f, .int .i64 n, .int .i64 o, .slice ao ts.length cap] 26)) ao ts) := hx.out.stays HB.out
  have HBx : Hid (Bx (w.alloc (.cells #[.int .i64 f, .int .i64 n, .int .i64 o, .slice ao ts.length cap] 26)) w.heap.size 26 [.int .i64 f, .int .i64 n, .int .i64 o, .slice ao ts.length cap]) := Bx.new w 26 _
  clear hx
  go_enter Tryd.func12, Tryd.ntmps12
  go_wp2_with fail
  refine (in_is _ h1).mono ?_
  rintro e w1 ⟨rfl, rfl⟩
  go_wp2_with fail
  refine (in_is _ h2).mono ?_
  rintro e w2 ⟨rfl, rfl⟩
  go_wp2_with fail
  refine (in_is _ h3).mono ?_
  rintro e w3 ⟨rfl, rfl⟩
  go_wp2_with fail
  generalize w.alloc (.cells #[.int .i64 f, .int .i64 n, .int .i64 o, .slice ao ts.length cap] 26) = W at *
  refine (spItemsOk_is _ HX hl h4.out).mono ?_
  rintro e w4 ⟨rfl, hb4⟩
  have B4 : Hid (Below w.heap.size w w4) := HB.out.trans (hb4.mono HB.out.size)
  have X4 := HBx.out.later hb4
  have c2 := X4.cell 2
  have c3 := X4.cell 3
  simp only [List.getElem?_cons_succ, List.getElem?_cons_zero] at c2 c3
  clear hb4 X4 HX HBx HB h1 h2 h3 h4 hn hw
  go_wp2_with fail
  go_ret
  exact ⟨rfl, B4.out⟩
set_option maxRecDepth 100000 in
set_option maxHeartbeats 2000000 in
theorem spBundleOk_4 (f n o : Int) (ao : Option Addr) (cap : Nat) (ts : List It) (w : World) (hx : Hid (ItemsAt w ao ts)) (hl : ts.length ≤ 1048576) (h1 : decide (1 ≤ f ∧ f ≤ 5) = true) (h2 : decide (1 ≤ n ∧ n ≤ 9) = true) (h3 : decide (0 ≤ o ∧ o ≤ n - 1) = true) (h4 : Hid (iGo 0 ts = true)) (h5 : 0 < o) :
    Calls Tryd.prog 12 #[.agg #[.int .i64 f, .int .i64 n, .int .i64 o, .slice ao ts.length cap]] w fun e w' => e = .returned (.bool (true)) ∧ Below w.heap.size w w' := by
  have HB : Hid (Below w.heap.size w (w.alloc (.cells #[.int .i64 f, .int .i64 n, .int .i64 o, .slice ao ts.length cap] 26))) := (Below.refl _ _).alloc (Nat.le_refl _) _
  have hn : 1 ≤ n ∧ n ≤ 9 := of_decide_eq_true h2
  have hw : IntKind.i64.wrap (n - 1) = n - 1 := by rw [IntKind.wrap_i64]; omega
  have HX : Hid (ItemsAt (w.alloc (.cells #[.int .i64 f, .int .i64 n, .int .i64 o, .slice ao ts.length cap] 26)) ao ts) := hx.out.stays HB.out
  have HBx : Hid (Bx (w.alloc (.cells #[.int .i64 f, .int .i64 n, .int .i64 o, .slice ao ts.length cap] 26)) w.heap.size 26 [.int .i64 f, .int .i64 n, .int .i64 o, .slice ao ts.length cap]) := Bx.new w 26 _
  clear hx
  go_enter Tryd.func12, Tryd.ntmps12
  go_wp2_with fail
  refine (in_is _ h1).mono ?_
  rintro e w1 ⟨rfl, rfl⟩
  go_wp2_with fail
  refine (in_is _ h2).mono ?_
  rintro e w2 ⟨rfl, rfl⟩
  go_wp2_with fail
  refine (in_is _ h3).mono ?_
  rintro e w3 ⟨rfl, rfl⟩
  go_wp2_with fail
  generalize w.alloc (.cells #[.int .i64 f, .int .i64 n, .int .i64 o, .slice ao ts.length cap] 26) = W at *
  refine (spItemsOk_is _ HX hl h4.out).mono ?_
  rintro e w4 ⟨rfl, hb4⟩
  have B4 : Hid (Below w.heap.size w w4) := HB.out.trans (hb4.mono HB.out.size)
  have X4 := HBx.out.later hb4
  have c2 := X4.cell 2
  have c3 := X4.cell 3
  simp only [List.getElem?_cons_succ, List.getElem?_cons_zero] at c2 c3
  clear hb4 X4 HX HBx HB h1 h2 h3 h4 hn hw
  go_wp2_with fail
  go_ret
  exact ⟨rfl, B4.out⟩
set_option maxRecDepth 100000 in
set_option maxHeartbeats 2000000 in
theorem spBundleOk_5 (f n o : Int) (ao : Option Addr) (cap : Nat) (ts : List It) (w : World) (hx : Hid (ItemsAt w ao ts)) (hl : ts.length ≤ 1048576) (h1 : decide (1 ≤ f ∧ f ≤ 5) = true) (h2 : decide (1 ≤ n ∧ n ≤ 9) = true) (h3 : decide (0 ≤ o ∧ o ≤ n - 1) = true) (h4 : Hid (iGo 0 ts = true)) (h5 : ¬ 0 < o) (he : ((ts.length : Int) == 0) = true) :
    Calls Tryd.prog 12 #[.agg #[.int .i64 f, .int .i64 n, .int .i64 o, .slice ao ts.length cap]] w fun e w' => e = .returned (.bool (true)) ∧ Below w.heap.size w w' := by
  have HB : Hid (Below w.heap.size w (w.alloc (.cells #[.int .i64 f, .int .i64 n, .int .i64 o, .slice ao ts.length cap] 26))) := (Below.refl _ _).alloc (Nat.le_refl _) _
  have hn : 1 ≤ n ∧ n ≤ 9 := of_decide_eq_true h2
  have hw : IntKind.i64.wrap (n - 1) = n - 1 := by rw [IntKind.wrap_i64]; omega
  have HX : Hid (ItemsAt (w.alloc (.cells #[.int .i64 f, .int .i64 n, .int .i64 o, .slice ao ts.length cap] 26)) ao ts) := hx.out.stays HB.out
  have HBx : Hid (Bx (w.alloc (.cells #[.int .i64 f, .int .i64 n, .int .i64 o, .slice ao ts.length cap] 26)) w.heap.size 26 [.int .i64 f, .int .i64 n, .int .i64 o, .slice ao ts.length cap]) := Bx.new w 26 _
  clear hx
  go_enter Tryd.func12, Tryd.ntmps12
  go_wp2_with fail
  refine (in_is _ h1).mono ?_
  rintro e w1 ⟨rfl, rfl⟩
  go_wp2_with fail
  refine (in_is _ h2).mono ?_
  rintro e w2 ⟨rfl, rfl⟩
  go_wp2_with fail
  refine (in_is _ h3).mono ?_
  rintro e w3 ⟨rfl, rfl⟩
  go_wp2_with fail
  generalize w.alloc (.cells #[.int .i64 f, .int .i64 n, .int .i64 o, .slice ao ts.length cap] 26) = W at *
  refine (spItemsOk_is _ HX hl h4.out).mono ?_
  rintro e w4 ⟨rfl, hb4⟩
  have B4 : Hid (Below w.heap.size w w4) := HB.out.trans (hb4.mono HB.out.size)
  have X4 := HBx.out.later hb4
  have c2 := X4.cell 2
  have c3 := X4.cell 3
  simp only [List.getElem?_cons_succ, List.getElem?_cons_zero] at c2 c3
  clear hb4 X4 HX HBx HB h1 h2 h3 h4 hn hw
  go_wp2_with fail
  go_ret
  exact ⟨rfl, B4.out⟩
set_option maxRecDepth 100000 in
set_option maxHeartbeats 2000000 in
theorem spBundleOk_6 (f n o : Int) (ao : Option Addr) (cap : Nat) (ts : List It) (w : World) (hx : Hid (ItemsAt w ao ts)) (hl : ts.length ≤ 1048576) (h1 : decide (1 ≤ f ∧ f ≤ 5) = true) (h2 : decide (1 ≤ n ∧ n ≤ 9) = true) (h3 : decide (0 ≤ o ∧ o ≤ n - 1) = true) (h4 : Hid (iGo 0 ts = true)) (h5 : ¬ 0 < o) (he : ((ts.length : Int) == 0) = false) :
    Calls Tryd.prog 12 #[.agg #[.int .i64 f, .int .i64 n, .int .i64 o, .slice ao ts.length cap]] w fun e w' => e = .returned (.bool (false)) ∧ Below w.heap.size w w' := by
  have HB : Hid (Below w.heap.size w (w.alloc (.cells #[.int .i64 f, .int .i64 n, .int .i64 o, .slice ao ts.length cap] 26))) := (Below.refl _ _).alloc (Nat.le_refl _) _
  have hn : 1 ≤ n ∧ n ≤ 9 := of_decide_eq_true h2
  have hw : IntKind.i64.wrap (n - 1) = n - 1 := by rw [IntKind.wrap_i64]; omega
  have HX : Hid (ItemsAt (w.alloc (.cells #[.int .i64 f, .int .i64 n, .int .i64 o, .slice ao ts.length cap] 26)) ao ts) := hx.out.stays HB.out
  have HBx : Hid (Bx (w.alloc (.cells #[.int .i64 f, .int .i64 n, .int .i64 o, .slice ao ts.length cap] 26)) w.heap.size 26 [.int .i64 f, .int .i64 n, .int .i64 o, .slice ao ts.length cap]) := Bx.new w 26 _
  clear hx
  go_enter Tryd.func12, Tryd.ntmps12
  go_wp2_with fail
  refine (in_is _ h1).mono ?_
  rintro e w1 ⟨rfl, rfl⟩
  go_wp2_with fail
  refine (in_is _ h2).mono ?_
  rintro e w2 ⟨rfl, rfl⟩
  go_wp2_with fail
  refine (in_is _ h3).mono ?_
  rintro e w3 ⟨rfl, rfl⟩
  go_wp2_with fail
  generalize w.alloc (.cells #[.int .i64 f, .int .i64 n, .int .i64 o, .slice ao ts.length cap] 26) = W at *
  refine (spItemsOk_is _ HX hl h4.out).mono ?_
  rintro e w4 ⟨rfl, hb4⟩
  have B4 : Hid (Below w.heap.size w w4) := HB.out.trans (hb4.mono HB.out.size)
  have X4 := HBx.out.later hb4
  have c2 := X4.cell 2
  have c3 := X4.cell 3
  simp only [List.getElem?_cons_succ, List.getElem?_cons_zero] at c2 c3
  clear hb4 X4 HX HBx HB h1 h2 h3 h4 hn hw
  go_wp2_with fail
  go_ret
  exact ⟨by simp; omega, B4.out⟩
theorem spBundleOk_any (f n o : Int) (ao : Option Addr) (cap : Nat) (ts : List It) (w : World) (hx : Hid (ItemsAt w ao ts)) (hl : ts.length ≤ 1048576) :
    Calls Tryd.prog 12 #[.agg #[.int .i64 f, .int .i64 n, .int .i64 o, .slice ao ts.length cap]] w fun e w' => e = .returned (.bool (bunB f n o ts)) ∧ Below w.heap.size w w' := by
  unfold bunB
  cases h1 : decide (1 ≤ f ∧ f ≤ 5) with
  | false => exact spBundleOk_0 f n o ao cap ts w hx hl h1
  | true =>
    cases h2 : decide (1 ≤ n ∧ n ≤ 9) with
    | false => exact spBundleOk_1 f n o ao cap ts w hx hl h1 h2
    | true =>
      cases h3 : decide (0 ≤ o ∧ o ≤ n - 1) with
      | false => exact spBundleOk_2 f n o ao cap ts w hx hl h1 h2 h3
      | true =>
        cases h4 : iGo 0 ts with
        | false => exact spBundleOk_3 f n o ao cap ts w hx hl h1 h2 h3 h4
        | true =>
          by_cases h5 : 0 < o
          · have h6 : decide (0 < o) = true := decide_eq_true h5
            rw [h6]
            exact spBundleOk_4 f n o ao cap ts w hx hl h1 h2 h3 h4 h5
          · have h6 : decide (0 < o) = false := decide_eq_false h5
            rw [h6]
            by_cases h7 : ts.length = 0
            · rw [decide_eq_true h7]
              exact spBundleOk_5 f n o ao cap ts w hx hl h1 h2 h3 h4 h5 (by simp [h7])
            · rw [decide_eq_false h7]
              exact spBundleOk_6 f n o ao cap ts w hx hl h1 h2 h3 h4 h5 (by simp; intro h; exact h7 (by simp [h]))
theorem spBundleOk_is {f n o : Int} {ao : Option Addr} {cap : Nat} {ts : List It} {b : Bool} (w : World) (hx : Hid (ItemsAt w ao ts)) (hl : ts.length ≤ 1048576) (h : bunB f n o ts = b) :
    Calls Tryd.prog 12 #[.agg #[.int .i64 f, .int .i64 n, .int .i64 o, .slice ao ts.length cap]] w fun e w' => e = .returned (.bool b) ∧ Below w.heap.size w w' := by rw [← h]; exact spBundleOk_any f n o ao cap ts w hx hl
end Go.Proofs.YtlflcjdpdbdbkaaDoor

/- Bundles in plain words: their bytes, what a reader finds. -/
namespace Go.Proofs.YtlflcjdpdbdbkaaDoor.Pl
open Go Go.RowKit
set_option linter.unusedVariables false

theorem varL_pos (n : Nat) : 0 < (varL n).length := by
  by_cases h : 127 < n
  · rw [varL_big h]; simp
  · rw [varL_small h]; simp
theorem rv_lt {s : ByteArray} {A n i : Nat} (hA : A ≤ s.size) (h : rv s A = some (n, i)) : A < i := by
  have hu : Upto s A (s.data.toList.take A) := ⟨s.data.toList.drop A, (List.take_append_drop _ _).symm, by rw [List.length_take, ← rt_size]; omega⟩
  obtain ⟨⟨q, h1, h2⟩, _⟩ := hu.rv h
  have := varL_pos n
  rw [List.length_append, List.length_take, ← rt_size] at h2
  omega
theorem shP_lt {s t : ByteArray} {A i : Nat} (hA : A ≤ s.size) (h : shP s A = some (t, i)) : A < i ∧ i ≤ s.size := by
  rcases h0 : Pl.rv s A with _ | ⟨n, k⟩
  · rw [shP_none h0] at h; cases h
  · have := rv_lt hA h0
    by_cases hb : n ≤ 20000 ∧ k + n ≤ s.size
    · rw [shP_some h0 hb.1 hb.2] at h
      simp only [Option.some.injEq, Prod.mk.injEq] at h
      omega
    · rw [shP_bad h0 (by omega)] at h; cases h

/-- items that are right: all of them, and few. -/
theorem iGo_right : ∀ (ts : List It) (L : Int), 0 ≤ L → L ≤ 60 → iGo L ts = true → (∀ x ∈ ts, itB x.1 x.2.1 x.2.2.1 x.2.2.2 = true) ∧ (ts.length : Int) + L ≤ 60
  | [], L, _, h, _ => ⟨(fun x hx => by cases hx), by simpa using h⟩
  | x :: xs, L, h0, h1, h => by
    rw [iGo] at h
    by_cases hb : itB x.1 x.2.1 x.2.2.1 x.2.2.2 = false ∨ x.1 ≤ L
    · rw [if_pos hb] at h; cases h
    · rw [if_neg hb] at h
      have hi : itB x.1 x.2.1 x.2.2.1 x.2.2.2 = true := by
        cases hc : itB x.1 x.2.1 x.2.2.1 x.2.2.2 with
        | true => rfl
        | false => exact absurd (.inl hc) hb
      have hL : L < x.1 := Int.not_le.1 fun hle => hb (.inr hle)
      have ho := itB_true.1 hi
      unfold ItOk at ho
      obtain ⟨h2, h3⟩ := iGo_right xs x.1 (by omega) (by omega) h
      refine ⟨fun y hy => ?_, by simp only [List.length_cons, Int.natCast_add, Int.natCast_one]; omega⟩
      rcases List.mem_cons.1 hy with rfl | hy
      · exact hi
      · exact h2 y hy

/-- an item's bytes; these with their number ahead. -/
def itL (x : It) : List UInt8 := itemL x.1.toNat x.2.1.toNat x.2.2.1.toNat x.2.2.2
def itS (x : It) : ByteArray := itemS x.1.toNat x.2.1.toNat x.2.2.1.toNat x.2.2.2
theorem itS_list (x : It) : (itS x).data.toList = itL x := itemS_list _ _ _ _
def shS (t : ByteArray) : ByteArray := varS t.size ++ t
theorem shS_list (t : ByteArray) : (shS t).data.toList = varL t.size ++ t.data.toList := by rw [shS, app_list, varS_list]
def oneL (x : It) : List UInt8 := varL (itS x).size ++ itL x
def itsL (ts : List It) : List UInt8 := ts.flatMap oneL
def itsS (T : ByteArray) (ts : List It) : ByteArray := ts.foldl (fun s x => s ++ shS (itS x)) T
theorem itsS_list : ∀ (ts : List It) (T : ByteArray), (itsS T ts).data.toList = T.data.toList ++ itsL ts
  | [], T => by simp [itsS, itsL]
  | x :: ts, T => by
    have h := itsS_list ts (T ++ shS (itS x))
    unfold itsS at h ⊢
    rw [List.foldl_cons, h, app_list, shS_list, itS_list]
    simp [itsL, oneL]
theorem itsS_next (ts : List It) (T : ByteArray) (j : Nat) (h : j < ts.length) : itsS T (ts.take (j + 1)) = itsS T (ts.take j) ++ shS (itS ts[j]) := by
  unfold itsS
  rw [List.take_succ_eq_append_getElem h, List.foldl_append]; rfl
theorem itB_nats {x : It} (h : itB x.1 x.2.1 x.2.2.1 x.2.2.2 = true) : x.1 = (x.1.toNat : Int) ∧ x.2.1 = (x.2.1.toNat : Int) ∧ x.2.2.1 = (x.2.2.1.toNat : Int) ∧ ItOk (x.1.toNat : Int) (x.2.1.toNat : Int) (x.2.2.1.toNat : Int) x.2.2.2 := by
  have ho := itB_true.1 h
  unfold ItOk at ho ⊢
  omega
theorem itS_size {x : It} (h : itB x.1 x.2.1 x.2.2.1 x.2.2.2 = true) : (itS x).size ≤ 72 := by
  have ho := itB_true.1 h
  unfold ItOk at ho
  have z1 := varL_len (n := x.1.toNat) (by omega)
  have z2 := varL_len (n := x.2.2.2.size) (by omega)
  rw [rt_size, itS_list]
  unfold itL itemL
  simp only [List.length_append, List.length_cons]
  rw [← rt_size]
  omega
theorem shS_size {t : ByteArray} (h : t.size ≤ 1000) : (shS t).size ≤ t.size + 5 := by
  have z1 := varL_len (n := t.size) (by omega)
  rw [shS, ByteArray.size_append, rt_size (varS t.size), varS_list]
  omega
theorem itsS_size : ∀ (ts : List It) (T : ByteArray), (∀ x ∈ ts, itB x.1 x.2.1 x.2.2.1 x.2.2.2 = true) → (itsS T ts).size ≤ T.size + 77 * ts.length
  | [], T, _ => by simp [itsS]
  | x :: ts, T, h => by
    have h1 := itS_size (h x (by simp))
    have h2 := shS_size (t := itS x) (by omega)
    have h3 := itsS_size ts (T ++ shS (itS x)) (fun y hy => h y (by simp [hy]))
    unfold itsS at h3 ⊢
    rw [List.foldl_cons]
    rw [ByteArray.size_append] at h3
    simp only [List.length_cons]
    omega

/-- the bytes of a bundle, not sealed. -/
def bunL (f n o : Nat) (ts : List It) : List UInt8 := UInt8.ofNat f :: UInt8.ofNat n :: UInt8.ofNat o :: (varL ts.length ++ itsL ts)
def bunS (f n o : Nat) (ts : List It) : ByteArray := itsS (byteS f ++ byteS n ++ byteS o ++ varS ts.length) ts
theorem bunS_list (f n o : Nat) (ts : List It) : (bunS f n o ts).data.toList = bunL f n o ts := by
  unfold bunS bunL
  rw [itsS_list]
  simp only [app_list, byteS_list, varS_list, List.cons_append, List.nil_append]
theorem bunS_impl (f n o : Nat) (ts : List It) : byteS f ++ byteS n ++ byteS o ++ itsS (varS ts.length) ts = bunS f n o ts := by
  apply rt_ext
  rw [bunS_list]
  unfold bunL
  simp only [app_list, itsS_list, byteS_list, varS_list, List.cons_append, List.nil_append]

/-- right bundles. -/
def BnOk (f n o : Nat) (ts : List It) : Prop := bunB f n o ts = true
theorem BnOk.nats {f n o : Nat} {ts : List It} (h : BnOk f n o ts) : f ≤ 5 ∧ n ≤ 9 ∧ o ≤ 9 ∧ ts.length ≤ 60 ∧ ∀ x ∈ ts, itB x.1 x.2.1 x.2.2.1 x.2.2.2 = true := by
  obtain ⟨h1, h2, h3, h4, h5⟩ := bunB_parts h
  obtain ⟨h6, h7⟩ := iGo_right ts 0 (by omega) (by omega) h4
  exact ⟨by omega, by omega, by omega, by omega, h6⟩
theorem bunB_nats {f n o : Int} {ts : List It} (h : bunB f n o ts = true) : ∃ (F N O : Nat), f = F ∧ n = N ∧ o = O ∧ BnOk F N O ts := by
  obtain ⟨h1, h2, h3, h4, h5⟩ := bunB_parts h
  have e1 : f = (f.toNat : Int) := by omega
  have e2 : n = (n.toNat : Int) := by omega
  have e3 : o = (o.toNat : Int) := by omega
  refine ⟨f.toNat, n.toNat, o.toNat, e1, e2, e3, ?_⟩
  unfold BnOk
  rw [← e1, ← e2, ← e3]
  exact h
theorem bunS_size {f n o : Nat} {ts : List It} (h : BnOk f n o ts) : (bunS f n o ts).size ≤ 5000 := by
  obtain ⟨h1, h2, h3, h4, h5⟩ := h.nats
  have z := itsS_size ts (byteS f ++ byteS n ++ byteS o ++ varS ts.length) h5
  have z1 := varL_len (n := ts.length) (by omega)
  have z2 : (byteS f ++ byteS n ++ byteS o ++ varS ts.length).size = 3 + (varL ts.length).length := by
    rw [rt_size]
    simp only [app_list, byteS_list, varS_list, List.length_append, List.length_cons, List.length_nil]
  unfold bunS
  omega

/-- what ReadItem finds. -/
def rdP (t : ByteArray) : Option It := (itemP t).bind fun x => if x.2.2.2.2 = t.size ∧ itB x.1 x.2.1 x.2.2.1 x.2.2.2.1 = true then some ((x.1 : Int), (x.2.1 : Int), (x.2.2.1 : Int), x.2.2.2.1) else none
theorem rdP_good {t tx : ByteArray} {q f l : Nat} (ho : ItOk q f l tx) (hs : t.data.toList = itemL q f l tx) : rdP t = some ((q : Int), (f : Int), (l : Int), tx) := by
  have n := ho.nats
  unfold rdP
  rw [itemP_of hs (by omega) (by omega) (by omega) (by omega), Option.bind_some, if_pos ⟨rfl, itB_yes ho⟩]
theorem rdP_inv {t : ByteArray} {x : It} (h : rdP t = some x) : t.data.toList = itL x ∧ itB x.1 x.2.1 x.2.2.1 x.2.2.2 = true := by
  unfold rdP at h
  rcases h0 : itemP t with _ | ⟨q, f, l, tx, A⟩
  · rw [h0] at h; cases h
  · rw [h0, Option.bind_some] at h
    by_cases hb : A = t.size ∧ itB q f l tx = true
    · rw [if_pos hb] at h
      simp only [Option.some.injEq] at h
      subst h
      obtain ⟨rfl, hb⟩ := hb
      exact ⟨(itemP_inv h0).1.whole, hb⟩
    · rw [if_neg hb] at h; cases h
theorem rdP_of {x : It} (h : itB x.1 x.2.1 x.2.2.1 x.2.2.2 = true) : rdP (itS x) = some x := by
  obtain ⟨e1, e2, e3, ho⟩ := itB_nats h
  rw [rdP_good ho (itS_list x), ← e1, ← e2, ← e3]
theorem AnsI.rd_yes {t tx : ByteArray} {q f l : Nat} (h : AnsI t q f l tx true) : rdP t = some ((q : Int), (f : Int), (l : Int), tx) := by
  rcases h with ⟨_, h1, h2⟩ | ⟨h, _⟩
  · exact rdP_good h1 h2
  · cases h
theorem AnsI.rd_no {t tx : ByteArray} {q f l : Nat} (h : AnsI t q f l tx false) : rdP t = none ∧ q = 0 ∧ f = 0 ∧ l = 0 ∧ tx = ByteArray.empty := by
  rcases h with ⟨h, _⟩ | ⟨_, h1, h2, h3, h4, h5⟩
  · cases h
  · refine ⟨?_, h1, h2, h3, h4⟩
    rcases h0 : rdP t with _ | x
    · rfl
    · obtain ⟨h6, h7⟩ := rdP_inv h0
      exact absurd h6 (h5 _ _ _ _ (itB_nats h7).2.2.2)

/-- k items from the place A on. -/
def itsP (s : ByteArray) : Nat → Nat → Option (List It × Nat)
  | A, 0 => some ([], A)
  | A, k + 1 => (shP s A).bind fun x => (rdP x.1).bind fun it => (itsP s x.2 k).map fun y => (it :: y.1, y.2)
theorem itsP_some {s t : ByteArray} {A k i : Nat} {x : It} (h : shP s A = some (t, i)) (hr : rdP t = some x) : itsP s A (k + 1) = (itsP s i k).map fun y => (x :: y.1, y.2) := by rw [itsP, h, Option.bind_some, hr]; rfl
theorem itsP_no1 {s : ByteArray} {A k : Nat} (h : shP s A = none) : itsP s A (k + 1) = none := by rw [itsP, h]; rfl
theorem itsP_no2 {s t : ByteArray} {A k i : Nat} (h : shP s A = some (t, i)) (hr : rdP t = none) : itsP s A (k + 1) = none := by rw [itsP, h, Option.bind_some, hr]; rfl

theorem Upto.its {s : ByteArray} : ∀ (k A : Nat) (p : List UInt8) (ts : List It) (i : Nat), Upto s A p → itsP s A k = some (ts, i) → Upto s i (p ++ itsL ts) ∧ ts.length = k
  | 0, A, p, ts, i, hu, h => by
    simp only [itsP, Option.some.injEq, Prod.mk.injEq] at h
    obtain ⟨rfl, rfl⟩ := h
    exact ⟨by simpa [itsL] using hu, rfl⟩
  | k + 1, A, p, ts, i, hu, h => by
    rcases h0 : shP s A with _ | ⟨t, j⟩
    · rw [itsP_no1 h0] at h; cases h
    rcases h1 : rdP t with _ | x
    · rw [itsP_no2 h0 h1] at h; cases h
    rw [itsP_some h0 h1] at h
    rcases h2 : itsP s j k with _ | ⟨l, e⟩
    · rw [h2] at h; cases h
    rw [h2] at h
    simp only [Option.map_some, Option.some.injEq, Prod.mk.injEq] at h
    obtain ⟨rfl, rfl⟩ := h
    obtain ⟨u1, _⟩ := hu.sh h0
    obtain ⟨u2, b2⟩ := Upto.its k _ _ _ _ u1 h2
    obtain ⟨e1, e2⟩ := rdP_inv h1
    refine ⟨?_, by simp [b2]⟩
    have e3 : t = itS x := rt_ext (by rw [e1, itS_list])
    have e : p ++ itsL (x :: l) = p ++ (varL t.size ++ t.data.toList) ++ itsL l := by rw [e3, itS_list]; simp [itsL, oneL]
    rw [e]; exact u2

theorem shP_at {s : ByteArray} {p q : List UInt8} {x : It} (h : itB x.1 x.2.1 x.2.2.1 x.2.2.2 = true) (hs : s.data.toList = p ++ (oneL x ++ q)) : shP s p.length = some (itS x, p.length + (oneL x).length) := by
  have hz := itS_size h
  obtain ⟨h1, h2, h3⟩ := shP_of (s := s) (t := itS x) (p := p) (q := q) (by omega) (by rw [hs, itS_list]; simp [oneL])
  rw [shP_some h1 (by omega) h3, h2]
  congr 2
  unfold oneL
  rw [List.length_append, ← itS_list, ← rt_size]
  omega
theorem itsP_of {s : ByteArray} : ∀ (ts : List It) (p q : List UInt8), (∀ x ∈ ts, itB x.1 x.2.1 x.2.2.1 x.2.2.2 = true) → s.data.toList = p ++ (itsL ts ++ q) → itsP s p.length ts.length = some (ts, p.length + (itsL ts).length)
  | [], p, q, _, _ => by simp [itsP, itsL]
  | x :: l, p, q, hn, hs => by
    have h0 := shP_at (s := s) (p := p) (q := itsL l ++ q) (hn x (by simp)) (by rw [hs]; simp [itsL])
    have h1 := itsP_of l (p ++ oneL x) q (fun m hm => hn m (by simp [hm])) (by rw [hs]; simp [itsL])
    rw [List.length_append] at h1
    rw [List.length_cons, itsP_some h0 (rdP_of (hn x (by simp))), h1]
    simp [itsL, Nat.add_assoc]

/-- what the program's reader finds. -/
def bunP (s : ByteArray) : Option ((Nat × Nat × Nat) × List It × Nat) :=
  (oneP s 0).bind fun f => (oneP s f.2).bind fun n => (oneP s n.2).bind fun o => (rv s o.2).bind fun k => (itsP s k.2 k.1).bind fun l => some ((f.1, n.1, o.1), l.1, l.2)
theorem bunP_some {s : ByteArray} {f n o k i0 i1 i2 i3 A : Nat} {ts : List It} (h0 : oneP s 0 = some (f, i0)) (h1 : oneP s i0 = some (n, i1)) (h2 : oneP s i1 = some (o, i2)) (h3 : rv s i2 = some (k, i3)) (h4 : itsP s i3 k = some (ts, A)) :
    bunP s = some ((f, n, o), ts, A) := by simp [bunP, h0, h1, h2, h3, h4]
theorem bunP_inv {s : ByteArray} {f n o A : Nat} {ts : List It} (h : bunP s = some ((f, n, o), ts, A)) : Upto s A (bunL f n o ts) := by
  unfold bunP at h
  rcases h0 : oneP s 0 with _ | ⟨f', i0⟩
  · simp [h0] at h
  rcases h1 : oneP s i0 with _ | ⟨n', i1⟩
  · simp [h0, h1] at h
  rcases h2 : oneP s i1 with _ | ⟨o', i2⟩
  · simp [h0, h1, h2] at h
  rcases h3 : rv s i2 with _ | ⟨k', i3⟩
  · simp [h0, h1, h2, h3] at h
  rcases h4 : itsP s i3 k' with _ | ⟨ts', A'⟩
  · simp [h0, h1, h2, h3, h4] at h
  simp [h0, h1, h2, h3, h4] at h
  obtain ⟨⟨rfl, rfl, rfl⟩, rfl, rfl⟩ := h
  obtain ⟨u0, _⟩ := (upto_start s).one h0
  obtain ⟨u1, _⟩ := u0.one h1
  obtain ⟨u2, _⟩ := u1.one h2
  obtain ⟨u3, _⟩ := u2.rv h3
  obtain ⟨u4, e4⟩ := Upto.its _ _ _ _ _ u3 h4
  have e : ([] ++ [UInt8.ofNat f'] ++ [UInt8.ofNat n'] ++ [UInt8.ofNat o'] ++ varL k' ++ itsL ts') = bunL f' n' o' ts' := by simp [bunL, e4]
  rw [← e]
  exact u4
/-- the places of a bundle's bytes. -/
theorem bun_at {s : ByteArray} {f n o : Nat} {ts : List It} (hs : s.data.toList = bunL f n o ts) (ho : BnOk f n o ts) :
    ∃ i0 i1 i2 i3, oneP s 0 = some (f, i0) ∧ oneP s i0 = some (n, i1) ∧ oneP s i1 = some (o, i2) ∧ rv s i2 = some (ts.length, i3) ∧ itsP s i3 ts.length = some (ts, s.size) := by
  obtain ⟨n1, n2, n3, n4, n5⟩ := ho.nats
  unfold bunL at hs
  have h0 := oneP_of (s := s) (p := []) (n := f) (by omega) (by rw [hs]; rfl)
  have h1 := oneP_of (s := s) (p := [UInt8.ofNat f]) (n := n) (by omega) (by rw [hs]; rfl)
  have h2 := oneP_of (s := s) (p := [UInt8.ofNat f, UInt8.ofNat n]) (n := o) (by omega) (by rw [hs]; rfl)
  have h3 := rv_var (s := s) (p := [UInt8.ofNat f, UInt8.ofNat n, UInt8.ofNat o]) (n := ts.length) (q := itsL ts) (by omega) (by rw [hs]; simp)
  have h4 := itsP_of (s := s) ts ([UInt8.ofNat f, UInt8.ofNat n, UInt8.ofNat o] ++ varL ts.length) [] n5 (by rw [hs]; simp)
  have hz : s.size = ([UInt8.ofNat f, UInt8.ofNat n, UInt8.ofNat o] ++ varL ts.length).length + (itsL ts).length := by
    rw [rt_size, hs]; simp; omega
  rw [← hz] at h4
  simp only [List.length_append, List.length_cons, List.length_nil, Nat.zero_add] at h0 h1 h2 h3 h4
  exact ⟨_, _, _, _, h0, h1, h2, h3, h4⟩
theorem bunP_of {s : ByteArray} {f n o : Nat} {ts : List It} (hs : s.data.toList = bunL f n o ts) (ho : BnOk f n o ts) : bunP s = some ((f, n, o), ts, s.size) := by
  obtain ⟨i0, i1, i2, i3, h0, h1, h2, h3, h4⟩ := bun_at hs ho
  exact bunP_some h0 h1 h2 h3 h4

/-- what ReadBundle answers at a text, where s is what it unseals. -/
def AnsV (s : ByteArray) (f n o : Nat) (ts : List It) (ok : Bool) : Prop :=
  (ok = true ∧ BnOk f n o ts ∧ s.data.toList = bunL f n o ts) ∨ (ok = false ∧ f = 0 ∧ n = 0 ∧ o = 0 ∧ ts = [] ∧ ∀ (f n o : Nat) (ts : List It), BnOk f n o ts → s.data.toList ≠ bunL f n o ts)
theorem ansV_none {s : ByteArray} (h : bunP s = none) : AnsV s 0 0 0 [] false := by
  refine .inr ⟨rfl, rfl, rfl, rfl, rfl, fun f n o ts ho e => ?_⟩
  rw [bunP_of e ho] at h
  cases h
theorem ansV_bad {s : ByteArray} {f n o A : Nat} {ts : List It} (h : bunP s = some ((f, n, o), ts, A)) (hb : A ≠ s.size ∨ ¬ BnOk f n o ts) : AnsV s 0 0 0 [] false := by
  refine .inr ⟨rfl, rfl, rfl, rfl, rfl, fun f n o ts ho e => ?_⟩
  rw [bunP_of e ho] at h
  simp only [Option.some.injEq, Prod.mk.injEq] at h
  obtain ⟨⟨rfl, rfl, rfl⟩, rfl, rfl⟩ := h
  rcases hb with hb | hb
  · exact hb rfl
  · exact hb ho
theorem ansV_good {s : ByteArray} {f n o : Nat} {ts : List It} (h : bunP s = some ((f, n, o), ts, s.size)) (ho : BnOk f n o ts) : AnsV s f n o ts true := .inl ⟨rfl, ho, (bunP_inv h).whole⟩
theorem bunL_inj {f n o f' n' o' : Nat} {ts ts' : List It} (h : BnOk f n o ts) (h' : BnOk f' n' o' ts') (e : bunL f n o ts = bunL f' n' o' ts') : f = f' ∧ n = n' ∧ o = o' ∧ ts = ts' := by
  have e1 := bunP_of (bunS_list f n o ts) h
  have e2 := bunP_of (s := bunS f n o ts) (by rw [bunS_list, e]) h'
  rw [e1] at e2
  simp only [Option.some.injEq, Prod.mk.injEq] at e2
  obtain ⟨⟨rfl, rfl, rfl⟩, rfl, _⟩ := e2
  exact ⟨rfl, rfl, rfl, rfl⟩

/-- what ReadBundle answers. -/
def AnsB (t : ByteArray) (f n o : Nat) (ts : List It) (ok : Bool) : Prop :=
  (ok = true ∧ BnOk f n o ts ∧ t = sealS (bunS f n o ts)) ∨ (ok = false ∧ f = 0 ∧ n = 0 ∧ o = 0 ∧ ts = [] ∧ ∀ (f n o : Nat) (ts : List It), BnOk f n o ts → t ≠ sealS (bunS f n o ts))
theorem sealS_inj {s s' : ByteArray} (h : sealS s = sealS s') : s = s' := by
  have h1 := (good_seal s).2
  have h2 := (good_seal s').2
  rw [h] at h1
  exact h1.symm.trans h2
theorem AnsB.same {t : ByteArray} {f n o f' n' o' : Nat} {ts ts' : List It} {k k' : Bool} (h : AnsB t f n o ts k) (h' : AnsB t f' n' o' ts' k') : f = f' ∧ n = n' ∧ o = o' ∧ ts = ts' ∧ k = k' := by
  rcases h with ⟨rfl, h1, h2⟩ | ⟨rfl, rfl, rfl, rfl, rfl, h3⟩
  · rcases h' with ⟨rfl, h1', h2'⟩ | ⟨rfl, rfl, rfl, rfl, rfl, h3'⟩
    · have e := sealS_inj (h2.symm.trans h2')
      obtain ⟨x1, x2, x3, x4⟩ := bunL_inj h1 h1' (by rw [← bunS_list, ← bunS_list, e])
      exact ⟨x1, x2, x3, x4, rfl⟩
    · exact absurd h2 (h3' _ _ _ _ h1)
  · rcases h' with ⟨rfl, h1', h2'⟩ | ⟨rfl, rfl, rfl, rfl, rfl, h3'⟩
    · exact absurd h2' (h3 _ _ _ _ h1')
    · exact ⟨rfl, rfl, rfl, rfl, rfl⟩
/-- of a text that is sealed. -/
theorem AnsV.seal {s : ByteArray} {f n o : Nat} {ts : List It} {k : Bool} (h : AnsV s f n o ts k) : AnsB (sealS s) f n o ts k := by
  rcases h with ⟨rfl, h1, h2⟩ | ⟨rfl, rfl, rfl, rfl, rfl, h3⟩
  · exact .inl ⟨rfl, h1, by rw [rt_ext (h2.trans (bunS_list f n o ts).symm)]⟩
  · refine .inr ⟨rfl, rfl, rfl, rfl, rfl, fun f n o ts ho e => ?_⟩
    have := sealS_inj e
    exact h3 _ _ _ _ ho (by rw [this, bunS_list])
/-- of one that is not. -/
theorem ansB_open {t : ByteArray} (h : ∀ s : ByteArray, s.size ≤ 20000 → t ≠ sealS s) : AnsB t 0 0 0 [] false :=
  .inr ⟨rfl, rfl, rfl, rfl, rfl, fun f n o ts ho => h _ (by have := bunS_size ho; omega)⟩
theorem AnsB.few {t : ByteArray} {f n o : Nat} {ts : List It} {k : Bool} (h : AnsB t f n o ts k) : ts.length ≤ 60 := by
  rcases h with ⟨_, h, _⟩ | ⟨_, _, _, _, rfl, _⟩
  · exact h.nats.2.2.2.1
  · exact Nat.zero_le _

/-- sealed, or not. -/
theorem seal_cases (t : ByteArray) : (∃ s : ByteArray, s.size ≤ 20000 ∧ t = sealS s) ∨ ((t.size < 4 ∨ 20004 < t.size ∨ (∃ n, t.size = n + 4 ∧ n ≤ 20000 ∧ ¬ IsSeal t)) ∧ ∀ s : ByteArray, s.size ≤ 20000 → t ≠ sealS s) := by
  by_cases h : ∃ s : ByteArray, s.size ≤ 20000 ∧ t = sealS s
  · exact .inl h
  · refine .inr ⟨?_, fun s hs e => h ⟨s, hs, e⟩⟩
    by_cases h1 : t.size < 4
    · exact .inl h1
    by_cases h2 : 20004 < t.size
    · exact .inr (.inl h2)
    refine .inr (.inr ⟨t.size - 4, by omega, by omega, fun hg => h ⟨t.extract 0 (t.size - 4), ?_, ?_⟩⟩)
    · rw [ByteArray.size_extract]; omega
    · unfold IsSeal at hg
      apply rt_ext
      rw [sealS, ← hg, app_list, ext_list', ext_list', Nat.sub_zero, List.drop_zero, Nat.sub_sub_self (by omega)]
      conv => lhs; rw [← List.take_append_drop (t.size - 4) t.data.toList]
      congr 1
      rw [List.take_of_length_le (by rw [List.length_drop, ← rt_size]; omega)]
end Go.Proofs.YtlflcjdpdbdbkaaDoor.Pl

