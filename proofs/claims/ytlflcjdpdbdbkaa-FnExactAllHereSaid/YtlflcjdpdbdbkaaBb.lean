/- Bundles: when one is right; both BundleOk. Written by gen_bb.py. -/
import Derived.Test.YtlflcjdpdbdbkaaJ2
import Derived.Test.YtlflcjdpdbdbkaaBx
namespace Go.Proofs.Ytlflcjdpdbdbkaa
open Go.RowKit Pl
set_option linter.unusedVariables false

/-- whether a bundle is right. -/
def bunB (f n o : Int) (ts : List It) : Bool := decide (1 ≤ f ∧ f ≤ 5) && (decide (1 ≤ n ∧ n ≤ 9) && (decide (0 ≤ o ∧ o ≤ n - 1) && (iGo 0 ts && (decide (0 < o) || decide (ts.length = 0)))))
theorem bunB_parts {f n o : Int} {ts : List It} (h : bunB f n o ts = true) : (1 ≤ f ∧ f ≤ 5) ∧ (1 ≤ n ∧ n ≤ 9) ∧ (0 ≤ o ∧ o ≤ n - 1) ∧ iGo 0 ts = true ∧ (0 < o ∨ ts.length = 0) := by
  unfold bunB at h
  simp only [Bool.and_eq_true, Bool.or_eq_true, decide_eq_true_eq] at h
  exact h

theorem itemsOk_is {ao : Option Addr} {cap : Nat} {ts : List It} {b : Bool} (w : World) (hx : Hid (ItemsAt w ao ts)) (hl : ts.length ≤ 1048576) (h : iGo 0 ts = b) :
    Calls Try.prog 31 #[.slice ao ts.length cap] w fun e w' => e = .returned (.bool b) ∧ Below w.heap.size w w' := by rw [← h]; exact itemsOk_any ao cap ts w hx hl
theorem spItemsOk_is {ao : Option Addr} {cap : Nat} {ts : List It} {b : Bool} (w : World) (hx : Hid (ItemsAt w ao ts)) (hl : ts.length ≤ 1048576) (h : iGo 0 ts = b) :
    Calls Try.prog 28 #[.slice ao ts.length cap] w fun e w' => e = .returned (.bool b) ∧ Below w.heap.size w w' := by rw [← h]; exact spItemsOk_any ao cap ts w hx hl
set_option maxRecDepth 100000 in
set_option maxHeartbeats 2000000 in
theorem bundleOk_0 (f n o : Int) (ao : Option Addr) (cap : Nat) (ts : List It) (w : World) (hx : Hid (ItemsAt w ao ts)) (hl : ts.length ≤ 1048576) (h1 : decide (1 ≤ f ∧ f ≤ 5) = false) :
    Calls Try.prog 9 #[.agg #[.int .i64 f, .int .i64 n, .int .i64 o, .slice ao ts.length cap]] w fun e w' => e = .returned (.bool (false)) ∧ Below w.heap.size w w' := by
  have HB : Hid (Below w.heap.size w (w.alloc (.cells #[.int .i64 f, .int .i64 n, .int .i64 o, .slice ao ts.length cap] 29))) := (Below.refl _ _).alloc (Nat.le_refl _) _
  clear hx
  go_enter Try.func9, Try.ntmps9
  go_wp2_with fail
  refine (within_is _ h1).mono ?_
  rintro e w1 ⟨rfl, rfl⟩
  go_wp2_with fail
  go_ret
  exact ⟨rfl, HB.out⟩
set_option maxRecDepth 100000 in
set_option maxHeartbeats 2000000 in
theorem bundleOk_1 (f n o : Int) (ao : Option Addr) (cap : Nat) (ts : List It) (w : World) (hx : Hid (ItemsAt w ao ts)) (hl : ts.length ≤ 1048576) (h1 : decide (1 ≤ f ∧ f ≤ 5) = true) (h2 : decide (1 ≤ n ∧ n ≤ 9) = false) :
    Calls Try.prog 9 #[.agg #[.int .i64 f, .int .i64 n, .int .i64 o, .slice ao ts.length cap]] w fun e w' => e = .returned (.bool (false)) ∧ Below w.heap.size w w' := by
  have HB : Hid (Below w.heap.size w (w.alloc (.cells #[.int .i64 f, .int .i64 n, .int .i64 o, .slice ao ts.length cap] 29))) := (Below.refl _ _).alloc (Nat.le_refl _) _
  clear hx
  go_enter Try.func9, Try.ntmps9
  go_wp2_with fail
  refine (within_is _ h1).mono ?_
  rintro e w1 ⟨rfl, rfl⟩
  go_wp2_with fail
  refine (within_is _ h2).mono ?_
  rintro e w2 ⟨rfl, rfl⟩
  go_wp2_with fail
  go_ret
  exact ⟨rfl, HB.out⟩
set_option maxRecDepth 100000 in
set_option maxHeartbeats 2000000 in
theorem bundleOk_2 (f n o : Int) (ao : Option Addr) (cap : Nat) (ts : List It) (w : World) (hx : Hid (ItemsAt w ao ts)) (hl : ts.length ≤ 1048576) (h1 : decide (1 ≤ f ∧ f ≤ 5) = true) (h2 : decide (1 ≤ n ∧ n ≤ 9) = true) (h3 : decide (0 ≤ o ∧ o ≤ n - 1) = false) :
    Calls Try.prog 9 #[.agg #[.int .i64 f, .int .i64 n, .int .i64 o, .slice ao ts.length cap]] w fun e w' => e = .returned (.bool (false)) ∧ Below w.heap.size w w' := by
  have HB : Hid (Below w.heap.size w (w.alloc (.cells #[.int .i64 f, .int .i64 n, .int .i64 o, .slice ao ts.length cap] 29))) := (Below.refl _ _).alloc (Nat.le_refl _) _
  have hn : 1 ≤ n ∧ n ≤ 9 := of_decide_eq_true h2
  have hw : IntKind.i64.wrap (n - 1) = n - 1 := by rw [IntKind.wrap_i64]; omega
  clear hx
  go_enter Try.func9, Try.ntmps9
  go_wp2_with fail
  refine (within_is _ h1).mono ?_
  rintro e w1 ⟨rfl, rfl⟩
  go_wp2_with fail
  refine (within_is _ h2).mono ?_
  rintro e w2 ⟨rfl, rfl⟩
  go_wp2_with fail
  refine (within_is _ h3).mono ?_
  rintro e w3 ⟨rfl, rfl⟩
  go_wp2_with fail
  go_ret
  exact ⟨rfl, HB.out⟩
set_option maxRecDepth 100000 in
set_option maxHeartbeats 2000000 in
theorem bundleOk_3 (f n o : Int) (ao : Option Addr) (cap : Nat) (ts : List It) (w : World) (hx : Hid (ItemsAt w ao ts)) (hl : ts.length ≤ 1048576) (h1 : decide (1 ≤ f ∧ f ≤ 5) = true) (h2 : decide (1 ≤ n ∧ n ≤ 9) = true) (h3 : decide (0 ≤ o ∧ o ≤ n - 1) = true) (h4 : Hid (iGo 0 ts = false)) :
    Calls Try.prog 9 #[.agg #[.int .i64 f, .int .i64 n, .int .i64 o, .slice ao ts.length cap]] w fun e w' => e = .returned (.bool (false)) ∧ Below w.heap.size w w' := by
  have HB : Hid (Below w.heap.size w (w.alloc (.cells #[.int .i64 f, .int .i64 n, .int .i64 o, .slice ao ts.length cap] 29))) := (Below.refl _ _).alloc (Nat.le_refl _) _
  have hn : 1 ≤ n ∧ n ≤ 9 := of_decide_eq_true h2
  have hw : IntKind.i64.wrap (n - 1) = n - 1 := by rw [IntKind.wrap_i64]; omega
  have HX : Hid (ItemsAt (w.alloc (.cells #[.int .i64 f, .int .i64 n, .int .i64 o, .slice ao ts.length cap] 29)) ao ts) := hx.out.stays HB.out
  have HBx : Hid (Bx (w.alloc (.cells #[.int .i64 f, .int .i64 n, .int .i64 o, .slice ao ts.length cap] 29)) w.heap.size 29 [.int .i64 f, .int .i64 n, .int .i64 o, .slice ao ts.length cap]) := Bx.new w 29 _
  clear hx
  go_enter Try.func9, Try.ntmps9
  go_wp2_with fail
  refine (within_is _ h1).mono ?_
  rintro e w1 ⟨rfl, rfl⟩
  go_wp2_with fail
  refine (within_is _ h2).mono ?_
  rintro e w2 ⟨rfl, rfl⟩
  go_wp2_with fail
  refine (within_is _ h3).mono ?_
  rintro e w3 ⟨rfl, rfl⟩
  go_wp2_with fail
  generalize w.alloc (.cells #[.int .i64 f, .int .i64 n, .int .i64 o, .slice ao ts.length cap] 29) = W at *
  refine (itemsOk_is _ HX hl h4.out).mono ?_
  rintro e w4 ⟨rfl, hb4⟩
  have B4 : Hid (Below w.heap.size w w4) := HB.out.trans (hb4.mono HB.out.size)
  have X4 := HBx.out.later hb4
  have c2 := X4.cell 2
  have c3 := X4.cell 3
  simp only [List.getElem?_cons_succ, List.getElem?_cons_zero] at c2 c3
  clear hb4 X4 HX HBx HB h1 h2 h3 h4 hn hw
  go_wp2_with fail
  go_ret
  exact ⟨rfl, B4.out⟩
set_option maxRecDepth 100000 in
set_option maxHeartbeats 2000000 in
theorem bundleOk_4 (f n o : Int) (ao : Option Addr) (cap : Nat) (ts : List It) (w : World) (hx : Hid (ItemsAt w ao ts)) (hl : ts.length ≤ 1048576) (h1 : decide (1 ≤ f ∧ f ≤ 5) = true) (h2 : decide (1 ≤ n ∧ n ≤ 9) = true) (h3 : decide (0 ≤ o ∧ o ≤ n - 1) = true) (h4 : Hid (iGo 0 ts = true)) (h5 : 0 < o) :
    Calls Try.prog 9 #[.agg #[.int .i64 f, .int .i64 n, .int .i64 o, .slice ao ts.length cap]] w fun e w' => e = .returned (.bool (true)) ∧ Below w.heap.size w w' := by
  have HB : Hid (Below w.heap.size w (w.alloc (.cells #[.int .i64 f, .int .i64 n, .int .i64 o, .slice ao ts.length cap] 29))) := (Below.refl _ _).alloc (Nat.le_refl _) _
  have hn : 1 ≤ n ∧ n ≤ 9 := of_decide_eq_true h2
  have hw : IntKind.i64.wrap (n - 1) = n - 1 := by rw [IntKind.wrap_i64]; omega
  have HX : Hid (ItemsAt (w.alloc (.cells #[.int .i64 f, .int .i64 n, .int .i64 o, .slice ao ts.length cap] 29)) ao ts) := hx.out.stays HB.out
  have HBx : Hid (Bx (w.alloc (.cells #[.int .i64 f, .int .i64 n, .int .i64 o, .slice ao ts.length cap] 29)) w.heap.size 29 [.int .i64 f, .int .i64 n, .int .i64 o, .slice ao ts.length cap]) := Bx.new w 29 _
  clear hx
  go_enter Try.func9, Try.ntmps9
  go_wp2_with fail
  refine (within_is _ h1).mono ?_
  rintro e w1 ⟨rfl, rfl⟩
  go_wp2_with fail
  refine (within_is _ h2).mono ?_
  rintro e w2 ⟨rfl, rfl⟩
  go_wp2_with fail
  refine (within_is _ h3).mono ?_
  rintro e w3 ⟨rfl, rfl⟩
  go_wp2_with fail
  generalize w.alloc (.cells #[.int .i64 f, .int .i64 n, .int .i64 o, .slice ao ts.length cap] 29) = W at *
  refine (itemsOk_is _ HX hl h4.out).mono ?_
  rintro e w4 ⟨rfl, hb4⟩
  have B4 : Hid (Below w.heap.size w w4) := HB.out.trans (hb4.mono HB.out.size)
  have X4 := HBx.out.later hb4
  have c2 := X4.cell 2
  have c3 := X4.cell 3
  simp only [List.getElem?_cons_succ, List.getElem?_cons_zero] at c2 c3
  clear hb4 X4 HX HBx HB h1 h2 h3 h4 hn hw
  go_wp2_with fail
  go_ret
  exact ⟨rfl, B4.out⟩
set_option maxRecDepth 100000 in
set_option maxHeartbeats 2000000 in
theorem bundleOk_5 (f n o : Int) (ao : Option Addr) (cap : Nat) (ts : List It) (w : World) (hx : Hid (ItemsAt w ao ts)) (hl : ts.length ≤ 1048576) (h1 : decide (1 ≤ f ∧ f ≤ 5) = true) (h2 : decide (1 ≤ n ∧ n ≤ 9) = true) (h3 : decide (0 ≤ o ∧ o ≤ n - 1) = true) (h4 : Hid (iGo 0 ts = true)) (h5 : ¬ 0 < o) (he : ((ts.length : Int) == 0) = true) :
    Calls Try.prog 9 #[.agg #[.int .i64 f, .int .i64 n, .int .i64 o, .slice ao ts.length cap]] w fun e w' => e = .returned (.bool (true)) ∧ Below w.heap.size w w' := by
  have HB : Hid (Below w.heap.size w (w.alloc (.cells #[.int .i64 f, .int .i64 n, .int .i64 o, .slice ao ts.length cap] 29))) := (Below.refl _ _).alloc (Nat.le_refl _) _
  have hn : 1 ≤ n ∧ n ≤ 9 := of_decide_eq_true h2
  have hw : IntKind.i64.wrap (n - 1) = n - 1 := by rw [IntKind.wrap_i64]; omega
  have HX : Hid (ItemsAt (w.alloc (.cells #[.int .i64 f, .int .i64 n, .int .i64 o, .slice ao ts.length cap] 29)) ao ts) := hx.out.stays HB.out
  have HBx : Hid (Bx (w.alloc (.cells #[.int .i64 f, .int .i64 n, .int .i64 o, .slice ao ts.length cap] 29)) w.heap.size 29 [.int .i64 f, .int .i64 n, .int .i64 o, .slice ao ts.length cap]) := Bx.new w 29 _
  clear hx
  go_enter Try.func9, Try.ntmps9
  go_wp2_with fail
  refine (within_is _ h1).mono ?_
  rintro e w1 ⟨rfl, rfl⟩
  go_wp2_with fail
  refine (within_is _ h2).mono ?_
  rintro e w2 ⟨rfl, rfl⟩
  go_wp2_with fail
  refine (within_is _ h3).mono ?_
  rintro e w3 ⟨rfl, rfl⟩
  go_wp2_with fail
  generalize w.alloc (.cells #[.int .i64 f, .int .i64 n, .int .i64 o, .slice ao ts.length cap] 29) = W at *
  refine (itemsOk_is _ HX hl h4.out).mono ?_
  rintro e w4 ⟨rfl, hb4⟩
  have B4 : Hid (Below w.heap.size w w4) := HB.out.trans (hb4.mono HB.out.size)
  have X4 := HBx.out.later hb4
  have c2 := X4.cell 2
  have c3 := X4.cell 3
  simp only [List.getElem?_cons_succ, List.getElem?_cons_zero] at c2 c3
  clear hb4 X4 HX HBx HB h1 h2 h3 h4 hn hw
  go_wp2_with fail
  go_ret
  exact ⟨rfl, B4.out⟩
set_option maxRecDepth 100000 in
set_option maxHeartbeats 2000000 in
theorem bundleOk_6 (f n o : Int) (ao : Option Addr) (cap : Nat) (ts : List It) (w : World) (hx : Hid (ItemsAt w ao ts)) (hl : ts.length ≤ 1048576) (h1 : decide (1 ≤ f ∧ f ≤ 5) = true) (h2 : decide (1 ≤ n ∧ n ≤ 9) = true) (h3 : decide (0 ≤ o ∧ o ≤ n - 1) = true) (h4 : Hid (iGo 0 ts = true)) (h5 : ¬ 0 < o) (he : ((ts.length : Int) == 0) = false) :
    Calls Try.prog 9 #[.agg #[.int .i64 f, .int .i64 n, .int .i64 o, .slice ao ts.length cap]] w fun e w' => e = .returned (.bool (false)) ∧ Below w.heap.size w w' := by
  have HB : Hid (Below w.heap.size w (w.alloc (.cells #[.int .i64 f, .int .i64 n, .int .i64 o, .slice ao ts.length cap] 29))) := (Below.refl _ _).alloc (Nat.le_refl _) _
  have hn : 1 ≤ n ∧ n ≤ 9 := of_decide_eq_true h2
  have hw : IntKind.i64.wrap (n - 1) = n - 1 := by rw [IntKind.wrap_i64]; omega
  have HX : Hid (ItemsAt (w.alloc (.cells #[.int .i64 f, .int .i64 n, .int .i64 o, .slice ao ts.length cap] 29)) ao ts) := hx.out.stays HB.out
  have HBx : Hid (Bx (w.alloc (.cells #[.int .i64 f, .int .i64 n, .int .i64 o, .slice ao ts.length cap] 29)) w.heap.size 29 [.int .i64 f, .int .i64 n, .int .i64 o, .slice ao ts.length cap]) := Bx.new w 29 _
  clear hx
  go_enter Try.func9, Try.ntmps9
  go_wp2_with fail
  refine (within_is _ h1).mono ?_
  rintro e w1 ⟨rfl, rfl⟩
  go_wp2_with fail
  refine (within_is _ h2).mono ?_
  rintro e w2 ⟨rfl, rfl⟩
  go_wp2_with fail
  refine (within_is _ h3).mono ?_
  rintro e w3 ⟨rfl, rfl⟩
  go_wp2_with fail
  generalize w.alloc (.cells #[.int .i64 f, .int .i64 n, .int .i64 o, .slice ao ts.length cap] 29) = W at *
  refine (itemsOk_is _ HX hl h4.out).mono ?_
  rintro e w4 ⟨rfl, hb4⟩
  have B4 : Hid (Below w.heap.size w w4) := HB.out.trans (hb4.mono HB.out.size)
  have X4 := HBx.out.later hb4
  have c2 := X4.cell 2
  have c3 := X4.cell 3
  simp only [List.getElem?_cons_succ, List.getElem?_cons_zero] at c2 c3
  clear hb4 X4 HX HBx HB h1 h2 h3 h4 hn hw
  go_wp2_with fail
  go_ret
  exact ⟨by simp; omega, B4.out⟩
theorem bundleOk_any (f n o : Int) (ao : Option Addr) (cap : Nat) (ts : List It) (w : World) (hx : Hid (ItemsAt w ao ts)) (hl : ts.length ≤ 1048576) :
    Calls Try.prog 9 #[.agg #[.int .i64 f, .int .i64 n, .int .i64 o, .slice ao ts.length cap]] w fun e w' => e = .returned (.bool (bunB f n o ts)) ∧ Below w.heap.size w w' := by
  unfold bunB
  cases h1 : decide (1 ≤ f ∧ f ≤ 5) with
  | false => exact bundleOk_0 f n o ao cap ts w hx hl h1
  | true =>
    cases h2 : decide (1 ≤ n ∧ n ≤ 9) with
    | false => exact bundleOk_1 f n o ao cap ts w hx hl h1 h2
    | true =>
      cases h3 : decide (0 ≤ o ∧ o ≤ n - 1) with
      | false => exact bundleOk_2 f n o ao cap ts w hx hl h1 h2 h3
      | true =>
        cases h4 : iGo 0 ts with
        | false => exact bundleOk_3 f n o ao cap ts w hx hl h1 h2 h3 h4
        | true =>
          by_cases h5 : 0 < o
          · have h6 : decide (0 < o) = true := decide_eq_true h5
            rw [h6]
            exact bundleOk_4 f n o ao cap ts w hx hl h1 h2 h3 h4 h5
          · have h6 : decide (0 < o) = false := decide_eq_false h5
            rw [h6]
            by_cases h7 : ts.length = 0
            · rw [decide_eq_true h7]
              exact bundleOk_5 f n o ao cap ts w hx hl h1 h2 h3 h4 h5 (by simp [h7])
            · rw [decide_eq_false h7]
              exact bundleOk_6 f n o ao cap ts w hx hl h1 h2 h3 h4 h5 (by simp; intro h; exact h7 (by simp [h]))
theorem bundleOk_is {f n o : Int} {ao : Option Addr} {cap : Nat} {ts : List It} {b : Bool} (w : World) (hx : Hid (ItemsAt w ao ts)) (hl : ts.length ≤ 1048576) (h : bunB f n o ts = b) :
    Calls Try.prog 9 #[.agg #[.int .i64 f, .int .i64 n, .int .i64 o, .slice ao ts.length cap]] w fun e w' => e = .returned (.bool b) ∧ Below w.heap.size w w' := by rw [← h]; exact bundleOk_any f n o ao cap ts w hx hl
set_option maxRecDepth 100000 in
set_option maxHeartbeats 2000000 in
theorem spBundleOk_0 (f n o : Int) (ao : Option Addr) (cap : Nat) (ts : List It) (w : World) (hx : Hid (ItemsAt w ao ts)) (hl : ts.length ≤ 1048576) (h1 : decide (1 ≤ f ∧ f ≤ 5) = false) :
    Calls Try.prog 7 #[.agg #[.int .i64 f, .int .i64 n, .int .i64 o, .slice ao ts.length cap]] w fun e w' => e = .returned (.bool (false)) ∧ Below w.heap.size w w' := by
  have HB : Hid (Below w.heap.size w (w.alloc (.cells #[.int .i64 f, .int .i64 n, .int .i64 o, .slice ao ts.length cap] 29))) := (Below.refl _ _).alloc (Nat.le_refl _) _
  clear hx
  go_enter Try.func7, Try.ntmps7
  go_wp2_with fail
  refine (in_is _ h1).mono ?_
  rintro e w1 ⟨rfl, rfl⟩
  go_wp2_with fail
  go_ret
  exact ⟨rfl, HB.out⟩
set_option maxRecDepth 100000 in
set_option maxHeartbeats 2000000 in
theorem spBundleOk_1 (f n o : Int) (ao : Option Addr) (cap : Nat) (ts : List It) (w : World) (hx : Hid (ItemsAt w ao ts)) (hl : ts.length ≤ 1048576) (h1 : decide (1 ≤ f ∧ f ≤ 5) = true) (h2 : decide (1 ≤ n ∧ n ≤ 9) = false) :
    Calls Try.prog 7 #[.agg #[.int .i64 f, .int .i64 n, .int .i64 o, .slice ao ts.length cap]] w fun e w' => e = .returned (.bool (false)) ∧ Below w.heap.size w w' := by
  have HB : Hid (Below w.heap.size w (w.alloc (.cells #[.int .i64 f, .int .i64 n, .int .i64 o, .slice ao ts.length cap] 29))) := (Below.refl _ _).alloc (Nat.le_refl _) _
  clear hx
  go_enter Try.func7, Try.ntmps7
  go_wp2_with fail
  refine (in_is _ h1).mono ?_
  rintro e w1 ⟨rfl, rfl⟩
  go_wp2_with fail
  refine (in_is _ h2).mono ?_
  rintro e w2 ⟨rfl, rfl⟩
  go_wp2_with fail
  go_ret
  exact ⟨rfl, HB.out⟩
set_option maxRecDepth 100000 in
set_option maxHeartbeats 2000000 in
theorem spBundleOk_2 (f n o : Int) (ao : Option Addr) (cap : Nat) (ts : List It) (w : World) (hx : Hid (ItemsAt w ao ts)) (hl : ts.length ≤ 1048576) (h1 : decide (1 ≤ f ∧ f ≤ 5) = true) (h2 : decide (1 ≤ n ∧ n ≤ 9) = true) (h3 : decide (0 ≤ o ∧ o ≤ n - 1) = false) :
    Calls Try.prog 7 #[.agg #[.int .i64 f, .int .i64 n, .int .i64 o, .slice ao ts.length cap]] w fun e w' => e = .returned (.bool (false)) ∧ Below w.heap.size w w' := by
  have HB : Hid (Below w.heap.size w (w.alloc (.cells #[.int .i64 f, .int .i64 n, .int .i64 o, .slice ao ts.length cap] 29))) := (Below.refl _ _).alloc (Nat.le_refl _) _
  have hn : 1 ≤ n ∧ n ≤ 9 := of_decide_eq_true h2
  have hw : IntKind.i64.wrap (n - 1) = n - 1 := by rw [IntKind.wrap_i64]; omega
  clear hx
  go_enter Try.func7, Try.ntmps7
  go_wp2_with fail
  refine (in_is _ h1).mono ?_
  rintro e w1 ⟨rfl, rfl⟩
  go_wp2_with fail
  refine (in_is _ h2).mono ?_
  rintro e w2 ⟨rfl, rfl⟩
  go_wp2_with fail
  refine (in_is _ h3).mono ?_
  rintro e w3 ⟨rfl, rfl⟩
  go_wp2_with fail
  go_ret
  exact ⟨rfl, HB.out⟩
set_option maxRecDepth 100000 in
set_option maxHeartbeats 2000000 in
theorem spBundleOk_3 (f n o : Int) (ao : Option Addr) (cap : Nat) (ts : List It) (w : World) (hx : Hid (ItemsAt w ao ts)) (hl : ts.length ≤ 1048576) (h1 : decide (1 ≤ f ∧ f ≤ 5) = true) (h2 : decide (1 ≤ n ∧ n ≤ 9) = true) (h3 : decide (0 ≤ o ∧ o ≤ n - 1) = true) (h4 : Hid (iGo 0 ts = false)) :
    Calls Try.prog 7 #[.agg #[.int .i64 f, .int .i64 n, .int .i64 o, .slice ao ts.length cap]] w fun e w' => e = .returned (.bool (false)) ∧ Below w.heap.size w w' := by
  have HB : Hid (Below w.heap.size w (w.alloc (.cells #[.int .i64 f, .int .i64 n, .int .i64 o, .slice ao ts.length cap] 29))) := (Below.refl _ _).alloc (Nat.le_refl _) _
  have hn : 1 ≤ n ∧ n ≤ 9 := of_decide_eq_true h2
  have hw : IntKind.i64.wrap (n - 1) = n - 1 := by rw [IntKind.wrap_i64]; omega
  have HX : Hid (ItemsAt (w.alloc (.cells #[.int .i64 f, .int .i64 n, .int .i64 o, .slice ao ts.length cap] 29)) ao ts) := hx.out.stays HB.out
  have HBx : Hid (Bx (w.alloc (.cells #[.int .i64 f, .int .i64 n, .int .i64 o, .slice ao ts.length cap] 29)) w.heap.size 29 [.int .i64 f, .int .i64 n, .int .i64 o, .slice ao ts.length cap]) := Bx.new w 29 _
  clear hx
  go_enter Try.func7, Try.ntmps7
  go_wp2_with fail
  refine (in_is _ h1).mono ?_
  rintro e w1 ⟨rfl, rfl⟩
  go_wp2_with fail
  refine (in_is _ h2).mono ?_
  rintro e w2 ⟨rfl, rfl⟩
  go_wp2_with fail
  refine (in_is _ h3).mono ?_
  rintro e w3 ⟨rfl, rfl⟩
  go_wp2_with fail
  generalize w.alloc (.cells #[.int .i64 f, .int .i64 n, .int .i64 o, .slice ao ts.length cap] 29) = W at *
  refine (spItemsOk_is _ HX hl h4.out).mono ?_
  rintro e w4 ⟨rfl, hb4⟩
  have B4 : Hid (Below w.heap.size w w4) := HB.out.trans (hb4.mono HB.out.size)
  have X4 := HBx.out.later hb4
  have c2 := X4.cell 2
  have c3 := X4.cell 3
  simp only [List.getElem?_cons_succ, List.getElem?_cons_zero] at c2 c3
  clear hb4 X4 HX HBx HB h1 h2 h3 h4 hn hw
  go_wp2_with fail
  go_ret
  exact ⟨rfl, B4.out⟩
set_option maxRecDepth 100000 in
set_option maxHeartbeats 2000000 in
theorem spBundleOk_4 (f n o : Int) (ao : Option Addr) (cap : Nat) (ts : List It) (w : World) (hx : Hid (ItemsAt w ao ts)) (hl : ts.length ≤ 1048576) (h1 : decide (1 ≤ f ∧ f ≤ 5) = true) (h2 : decide (1 ≤ n ∧ n ≤ 9) = true) (h3 : decide (0 ≤ o ∧ o ≤ n - 1) = true) (h4 : Hid (iGo 0 ts = true)) (h5 : 0 < o) :
    Calls Try.prog 7 #[.agg #[.int .i64 f, .int .i64 n, .int .i64 o, .slice ao ts.length cap]] w fun e w' => e = .returned (.bool (true)) ∧ Below w.heap.size w w' := by
  have HB : Hid (Below w.heap.size w (w.alloc (.cells #[.int .i64 f, .int .i64 n, .int .i64 o, .slice ao ts.length cap] 29))) := (Below.refl _ _).alloc (Nat.le_refl _) _
  have hn : 1 ≤ n ∧ n ≤ 9 := of_decide_eq_true h2
  have hw : IntKind.i64.wrap (n - 1) = n - 1 := by rw [IntKind.wrap_i64]; omega
  have HX : Hid (ItemsAt (w.alloc (.cells #[.int .i64 f, .int .i64 n, .int .i64 o, .slice ao ts.length cap] 29)) ao ts) := hx.out.stays HB.out
  have HBx : Hid (Bx (w.alloc (.cells #[.int .i64 f, .int .i64 n, .int .i64 o, .slice ao ts.length cap] 29)) w.heap.size 29 [.int .i64 f, .int .i64 n, .int .i64 o, .slice ao ts.length cap]) := Bx.new w 29 _
  clear hx
  go_enter Try.func7, Try.ntmps7
  go_wp2_with fail
  refine (in_is _ h1).mono ?_
  rintro e w1 ⟨rfl, rfl⟩
  go_wp2_with fail
  refine (in_is _ h2).mono ?_
  rintro e w2 ⟨rfl, rfl⟩
  go_wp2_with fail
  refine (in_is _ h3).mono ?_
  rintro e w3 ⟨rfl, rfl⟩
  go_wp2_with fail
  generalize w.alloc (.cells #[.int .i64 f, .int .i64 n, .int .i64 o, .slice ao ts.length cap] 29) = W at *
  refine (spItemsOk_is _ HX hl h4.out).mono ?_
  rintro e w4 ⟨rfl, hb4⟩
  have B4 : Hid (Below w.heap.size w w4) := HB.out.trans (hb4.mono HB.out.size)
  have X4 := HBx.out.later hb4
  have c2 := X4.cell 2
  have c3 := X4.cell 3
  simp only [List.getElem?_cons_succ, List.getElem?_cons_zero] at c2 c3
  clear hb4 X4 HX HBx HB h1 h2 h3 h4 hn hw
  go_wp2_with fail
  go_ret
  exact ⟨rfl, B4.out⟩
set_option maxRecDepth 100000 in
set_option maxHeartbeats 2000000 in
theorem spBundleOk_5 (f n o : Int) (ao : Option Addr) (cap : Nat) (ts : List It) (w : World) (hx : Hid (ItemsAt w ao ts)) (hl : ts.length ≤ 1048576) (h1 : decide (1 ≤ f ∧ f ≤ 5) = true) (h2 : decide (1 ≤ n ∧ n ≤ 9) = true) (h3 : decide (0 ≤ o ∧ o ≤ n - 1) = true) (h4 : Hid (iGo 0 ts = true)) (h5 : ¬ 0 < o) (he : ((ts.length : Int) == 0) = true) :
    Calls Try.prog 7 #[.agg #[.int .i64 f, .int .i64 n, .int .i64 o, .slice ao ts.length cap]] w fun e w' => e = .returned (.bool (true)) ∧ Below w.heap.size w w' := by
  have HB : Hid (Below w.heap.size w (w.alloc (.cells #[.int .i64 f, .int .i64 n, .int .i64 o, .slice ao ts.length cap] 29))) := (Below.refl _ _).alloc (Nat.le_refl _) _
  have hn : 1 ≤ n ∧ n ≤ 9 := of_decide_eq_true h2
  have hw : IntKind.i64.wrap (n - 1) = n - 1 := by rw [IntKind.wrap_i64]; omega
  have HX : Hid (ItemsAt (w.alloc (.cells #[.int .i64 f, .int .i64 n, .int .i64 o, .slice ao ts.length cap] 29)) ao ts) := hx.out.stays HB.out
  have HBx : Hid (Bx (w.alloc (.cells #[.int .i64 f, .int .i64 n, .int .i64 o, .slice ao ts.length cap] 29)) w.heap.size 29 [.int .i64 f, .int .i64 n, .int .i64 o, .slice ao ts.length cap]) := Bx.new w 29 _
  clear hx
  go_enter Try.func7, Try.ntmps7
  go_wp2_with fail
  refine (in_is _ h1).mono ?_
  rintro e w1 ⟨rfl, rfl⟩
  go_wp2_with fail
  refine (in_is _ h2).mono ?_
  rintro e w2 ⟨rfl, rfl⟩
  go_wp2_with fail
  refine (in_is _ h3).mono ?_
  rintro e w3 ⟨rfl, rfl⟩
  go_wp2_with fail
  generalize w.alloc (.cells #[.int .i64 f, .int .i64 n, .int .i64 o, .slice ao ts.length cap] 29) = W at *
  refine (spItemsOk_is _ HX hl h4.out).mono ?_
  rintro e w4 ⟨rfl, hb4⟩
  have B4 : Hid (Below w.heap.size w w4) := HB.out.trans (hb4.mono HB.out.size)
  have X4 := HBx.out.later hb4
  have c2 := X4.cell 2
  have c3 := X4.cell 3
  simp only [List.getElem?_cons_succ, List.getElem?_cons_zero] at c2 c3
  clear hb4 X4 HX HBx HB h1 h2 h3 h4 hn hw
  go_wp2_with fail
  go_ret
  exact ⟨rfl, B4.out⟩
set_option maxRecDepth 100000 in
set_option maxHeartbeats 2000000 in
theorem spBundleOk_6 (f n o : Int) (ao : Option Addr) (cap : Nat) (ts : List It) (w : World) (hx : Hid (ItemsAt w ao ts)) (hl : ts.length ≤ 1048576) (h1 : decide (1 ≤ f ∧ f ≤ 5) = true) (h2 : decide (1 ≤ n ∧ n ≤ 9) = true) (h3 : decide (0 ≤ o ∧ o ≤ n - 1) = true) (h4 : Hid (iGo 0 ts = true)) (h5 : ¬ 0 < o) (he : ((ts.length : Int) == 0) = false) :
    Calls Try.prog 7 #[.agg #[.int .i64 f, .int .i64 n, .int .i64 o, .slice ao ts.length cap]] w fun e w' => e = .returned (.bool (false)) ∧ Below w.heap.size w w' := by
  have HB : Hid (Below w.heap.size w (w.alloc (.cells #[.int .i64 f, .int .i64 n, .int .i64 o, .slice ao ts.length cap] 29))) := (Below.refl _ _).alloc (Nat.le_refl _) _
  have hn : 1 ≤ n ∧ n ≤ 9 := of_decide_eq_true h2
  have hw : IntKind.i64.wrap (n - 1) = n - 1 := by rw [IntKind.wrap_i64]; omega
  have HX : Hid (ItemsAt (w.alloc (.cells #[.int .i64 f, .int .i64 n, .int .i64 o, .slice ao ts.length cap] 29)) ao ts) := hx.out.stays HB.out
  have HBx : Hid (Bx (w.alloc (.cells #[.int .i64 f, .int .i64 n, .int .i64 o, .slice ao ts.length cap] 29)) w.heap.size 29 [.int .i64 f, .int .i64 n, .int .i64 o, .slice ao ts.length cap]) := Bx.new w 29 _
  clear hx
  go_enter Try.func7, Try.ntmps7
  go_wp2_with fail
  refine (in_is _ h1).mono ?_
  rintro e w1 ⟨rfl, rfl⟩
  go_wp2_with fail
  refine (in_is _ h2).mono ?_
  rintro e w2 ⟨rfl, rfl⟩
  go_wp2_with fail
  refine (in_is _ h3).mono ?_
  rintro e w3 ⟨rfl, rfl⟩
  go_wp2_with fail
  generalize w.alloc (.cells #[.int .i64 f, .int .i64 n, .int .i64 o, .slice ao ts.length cap] 29) = W at *
  refine (spItemsOk_is _ HX hl h4.out).mono ?_
  rintro e w4 ⟨rfl, hb4⟩
  have B4 : Hid (Below w.heap.size w w4) := HB.out.trans (hb4.mono HB.out.size)
  have X4 := HBx.out.later hb4
  have c2 := X4.cell 2
  have c3 := X4.cell 3
  simp only [List.getElem?_cons_succ, List.getElem?_cons_zero] at c2 c3
  clear hb4 X4 HX HBx HB h1 h2 h3 h4 hn hw
  go_wp2_with fail
  go_ret
  exact ⟨by simp; omega, B4.out⟩
theorem spBundleOk_any (f n o : Int) (ao : Option Addr) (cap : Nat) (ts : List It) (w : World) (hx : Hid (ItemsAt w ao ts)) (hl : ts.length ≤ 1048576) :
    Calls Try.prog 7 #[.agg #[.int .i64 f, .int .i64 n, .int .i64 o, .slice ao ts.length cap]] w fun e w' => e = .returned (.bool (bunB f n o ts)) ∧ Below w.heap.size w w' := by
  unfold bunB
  cases h1 : decide (1 ≤ f ∧ f ≤ 5) with
  | false => exact spBundleOk_0 f n o ao cap ts w hx hl h1
  | true =>
    cases h2 : decide (1 ≤ n ∧ n ≤ 9) with
    | false => exact spBundleOk_1 f n o ao cap ts w hx hl h1 h2
    | true =>
      cases h3 : decide (0 ≤ o ∧ o ≤ n - 1) with
      | false => exact spBundleOk_2 f n o ao cap ts w hx hl h1 h2 h3
      | true =>
        cases h4 : iGo 0 ts with
        | false => exact spBundleOk_3 f n o ao cap ts w hx hl h1 h2 h3 h4
        | true =>
          by_cases h5 : 0 < o
          · have h6 : decide (0 < o) = true := decide_eq_true h5
            rw [h6]
            exact spBundleOk_4 f n o ao cap ts w hx hl h1 h2 h3 h4 h5
          · have h6 : decide (0 < o) = false := decide_eq_false h5
            rw [h6]
            by_cases h7 : ts.length = 0
            · rw [decide_eq_true h7]
              exact spBundleOk_5 f n o ao cap ts w hx hl h1 h2 h3 h4 h5 (by simp [h7])
            · rw [decide_eq_false h7]
              exact spBundleOk_6 f n o ao cap ts w hx hl h1 h2 h3 h4 h5 (by simp; intro h; exact h7 (by simp [h]))
theorem spBundleOk_is {f n o : Int} {ao : Option Addr} {cap : Nat} {ts : List It} {b : Bool} (w : World) (hx : Hid (ItemsAt w ao ts)) (hl : ts.length ≤ 1048576) (h : bunB f n o ts = b) :
    Calls Try.prog 7 #[.agg #[.int .i64 f, .int .i64 n, .int .i64 o, .slice ao ts.length cap]] w fun e w' => e = .returned (.bool b) ∧ Below w.heap.size w w' := by rw [← h]; exact spBundleOk_any f n o ao cap ts w hx hl
end Go.Proofs.Ytlflcjdpdbdbkaa
