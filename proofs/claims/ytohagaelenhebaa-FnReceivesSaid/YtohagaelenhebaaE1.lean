/- The walks over both EndOk and over what the program's uses. -/
import Derived.Test.YtohagaelenhebaaWn
import Derived.Test.YtohagaelenhebaaLk
import Derived.Below
namespace Go.Proofs.Ytohagaelenhebaa
open Go.RowKit Pl
set_option linter.unusedVariables false

set_option maxRecDepth 100000 in
set_option maxHeartbeats 1000000 in
theorem fits_any (ao : Option Addr) (cap : Nat) (ts : List ByteArray) (w : World) (hx : Hid (TextsAt w ao ts)) (hl : ts.length ≤ 1048576) :
    Calls Try.prog 62 #[.slice ao ts.length cap] w fun e w' => e = .returned (.bool (fitB ts)) ∧ w' = w := by
  go_enter Try.func62, Try.ntmps62
  go_wp2
  go_loop [7] (fun i => ∃ k : Nat, k ≤ ts.length ∧ i = .int .i64 k ∧ Hid (∀ t ∈ ts.take k, t.size ≤ 60)) (fun i => ts.length - (intOf i).toNat)
  case atStart => exact ⟨0, Nat.zero_le _, rfl, fun t ht => by simp at ht⟩
  case round =>
    obtain ⟨k, hk, rfl, hst⟩ := hrel
    by_cases hlt : k < ts.length
    · obtain ⟨b, off, rfl, hbb, hc⟩ := hx.out k hlt
      obtain ⟨x, ht⟩ : ∃ x, x = ts[k] := ⟨_, rfl⟩
      rw [← ht] at hc
      have HT : Hid (x = ts[k]) := ht
      clear ht
      by_cases h1 : 60 < x.size
      · have hd : decide (60 < (x.size : Int)) = true := by simp; omega
        go_wp2
        go_ret
        exact ⟨by rw [fitB_bad hlt (by rw [← HT.out]; exact h1)]; rfl, rfl⟩
      · have hd : decide (60 < (x.size : Int)) = false := by simp; omega
        go_wp2
        go_round
        case rel => exact ⟨k + 1, by omega, by go_num, fitB_step hst.out hlt (by rw [← HT.out]; omega)⟩
        case measure => simp [intOf]; omega
    · go_wp2
      go_ret
      exact ⟨by rw [fitB_all hst.out (by omega)]; rfl, rfl⟩
theorem fits_is {ao : Option Addr} {cap : Nat} {ts : List ByteArray} {b : Bool} (w : World) (hx : Hid (TextsAt w ao ts)) (hl : ts.length ≤ 1048576) (hb : fitB ts = b) :
    Calls Try.prog 62 #[.slice ao ts.length cap] w fun e w' => e = .returned (.bool b) ∧ w' = w := by
  have := fits_any ao cap ts w hx hl
  rw [hb] at this
  exact this

set_option maxRecDepth 100000 in
set_option maxHeartbeats 1000000 in
theorem endOk_0 (nx ak gt : Int) (qa oa : Option Addr) (qc oc : Nat) (q o : List ByteArray) (w : World) (hq : Hid (TextsAt w qa q)) (ho : Hid (TextsAt w oa o)) (lq : q.length ≤ 1048576) (lo : o.length ≤ 1048576) (h1 : decide (0 ≤ ak ∧ ak ≤ 1000) = false) :
    Calls Try.prog 21 #[.agg #[.int .i64 nx, .int .i64 ak, .slice qa q.length qc, .int .i64 gt, .slice oa o.length oc]] w fun e w' => e = .returned (.bool false) ∧ Below w.heap.size w w' := by
  go_enter Try.func21, Try.ntmps21
  go_wp2_with fail
  refine (within_is _ h1).mono ?_
  rintro e w1 ⟨rfl, rfl⟩
  go_wp2_with fail
  go_ret
  exact ⟨rfl, (Below.refl _ _).alloc (Nat.le_refl _) _⟩

set_option maxRecDepth 100000 in
set_option maxHeartbeats 1000000 in
theorem endOk_1 (nx ak gt : Int) (qa oa : Option Addr) (qc oc : Nat) (q o : List ByteArray) (w : World) (hq : Hid (TextsAt w qa q)) (ho : Hid (TextsAt w oa o)) (lq : q.length ≤ 1048576) (lo : o.length ≤ 1048576) (h1 : decide (0 ≤ ak ∧ ak ≤ 1000) = true) (h2 : decide (ak ≤ nx ∧ nx ≤ ak + 4) = false) :
    Calls Try.prog 21 #[.agg #[.int .i64 nx, .int .i64 ak, .slice qa q.length qc, .int .i64 gt, .slice oa o.length oc]] w fun e w' => e = .returned (.bool false) ∧ Below w.heap.size w w' := by
  have ha := of_decide_eq_true h1
  have wa : IntKind.i64.wrap (ak + 4) = ak + 4 := by rw [IntKind.wrap_i64]; omega
  go_enter Try.func21, Try.ntmps21
  go_wp2_with fail
  refine (within_is _ h1).mono ?_
  rintro e w1 ⟨rfl, rfl⟩
  go_wp2_with fail
  refine (within_is _ h2).mono ?_
  rintro e w1 ⟨rfl, rfl⟩
  go_wp2_with fail
  go_ret
  exact ⟨rfl, (Below.refl _ _).alloc (Nat.le_refl _) _⟩

set_option maxRecDepth 100000 in
set_option maxHeartbeats 1000000 in
theorem endOk_2 (nx ak gt : Int) (qa oa : Option Addr) (qc oc : Nat) (q o : List ByteArray) (w : World) (hq : Hid (TextsAt w qa q)) (ho : Hid (TextsAt w oa o)) (lq : q.length ≤ 1048576) (lo : o.length ≤ 1048576) (h1 : decide (0 ≤ ak ∧ ak ≤ 1000) = true) (h2 : decide (ak ≤ nx ∧ nx ≤ ak + 4) = true) (h3 : decide (nx - ak ≤ (q.length : Int) ∧ (q.length : Int) ≤ 30) = false) :
    Calls Try.prog 21 #[.agg #[.int .i64 nx, .int .i64 ak, .slice qa q.length qc, .int .i64 gt, .slice oa o.length oc]] w fun e w' => e = .returned (.bool false) ∧ Below w.heap.size w w' := by
  have ha := of_decide_eq_true h1
  have wa : IntKind.i64.wrap (ak + 4) = ak + 4 := by rw [IntKind.wrap_i64]; omega
  have hn := of_decide_eq_true h2
  have wb : IntKind.i64.wrap (nx - ak) = nx - ak := by rw [IntKind.wrap_i64]; omega
  go_enter Try.func21, Try.ntmps21
  go_wp2_with fail
  refine (within_is _ h1).mono ?_
  rintro e w1 ⟨rfl, rfl⟩
  go_wp2_with fail
  refine (within_is _ h2).mono ?_
  rintro e w1 ⟨rfl, rfl⟩
  go_wp2_with fail
  refine (within_is _ h3).mono ?_
  rintro e w1 ⟨rfl, rfl⟩
  go_wp2_with fail
  go_ret
  exact ⟨rfl, (Below.refl _ _).alloc (Nat.le_refl _) _⟩

set_option maxRecDepth 100000 in
set_option maxHeartbeats 1000000 in
theorem endOk_3 (nx ak gt : Int) (qa oa : Option Addr) (qc oc : Nat) (q o : List ByteArray) (w : World) (hq : Hid (TextsAt w qa q)) (ho : Hid (TextsAt w oa o)) (lq : q.length ≤ 1048576) (lo : o.length ≤ 1048576) (h1 : decide (0 ≤ ak ∧ ak ≤ 1000) = true) (h2 : decide (ak ≤ nx ∧ nx ≤ ak + 4) = true) (h3 : decide (nx - ak ≤ (q.length : Int) ∧ (q.length : Int) ≤ 30) = true) (h4 : decide (0 ≤ gt ∧ gt ≤ 1000) = false) :
    Calls Try.prog 21 #[.agg #[.int .i64 nx, .int .i64 ak, .slice qa q.length qc, .int .i64 gt, .slice oa o.length oc]] w fun e w' => e = .returned (.bool false) ∧ Below w.heap.size w w' := by
  have ha := of_decide_eq_true h1
  have wa : IntKind.i64.wrap (ak + 4) = ak + 4 := by rw [IntKind.wrap_i64]; omega
  have hn := of_decide_eq_true h2
  have wb : IntKind.i64.wrap (nx - ak) = nx - ak := by rw [IntKind.wrap_i64]; omega
  go_enter Try.func21, Try.ntmps21
  go_wp2_with fail
  refine (within_is _ h1).mono ?_
  rintro e w1 ⟨rfl, rfl⟩
  go_wp2_with fail
  refine (within_is _ h2).mono ?_
  rintro e w1 ⟨rfl, rfl⟩
  go_wp2_with fail
  refine (within_is _ h3).mono ?_
  rintro e w1 ⟨rfl, rfl⟩
  go_wp2_with fail
  refine (within_is _ h4).mono ?_
  rintro e w1 ⟨rfl, rfl⟩
  go_wp2_with fail
  go_ret
  exact ⟨rfl, (Below.refl _ _).alloc (Nat.le_refl _) _⟩

set_option maxRecDepth 100000 in
set_option maxHeartbeats 1000000 in
theorem endOk_4 (nx ak gt : Int) (qa oa : Option Addr) (qc oc : Nat) (q o : List ByteArray) (w : World) (hq : Hid (TextsAt w qa q)) (ho : Hid (TextsAt w oa o)) (lq : q.length ≤ 1048576) (lo : o.length ≤ 1048576) (h1 : decide (0 ≤ ak ∧ ak ≤ 1000) = true) (h2 : decide (ak ≤ nx ∧ nx ≤ ak + 4) = true) (h3 : decide (nx - ak ≤ (q.length : Int) ∧ (q.length : Int) ≤ 30) = true) (h4 : decide (0 ≤ gt ∧ gt ≤ 1000) = true) (h5 : decide ((o.length : Int) = gt) = false) :
    Calls Try.prog 21 #[.agg #[.int .i64 nx, .int .i64 ak, .slice qa q.length qc, .int .i64 gt, .slice oa o.length oc]] w fun e w' => e = .returned (.bool false) ∧ Below w.heap.size w w' := by
  have ha := of_decide_eq_true h1
  have wa : IntKind.i64.wrap (ak + 4) = ak + 4 := by rw [IntKind.wrap_i64]; omega
  have hn := of_decide_eq_true h2
  have wb : IntKind.i64.wrap (nx - ak) = nx - ak := by rw [IntKind.wrap_i64]; omega
  have h5n : ¬ (o.length : Int) = gt := of_decide_eq_false h5
  go_enter Try.func21, Try.ntmps21
  go_wp2_with fail
  refine (within_is _ h1).mono ?_
  rintro e w1 ⟨rfl, rfl⟩
  go_wp2_with fail
  refine (within_is _ h2).mono ?_
  rintro e w1 ⟨rfl, rfl⟩
  go_wp2_with fail
  refine (within_is _ h3).mono ?_
  rintro e w1 ⟨rfl, rfl⟩
  go_wp2_with fail
  refine (within_is _ h4).mono ?_
  rintro e w1 ⟨rfl, rfl⟩
  go_wp2_with fail
  go_ret
  exact ⟨rfl, (Below.refl _ _).alloc (Nat.le_refl _) _⟩

set_option maxRecDepth 100000 in
set_option maxHeartbeats 1000000 in
theorem endOk_5 (nx ak gt : Int) (qa oa : Option Addr) (qc oc : Nat) (q o : List ByteArray) (w : World) (hq : Hid (TextsAt w qa q)) (ho : Hid (TextsAt w oa o)) (lq : q.length ≤ 1048576) (lo : o.length ≤ 1048576) (h1 : decide (0 ≤ ak ∧ ak ≤ 1000) = true) (h2 : decide (ak ≤ nx ∧ nx ≤ ak + 4) = true) (h3 : decide (nx - ak ≤ (q.length : Int) ∧ (q.length : Int) ≤ 30) = true) (h4 : decide (0 ≤ gt ∧ gt ≤ 1000) = true) (h5 : decide ((o.length : Int) = gt) = true) (h6 : fitB q = false) :
    Calls Try.prog 21 #[.agg #[.int .i64 nx, .int .i64 ak, .slice qa q.length qc, .int .i64 gt, .slice oa o.length oc]] w fun e w' => e = .returned (.bool false) ∧ Below w.heap.size w w' := by
  have ha := of_decide_eq_true h1
  have wa : IntKind.i64.wrap (ak + 4) = ak + 4 := by rw [IntKind.wrap_i64]; omega
  have hn := of_decide_eq_true h2
  have wb : IntKind.i64.wrap (nx - ak) = nx - ak := by rw [IntKind.wrap_i64]; omega
  have h5n : (o.length : Int) = gt := of_decide_eq_true h5
  go_enter Try.func21, Try.ntmps21
  go_wp2_with fail
  refine (within_is _ h1).mono ?_
  rintro e w1 ⟨rfl, rfl⟩
  go_wp2_with fail
  refine (within_is _ h2).mono ?_
  rintro e w1 ⟨rfl, rfl⟩
  go_wp2_with fail
  refine (within_is _ h3).mono ?_
  rintro e w1 ⟨rfl, rfl⟩
  go_wp2_with fail
  refine (within_is _ h4).mono ?_
  rintro e w1 ⟨rfl, rfl⟩
  go_wp2_with fail
  refine (fits_is _ (show Hid (TextsAt _ _ _) from hq.out.stays ((Below.refl _ _).alloc (Nat.le_refl _) _)) lq h6).mono ?_
  rintro e w1 ⟨rfl, rfl⟩
  go_wp2_with fail
  go_ret
  exact ⟨rfl, (Below.refl _ _).alloc (Nat.le_refl _) _⟩

set_option maxRecDepth 100000 in
set_option maxHeartbeats 1000000 in
theorem endOk_6 (nx ak gt : Int) (qa oa : Option Addr) (qc oc : Nat) (q o : List ByteArray) (w : World) (hq : Hid (TextsAt w qa q)) (ho : Hid (TextsAt w oa o)) (lq : q.length ≤ 1048576) (lo : o.length ≤ 1048576) (h1 : decide (0 ≤ ak ∧ ak ≤ 1000) = true) (h2 : decide (ak ≤ nx ∧ nx ≤ ak + 4) = true) (h3 : decide (nx - ak ≤ (q.length : Int) ∧ (q.length : Int) ≤ 30) = true) (h4 : decide (0 ≤ gt ∧ gt ≤ 1000) = true) (h5 : decide ((o.length : Int) = gt) = true) (h6 : fitB q = true) (h7 : fitB o = false) :
    Calls Try.prog 21 #[.agg #[.int .i64 nx, .int .i64 ak, .slice qa q.length qc, .int .i64 gt, .slice oa o.length oc]] w fun e w' => e = .returned (.bool false) ∧ Below w.heap.size w w' := by
  have ha := of_decide_eq_true h1
  have wa : IntKind.i64.wrap (ak + 4) = ak + 4 := by rw [IntKind.wrap_i64]; omega
  have hn := of_decide_eq_true h2
  have wb : IntKind.i64.wrap (nx - ak) = nx - ak := by rw [IntKind.wrap_i64]; omega
  have h5n : (o.length : Int) = gt := of_decide_eq_true h5
  go_enter Try.func21, Try.ntmps21
  go_wp2_with fail
  refine (within_is _ h1).mono ?_
  rintro e w1 ⟨rfl, rfl⟩
  go_wp2_with fail
  refine (within_is _ h2).mono ?_
  rintro e w1 ⟨rfl, rfl⟩
  go_wp2_with fail
  refine (within_is _ h3).mono ?_
  rintro e w1 ⟨rfl, rfl⟩
  go_wp2_with fail
  refine (within_is _ h4).mono ?_
  rintro e w1 ⟨rfl, rfl⟩
  go_wp2_with fail
  refine (fits_is _ (show Hid (TextsAt _ _ _) from hq.out.stays ((Below.refl _ _).alloc (Nat.le_refl _) _)) lq h6).mono ?_
  rintro e w1 ⟨rfl, rfl⟩
  go_wp2_with fail
  refine (fits_is _ (show Hid (TextsAt _ _ _) from ho.out.stays ((Below.refl _ _).alloc (Nat.le_refl _) _)) lo h7).mono ?_
  rintro e w1 ⟨rfl, rfl⟩
  go_wp2_with fail
  go_ret
  exact ⟨rfl, (Below.refl _ _).alloc (Nat.le_refl _) _⟩

set_option maxRecDepth 100000 in
set_option maxHeartbeats 1000000 in
theorem endOk_7 (nx ak gt : Int) (qa oa : Option Addr) (qc oc : Nat) (q o : List ByteArray) (w : World) (hq : Hid (TextsAt w qa q)) (ho : Hid (TextsAt w oa o)) (lq : q.length ≤ 1048576) (lo : o.length ≤ 1048576) (h1 : decide (0 ≤ ak ∧ ak ≤ 1000) = true) (h2 : decide (ak ≤ nx ∧ nx ≤ ak + 4) = true) (h3 : decide (nx - ak ≤ (q.length : Int) ∧ (q.length : Int) ≤ 30) = true) (h4 : decide (0 ≤ gt ∧ gt ≤ 1000) = true) (h5 : decide ((o.length : Int) = gt) = true) (h6 : fitB q = true) (h7 : fitB o = true) :
    Calls Try.prog 21 #[.agg #[.int .i64 nx, .int .i64 ak, .slice qa q.length qc, .int .i64 gt, .slice oa o.length oc]] w fun e w' => e = .returned (.bool true) ∧ Below w.heap.size w w' := by
  have ha := of_decide_eq_true h1
  have wa : IntKind.i64.wrap (ak + 4) = ak + 4 := by rw [IntKind.wrap_i64]; omega
  have hn := of_decide_eq_true h2
  have wb : IntKind.i64.wrap (nx - ak) = nx - ak := by rw [IntKind.wrap_i64]; omega
  have h5n : (o.length : Int) = gt := of_decide_eq_true h5
  go_enter Try.func21, Try.ntmps21
  go_wp2_with fail
  refine (within_is _ h1).mono ?_
  rintro e w1 ⟨rfl, rfl⟩
  go_wp2_with fail
  refine (within_is _ h2).mono ?_
  rintro e w1 ⟨rfl, rfl⟩
  go_wp2_with fail
  refine (within_is _ h3).mono ?_
  rintro e w1 ⟨rfl, rfl⟩
  go_wp2_with fail
  refine (within_is _ h4).mono ?_
  rintro e w1 ⟨rfl, rfl⟩
  go_wp2_with fail
  refine (fits_is _ (show Hid (TextsAt _ _ _) from hq.out.stays ((Below.refl _ _).alloc (Nat.le_refl _) _)) lq h6).mono ?_
  rintro e w1 ⟨rfl, rfl⟩
  go_wp2_with fail
  refine (fits_is _ (show Hid (TextsAt _ _ _) from ho.out.stays ((Below.refl _ _).alloc (Nat.le_refl _) _)) lo h7).mono ?_
  rintro e w1 ⟨rfl, rfl⟩
  go_wp2_with fail
  go_ret
  exact ⟨rfl, (Below.refl _ _).alloc (Nat.le_refl _) _⟩

theorem endOk_any {v : Value} {e : En} (w : World) (h : EndR w v e) (lq : e.q.length ≤ 1048576) (lo : e.o.length ≤ 1048576) : Calls Try.prog 21 #[v] w fun r w' => r = .returned (.bool (okB e)) ∧ Below w.heap.size w w' := by
  obtain ⟨qa, qc, oa, oc, rfl, hq, ho⟩ := h
  obtain ⟨nx, ak, q, gt, o⟩ := e
  unfold okB
  dsimp only at *
  cases h1 : decide (0 ≤ ak ∧ ak ≤ 1000) with
  | false => exact endOk_0 nx ak gt qa oa qc oc q o w hq ho lq lo h1
  | true =>
    cases h2 : decide (ak ≤ nx ∧ nx ≤ ak + 4) with
    | false => exact endOk_1 nx ak gt qa oa qc oc q o w hq ho lq lo h1 h2
    | true =>
      cases h3 : decide (nx - ak ≤ (q.length : Int) ∧ (q.length : Int) ≤ 30) with
      | false => exact endOk_2 nx ak gt qa oa qc oc q o w hq ho lq lo h1 h2 h3
      | true =>
        cases h4 : decide (0 ≤ gt ∧ gt ≤ 1000) with
        | false => exact endOk_3 nx ak gt qa oa qc oc q o w hq ho lq lo h1 h2 h3 h4
        | true =>
          cases h5 : decide ((o.length : Int) = gt) with
          | false => exact endOk_4 nx ak gt qa oa qc oc q o w hq ho lq lo h1 h2 h3 h4 h5
          | true =>
            cases h6 : fitB q with
            | false => exact endOk_5 nx ak gt qa oa qc oc q o w hq ho lq lo h1 h2 h3 h4 h5 h6
            | true =>
              cases h7 : fitB o with
              | false => exact endOk_6 nx ak gt qa oa qc oc q o w hq ho lq lo h1 h2 h3 h4 h5 h6 h7
              | true =>
                exact endOk_7 nx ak gt qa oa qc oc q o w hq ho lq lo h1 h2 h3 h4 h5 h6 h7
theorem endOk_is {v : Value} {e : En} {b : Bool} (w : World) (h : EndR w v e) (lq : e.q.length ≤ 1048576) (lo : e.o.length ≤ 1048576) (hb : okB e = b) : Calls Try.prog 21 #[v] w fun r w' => r = .returned (.bool b) ∧ Below w.heap.size w w' := by
  have := endOk_any w h lq lo
  rw [hb] at this
  exact this
end Go.Proofs.Ytohagaelenhebaa
