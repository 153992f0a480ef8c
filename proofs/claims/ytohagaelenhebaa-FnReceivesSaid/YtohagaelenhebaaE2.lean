/- The walk over the specification's EndOk. -/
import Derived.Test.YtohagaelenhebaaWn
import Derived.Test.YtohagaelenhebaaLk
import Derived.Below
namespace Go.Proofs.Ytohagaelenhebaa
open Go.RowKit Pl
set_option linter.unusedVariables false

set_option maxRecDepth 100000 in
set_option maxHeartbeats 1000000 in
theorem spEndOk_0 (nx ak gt : Int) (qa oa : Option Addr) (qc oc : Nat) (q o : List ByteArray) (w : World) (hq : Hid (TextsAt w qa q)) (ho : Hid (TextsAt w oa o)) (lq : q.length ≤ 1048576) (lo : o.length ≤ 1048576) (h1 : decide (0 ≤ ak ∧ ak ≤ 1000) = false) :
    Calls Try.prog 24 #[.agg #[.int .i64 nx, .int .i64 ak, .slice qa q.length qc, .int .i64 gt, .slice oa o.length oc]] w fun e w' => e = .returned (.bool false) ∧ Below w.heap.size w w' := by
  go_enter Try.func24, Try.ntmps24
  go_wp2_with fail
  refine (in_is _ h1).mono ?_
  rintro e w1 ⟨rfl, rfl⟩
  go_wp2_with fail
  go_ret
  exact ⟨rfl, (Below.refl _ _).alloc (Nat.le_refl _) _⟩

set_option maxRecDepth 100000 in
set_option maxHeartbeats 1000000 in
theorem spEndOk_1 (nx ak gt : Int) (qa oa : Option Addr) (qc oc : Nat) (q o : List ByteArray) (w : World) (hq : Hid (TextsAt w qa q)) (ho : Hid (TextsAt w oa o)) (lq : q.length ≤ 1048576) (lo : o.length ≤ 1048576) (h1 : decide (0 ≤ ak ∧ ak ≤ 1000) = true) (h2 : decide (ak ≤ nx ∧ nx ≤ ak + 4) = false) :
    Calls Try.prog 24 #[.agg #[.int .i64 nx, .int .i64 ak, .slice qa q.length qc, .int .i64 gt, .slice oa o.length oc]] w fun e w' => e = .returned (.bool false) ∧ Below w.heap.size w w' := by
  have ha := of_decide_eq_true h1
  have wa : IntKind.i64.wrap (ak + 4) = ak + 4 := by rw [IntKind.wrap_i64]; omega
  go_enter Try.func24, Try.ntmps24
  go_wp2_with fail
  refine (in_is _ h1).mono ?_
  rintro e w1 ⟨rfl, rfl⟩
  go_wp2_with fail
  refine (in_is _ h2).mono ?_
  rintro e w1 ⟨rfl, rfl⟩
  go_wp2_with fail
  go_ret
  exact ⟨rfl, (Below.refl _ _).alloc (Nat.le_refl _) _⟩

set_option maxRecDepth 100000 in
set_option maxHeartbeats 1000000 in
theorem spEndOk_2 (nx ak gt : Int) (qa oa : Option Addr) (qc oc : Nat) (q o : List ByteArray) (w : World) (hq : Hid (TextsAt w qa q)) (ho : Hid (TextsAt w oa o)) (lq : q.length ≤ 1048576) (lo : o.length ≤ 1048576) (h1 : decide (0 ≤ ak ∧ ak ≤ 1000) = true) (h2 : decide (ak ≤ nx ∧ nx ≤ ak + 4) = true) (h3 : decide (30 < (q.length : Int)) = true) :
    Calls Try.prog 24 #[.agg #[.int .i64 nx, .int .i64 ak, .slice qa q.length qc, .int .i64 gt, .slice oa o.length oc]] w fun e w' => e = .returned (.bool false) ∧ Below w.heap.size w w' := by
  have ha := of_decide_eq_true h1
  have wa : IntKind.i64.wrap (ak + 4) = ak + 4 := by rw [IntKind.wrap_i64]; omega
  have hn := of_decide_eq_true h2
  have wb : IntKind.i64.wrap (nx - ak) = nx - ak := by rw [IntKind.wrap_i64]; omega
  go_enter Try.func24, Try.ntmps24
  go_wp2_with fail
  refine (in_is _ h1).mono ?_
  rintro e w1 ⟨rfl, rfl⟩
  go_wp2_with fail
  refine (in_is _ h2).mono ?_
  rintro e w1 ⟨rfl, rfl⟩
  go_wp2_with fail
  go_ret
  exact ⟨rfl, (Below.refl _ _).alloc (Nat.le_refl _) _⟩

set_option maxRecDepth 100000 in
set_option maxHeartbeats 1000000 in
theorem spEndOk_3 (nx ak gt : Int) (qa oa : Option Addr) (qc oc : Nat) (q o : List ByteArray) (w : World) (hq : Hid (TextsAt w qa q)) (ho : Hid (TextsAt w oa o)) (lq : q.length ≤ 1048576) (lo : o.length ≤ 1048576) (h1 : decide (0 ≤ ak ∧ ak ≤ 1000) = true) (h2 : decide (ak ≤ nx ∧ nx ≤ ak + 4) = true) (h3 : decide (30 < (q.length : Int)) = false) (h4 : decide ((q.length : Int) < nx - ak) = true) :
    Calls Try.prog 24 #[.agg #[.int .i64 nx, .int .i64 ak, .slice qa q.length qc, .int .i64 gt, .slice oa o.length oc]] w fun e w' => e = .returned (.bool false) ∧ Below w.heap.size w w' := by
  have ha := of_decide_eq_true h1
  have wa : IntKind.i64.wrap (ak + 4) = ak + 4 := by rw [IntKind.wrap_i64]; omega
  have hn := of_decide_eq_true h2
  have wb : IntKind.i64.wrap (nx - ak) = nx - ak := by rw [IntKind.wrap_i64]; omega
  go_enter Try.func24, Try.ntmps24
  go_wp2_with fail
  refine (in_is _ h1).mono ?_
  rintro e w1 ⟨rfl, rfl⟩
  go_wp2_with fail
  refine (in_is _ h2).mono ?_
  rintro e w1 ⟨rfl, rfl⟩
  go_wp2_with fail
  go_ret
  exact ⟨rfl, (Below.refl _ _).alloc (Nat.le_refl _) _⟩

set_option maxRecDepth 100000 in
set_option maxHeartbeats 1000000 in
theorem spEndOk_4 (nx ak gt : Int) (qa oa : Option Addr) (qc oc : Nat) (q o : List ByteArray) (w : World) (hq : Hid (TextsAt w qa q)) (ho : Hid (TextsAt w oa o)) (lq : q.length ≤ 1048576) (lo : o.length ≤ 1048576) (h1 : decide (0 ≤ ak ∧ ak ≤ 1000) = true) (h2 : decide (ak ≤ nx ∧ nx ≤ ak + 4) = true) (h3 : decide (30 < (q.length : Int)) = false) (h4 : decide ((q.length : Int) < nx - ak) = false) (h5 : decide (0 ≤ gt ∧ gt ≤ 1000) = false) :
    Calls Try.prog 24 #[.agg #[.int .i64 nx, .int .i64 ak, .slice qa q.length qc, .int .i64 gt, .slice oa o.length oc]] w fun e w' => e = .returned (.bool false) ∧ Below w.heap.size w w' := by
  have ha := of_decide_eq_true h1
  have wa : IntKind.i64.wrap (ak + 4) = ak + 4 := by rw [IntKind.wrap_i64]; omega
  have hn := of_decide_eq_true h2
  have wb : IntKind.i64.wrap (nx - ak) = nx - ak := by rw [IntKind.wrap_i64]; omega
  go_enter Try.func24, Try.ntmps24
  go_wp2_with fail
  refine (in_is _ h1).mono ?_
  rintro e w1 ⟨rfl, rfl⟩
  go_wp2_with fail
  refine (in_is _ h2).mono ?_
  rintro e w1 ⟨rfl, rfl⟩
  go_wp2_with fail
  refine (in_is _ h5).mono ?_
  rintro e w1 ⟨rfl, rfl⟩
  go_wp2_with fail
  go_ret
  exact ⟨rfl, (Below.refl _ _).alloc (Nat.le_refl _) _⟩

set_option maxRecDepth 100000 in
set_option maxHeartbeats 1000000 in
theorem spEndOk_5 (nx ak gt : Int) (qa oa : Option Addr) (qc oc : Nat) (q o : List ByteArray) (w : World) (hq : Hid (TextsAt w qa q)) (ho : Hid (TextsAt w oa o)) (lq : q.length ≤ 1048576) (lo : o.length ≤ 1048576) (h1 : decide (0 ≤ ak ∧ ak ≤ 1000) = true) (h2 : decide (ak ≤ nx ∧ nx ≤ ak + 4) = true) (h3 : decide (30 < (q.length : Int)) = false) (h4 : decide ((q.length : Int) < nx - ak) = false) (h5 : decide (0 ≤ gt ∧ gt ≤ 1000) = true) (h6 : decide ((o.length : Int) = gt) = false) :
    Calls Try.prog 24 #[.agg #[.int .i64 nx, .int .i64 ak, .slice qa q.length qc, .int .i64 gt, .slice oa o.length oc]] w fun e w' => e = .returned (.bool false) ∧ Below w.heap.size w w' := by
  have ha := of_decide_eq_true h1
  have wa : IntKind.i64.wrap (ak + 4) = ak + 4 := by rw [IntKind.wrap_i64]; omega
  have hn := of_decide_eq_true h2
  have wb : IntKind.i64.wrap (nx - ak) = nx - ak := by rw [IntKind.wrap_i64]; omega
  have h5n : ¬ (o.length : Int) = gt := of_decide_eq_false h6
  go_enter Try.func24, Try.ntmps24
  go_wp2_with fail
  refine (in_is _ h1).mono ?_
  rintro e w1 ⟨rfl, rfl⟩
  go_wp2_with fail
  refine (in_is _ h2).mono ?_
  rintro e w1 ⟨rfl, rfl⟩
  go_wp2_with fail
  refine (in_is _ h5).mono ?_
  rintro e w1 ⟨rfl, rfl⟩
  go_wp2_with fail
  go_ret
  exact ⟨rfl, (Below.refl _ _).alloc (Nat.le_refl _) _⟩

set_option maxRecDepth 100000 in
set_option maxHeartbeats 1000000 in
theorem spEndOk_6 (nx ak gt : Int) (qa oa : Option Addr) (qc oc : Nat) (q o : List ByteArray) (w : World) (hq : Hid (TextsAt w qa q)) (ho : Hid (TextsAt w oa o)) (lq : q.length ≤ 1048576) (lo : o.length ≤ 1048576) (h1 : decide (0 ≤ ak ∧ ak ≤ 1000) = true) (h2 : decide (ak ≤ nx ∧ nx ≤ ak + 4) = true) (h3 : decide (30 < (q.length : Int)) = false) (h4 : decide ((q.length : Int) < nx - ak) = false) (h5 : decide (0 ≤ gt ∧ gt ≤ 1000) = true) (h6 : decide ((o.length : Int) = gt) = true) :
    Calls Try.prog 24 #[.agg #[.int .i64 nx, .int .i64 ak, .slice qa q.length qc, .int .i64 gt, .slice oa o.length oc]] w fun e w' => e = .returned (.bool (fitB q && fitB o)) ∧ Below w.heap.size w w' := by
  have ha := of_decide_eq_true h1
  have wa : IntKind.i64.wrap (ak + 4) = ak + 4 := by rw [IntKind.wrap_i64]; omega
  have hn := of_decide_eq_true h2
  have wb : IntKind.i64.wrap (nx - ak) = nx - ak := by rw [IntKind.wrap_i64]; omega
  have h5n : (o.length : Int) = gt := of_decide_eq_true h6
  go_enter Try.func24, Try.ntmps24
  go_wp2_with fail
  refine (in_is _ h1).mono ?_
  rintro e w1 ⟨rfl, rfl⟩
  go_wp2_with fail
  refine (in_is _ h2).mono ?_
  rintro e w1 ⟨rfl, rfl⟩
  go_wp2_with fail
  refine (in_is _ h5).mono ?_
  rintro e w1 ⟨rfl, rfl⟩
  go_wp2_with fail
  have HB : Hid (Below w.heap.size w (w.alloc (Obj.cells #[Value.int IntKind.i64 nx, Value.int IntKind.i64 ak, Value.slice qa q.length qc, Value.int IntKind.i64 gt, Value.slice oa o.length oc] 32))) := (Below.refl _ _).alloc (Nat.le_refl _) _
  have HQ : Hid (TextsAt (w.alloc (Obj.cells #[Value.int IntKind.i64 nx, Value.int IntKind.i64 ak, Value.slice qa q.length qc, Value.int IntKind.i64 gt, Value.slice oa o.length oc] 32)) qa q) := hq.out.stays HB.out
  have HO : Hid (TextsAt (w.alloc (Obj.cells #[Value.int IntKind.i64 nx, Value.int IntKind.i64 ak, Value.slice qa q.length qc, Value.int IntKind.i64 gt, Value.slice oa o.length oc] 32)) oa o) := ho.out.stays HB.out
  have HE : Hid ((w.alloc (Obj.cells #[Value.int IntKind.i64 nx, Value.int IntKind.i64 ak, Value.slice qa q.length qc, Value.int IntKind.i64 gt, Value.slice oa o.length oc] 32)).heap[w.heap.size]? = some (.cells #[Value.int IntKind.i64 nx, Value.int IntKind.i64 ak, Value.slice qa q.length qc, Value.int IntKind.i64 gt, Value.slice oa o.length oc] 32 (0, 0))) := heap_alloc_new w _
  clear hq ho h1 h2 h3 h4 h5 h6 ha hn wa wb h5n
  generalize (w.alloc (Obj.cells #[Value.int IntKind.i64 nx, Value.int IntKind.i64 ak, Value.slice qa q.length qc, Value.int IntKind.i64 gt, Value.slice oa o.length oc] 32)) = W at HB HQ HO HE ⊢
  have c2 : W.cell? ⟨w.heap.size, 2, none⟩ = some (Value.slice qa q.length qc) := by rw [cell_of_row W w.heap.size 2 _ 32 (0, 0) HE.out]; rfl
  have c4 : W.cell? ⟨w.heap.size, 4, none⟩ = some (Value.slice oa o.length oc) := by rw [cell_of_row W w.heap.size 4 _ 32 (0, 0) HE.out]; rfl
  go_loop [3] (fun i => ∃ k : Nat, k ≤ q.length ∧ i = .int .i64 k ∧ Hid (∀ t ∈ q.take k, t.size ≤ 60)) (fun i => q.length - (intOf i).toNat)
  case atStart => exact ⟨0, Nat.zero_le _, rfl, fun t ht => by simp at ht⟩
  case round =>
    obtain ⟨k, hk, rfl, hst⟩ := hrel
    by_cases hlt : k < q.length
    · obtain ⟨b, off, rfl, hbb, hc⟩ := HQ.out k hlt
      obtain ⟨x, ht⟩ : ∃ x, x = q[k] := ⟨_, rfl⟩
      rw [← ht] at hc
      have HT : Hid (x = q[k]) := ht
      clear ht
      by_cases h1 : 60 < x.size
      · have hd : decide (60 < (x.size : Int)) = true := by simp; omega
        go_wp2
        go_ret
        exact ⟨by rw [fitB_bad hlt (by rw [← HT.out]; exact h1)]; rfl, HB.out⟩
      · have hd : decide (60 < (x.size : Int)) = false := by simp; omega
        go_wp2
        go_round
        case rel => exact ⟨k + 1, by omega, by go_num, fitB_step hst.out hlt (by rw [← HT.out]; omega)⟩
        case measure => simp [intOf]; omega
    · have HF : Hid (fitB q = true) := fitB_all hst.out (by omega)
      clear hst
      go_wp2_with fail
      go_loop [4] (fun i => ∃ k : Nat, k ≤ o.length ∧ i = .int .i64 k ∧ Hid (∀ t ∈ o.take k, t.size ≤ 60)) (fun i => o.length - (intOf i).toNat)
      case atStart => exact ⟨0, Nat.zero_le _, rfl, fun t ht => by simp at ht⟩
      case round =>
        obtain ⟨j, hj, rfl, hst⟩ := hrel
        by_cases hlt2 : j < o.length
        · obtain ⟨b, off, rfl, hbb, hc⟩ := HO.out j hlt2
          obtain ⟨x, ht⟩ : ∃ x, x = o[j] := ⟨_, rfl⟩
          rw [← ht] at hc
          have HT : Hid (x = o[j]) := ht
          clear ht
          by_cases h1 : 60 < x.size
          · have hd : decide (60 < (x.size : Int)) = true := by simp; omega
            go_wp2
            go_ret
            exact ⟨by rw [HF.out, fitB_bad hlt2 (by rw [← HT.out]; exact h1)]; rfl, HB.out⟩
          · have hd : decide (60 < (x.size : Int)) = false := by simp; omega
            go_wp2
            go_round
            case rel => exact ⟨j + 1, by omega, by go_num, fitB_step hst.out hlt2 (by rw [← HT.out]; omega)⟩
            case measure => simp [intOf]; omega
        · go_wp2
          go_ret
          exact ⟨by rw [HF.out, fitB_all hst.out (by omega)]; rfl, HB.out⟩

theorem spEndOk_any {v : Value} {e : En} (w : World) (h : EndR w v e) (lq : e.q.length ≤ 1048576) (lo : e.o.length ≤ 1048576) : Calls Try.prog 24 #[v] w fun r w' => r = .returned (.bool (okB e)) ∧ Below w.heap.size w w' := by
  obtain ⟨qa, qc, oa, oc, rfl, hq, ho⟩ := h
  obtain ⟨nx, ak, q, gt, o⟩ := e
  unfold okB
  dsimp only at *
  have h34 : decide (nx - ak ≤ (q.length : Int) ∧ (q.length : Int) ≤ 30) = (!decide (30 < (q.length : Int)) && !decide ((q.length : Int) < nx - ak)) := by
    rw [Bool.eq_iff_iff]
    simp
    omega
  rw [h34]
  clear h34
  cases h1 : decide (0 ≤ ak ∧ ak ≤ 1000) with
  | false => simpa using spEndOk_0 nx ak gt qa oa qc oc q o w hq ho lq lo h1
  | true =>
    cases h2 : decide (ak ≤ nx ∧ nx ≤ ak + 4) with
    | false => simpa using spEndOk_1 nx ak gt qa oa qc oc q o w hq ho lq lo h1 h2
    | true =>
      cases h3 : decide (30 < (q.length : Int)) with
      | true => simpa using spEndOk_2 nx ak gt qa oa qc oc q o w hq ho lq lo h1 h2 h3
      | false =>
        cases h4 : decide ((q.length : Int) < nx - ak) with
        | true => simpa using spEndOk_3 nx ak gt qa oa qc oc q o w hq ho lq lo h1 h2 h3 h4
        | false =>
          cases h5 : decide (0 ≤ gt ∧ gt ≤ 1000) with
          | false => simpa using spEndOk_4 nx ak gt qa oa qc oc q o w hq ho lq lo h1 h2 h3 h4 h5
          | true =>
            cases h6 : decide ((o.length : Int) = gt) with
            | false => simpa using spEndOk_5 nx ak gt qa oa qc oc q o w hq ho lq lo h1 h2 h3 h4 h5 h6
            | true =>
              simpa using spEndOk_6 nx ak gt qa oa qc oc q o w hq ho lq lo h1 h2 h3 h4 h5 h6
theorem spEndOk_is {v : Value} {e : En} {b : Bool} (w : World) (h : EndR w v e) (lq : e.q.length ≤ 1048576) (lo : e.o.length ≤ 1048576) (hb : okB e = b) : Calls Try.prog 24 #[v] w fun r w' => r = .returned (.bool b) ∧ Below w.heap.size w w' := by
  have := spEndOk_any w h lq lo
  rw [hb] at this
  exact this
end Go.Proofs.Ytohagaelenhebaa
