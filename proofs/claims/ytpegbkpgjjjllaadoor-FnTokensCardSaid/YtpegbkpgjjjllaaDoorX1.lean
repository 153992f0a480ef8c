/- The walks over both TokenText. -/
import Derived.Test.YtpegbkpgjjjllaaDoorPt
import Derived.Test.YtpegbkpgjjjllaaDoorV1
import Derived.Test.YtpegbkpgjjjllaaDoorS2
import Derived.Test.YtpegbkpgjjjllaaDoorT2
import Derived.Test.YtpegbkpgjjjllaaDoorT3
namespace Go.Proofs.YtpegbkpgjjjllaaDoor
open Go.RowKit Pl
set_option linter.unusedVariables false

theorem tokenOk_is {c r q a b : Int} {ao : Option Addr} {cap : Nat} {ws : List Int} {k : Bool} (w : World) (hx : Hid (IntsAt w ao ws)) (hl : ws.length ≤ 1048576) (h : tkB c r q a b ws = k) :
    Calls Tryd.prog 11 #[.agg #[.int .i64 c, .int .i64 r, .int .i64 q, .int .i64 a, .int .i64 b, .slice ao ws.length cap]] w fun e w' => e = .returned (.bool k) ∧ Below w.heap.size w w' := by rw [← h]; exact tokenOk_any c r q a b ao cap ws w hx hl
theorem spTokenOk_is {c r q a b : Int} {ao : Option Addr} {cap : Nat} {ws : List Int} {k : Bool} (w : World) (hx : Hid (IntsAt w ao ws)) (hl : ws.length ≤ 1048576) (h : tkB c r q a b ws = k) :
    Calls Tryd.prog 10 #[.agg #[.int .i64 c, .int .i64 r, .int .i64 q, .int .i64 a, .int .i64 b, .slice ao ws.length cap]] w fun e w' => e = .returned (.bool k) ∧ Below w.heap.size w w' := by rw [← h]; exact spTokenOk_any c r q a b ao cap ws w hx hl

set_option maxRecDepth 100000 in
set_option maxHeartbeats 1000000 in
theorem tokenText_no (c r q a b : Int) (ao : Option Addr) (cap : Nat) (ws : List Int) (w : World) (hx : Hid (IntsAt w ao ws)) (hl : ws.length ≤ 1048576) (h : Hid (tkB c r q a b ws = false)) :
    Calls Tryd.prog 8 #[.agg #[.int .i64 c, .int .i64 r, .int .i64 q, .int .i64 a, .int .i64 b, .slice ao ws.length cap]] w fun e w' => e = .returned (.tuple #[.string ByteArray.empty, .bool false]) ∧ Below w.heap.size w w' := by
  have HX : ∀ o, Hid (IntsAt (w.alloc o) ao ws) := fun o => hx.out.stays ((Below.refl _ _).alloc (Nat.le_refl _) _)
  go_enter Tryd.func8, Tryd.ntmps8
  go_wp2_with fail
  refine (tokenOk_is _ (HX _) hl h.out).mono ?_
  rintro e w1 ⟨rfl, hb1⟩
  go_wp2_with fail
  go_ret2
  exact ⟨rfl, ((Below.refl _ _).alloc (Nat.le_refl _) _).trans (hb1.mono (by simp))⟩
set_option maxRecDepth 100000 in
set_option maxHeartbeats 1000000 in
theorem spTokenText_no (c r q a b : Int) (ao : Option Addr) (cap : Nat) (ws : List Int) (w : World) (hx : Hid (IntsAt w ao ws)) (hl : ws.length ≤ 1048576) (h : Hid (tkB c r q a b ws = false)) :
    Calls Tryd.prog 16 #[.agg #[.int .i64 c, .int .i64 r, .int .i64 q, .int .i64 a, .int .i64 b, .slice ao ws.length cap]] w fun e w' => e = .returned (.tuple #[.string ByteArray.empty, .bool false]) ∧ Below w.heap.size w w' := by
  have HX : ∀ o, Hid (IntsAt (w.alloc o) ao ws) := fun o => hx.out.stays ((Below.refl _ _).alloc (Nat.le_refl _) _)
  go_enter Tryd.func16, Tryd.ntmps16
  go_wp2_with fail
  refine (spTokenOk_is _ (HX _) hl h.out).mono ?_
  rintro e w1 ⟨rfl, hb1⟩
  go_wp2_with fail
  go_ret2
  exact ⟨rfl, ((Below.refl _ _).alloc (Nat.le_refl _) _).trans (hb1.mono (by simp))⟩

theorem byteS_size (n : Nat) : (byteS n).size = 1 := by rw [byteS, strOfNums_size]; rfl
theorem varS_small {n : Nat} (h : n ≤ 1000000000) : (varS n).size ≤ 5 := by
  rw [rt_size, varS_list]; exact varL_len h

/-- what stands while a token's bytes are made. -/
theorem tk_step {W w w' : World} {g : Nat} {c r q a b : Int} {v : Value} (h : (w.cell? ⟨g, 0, none⟩ = some (.int .i64 c) ∧ w.cell? ⟨g, 1, none⟩ = some (.int .i64 r) ∧ w.cell? ⟨g, 2, none⟩ = some (.int .i64 q) ∧ w.cell? ⟨g, 3, none⟩ = some (.int .i64 a) ∧ w.cell? ⟨g, 4, none⟩ = some (.int .i64 b) ∧ w.cell? ⟨g, 5, none⟩ = some v) ∧ Hid (Below W.heap.size W w ∧ TokAt w g c r q a b v)) (hb : Below w.heap.size w w') :
    (w'.cell? ⟨g, 0, none⟩ = some (.int .i64 c) ∧ w'.cell? ⟨g, 1, none⟩ = some (.int .i64 r) ∧ w'.cell? ⟨g, 2, none⟩ = some (.int .i64 q) ∧ w'.cell? ⟨g, 3, none⟩ = some (.int .i64 a) ∧ w'.cell? ⟨g, 4, none⟩ = some (.int .i64 b) ∧ w'.cell? ⟨g, 5, none⟩ = some v) ∧ Hid (Below W.heap.size W w' ∧ TokAt w' g c r q a b v) := by
  obtain ⟨h1, h2⟩ := h
  obtain ⟨h3, h4⟩ := h2.out
  have h5 := h4.stays hb h4.lt
  exact ⟨h5.cells, ⟨h3.trans (hb.mono h3.size), h5⟩⟩

theorem fold_next (ns : List Nat) (s : ByteArray) (j : Nat) (h : j < ns.length) : (ns.take (j + 1)).foldl (fun s n => s ++ varS n) s = (ns.take j).foldl (fun s n => s ++ varS n) s ++ varS ns[j] := by
  rw [List.take_succ_eq_append_getElem h, List.foldl_append]; rfl

set_option maxRecDepth 100000 in
set_option maxHeartbeats 4000000 in
theorem tokenText_yes (c r q a b : Nat) (ns : List Nat) (ao : Option Addr) (cap : Nat) (ws : List Int) (w : World) (hx : Hid (IntsAt w ao ws)) (hws : Hid (ws = ns.map fun n : Nat => (n : Int))) (ho : Hid (TkOk c r q a b ns)) (ht : Hid (Tab w)) :
    Calls Tryd.prog 8 #[.agg #[.int .i64 c, .int .i64 r, .int .i64 q, .int .i64 a, .int .i64 b, .slice ao ws.length cap]] w fun e w' => e = .returned (.tuple #[.string (sealS (tokS c r q a b ns)), .bool true]) ∧ Below w.heap.size w w' := by
  obtain ⟨n1, n2, n3, n4, n5, n6, n7⟩ := ho.out.nats
  have hlen : ws.length = ns.length := by rw [hws.out]; simp
  have hl20 : ws.length ≤ 20 := by omega
  have N7 : Hid (∀ x ∈ ns, x ≤ 60) := n7
  have HLEN : Hid (ws.length = ns.length) := hlen
  have z1 := varS_small (n := r) (by omega)
  have z2 := varS_small (n := q) (by omega)
  have z3 := varS_small (n := a) (by omega)
  have z4 := varS_small (n := ws.length) (by omega)
  have y1 := byteS_size c
  have y2 := byteS_size b
  have m1 : ¬9223372036854775807 < 1 + (varS r).size := by omega
  have m2 : ¬9223372036854775807 < 1 + (varS r).size + (varS q).size := by omega
  have m3 : ¬9223372036854775807 < 1 + (varS r).size + (varS q).size + (varS a).size := by omega
  have m4 : ¬9223372036854775807 < 1 + (varS r).size + (varS q).size + (varS a).size + 1 := by omega
  have m5 : ¬9223372036854775807 < 1 + (varS r).size + (varS q).size + (varS a).size + 1 + (varS ws.length).size := by omega
  have hB : Hid (Below w.heap.size w (w.alloc (.cells #[.int .i64 c, .int .i64 r, .int .i64 q, .int .i64 a, .int .i64 b, .slice ao ws.length cap] 26))) := (Below.refl _ _).alloc (Nat.le_refl _) _
  have HT : Hid (TokAt (w.alloc (.cells #[.int .i64 c, .int .i64 r, .int .i64 q, .int .i64 a, .int .i64 b, .slice ao ws.length cap] 26)) w.heap.size c r q a b (.slice ao ws.length cap)) := heap_alloc_new w _
  have hX : Hid (IntsAt (w.alloc (.cells #[.int .i64 c, .int .i64 r, .int .i64 q, .int .i64 a, .int .i64 b, .slice ao ws.length cap] 26)) ao ws) := hx.out.stays hB.out
  have HK : Hid (tkB c r q a b ws = true) := by show _ = _; rw [hws.out]; exact ho.out
  clear n7 hlen
  go_enter Tryd.func8, Tryd.ntmps8
  go_wp2_with fail
  generalize w.alloc (.cells #[.int .i64 c, .int .i64 r, .int .i64 q, .int .i64 a, .int .i64 b, .slice ao ws.length cap] 26) = W0 at *
  refine (tokenOk_is _ hX (by omega) HK.out).mono ?_
  rintro e w1 ⟨rfl, hb1⟩
  have T1 := HT.out.stays hb1 HT.out.lt
  have HI : (w1.drew.cell? ⟨w.heap.size, 0, none⟩ = some (.int .i64 c) ∧ w1.drew.cell? ⟨w.heap.size, 1, none⟩ = some (.int .i64 r) ∧ w1.drew.cell? ⟨w.heap.size, 2, none⟩ = some (.int .i64 q) ∧ w1.drew.cell? ⟨w.heap.size, 3, none⟩ = some (.int .i64 a) ∧ w1.drew.cell? ⟨w.heap.size, 4, none⟩ = some (.int .i64 b) ∧ w1.drew.cell? ⟨w.heap.size, 5, none⟩ = some (.slice ao ws.length cap)) ∧ Hid (Below w.heap.size w w1.drew ∧ TokAt w1.drew w.heap.size c r q a b (.slice ao ws.length cap)) :=
    ⟨T1.cells, (hB.out.trans (hb1.mono hB.out.size)).drew, T1⟩
  clear hb1 T1 HT hX hB HK
  go_wp2_with fail
  go_region_held3 (fun w' => (w'.cell? ⟨w.heap.size, 0, none⟩ = some (.int .i64 c) ∧ w'.cell? ⟨w.heap.size, 1, none⟩ = some (.int .i64 r) ∧ w'.cell? ⟨w.heap.size, 2, none⟩ = some (.int .i64 q) ∧ w'.cell? ⟨w.heap.size, 3, none⟩ = some (.int .i64 a) ∧ w'.cell? ⟨w.heap.size, 4, none⟩ = some (.int .i64 b) ∧ w'.cell? ⟨w.heap.size, 5, none⟩ = some (.slice ao ws.length cap)) ∧ Hid (Below w.heap.size w w' ∧ TokAt w' w.heap.size c r q a b (.slice ao ws.length cap))) (first | exact HI | assumption) (first | (go_at_call_of 24 (Value.int IntKind.i64 (r : Int)); refine (varOf_any r _ (by omega)).mono ?_; rintro e w3 ⟨rfl, hb3⟩; have hk3 := tk_step (W := w) (by assumption) hb3) | (go_at_call_of 24 (Value.int IntKind.i64 (q : Int)); refine (varOf_any q _ (by omega)).mono ?_; rintro e w4 ⟨rfl, hb4⟩; have hk4 := tk_step (W := w) (by assumption) hb4) | (go_at_call_of 24 (Value.int IntKind.i64 (a : Int)); refine (varOf_any a _ (by omega)).mono ?_; rintro e w5 ⟨rfl, hb5⟩; have hk5 := tk_step (W := w) (by assumption) hb5) | (go_at_call_of 23 (Value.int IntKind.i64 (c : Int)); refine (byteOf_any c _ (by omega)).mono ?_; rintro e w6 ⟨rfl, hb6⟩; have hk6 := tk_step (W := w) (by assumption) hb6) | (go_at_call_of 23 (Value.int IntKind.i64 (b : Int)); refine (byteOf_any b _ (by omega)).mono ?_; rintro e w7 ⟨rfl, hb7⟩; have hk7 := tk_step (W := w) (by assumption) hb7))
  obtain ⟨hB7, hT7⟩ := hk7.2.out
  have B7 : Hid (Below w.heap.size w w7) := hB7
  have T7 : Hid (TokAt w7 w.heap.size c r q a b (.slice ao ws.length cap)) := hT7
  obtain ⟨c0, c1, c2, c3, c4, c5⟩ := hT7.cells
  clear hk3 hk4 hk5 hk6 hk7 HI hB7 hT7 hb3 hb4 hb5 hb6 hb7 c0 c1 c2 c3 c4
  go_wp2_with fail
  refine (varOf_any ws.length _ (by omega)).mono ?_
  rintro e w8 ⟨rfl, hb8⟩
  have B8 : Hid (Below w.heap.size w w8) := B7.out.trans (hb8.mono B7.out.size)
  have T8 : Hid (TokAt w8 w.heap.size c r q a b (.slice ao ws.length cap)) := T7.out.stays hb8 T7.out.lt
  clear c5 hb8 B7 T7
  obtain ⟨c0, c1, c2, c3, c4, c5⟩ := T8.out.cells
  clear c0 c1 c2 c3 c4
  go_wp2_with fail
  clear c5
  have hH : Hid (byteS c ++ varS r ++ varS q ++ varS a ++ byteS b ++ varS ws.length = headS c r q a b ns.length) := by show _ = _; rw [HLEN.out]; rfl
  have hS0 : (byteS c ++ varS r ++ varS q ++ varS a ++ byteS b ++ varS ws.length).size ≤ 30 := by simp only [ByteArray.size_append]; omega
  clear m1 m2 m3 m4 m5 z1 z2 z3 z4 y1 y2
  generalize byteS c ++ varS r ++ varS q ++ varS a ++ byteS b ++ varS ws.length = T0 at *
  go_loopw [4, 38] (fun s i wr => ∃ (j : Nat) (S : ByteArray), j ≤ ws.length ∧ s = .string S ∧ i = .int .i64 j ∧ S.size ≤ 30 + 5 * j ∧ Hid (S = (ns.take j).foldl (fun s n => s ++ varS n) T0) ∧ Hid (Below w.heap.size w wr)) (fun _ i _ => ws.length - (intOf i).toNat)
  case atStart => exact ⟨0, T0, Nat.zero_le _, rfl, rfl, by omega, rfl, B8.out⟩
  case round =>
    clear B8 T8
    obtain ⟨j, S, hj, rfl, rfl, hS, hSS, hB⟩ := hrel
    by_cases hlt : j < ws.length
    · obtain ⟨bb, off, hao, hbb, hc⟩ := hx.out j hlt
      have hjn : j < ns.length := by have := HLEN.out; omega
      have hv : ws[j] = ((ns[j] : Nat) : Int) := by
        have := hws.out
        subst this
        simp
      rw [hv] at hc
      have hc' : wr.cell? ⟨bb, off + j, none⟩ = some (.int .i64 (ns[j] : Nat)) := (hB.out.cell (p := ⟨bb, off + j, none⟩) hbb).trans hc
      have hn60 := N7.out _ (List.getElem_mem hjn)
      generalize hx0 : ns[j] = x at *
      have HX0 : Hid (ns[j] = x) := hx0
      clear hc hv hx0
      subst hao
      have zx := varS_small (n := x) (by omega)
      have mx : ¬9223372036854775807 < S.size + (varS x).size := by omega
      go_wp2_with fail
      refine (varOf_any x _ (by omega)).mono ?_
      rintro e w9 ⟨rfl, hb9⟩
      have B9 : Hid (Below w.heap.size w w9) := hB.out.trans (hb9.mono hB.out.size)
      clear hb9 hc'
      go_wp2_with fail
      go_roundw
      case rel => exact ⟨j + 1, _, by omega, rfl, by go_num, by rw [ByteArray.size_append]; omega, (by show _ = _; rw [fold_next ns T0 j hjn, ← hSS.out, HX0.out]), B9.out⟩
      case measure => simp [intOf]; omega
    · have hjn : j = ns.length := by have := HLEN.out; omega
      have HF : Hid (S = tokS c r q a b ns) := by
        show _ = _
        have := hSS.out
        rw [hjn, List.take_of_length_le (Nat.le_refl _), hH.out] at this
        exact this
      have HTb : Hid (Tab wr) := ht.out.below hB.out
      go_wp2_with fail
      refine (implSeal_any S _ (by omega) HTb).mono ?_
      rintro e w9 ⟨rfl, hb9⟩
      go_wp2_with fail
      go_ret2
      exact ⟨by rw [HF.out]; rfl, hB.out.trans (hb9.mono hB.out.size)⟩
end Go.Proofs.YtpegbkpgjjjllaaDoor
