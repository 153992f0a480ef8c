/- The walks over the draws that the law on items begins with. -/
import Derived.Test.YtpegbkpgjjjllaaDY
namespace Go.Proofs.Ytpegbkpgjjjllaa
open Go.RowKit Pl
set_option linter.unusedVariables false

theorem code_up {w : World} {B B' n : Nat} {ao : Option Addr} (h : CodeAt w B ao n) (hB : B ≤ B') : Hid (CodeAt w B' ao n) := by
  intro i hi
  obtain ⟨b, off, z, h1, h2, h3⟩ := h i hi
  exact ⟨b, off, z, h1, Nat.lt_of_lt_of_le h2 hB, h3⟩

set_option maxRecDepth 100000 in
set_option maxHeartbeats 2000000 in
theorem drawItem_any (w : World) (n cap : Nat) (ao : Option Addr) (hn : n ≤ 1048576) (hk : Hid (CodeAt w w.heap.size ao n)) :
    Calls Try.prog 10 #[.slice ao n cap] w fun e w' => (∃ (q f l : Int) (t : ByteArray), t.size ≤ 61 ∧ e = .returned (.agg #[.int .i64 q, .int .i64 f, .int .i64 l, .string t])) ∧ Below w.heap.size w w' := by
  have HB0 : Hid (Below w.heap.size w (w.alloc (.cells #[.int .i64 0, .int .i64 0, .int .i64 0, .string ⟨#[]⟩] 25))) := (Below.refl _ _).alloc (Nat.le_refl _) _
  have I0 : Hid (ItAt (w.alloc (.cells #[.int .i64 0, .int .i64 0, .int .i64 0, .string ⟨#[]⟩] 25)) w.heap.size 0 0 0 ByteArray.empty) := heap_alloc_new w _
  go_enter Try.func10, Try.ntmps10
  go_wp2_with fail
  generalize w.alloc (.cells #[.int .i64 0, .int .i64 0, .int .i64 0, .string ⟨#[]⟩] 25) = W0 at *
  have hW0 := I0.out.lt
  have K0 : Hid (CodeAt W0 w.heap.size ao n) := hk.out.stays HB0.out (Nat.le_refl _)
  refine (new_any W0 n cap ao hn (code_up K0.out (Nat.le_of_lt hW0))).mono ?_
  rintro e w1 ⟨rfl, hc1, hb1, hs1⟩
  have I1 : Hid (ItAt w1 w.heap.size 0 0 0 ByteArray.empty) := I0.out.stays hb1 hW0
  have D1 : Hid (Drw w1 w1 w.heap.size W0.heap.size ao n cap) := Drw.start hc1.out (K0.out.stays hb1 (Nat.le_of_lt hW0))
  have B1 : Hid (Below w.heap.size w w1) := HB0.out.trans (hb1.mono HB0.out.size)
  clear hc1 hb1 I0 K0 HB0 hk
  go_wp2_with fail
  generalize W0.heap.size = gc at *
  refine (anyItem_any w1 w1 w.heap.size gc n cap ao hn (by omega) D1).mono ?_
  rintro e w2 ⟨⟨q, f, l, t, ht, rfl⟩, hd2⟩
  have I2 : Hid (ItAt w2 w.heap.size 0 0 0 ByteArray.empty) := I1.out.keep hd2.out.2.2 (by omega)
  have B2 : Hid (Below w.heap.size w w2) := B1.out.trans (hd2.out.2.2.below (by omega) B1.out.size)
  clear hd2 D1 I1 B1
  obtain ⟨c0, c1, c2, c3⟩ := I2.out.cells
  have z0 := I2.out.frozen 0
  have z1 := I2.out.frozen 1
  have z2 := I2.out.frozen 2
  have z3 := I2.out.frozen 3
  go_wp2_with fail
  have I3 := I2.out.agg q f l t
  have B3 := B2.out.trans ((it_turn (w := w2) (g := w.heap.size) q f l t).below (Nat.le_refl _))
  generalize ((((w2.setCell ⟨w.heap.size, 0, none⟩ (.int .i64 q)).setCell ⟨w.heap.size, 1, none⟩ (.int .i64 f)).setCell ⟨w.heap.size, 2, none⟩ (.int .i64 l)).setCell ⟨w.heap.size, 3, none⟩ (.string t)) = W3 at *
  obtain ⟨q0, q1, q2, q3⟩ := I3.cells
  refine bodyPost_ret (v := .agg #[.int .i64 q, .int .i64 f, .int .i64 l, .string t]) (by simp [results, Try.results10, go_sem, q0, q1, q2, q3]) rfl ?_
  exact ⟨⟨_, _, _, t, ht, rfl⟩, B3⟩

theorem itemS_size {q f l : Nat} {t : ByteArray} (h : ItOk q f l t) : (itemS q f l t).size ≤ 80 := by
  have n := h.nats
  have z1 := varS_small (n := q) (by omega)
  have z2 := byteS_size f
  have z3 := byteS_size l
  have z4 := varS_small (n := t.size) (by omega)
  unfold itemS
  simp only [ByteArray.size_append]
  omega

/-- both ItemTexts, at whatever item. -/
theorem itemText_two (q f l : Int) (t : ByteArray) : ∃ (T : ByteArray) (b : Bool), T.size ≤ 80 ∧ itB q f l t = b ∧ ((b = true ∧ ∃ q' f' l' : Nat, q = q' ∧ f = f' ∧ l = l' ∧ ItOk q' f' l' t ∧ T = itemS q' f' l' t) ∨ (b = false ∧ T = ByteArray.empty)) ∧
    (∀ w, Calls Try.prog 11 #[.agg #[.int .i64 q, .int .i64 f, .int .i64 l, .string t]] w fun e w' => e = .returned (.tuple #[.string T, .bool b]) ∧ Below w.heap.size w w') ∧
    (∀ w, Calls Try.prog 29 #[.agg #[.int .i64 q, .int .i64 f, .int .i64 l, .string t]] w fun e w' => e = .returned (.tuple #[.string T, .bool b]) ∧ Below w.heap.size w w') := by
  by_cases h : ItOk q f l t
  · have h' := h
    unfold ItOk at h'
    obtain ⟨Q, rfl⟩ : ∃ Q : Nat, q = Q := ⟨q.toNat, by omega⟩
    obtain ⟨F, rfl⟩ : ∃ F : Nat, f = F := ⟨f.toNat, by omega⟩
    obtain ⟨L, rfl⟩ : ∃ L : Nat, l = L := ⟨l.toNat, by omega⟩
    exact ⟨itemS Q F L t, true, itemS_size h, itB_yes h, .inl ⟨rfl, Q, F, L, rfl, rfl, rfl, h, rfl⟩, fun w => itemText_yes Q F L t w h, fun w => spItemText_yes Q F L t w h⟩
  · exact ⟨ByteArray.empty, false, by decide, itB_no h, .inr ⟨rfl, rfl⟩, fun w => itemText_no q f l t w h, fun w => spItemText_no q f l t w h⟩

set_option maxRecDepth 100000 in
set_option maxHeartbeats 2000000 in
theorem drawRItem_any (w : World) (n cap : Nat) (ao : Option Addr) (hn : n ≤ 1048576) (hk : Hid (CodeAt w w.heap.size ao n)) :
    Calls Try.prog 15 #[.slice ao n cap] w fun e w' => (∃ t : ByteArray, t.size ≤ 257 ∧ e = .returned (.string t)) ∧ Below w.heap.size w w' := by
  go_enter Try.func15, Try.ntmps15
  go_wp2_with fail
  refine (new_any w n cap ao hn hk).mono ?_
  rintro e w1 ⟨rfl, hc1, hb1, hs1⟩
  have D1 : Hid (Drw w1 w1 w.heap.size w.heap.size ao n cap) := Drw.start hc1.out (hk.out.stays hb1 (Nat.le_refl _))
  have B1 : Hid (Below w.heap.size w w1) := hb1
  clear hc1 hb1 hk
  go_wp2_with fail
  refine (anyItem_any w1 w1 w.heap.size w.heap.size n cap ao hn (Nat.le_refl _) D1).mono ?_
  rintro e w2 ⟨⟨q, f, l, t, ht, rfl⟩, hd2⟩
  clear D1
  obtain ⟨T, b, hT, _, _, _, hsp⟩ := itemText_two q f l t
  have HSP : Hid _ := hsp
  clear hsp
  go_wp2_with fail
  refine (HSP.out _).mono ?_
  rintro e w3 ⟨rfl, hb3⟩
  have D3 : Hid (Drw w1 w3 w.heap.size w.heap.size ao n cap) := hd2.out.step (Nat.le_refl _) hb3
  clear hd2 hb3 HSP
  go_wp2_with fail
  refine (spoilt_any w1 w3 w.heap.size w.heap.size n cap ao T hn (Nat.le_refl _) (by omega) D3).mono ?_
  rintro e w4 ⟨⟨u, hu, rfl⟩, hd4⟩
  clear D3
  go_wp2_with fail
  go_ret
  exact ⟨⟨u, hu, rfl⟩, B1.out.trans (hd4.out.2.2.below (Nat.le_refl _) B1.out.size)⟩
end Go.Proofs.Ytpegbkpgjjjllaa
