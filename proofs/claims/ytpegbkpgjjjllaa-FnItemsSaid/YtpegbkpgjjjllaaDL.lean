/- The law on items. -/
import Derived.Test.YtpegbkpgjjjllaaDZ
namespace Go.Proofs.Ytpegbkpgjjjllaa
open Go.RowKit Pl
set_option linter.unusedVariables false

/-- what stands in the blocks of three items. -/
theorem itB_is {q f l : Int} {t : ByteArray} {b : Bool} (w : World) (h : itB q f l t = b) :
    Calls Try.prog 14 #[.agg #[.int .i64 q, .int .i64 f, .int .i64 l, .string t]] w fun e w' => e = .returned (.bool b) ∧ Below w.heap.size w w' := by rw [← h]; exact itemOk_any q f l t w
theorem spItB_is {q f l : Int} {t : ByteArray} {b : Bool} (w : World) (h : itB q f l t = b) :
    Calls Try.prog 13 #[.agg #[.int .i64 q, .int .i64 f, .int .i64 l, .string t]] w fun e w' => e = .returned (.bool b) ∧ Below w.heap.size w w' := by rw [← h]; exact spItemOk_any q f l t w

/-- what is answered for y: its bytes are the text. -/
theorem again_two {s : ByteArray} {q f l : Nat} {t : ByteArray} {r : Bool} (h : AnsI s q f l t r) : ∃ T : ByteArray, ∃ b : Bool, (r = true → T = s) ∧ ∀ w, Calls Try.prog 11 #[.agg #[.int .i64 q, .int .i64 f, .int .i64 l, .string t]] w fun e w' => e = .returned (.tuple #[.string T, .bool b]) ∧ Below w.heap.size w w' := by
  rcases h with ⟨rfl, h1, h2⟩ | ⟨rfl, rfl, rfl, rfl, rfl, h3⟩
  · exact ⟨itemS q f l t, true, fun _ => rt_ext (by rw [itemS_list, h2]), fun w => itemText_yes q f l t w h1⟩
  · obtain ⟨T, b, _, _, _, h4, _⟩ := itemText_two ((0 : Nat) : Int) ((0 : Nat) : Int) ((0 : Nat) : Int) ByteArray.empty
    exact ⟨T, b, (fun e => Bool.noConfusion e), h4⟩

set_option maxRecDepth 100000 in
set_option maxHeartbeats 4000000 in
theorem lawItems (w : World) (n cap : Nat) (ao : Option Addr) (hk : CodeAt w w.heap.size ao n) :
    Calls Try.prog 3 #[.slice ao n cap] w fun e w' => e = .returned (.bool true) ∧ Below w.heap.size w w' := by
  by_cases hl : 1048576 < n
  · go_enter Try.func3, Try.ntmps3
    go_wp2_with fail
    refine (big_any w n cap ao true (by simp; omega)).mono ?_
    rintro e w1 ⟨rfl, rfl⟩
    go_wp2_with fail
    go_ret
    exact ⟨rfl, Below.refl _ _⟩
  have hn : n ≤ 1048576 := by omega
  have HK : Hid (CodeAt w w.heap.size ao n) := hk
  clear hl hk
  go_enter Try.func3, Try.ntmps3
  go_wp2_with fail
  refine (big_any w n cap ao false (by simp; omega)).mono ?_
  rintro e w1 ⟨rfl, rfl⟩
  go_wp2_with fail
  refine (drawItem_any w1 n cap ao hn HK).mono ?_
  rintro e w2 ⟨⟨q, f, l, t, ht, rfl⟩, hb2⟩
  have M0 : Hid (ItAt (w2.alloc (.cells #[.int .i64 q, .int .i64 f, .int .i64 l, .string t] 25)) w2.heap.size q f l t) := heap_alloc_new w2 _
  have B0 : Hid (Below w1.heap.size w1 (w2.alloc (.cells #[.int .i64 q, .int .i64 f, .int .i64 l, .string t] 25))) := hb2.alloc hb2.size _
  obtain ⟨m0, m1, m2, m3⟩ := M0.out.cells
  clear hb2
  go_wp2_with fail
  generalize w2.alloc (.cells #[.int .i64 q, .int .i64 f, .int .i64 l, .string t] 25) = W2 at *
  obtain ⟨T, b, hT, hib, hcase, himpl, _⟩ := itemText_two q f l t
  have HIMPL : Hid _ := himpl
  have HIB : Hid (itB q f l t = b) := hib
  have HC : Hid _ := hcase
  clear himpl hib hcase m0 m1 m2 m3
  refine (HIMPL.out _).mono ?_
  rintro e w3 ⟨rfl, hb3⟩
  have M3 : Hid (ItAt w3 w2.heap.size q f l t) := M0.out.stays hb3 M0.out.lt
  have B3 : Hid (Below w1.heap.size w1 w3) := B0.out.trans (hb3.mono B0.out.size)
  clear hb3 M0 B0 HIMPL
  go_wp2_with fail
  refine (readItem_any T _ (by omega)).mono ?_
  rintro e w4 ⟨q', f', l', t', r, rfl, ha4, hb4⟩
  have A4 : Hid (AnsI T q' f' l' t' r) := ha4
  have X4 : Hid (ItAt (w4.alloc (.cells #[.int .i64 q', .int .i64 f', .int .i64 l', .string t'] 25)) w4.heap.size q' f' l' t') := heap_alloc_new w4 _
  have D4 := hb4.trans ((Below.refl _ _).alloc hb4.size (.cells #[.int .i64 q', .int .i64 f', .int .i64 l', .string t'] 25))
  have M4 : Hid (ItAt (w4.alloc (.cells #[.int .i64 q', .int .i64 f', .int .i64 l', .string t'] 25)) w2.heap.size q f l t) := M3.out.stays D4 M3.out.lt
  have B4 : Hid (Below w1.heap.size w1 (w4.alloc (.cells #[.int .i64 q', .int .i64 f', .int .i64 l', .string t'] 25))) := B3.out.trans (D4.mono B3.out.size)
  obtain ⟨m0, m1, m2, m3⟩ := M4.out.cells
  clear hb4 ha4 D4 M3 B3
  go_wp2_with fail
  generalize w4.alloc (.cells #[.int .i64 q', .int .i64 f', .int .i64 l', .string t'] 25) = W4 at *
  refine (spItB_is _ HIB.out).mono ?_
  rintro e w5 ⟨rfl, hb5⟩
  have M5 : Hid (ItAt w5 w2.heap.size q f l t) := M4.out.stays hb5 M4.out.lt
  have X5 : Hid (ItAt w5 w4.heap.size q' f' l' t') := X4.out.stays hb5 X4.out.lt
  have B5 : Hid (Below w1.heap.size w1 w5) := B4.out.trans (hb5.mono B4.out.size)
  clear hb5 m0 m1 m2 m3 M4 X4 B4
  obtain ⟨m0, m1, m2, m3⟩ := M5.out.cells
  cases b with
  | true =>
    go_wp2_with fail
    refine (itB_is _ HIB.out).mono ?_
    rintro e w6 ⟨rfl, hb6⟩
    have M6 : Hid (ItAt w6 w2.heap.size q f l t) := M5.out.stays hb6 M5.out.lt
    have X6 : Hid (ItAt w6 w4.heap.size q' f' l' t') := X5.out.stays hb6 X5.out.lt
    have B6 : Hid (Below w1.heap.size w1 w6) := B5.out.trans (hb6.mono B5.out.size)
    clear hb6 m0 m1 m2 m3 M5 X5 B5
    obtain ⟨m0, m1, m2, m3⟩ := M6.out.cells
    obtain ⟨x0, x1, x2, x3⟩ := X6.out.cells
    have hsame : r = true ∧ (q' : Int) = q ∧ (f' : Int) = f ∧ (l' : Int) = l ∧ t' = t := by
      rcases HC.out with ⟨_, Q, F, L, rfl, rfl, rfl, ho, rfl⟩ | ⟨h, _⟩
      · obtain ⟨rfl, rfl, rfl, rfl, rfl⟩ := A4.out.same (.inl ⟨rfl, ho, itemS_list Q F L t⟩)
        exact ⟨rfl, rfl, rfl, rfl, rfl⟩
      · cases h
    obtain ⟨rfl, h1, h2, h3, rfl⟩ := hsame
    rw [h1] at x0
    rw [h2] at x1
    rw [h3] at x2
    clear h1 h2 h3 HC HIB A4
    go_wp2_with fail
    have K6 : Hid (CodeAt w6 w6.heap.size ao n) := code_up (HK.out.stays B6.out (Nat.le_refl _)) B6.out.size
    refine (drawRItem_any w6 n cap ao hn K6).mono ?_
    rintro e w7 ⟨⟨u, hu, rfl⟩, hb7⟩
    have B7 : Hid (Below w1.heap.size w1 w7) := B6.out.trans (hb7.mono B6.out.size)
    clear hb7 K6 B6
    go_wp2_with fail
    refine (readItem_any u _ (by omega)).mono ?_
    rintro e w8 ⟨a8, b8, c8, d8, r8, rfl, ha8, hb8⟩
    have A8 : Hid (AnsI u a8 b8 c8 d8 r8) := ha8
    have Y8 : Hid (ItAt (w8.alloc (.cells #[.int .i64 a8, .int .i64 b8, .int .i64 c8, .string d8] 25)) w8.heap.size a8 b8 c8 d8) := heap_alloc_new w8 _
    have B8 : Hid (Below w1.heap.size w1 (w8.alloc (.cells #[.int .i64 a8, .int .i64 b8, .int .i64 c8, .string d8] 25))) := B7.out.trans ((hb8.trans ((Below.refl _ _).alloc hb8.size _)).mono B7.out.size)
    clear hb8 ha8 B7
    go_wp2_with fail
    generalize w8.alloc (.cells #[.int .i64 a8, .int .i64 b8, .int .i64 c8, .string d8] 25) = W8 at *
    refine (spReadItem_any u _ (by omega)).mono ?_
    rintro e w9 ⟨a9, b9, c9, d9, r9, rfl, ha9, hb9⟩
    obtain ⟨rfl, rfl, rfl, rfl, rfl⟩ := A8.out.same ha9
    have D9 := hb9.trans ((Below.refl _ _).alloc hb9.size (.cells #[.int .i64 a8, .int .i64 b8, .int .i64 c8, .string d8] 25))
    have Y9 : Hid (ItAt (w9.alloc (.cells #[.int .i64 a8, .int .i64 b8, .int .i64 c8, .string d8] 25)) w8.heap.size a8 b8 c8 d8) := Y8.out.stays D9 Y8.out.lt
    have B9 : Hid (Below w1.heap.size w1 (w9.alloc (.cells #[.int .i64 a8, .int .i64 b8, .int .i64 c8, .string d8] 25))) := B8.out.trans (D9.mono B8.out.size)
    obtain ⟨T9, g9, hT9, himpl9⟩ := again_two A8.out
    have HI9 : Hid _ := himpl9
    have HT9 : Hid (r8 = true → T9 = u) := hT9
    obtain ⟨y0, y1, y2, y3⟩ := Y9.out.cells
    clear hb9 ha9 D9 Y8 B8 A8 himpl9 hT9
    go_wp2_with fail
    generalize w9.alloc (.cells #[.int .i64 a8, .int .i64 b8, .int .i64 c8, .string d8] 25) = W9 at *
    refine (HI9.out _).mono ?_
    rintro e w10 ⟨rfl, hb10⟩
    have B10 : Hid (Below w1.heap.size w1 w10) := B9.out.trans (hb10.mono B9.out.size)
    clear hb10 Y9 B9 HI9 y0 y1 y2 y3
    cases r8 with
    | true =>
      obtain rfl := HT9.out rfl
      go_wp2_with fail
      go_ret
      exact ⟨rfl, B10.out⟩
    | false =>
      go_wp2_with fail
      go_ret
      exact ⟨rfl, B10.out⟩
  | false =>
    go_wp2_with fail
    refine (itB_is _ HIB.out).mono ?_
    rintro e w6 ⟨rfl, hb6⟩
    have B6 : Hid (Below w1.heap.size w1 w6) := B5.out.trans (hb6.mono B5.out.size)
    clear hb6 m0 m1 m2 m3 M5 X5 B5
    go_wp2_with fail
    have K6 : Hid (CodeAt w6 w6.heap.size ao n) := code_up (HK.out.stays B6.out (Nat.le_refl _)) B6.out.size
    refine (drawRItem_any w6 n cap ao hn K6).mono ?_
    rintro e w7 ⟨⟨u, hu, rfl⟩, hb7⟩
    have B7 : Hid (Below w1.heap.size w1 w7) := B6.out.trans (hb7.mono B6.out.size)
    clear hb7 K6 B6
    go_wp2_with fail
    refine (readItem_any u _ (by omega)).mono ?_
    rintro e w8 ⟨a8, b8, c8, d8, r8, rfl, ha8, hb8⟩
    have A8 : Hid (AnsI u a8 b8 c8 d8 r8) := ha8
    have Y8 : Hid (ItAt (w8.alloc (.cells #[.int .i64 a8, .int .i64 b8, .int .i64 c8, .string d8] 25)) w8.heap.size a8 b8 c8 d8) := heap_alloc_new w8 _
    have B8 : Hid (Below w1.heap.size w1 (w8.alloc (.cells #[.int .i64 a8, .int .i64 b8, .int .i64 c8, .string d8] 25))) := B7.out.trans ((hb8.trans ((Below.refl _ _).alloc hb8.size _)).mono B7.out.size)
    clear hb8 ha8 B7
    go_wp2_with fail
    generalize w8.alloc (.cells #[.int .i64 a8, .int .i64 b8, .int .i64 c8, .string d8] 25) = W8 at *
    refine (spReadItem_any u _ (by omega)).mono ?_
    rintro e w9 ⟨a9, b9, c9, d9, r9, rfl, ha9, hb9⟩
    obtain ⟨rfl, rfl, rfl, rfl, rfl⟩ := A8.out.same ha9
    have D9 := hb9.trans ((Below.refl _ _).alloc hb9.size (.cells #[.int .i64 a8, .int .i64 b8, .int .i64 c8, .string d8] 25))
    have Y9 : Hid (ItAt (w9.alloc (.cells #[.int .i64 a8, .int .i64 b8, .int .i64 c8, .string d8] 25)) w8.heap.size a8 b8 c8 d8) := Y8.out.stays D9 Y8.out.lt
    have B9 : Hid (Below w1.heap.size w1 (w9.alloc (.cells #[.int .i64 a8, .int .i64 b8, .int .i64 c8, .string d8] 25))) := B8.out.trans (D9.mono B8.out.size)
    obtain ⟨T9, g9, hT9, himpl9⟩ := again_two A8.out
    have HI9 : Hid _ := himpl9
    have HT9 : Hid (r8 = true → T9 = u) := hT9
    obtain ⟨y0, y1, y2, y3⟩ := Y9.out.cells
    clear hb9 ha9 D9 Y8 B8 A8 himpl9 hT9
    go_wp2_with fail
    generalize w9.alloc (.cells #[.int .i64 a8, .int .i64 b8, .int .i64 c8, .string d8] 25) = W9 at *
    refine (HI9.out _).mono ?_
    rintro e w10 ⟨rfl, hb10⟩
    have B10 : Hid (Below w1.heap.size w1 w10) := B9.out.trans (hb10.mono B9.out.size)
    clear hb10 Y9 B9 HI9 y0 y1 y2 y3
    cases r8 with
    | true =>
      obtain rfl := HT9.out rfl
      go_wp2_with fail
      go_ret
      exact ⟨rfl, B10.out⟩
    | false =>
      go_wp2_with fail
      go_ret
      exact ⟨rfl, B10.out⟩
end Go.Proofs.Ytpegbkpgjjjllaa
