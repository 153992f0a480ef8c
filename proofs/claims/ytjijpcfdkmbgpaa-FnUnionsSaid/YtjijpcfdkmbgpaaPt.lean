/- The walks over both PutItem. -/
import Derived.Test.YtjijpcfdkmbgpaaPu
namespace Go.Proofs.Ytjijpcfdkmbgpaa
open Go.RowKit Pl
set_option linter.unusedVariables false

/-- what PutItem answers. -/
def putP (ts : List It) (y : It) : List It := if iGo 0 ts = true ∧ itB y.1 y.2.1 y.2.2.1 y.2.2.2 = true then ins1 ts y else ts
theorem iGo_asc : ∀ (ts : List It) (L : Int), iGo L ts = true → Asc ts ∧ ∀ x ∈ ts, L < x.1 ∧ itB x.1 x.2.1 x.2.2.1 x.2.2.2 = true
  | [], _, _ => ⟨List.Pairwise.nil, fun x hx => by cases hx⟩
  | x :: xs, L, h => by
    rw [iGo] at h
    split at h
    · cases h
    · rename_i hn
      have h1 : itB x.1 x.2.1 x.2.2.1 x.2.2.2 = true := by
        cases hb : itB x.1 x.2.1 x.2.2.1 x.2.2.2 with
        | true => rfl
        | false => exact absurd (.inl hb) hn
      have h2 : L < x.1 := by
        rcases Int.lt_or_le L x.1 with h | h
        · exact h
        · exact absurd (.inr h) hn
      obtain ⟨ha, hb⟩ := iGo_asc xs x.1 h
      refine ⟨List.pairwise_cons.2 ⟨fun y hy => (hb y hy).1, ha⟩, fun y hy => ?_⟩
      rcases List.mem_cons.1 hy with rfl | hy
      · exact ⟨h2, h1⟩
      · have := hb y hy
        exact ⟨by omega, this.2⟩
theorem iGo_of : ∀ (ts : List It) (L : Int), Asc ts → (∀ x ∈ ts, L < x.1 ∧ itB x.1 x.2.1 x.2.2.1 x.2.2.2 = true) → iGo L ts = true
  | [], _, _, _ => rfl
  | x :: xs, L, ha, h => by
    obtain ⟨h1, h2⟩ := h x (List.mem_cons_self ..)
    rw [iGo_step h2 h1]
    obtain ⟨h3, h4⟩ := List.pairwise_cons.1 ha
    exact iGo_of xs x.1 h4 fun y hy => ⟨h3 y hy, (h y (List.mem_cons_of_mem _ hy)).2⟩
/-- a right list is short. -/
theorem asc_bound : ∀ (ts : List It) (L M : Int), Asc ts → (∀ x ∈ ts, L < x.1 ∧ x.1 ≤ M) → (ts.length : Int) ≤ M - L ∨ ts = []
  | [], _, _, _, _ => .inr rfl
  | x :: xs, L, M, ha, h => by
    obtain ⟨h1, h2⟩ := h x (List.mem_cons_self ..)
    obtain ⟨h3, h4⟩ := List.pairwise_cons.1 ha
    rcases asc_bound xs x.1 M h4 (fun y hy => ⟨h3 y hy, (h y (List.mem_cons_of_mem _ hy)).2⟩) with h5 | h5
    · left; simp only [List.length_cons]; omega
    · subst h5; left; simp; omega
theorem itB_range {q f l : Int} {t : ByteArray} (h : itB q f l t = true) : 1 ≤ q ∧ q ≤ 60 := by
  have := itB_true.1 h
  unfold ItOk at this
  omega
theorem iGo_short {ts : List It} (h : iGo 0 ts = true) : ts.length ≤ 60 := by
  obtain ⟨ha, hb⟩ := iGo_asc ts 0 h
  rcases asc_bound ts 0 60 ha (fun x hx => ⟨(hb x hx).1, (itB_range (hb x hx).2).2⟩) with h1 | h1
  · omega
  · subst h1; simp
theorem putP_len (ts : List It) (y : It) : (putP ts y).length ≤ ts.length + 1 := by
  unfold putP
  split
  · rename_i h
    exact ins1_len ts y (iGo_asc ts 0 h.1).1
  · omega

theorem itemsB_is {ts : List It} {b : Bool} (ao : Option Addr) (cap : Nat) (w : World) (hx : Hid (ItemsAt w ao ts)) (hl : ts.length ≤ 1048576) (h : iGo 0 ts = b) :
    Calls Try.prog 19 #[.slice ao ts.length cap] w fun e w' => e = .returned (.bool b) ∧ Below w.heap.size w w' := by rw [← h]; exact itemsOk_any ao cap ts w hx hl
theorem spItemsB_is {ts : List It} {b : Bool} (ao : Option Addr) (cap : Nat) (w : World) (hx : Hid (ItemsAt w ao ts)) (hl : ts.length ≤ 1048576) (h : iGo 0 ts = b) :
    Calls Try.prog 17 #[.slice ao ts.length cap] w fun e w' => e = .returned (.bool b) ∧ Below w.heap.size w w' := by rw [← h]; exact spItemsOk_any ao cap ts w hx hl

set_option maxRecDepth 100000 in
set_option maxHeartbeats 2000000 in
theorem putItem_any (ao : Option Addr) (cap : Nat) (ts : List It) (q f l : Int) (t : ByteArray) (w : World) (hx : Hid (ItemsAt w ao ts)) (hl : ts.length ≤ 1048576) (hs : Hid (∀ x ∈ ts, x.2.2.2.size ≤ 1048576)) (ht : t.size ≤ 1048576) :
    Calls Try.prog 14 #[.slice ao ts.length cap, .agg #[.int .i64 q, .int .i64 f, .int .i64 l, .string t]] w fun e w' => ∃ v, e = .returned v ∧ SlI w' w.heap.size v (putP ts (q, f, l, t)) ∧ Below w.heap.size w w' := by
  have b0 : Below w.heap.size w (w.alloc (.cells #[.int .i64 q, .int .i64 f, .int .i64 l, .string t] 26)) := (Below.refl _ _).alloc (Nat.le_refl _) _
  have I0 : Hid (ItAt (w.alloc (.cells #[.int .i64 q, .int .i64 f, .int .i64 l, .string t] 26)) w.heap.size q f l t) := heap_alloc_new w _
  have X0 : Hid (ItemsAt (w.alloc (.cells #[.int .i64 q, .int .i64 f, .int .i64 l, .string t] 26)) ao ts) := hx.out.stays b0
  have B0 : Hid (Below w.heap.size w (w.alloc (.cells #[.int .i64 q, .int .i64 f, .int .i64 l, .string t] 26))) := b0
  clear b0
  go_enter Try.func14, Try.ntmps14
  go_wp2_with fail
  generalize w.alloc (.cells #[.int .i64 q, .int .i64 f, .int .i64 l, .string t] 26) = W0 at *
  refine (copyItems_any ao cap ts W0 X0 (by omega) hs).mono ?_
  rintro e w1 ⟨v, rfl, S1, b1⟩
  have zz : w.heap.size ≤ W0.heap.size := B0.out.size
  have S1 : Hid (SlI w1 w.heap.size v ts) := S1.down zz
  have I1 : Hid (ItAt w1 w.heap.size q f l t) := I0.out.stays b1 I0.out.lt
  have X1 : Hid (ItemsAt w1 ao ts) := X0.out.stays b1
  have B1 : Hid (Below w.heap.size w w1) := B0.out.trans (b1.mono zz)
  clear b1 I0 X0 B0
  cases hi : iGo 0 ts with
  | false =>
    have HR : Hid (putP ts (q, f, l, t) = ts) := by show _ = _; unfold putP; rw [if_neg (by rw [hi]; simp)]
    go_wp2_with fail
    refine (itemsB_is ao cap w1 X1 (by omega) hi).mono ?_
    rintro e w2 ⟨rfl, b2⟩
    have S2 : Hid (SlI w2 w.heap.size v ts) := S1.out.below b2
    have B2 : Hid (Below w.heap.size w w2) := B1.out.trans (b2.mono B1.out.size)
    clear b2 hi
    go_wp2_with fail
    go_ret
    exact ⟨_, rfl, by rw [HR.out]; exact S2.out, B2.out⟩
  | true =>
    go_wp2_with fail
    refine (itemsB_is ao cap w1 X1 (by omega) hi).mono ?_
    rintro e w2 ⟨rfl, b2⟩
    have S2 : Hid (SlI w2 w.heap.size v ts) := S1.out.below b2
    have I2 := I1.out.stays b2 I1.out.lt
    have B2 : Hid (Below w.heap.size w w2) := B1.out.trans (b2.mono B1.out.size)
    obtain ⟨c0, c1, c2, c3⟩ := I2.cells
    have I2 : Hid (ItAt w2 w.heap.size q f l t) := I2
    clear b2 S1 I1 X1 B1
    cases hm : itB q f l t with
    | false =>
      have HR : Hid (putP ts (q, f, l, t) = ts) := by show _ = _; unfold putP; rw [if_neg (by dsimp only; rw [hm]; simp)]
      clear hi
      go_wp2_with fail
      refine (itB_is _ hm).mono ?_
      rintro e w3 ⟨rfl, b3⟩
      have S3 : Hid (SlI w3 w.heap.size v ts) := S2.out.below b3
      have B3 : Hid (Below w.heap.size w w3) := B2.out.trans (b3.mono B2.out.size)
      clear b3 hm
      go_wp2_with fail
      go_ret
      exact ⟨_, rfl, by rw [HR.out]; exact S3.out, B3.out⟩
    | true =>
      have HR : Hid (putP ts (q, f, l, t) = putAll ts [(q, f, l, t)]) := by show _ = _; unfold putP; rw [if_pos ⟨hi, hm⟩]; rfl
      have HA : Hid (Asc ts) := (iGo_asc ts 0 hi).1
      have hl60 : ts.length ≤ 60 := iGo_short hi
      clear hi
      go_wp2_with fail
      refine (itB_is _ hm).mono ?_
      rintro e w3 ⟨rfl, b3⟩
      have S3 : Hid (SlI w3 w.heap.size v ts) := S2.out.below b3
      have I3 := I2.out.stays b3 I2.out.lt
      have B3 : Hid (Below w.heap.size w w3) := B2.out.trans (b3.mono B2.out.size)
      clear c0 c1 c2 c3
      obtain ⟨c0, c1, c2, c3⟩ := I3.cells
      clear b3 hm S2 I2 B2 I3
      go_wp2_with fail
      clear c0 c1 c2 c3
      refine (copyItem_any q f l t w3 ht).mono ?_
      rintro e w4 ⟨rfl, b4⟩
      have b5 : Below w4.heap.size w4 (w4.alloc (.cells #[.int .i64 q, .int .i64 f, .int .i64 l, .string t] 26)) := (Below.refl _ _).alloc (Nat.le_refl _) _
      have S4 := S3.out.below b4
      have B4 : Below w.heap.size w w4 := B3.out.trans (b4.mono B3.out.size)
      have S5 : Hid (SlI (w4.alloc (.cells #[.int .i64 q, .int .i64 f, .int .i64 l, .string t] 26)) w.heap.size v ts) := S4.below b5
      have B5 : Hid (Below w.heap.size w (w4.alloc (.cells #[.int .i64 q, .int .i64 f, .int .i64 l, .string t] 26))) := B4.trans (b5.mono B4.size)
      have A5 : Hid (Apart v (some ⟨w4.heap.size, 0, none⟩)) := fun k b off hk e => by
        have := (S4.lt k hk).2
        simp at e
        omega
      have I5 : ItAt (w4.alloc (.cells #[.int .i64 q, .int .i64 f, .int .i64 l, .string t] 26)) w4.heap.size q f l t := heap_alloc_new w4 _
      have X5 : Hid (ItemsAt (w4.alloc (.cells #[.int .i64 q, .int .i64 f, .int .i64 l, .string t] 26)) (some ⟨w4.heap.size, 0, none⟩) [(q, f, l, t)]) := fun i hi => by
        obtain rfl : i = 0 := by simp at hi; exact hi
        obtain ⟨c0, c1, c2, c3⟩ := I5.cells
        exact ⟨w4.heap.size, 0, rfl, I5.lt, c0, c1, c2, c3⟩
      clear b4 b5 S4 B4 I5 S3 B3
      go_wp2_with fail
      have z5 : w.heap.size ≤ (w4.alloc (.cells #[.int .i64 q, .int .i64 f, .int .i64 l, .string t] 26)).heap.size := B5.out.size
      generalize w4.alloc (.cells #[.int .i64 q, .int .i64 f, .int .i64 l, .string t] 26) = W5 at *
      refine (put_any v ts (some ⟨w4.heap.size, 0, none⟩) 1 [(q, f, l, t)] w.heap.size W5 S5 HA X5 A5 z5 (by show ts.length + 1 ≤ _; omega)).mono ?_
      rintro e w6 ⟨v6, rfl, S6, b6⟩
      go_wp2_with fail
      go_ret
      exact ⟨_, rfl, by rw [HR.out]; exact S6, B5.out.trans b6⟩
end Go.Proofs.Ytjijpcfdkmbgpaa
