/- The law on PutItem. -/
import Derived.Test.YtjijpcfdkmbgpaaPs
import Derived.Test.YtjijpcfdkmbgpaaMk
import Derived.Test.YtjijpcfdkmbgpaaEs
import Derived.Deep.DeepCutAuto
namespace Go.Proofs.Ytjijpcfdkmbgpaa
open Go.RowKit Pl
set_option linter.unusedVariables false

theorem putP_le (ts : List It) (y : It) (h : ts.length ≤ 1048576) : (putP ts y).length ≤ 1048576 := by
  have h1 := putP_len ts y
  by_cases h2 : iGo 0 ts = true
  · have := iGo_short h2; omega
  · unfold putP
    rw [if_neg (fun h => h2 h.1)]
    exact h
/-- what a call in a drawn region leaves. -/
def PostB (W : World) (R : List It) (v : Value) (w' : World) : Prop := SlI w' W.heap.size v R ∧ Below W.heap.size W w'
theorem toItemsB {W : World} {ao : Option Addr} {cap : Nat} {ts : List It} (X : ItemsAt W ao ts) (hl : ts.length ≤ 1048576) (w' : World) (hb : Below W.heap.size W w') :
    Calls Try.prog 32 #[.slice ao ts.length cap] w' fun e w'' => ∃ g, e = .returned (.slice (some ⟨g, 0, none⟩) ts.length ts.length) ∧ ItemsAt w'' (some ⟨g, 0, none⟩) ts ∧ Below w'.heap.size w' w'' ∧ Below W.heap.size W w'' :=
  (toItems_sl w' ao cap ts (X.stays hb) hl).mono fun e w'' ⟨h1, _, h3, h4⟩ => ⟨_, h1, h3, h4, hb.trans (h4.mono hb.size)⟩
theorem toItemB (q f l : Int) (t : ByteArray) (W w' : World) (hb : Below W.heap.size W w') :
    Calls Try.prog 33 #[.agg #[.int .i64 q, .int .i64 f, .int .i64 l, .string t]] w' fun e w'' => e = .returned (.agg #[.int .i64 q, .int .i64 f, .int .i64 l, .string t]) ∧ Below w'.heap.size w' w'' ∧ Below W.heap.size W w'' :=
  (toItem_any q f l t w').mono fun e w'' ⟨h1, h2⟩ => ⟨h1, h2, hb.trans (h2.mono hb.size)⟩
theorem putB {fn : FuncId} {ts R : List It} {q f l : Int} {t : ByteArray} (C : ∀ (a : Option Addr) (W : World), Hid (ItemsAt W a ts) → Calls Try.prog fn #[.slice a ts.length ts.length, .agg #[.int .i64 q, .int .i64 f, .int .i64 l, .string t]] W fun e w' => ∃ v, e = .returned v ∧ SlI w' W.heap.size v R ∧ Below W.heap.size W w') (g : Nat) (W w' : World) (hb : Below W.heap.size W w') (X : ItemsAt w' (some ⟨g, 0, none⟩) ts) :
    Calls Try.prog fn #[.slice (some ⟨g, 0, none⟩) ts.length ts.length, .agg #[.int .i64 q, .int .i64 f, .int .i64 l, .string t]] w' fun e w'' => ∃ v, e = .returned v ∧ SlI w'' W.heap.size v R ∧ Below w'.heap.size w' w'' ∧ Below W.heap.size W w'' :=
  (C _ w' X).mono fun e w'' ⟨v, h1, h2, h3⟩ => ⟨v, h1, h2.down hb.size, h3, hb.trans (h3.mono hb.size)⟩

set_option maxRecDepth 100000 in
set_option maxHeartbeats 4000000 in
theorem lawPutItem (ao : Option Addr) (cap : Nat) (ts : List It) (q f l : Int) (t : ByteArray) (w : World) (hx : Hid (ItemsAt w ao ts)) (hl : ts.length ≤ maxLen) (hs : Hid (∀ x ∈ ts, x.2.2.2.size ≤ maxLen)) (ht : t.size ≤ maxLen) :
    Calls Try.prog 6 #[.slice ao ts.length cap, .agg #[.int .i64 q, .int .i64 f, .int .i64 l, .string t]] w fun e w' => e = .returned (.bool true) ∧ Below w.heap.size w w' := by
  unfold maxLen at hl hs ht
  have L0 : Hid (LitAt (w.alloc (.cells #[.int .i64 q, .int .i64 f, .int .i64 l, .string t] 48)) w.heap.size q f l t) := heap_alloc_new w _
  have B0 : Below w.heap.size w (w.alloc (.cells #[.int .i64 q, .int .i64 f, .int .i64 l, .string t] 48)) := (Below.refl _ _).alloc (Nat.le_refl _) _
  have X0 : Hid (ItemsAt (w.alloc (.cells #[.int .i64 q, .int .i64 f, .int .i64 l, .string t] 48)) ao ts) := hx.out.stays B0
  have zz0 : w.heap.size < (w.alloc (.cells #[.int .i64 q, .int .i64 f, .int .i64 l, .string t] 48)).heap.size := by simp
  go_enter Try.func6, Try.ntmps6
  go_wp2_with fail
  generalize w.alloc (.cells #[.int .i64 q, .int .i64 f, .int .i64 l, .string t] 48) = W0 at *
  refine (szItems_left 1048576 (Nat.le_refl _) ao cap ts W0 X0 hl hs).mono ?_
  rintro e wa ⟨rfl | ⟨z, rfl, hz1, hs1⟩, ba⟩
  · go_wp2_with fail
    go_ret
    exact ⟨rfl, B0.trans (ba.mono B0.size)⟩
  have hl2 : ts.length ≤ 1048576 := by omega
  have hz : decide ((z : Int) < 0) = false := by simp
  have Ba : Below w.heap.size w wa := B0.trans (ba.mono B0.size)
  have La : Hid (LitAt wa w.heap.size q f l t) := L0.out.stays ba zz0
  have za : w.heap.size < wa.heap.size := Nat.lt_of_lt_of_le zz0 ba.size
  have HS : Hid (∀ x ∈ ts, x.2.2.2.size ≤ 1048576) := hs1
  clear hl hs hs1 L0 X0 B0 ba zz0
  obtain ⟨l0, l1, l2, l3⟩ := La.out.cells
  go_wp2_with fail
  by_cases hlong : z < t.size
  · refine (szItem_long q f l t z wa hlong (by omega) (by omega)).mono ?_
    rintro e w1 ⟨rfl, b1⟩
    go_wp2_with fail
    go_ret
    exact ⟨rfl, Ba.trans (b1.mono Ba.size)⟩
  refine (szItem_any q f l t z wa (by omega) (by omega)).mono ?_
  rintro e w1 ⟨rfl, b1⟩
  have B1 : Below w.heap.size w w1 := Ba.trans (b1.mono Ba.size)
  have L1 : Hid (LitAt w1 w.heap.size q f l t) := La.out.stays b1 za
  have zb1 : w.heap.size < w1.heap.size := Nat.lt_of_lt_of_le za b1.size
  have X1 : Hid (ItemsAt w1 ao ts) := hx.out.stays B1
  have hts : t.size ≤ 1048576 := by omega
  generalize z - t.size = z2 at *
  have hz2 : decide ((z2 : Int) < 0) = false := by simp
  clear l0 l1 l2 l3 La Ba za b1 hlong ht hz1
  obtain ⟨R, hR⟩ : ∃ R : List It, R = putP ts (q, f, l, t) := ⟨_, rfl⟩
  have hRl : R.length ≤ 1048576 := by rw [hR]; exact putP_le ts (q, f, l, t) hl2
  have SPC : Hid (∀ (a : Option Addr) (W : World), Hid (ItemsAt W a ts) → Calls Try.prog 15 #[.slice a ts.length ts.length, .agg #[.int .i64 q, .int .i64 f, .int .i64 l, .string t]] W fun e w' => ∃ v, e = .returned v ∧ SlI w' W.heap.size v R ∧ Below W.heap.size W w') := fun a W h => by rw [hR]; exact spPutItem_any a _ ts q f l t W h hl2
  have IMP : Hid (∀ (a : Option Addr) (W : World), Hid (ItemsAt W a ts) → Calls Try.prog 14 #[.slice a ts.length ts.length, .agg #[.int .i64 q, .int .i64 f, .int .i64 l, .string t]] W fun e w' => ∃ v, e = .returned v ∧ SlI w' W.heap.size v R ∧ Below W.heap.size W w') := fun a W h => by rw [hR]; exact putItem_any a _ ts q f l t W h hl2 HS hts
  clear hR HS
  go_wp2_with fail
  have hp1 : decide ((z2 : Int) < 0) = false := hz2
  go_cut [6] (fun u6_ wx => PostB w1 R u6_ wx)
  case first =>
    have keepS : ∀ w', Below w1.heap.size w1 w' → (w'.cell? ⟨w.heap.size, 0, none⟩ = some (.int .i64 q) ∧ w'.cell? ⟨w.heap.size, 1, none⟩ = some (.int .i64 f) ∧ w'.cell? ⟨w.heap.size, 2, none⟩ = some (.int .i64 l) ∧ w'.cell? ⟨w.heap.size, 3, none⟩ = some (.string t)) := fun w' hb => (L1.out.stays hb (by omega)).cells
    have B0d : Below w1.heap.size w1 w1.drew := (Below.refl _ _).drew
    have hX := X1.out
    have hC := SPC.out
    go_region_held3 (fun w' => (w'.cell? ⟨w.heap.size, 0, none⟩ = some (.int .i64 q) ∧ w'.cell? ⟨w.heap.size, 1, none⟩ = some (.int .i64 f) ∧ w'.cell? ⟨w.heap.size, 2, none⟩ = some (.int .i64 l) ∧ w'.cell? ⟨w.heap.size, 3, none⟩ = some (.string t)))
      (first | with_reducible exact keepS _ B9 | with_reducible exact keepS _ B8 | with_reducible exact keepS _ B7 | with_reducible exact keepS _ B0d)
      (first
      | (go_at_call 32; refine (toItemsB hX hl2 _ (by first | with_reducible exact B0d | with_reducible exact B8)).mono ?_; rintro r_ w7 ⟨g7, rfl, r7, hb7, B7⟩)
      | (go_at_call 33; refine (toItemB q f l t w1 _ (by first | with_reducible exact B0d | with_reducible exact B7)).mono ?_; rintro r_ w8 ⟨rfl, hb8, B8⟩)
      | (go_at_call 15; refine (putB hC _ w1 _ (by first | with_reducible exact B8 | with_reducible exact B7) (by first | with_reducible exact r7 | with_reducible exact r7.stays hb8)).mono ?_; rintro r_ w9 ⟨v9, rfl, m9, hb9, B9⟩))
    all_goals clear keepS
    all_goals (try go_wp2_with fail)
    all_goals go_meet
    all_goals exact ⟨m9, B9⟩
  case rest =>
  have b3 : Below w1.heap.size w1 wc := hcut.2
  have P3 : Hid (SlI wc w1.heap.size u6 R) := hcut.1
  clear hcut
  generalize wc = w3 at *
  generalize u6 = v0 at *
  have B3 : Below w1.heap.size w1 w3 := b3
  have X3 : Hid (ItemsAt w3 ao ts) := X1.out.stays B3
  have L3 : Hid (∀ k, v0.ownBlock = some k → k < w3.heap.size) := fun k hk => (P3.out.lt k hk).2
  clear b3 SPC
  go_wp2_with fail
  refine (toItems_sl w3 ao cap ts X3 hl2).mono ?_
  rintro e w4 ⟨rfl, S4, Y4, b4⟩
  have S4 : Hid (SlI w4 w3.heap.size (.slice (some ⟨w3.heap.size, 0, none⟩) ts.length ts.length) ts) := S4
  have Y4 : Hid (ItemsAt w4 (some ⟨w3.heap.size, 0, none⟩) ts) := Y4
  have P4 : Hid (SlI w4 w1.heap.size v0 R) := P3.out.below b4
  have B4 : Below w1.heap.size w1 w4 := B3.trans (b4.mono B3.size)
  obtain ⟨l0, l1, l2, l3⟩ := (L1.out.stays B4 zb1).cells
  have G4 : w3.heap.size < w4.heap.size := (S4.out.lt _ rfl).2
  have z3 : w1.heap.size ≤ w3.heap.size := B3.size
  clear b4 X3 P3 B3
  go_wp2_with fail
  clear l0 l1 l2 l3
  refine (toItem_any q f l t w4).mono ?_
  rintro e w4b ⟨rfl, b4b⟩
  have Y4 : Hid (ItemsAt w4b (some ⟨w3.heap.size, 0, none⟩) ts) := Y4.out.stays b4b
  go_wp2_with fail
  refine (IMP.out _ w4b Y4).mono ?_
  rintro e w5 ⟨v1, rfl, O5, b5⟩
  have O5 := O5.down b4b.size
  have b5 : Below w4.heap.size w4 w5 := b4b.trans (b5.mono b4b.size)
  clear b4b
  have O5 : Hid (SlI w5 w4.heap.size v1 R) := O5
  have P5 : Hid (SlI w5 w1.heap.size v0 R) := P4.out.below b5
  have S5 : Hid (SlI w5 w3.heap.size (.slice (some ⟨w3.heap.size, 0, none⟩) ts.length ts.length) ts) := S4.out.below b5
  have B5 : Below w1.heap.size w1 w5 := B4.trans (b5.mono B4.size)
  clear b5 Y4 P4 S4 B4
  go_wp2_with fail
  refine (eqItems_sl v1 v0 R _ _ w5 O5.out P5.out hRl).mono ?_
  rintro e w6 ⟨rfl, b6⟩
  have O6 : Hid (SlI w6 w4.heap.size v1 R) := O5.out.below b6
  have P6 : Hid (SlI w6 w1.heap.size v0 R) := P5.out.below b6
  have S6 : Hid (SlI w6 w3.heap.size (.slice (some ⟨w3.heap.size, 0, none⟩) ts.length ts.length) ts) := S5.out.below b6
  have B6 : Below w1.heap.size w1 w6 := B5.trans (b6.mono B5.size)
  have X6 : Hid (ItemsAt w6 ao ts) := X1.out.stays B6
  clear b6 O5 P5 S5 B5
  go_wp2_with fail
  refine (toItems_sl w6 ao cap ts X6 hl2).mono ?_
  rintro e w7 ⟨rfl, Y7, _, b7⟩
  have Y7 : Hid (SlI w7 w6.heap.size (.slice (some ⟨w6.heap.size, 0, none⟩) ts.length ts.length) ts) := Y7
  have O7 : Hid (SlI w7 w4.heap.size v1 R) := O6.out.below b7
  have P7 : Hid (SlI w7 w1.heap.size v0 R) := P6.out.below b7
  have S7 : Hid (SlI w7 w3.heap.size (.slice (some ⟨w3.heap.size, 0, none⟩) ts.length ts.length) ts) := S6.out.below b7
  have B7 : Below w1.heap.size w1 w7 := B6.trans (b7.mono B6.size)
  clear b7 O6 P6 S6 B6 X6
  go_wp2_with fail
  refine (eqItems_sl _ _ ts _ _ w7 S7.out Y7.out hl2).mono ?_
  rintro e w8 ⟨rfl, b8⟩
  have O8 : Hid (SlI w8 w4.heap.size v1 R) := O7.out.below b8
  have P8 : Hid (SlI w8 w1.heap.size v0 R) := P7.out.below b8
  have S8 : Hid (SlI w8 w3.heap.size (.slice (some ⟨w3.heap.size, 0, none⟩) ts.length ts.length) ts) := S7.out.below b8
  have B8 : Below w1.heap.size w1 w8 := B7.trans (b8.mono B7.size)
  clear b8 O7 P7 S7 B7 Y7
  go_wp2_with fail
  refine (markItems_any _ ts w3.heap.size 1 w8 S8 (by omega) (by omega)).mono ?_
  rintro e w9 ⟨rfl, _, G9⟩
  have O9 : Hid (SlI w9 w4.heap.size v1 R) := O8.out.kept G9 (fun k hk he => by have := (O8.out.lt k hk).1; simp [Value.ownBlock] at he; omega)
  have P9 : Hid (SlI w9 w1.heap.size v0 R) := P8.out.kept G9 (fun k hk he => by have := L3.out k hk; simp [Value.ownBlock] at he; omega)
  have B9 : Below w1.heap.size w1 w9 := B8.grown G9 B8.size (fun k hk => by simp [Value.ownBlock] at hk; omega)
  obtain ⟨z9, hz9⟩ : ∃ z9 : Nat, 1 + 4 * ts.length = z9 := ⟨_, rfl⟩
  rw [hz9]
  have hz9 : decide ((z9 : Int) < 0) = false := by simp
  clear O8 P8 S8 G9 B8
  go_wp2_with fail
  refine (eqItems_sl v1 v0 R _ _ w9 O9.out P9.out hRl).mono ?_
  rintro e wa ⟨rfl, ba⟩
  have Oa : Hid (SlI wa w4.heap.size v1 R) := O9.out.below ba
  have Pa : Hid (SlI wa w1.heap.size v0 R) := P9.out.below ba
  have Ba : Below w1.heap.size w1 wa := B9.trans (ba.mono B9.size)
  clear ba O9 P9 B9
  go_wp2_with fail
  refine (markItems_any v1 R w4.heap.size 1 wa Oa (by omega) (by omega)).mono ?_
  rintro e wb ⟨rfl, Ob, Gb⟩
  have Ob : Hid (SlI wb w4.heap.size v1 (mkI 1 R.length)) := Ob
  have Pb : Hid (SlI wb w1.heap.size v0 R) := Pa.out.kept Gb (fun k hk he => by have := L3.out k hk; have := (Oa.out.lt k he.symm).1; omega)
  have hBa := Ba.size
  have Bb : Below w1.heap.size w1 wb := Ba.grown Gb Ba.size (fun k hk => by have := (Oa.out.lt k hk).1; omega)
  clear Oa Pa Gb Ba hz9
  obtain ⟨M, hM⟩ : ∃ M : Nat, 1 + 4 * R.length = M := ⟨_, rfl⟩
  rw [hM]
  have HM : Hid (1 + 4 * R.length = M) := hM
  have hM0 : decide ((M : Int) < 0) = false := by simp
  clear hM
  go_wp2_with fail
  refine (heldItems_any v1 R.length w4.heap.size 1 wb Ob (by omega) (by omega)).mono ?_
  rintro e wC ⟨rfl, bc⟩
  rw [HM.out]
  have Oc : Hid (SlI wC w4.heap.size v1 (mkI 1 R.length)) := Ob.out.below bc
  have Pc : Hid (SlI wC w1.heap.size v0 R) := Pb.out.below bc
  have Bc : Below w1.heap.size w1 wC := Bb.trans (bc.mono Bb.size)
  have Xc : Hid (ItemsAt wC ao ts) := X1.out.stays Bc
  clear bc Ob Pb Bb
  have Lc : Hid (LitAt wC w.heap.size q f l t) := L1.out.stays Bc zb1
  have zc : w.heap.size < wC.heap.size := Nat.lt_of_lt_of_le zb1 Bc.size
  go_wp2_with fail
  go_cut [12] (fun u_ wx => PostB wC R u_ wx)
  case first =>
    have keepS : ∀ w', Below wC.heap.size wC w' → (w'.cell? ⟨w.heap.size, 0, none⟩ = some (.int .i64 q) ∧ w'.cell? ⟨w.heap.size, 1, none⟩ = some (.int .i64 f) ∧ w'.cell? ⟨w.heap.size, 2, none⟩ = some (.int .i64 l) ∧ w'.cell? ⟨w.heap.size, 3, none⟩ = some (.string t)) := fun w' hb => (Lc.out.stays hb (by omega)).cells
    have B0d : Below wC.heap.size wC wC.drew := (Below.refl _ _).drew
    have hX := Xc.out
    have hC := IMP.out
    go_region_held3 (fun w' => (w'.cell? ⟨w.heap.size, 0, none⟩ = some (.int .i64 q) ∧ w'.cell? ⟨w.heap.size, 1, none⟩ = some (.int .i64 f) ∧ w'.cell? ⟨w.heap.size, 2, none⟩ = some (.int .i64 l) ∧ w'.cell? ⟨w.heap.size, 3, none⟩ = some (.string t)))
      (first | with_reducible exact keepS _ B9 | with_reducible exact keepS _ B8 | with_reducible exact keepS _ B7 | with_reducible exact keepS _ B0d)
      (first
      | (go_at_call 32; refine (toItemsB hX hl2 _ (by first | with_reducible exact B0d | with_reducible exact B8)).mono ?_; rintro r_ w7 ⟨g7, rfl, r7, hb7, B7⟩)
      | (go_at_call 33; refine (toItemB q f l t wC _ (by first | with_reducible exact B0d | with_reducible exact B7)).mono ?_; rintro r_ w8 ⟨rfl, hb8, B8⟩)
      | (go_at_call 14; refine (putB hC _ wC _ (by first | with_reducible exact B8 | with_reducible exact B7) (by first | with_reducible exact r7 | with_reducible exact r7.stays hb8)).mono ?_; rintro r_ w9 ⟨v9, rfl, m9, hb9, B9⟩))
    all_goals clear keepS
    all_goals (try go_wp2_with fail)
    all_goals go_meet
    all_goals exact ⟨m9, B9⟩
  case rest =>
  have be : Below wC.heap.size wC wc := hcut.2
  have Qe : Hid (SlI wc wC.heap.size u12 R) := hcut.1
  have Oe : Hid (SlI wc w4.heap.size v1 (mkI 1 R.length)) := Oc.out.below be
  have Pe : Hid (SlI wc w1.heap.size v0 R) := Pc.out.below be
  have Be : Below w1.heap.size w1 wc := Bc.trans (be.mono Bc.size)
  clear hcut
  generalize wc = we at *
  generalize u12 = v2 at *
  clear be Oc Pc Bc Xc Lc zc
  go_wp2_with fail
  refine (eqItems_sl v2 v0 R _ _ we Qe.out Pe.out hRl).mono ?_
  rintro e wf ⟨rfl, bf⟩
  have Of : Hid (SlI wf w4.heap.size v1 (mkI 1 R.length)) := Oe.out.below bf
  have Bf : Below w1.heap.size w1 wf := Be.trans (bf.mono Be.size)
  clear bf Oe Pe Qe Be
  go_wp2_with fail
  refine (heldItems_any v1 R.length w4.heap.size 1 wf Of (by omega) (by omega)).mono ?_
  rintro e wg ⟨rfl, bg⟩
  rw [HM.out]
  go_wp2_with fail
  go_ret
  exact ⟨rfl, B1.trans ((Bf.trans (bg.mono Bf.size)).mono B1.size)⟩
end Go.Proofs.Ytjijpcfdkmbgpaa
