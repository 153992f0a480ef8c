/- The law on BundleText. -/
import Derived.Test.YtlflcjdpdbdbkaaDoorHb
import Derived.Test.YtlflcjdpdbdbkaaDoorBt14
namespace Go.Proofs.YtlflcjdpdbdbkaaDoor
open Go.RowKit Pl
set_option linter.unusedVariables false
set_option linter.unusedSimpArgs false

/-- both BundleTexts, at whatever bundle. -/
theorem bundleText_two (f n o : Int) (ts : List It) (hl : ts.length ≤ 1048576) : ∃ (T : ByteArray) (k : Bool), T.size ≤ 5004 ∧ bunB f n o ts = k ∧ ((k = true ∧ ∃ (F N O : Nat), f = F ∧ n = N ∧ o = O ∧ BnOk F N O ts ∧ T = sealS (bunS F N O ts)) ∨ (k = false ∧ T = ByteArray.empty)) ∧
    (∀ (w : World) (s : Sv), Hid (RIt w s ts) → Hid (Tab w) → Calls Tryd.prog 8 #[.agg #[.int .i64 f, .int .i64 n, .int .i64 o, .slice s.a s.n s.c]] w fun e w' => e = .returned (.tuple #[.string T, .bool k]) ∧ Below w.heap.size w w') ∧
    (∀ (w : World) (s : Sv), Hid (RIt w s ts) → Calls Tryd.prog 10 #[.agg #[.int .i64 f, .int .i64 n, .int .i64 o, .slice s.a s.n s.c]] w fun e w' => e = .returned (.tuple #[.string T, .bool k]) ∧ Below w.heap.size w w') := by
  cases h : bunB f n o ts with
  | true =>
    obtain ⟨F, N, O, rfl, rfl, rfl, ho⟩ := bunB_nats h
    refine ⟨sealS (bunS F N O ts), true, ?_, rfl, .inl ⟨rfl, F, N, O, rfl, rfl, rfl, ho, rfl⟩, fun w s hx ht => ?_, fun w s hx => ?_⟩
    · have := bunS_size ho
      rw [sealS_size]; omega
    · rw [hx.out.1]; exact bundleText_yes F N O s.a s.c ts w hx.out.2 ho ht
    · rw [hx.out.1]; exact spBundleText_yes F N O s.a s.c ts w hx.out.2 ho
  | false =>
    refine ⟨ByteArray.empty, false, by decide, rfl, .inr ⟨rfl, rfl⟩, fun w s hx _ => ?_, fun w s hx => ?_⟩
    · rw [hx.out.1]; exact bundleText_no f n o s.a s.c ts w hx.out.2 hl h
    · rw [hx.out.1]; exact spBundleText_no f n o s.a s.c ts w hx.out.2 hl h

set_option maxRecDepth 100000 in
set_option maxHeartbeats 8000000 in
theorem lawBundleText (f n o : Int) (s : Sv) (ts : List It) (w : World) (h : Hid (RIt w s ts)) (hl : ts.length ≤ 9223372036854775807) (hsz : Hid (∀ x ∈ ts, x.2.2.2.size ≤ 9223372036854775807)) (htab : Hid (Tab w)) :
    Calls Tryd.prog 4 #[.agg #[.int .i64 f, .int .i64 n, .int .i64 o, .slice s.a s.n s.c]] w fun e w' => e = .returned (.bool true) ∧ Below w.heap.size w w' := by
  have HA : Hid (Bx (w.alloc (.cells #[.int .i64 f, .int .i64 n, .int .i64 o, .slice s.a s.n s.c] 37)) w.heap.size 37 [.int .i64 f, .int .i64 n, .int .i64 o, .slice s.a s.n s.c]) := Bx.new w 37 _
  have HB0 : Hid (Below w.heap.size w (w.alloc (.cells #[.int .i64 f, .int .i64 n, .int .i64 o, .slice s.a s.n s.c] 37))) := (Below.refl _ _).alloc (Nat.le_refl _) _
  have HR : Hid (RIt (w.alloc (.cells #[.int .i64 f, .int .i64 n, .int .i64 o, .slice s.a s.n s.c] 37)) s ts) := h.out.stays HB0.out
  clear h
  go_enter Tryd.func4, Tryd.ntmps4
  go_wp2_with (first | (refine wpList_ldG rfl 37 _ rfl w.heap.size 0 rfl 37 _ HA.out [.int .i64 f, .int .i64 n, .int .i64 o, .slice s.a s.n s.c] rfl _ Tryd.underlying37 rfl Tryd.sizeLBu ?_))
  generalize w.alloc (.cells #[.int .i64 f, .int .i64 n, .int .i64 o, .slice s.a s.n s.c] 37) = W0 at *
  refine (szBundle_any f n o s ts 1048576 _ HR hl hsz (Nat.le_refl _)).mono ?_
  rintro e w1 ⟨hz, b⟩
  have HA : Hid (Bx w1 w.heap.size 37 [.int .i64 f, .int .i64 n, .int .i64 o, .slice s.a s.n s.c]) := HA.out.later b
  have HB0 : Hid (Below w.heap.size w w1) := bl_nxt HB0.out b
  have HR : Hid (RIt w1 s ts) := HR.out.stays b
  clear b
  rcases hz with rfl | ⟨z, rfl, _, hs⟩
  · go_wp2_with fail
    go_ret
    exact ⟨rfl, HB0.out⟩
  have hlen : ts.length ≤ 1048576 := by have := hs.out.1; omega
  clear hl hs
  obtain ⟨T, K, _, _, _, himpl, hspec⟩ := bundleText_two f n o ts hlen
  have HIMPL : Hid _ := himpl
  have HSPEC : Hid _ := hspec
  clear himpl hspec
  have hz : decide ((z : Int) < 0) = false := by simp
  go_wp2_with (first | (refine wpList_ldG rfl 37 _ rfl w.heap.size 0 rfl 37 _ HA.out [.int .i64 f, .int .i64 n, .int .i64 o, .slice s.a s.n s.c] rfl _ Tryd.underlying37 rfl Tryd.sizeLBu ?_))
  clear hz
  refine (toBundle_any f n o s ts _ HR hlen).mono ?_
  rintro e w2 ⟨u2, rfl, o2, b⟩
  have HA : Hid (Bx w2 w.heap.size 37 [.int .i64 f, .int .i64 n, .int .i64 o, .slice s.a s.n s.c]) := HA.out.later b
  have HB0 : Hid (Below w.heap.size w w2) := bl_nxt HB0.out b
  have HR : Hid (RIt w2 s ts) := HR.out.stays b
  clear b
  have R2 : Hid (RIt w2 u2 ts) := o2.rit
  clear o2
  go_wp2_with fail
  refine (HSPEC.out _ u2 R2).mono ?_
  rintro e w3 ⟨rfl, b⟩
  have HA : Hid (Bx w3 w.heap.size 37 [.int .i64 f, .int .i64 n, .int .i64 o, .slice s.a s.n s.c]) := HA.out.later b
  have HB0 : Hid (Below w.heap.size w w3) := bl_nxt HB0.out b
  have HR : Hid (RIt w3 s ts) := HR.out.stays b
  clear b R2
  go_wp2_with (first | (refine wpList_ldG rfl 37 _ rfl w.heap.size 0 rfl 37 _ HA.out [.int .i64 f, .int .i64 n, .int .i64 o, .slice s.a s.n s.c] rfl _ Tryd.underlying37 rfl Tryd.sizeLBu ?_))
  refine (toBundle_any f n o s ts _ HR hlen).mono ?_
  rintro e w4 ⟨uX, rfl, oX, b⟩
  have HA : Hid (Bx w4 w.heap.size 37 [.int .i64 f, .int .i64 n, .int .i64 o, .slice s.a s.n s.c]) := HA.out.later b
  have HB0 : Hid (Below w.heap.size w w4) := bl_nxt HB0.out b
  have HR : Hid (RIt w4 s ts) := HR.out.stays b
  clear b
  have XO : Hid (SlI w4 w3.heap.size uX.v ts) := oX
  clear oX
  have hz_WX : Hid (Bx (w4.alloc (.cells #[.int .i64 0, .int .i64 0, .int .i64 0, .slice none 0 0] 26)) w4.heap.size 26 [.int .i64 0, .int .i64 0, .int .i64 0, .slice none 0 0]) := Bx.new w4 26 _
  go_wp2_with (first | (refine wpList_stB rfl 26 _ _ rfl w4.heap.size 0 rfl 26 _ hz_WX.out [.int .i64 f, .int .i64 n, .int .i64 o, .slice uX.a uX.n uX.c] rfl (by simp) Tryd.sizeBu rfl [.int .i64 f, .int .i64 n, .int .i64 o, .slice uX.a uX.n uX.c] rfl ?_; intro WX kb kt; have bb : Below w4.heap.size w4 WX := ((Below.refl _ _).alloc (Nat.le_refl _) _).trans (kt.below (Nat.le_refl _)); have HA : Hid (Bx WX w.heap.size 37 [.int .i64 f, .int .i64 n, .int .i64 o, .slice s.a s.n s.c]) := HA.out.later bb; have HB0 : Hid (Below w.heap.size w WX) := bl_nxt HB0.out bb; have HR : Hid (RIt WX s ts) := HR.out.stays bb; have XO : Hid (SlI WX w3.heap.size uX.v ts) := XO.out.below bb; have WXB : Hid (Bx WX w4.heap.size 26 [.int .i64 f, .int .i64 n, .int .i64 o, .slice uX.a uX.n uX.c]) := kb; clear kb kt) | (refine wpList_ldG rfl 26 _ rfl w4.heap.size 0 rfl 26 _ WXB.out [.int .i64 f, .int .i64 n, .int .i64 o, .slice uX.a uX.n uX.c] rfl _ Tryd.underlying26 rfl Tryd.sizeBu ?_))
  clear bb hz_WX
  generalize w4.heap.size = gX at *
  have HTX : Hid (Tab WX) := htab.out.below HB0.out
  refine (HIMPL.out _ uX XO.out.rit HTX).mono ?_
  rintro e w5 ⟨rfl, b⟩
  have HA : Hid (Bx w5 w.heap.size 37 [.int .i64 f, .int .i64 n, .int .i64 o, .slice s.a s.n s.c]) := HA.out.later b
  have HB0 : Hid (Below w.heap.size w w5) := bl_nxt HB0.out b
  have HR : Hid (RIt w5 s ts) := HR.out.stays b
  have XO : Hid (SlI w5 w3.heap.size uX.v ts) := XO.out.below b
  have WXB : Hid (Bx w5 gX 26 [.int .i64 f, .int .i64 n, .int .i64 o, .slice uX.a uX.n uX.c]) := WXB.out.later b
  clear b
  clear HTX HIMPL HSPEC
  go_wp2_with fail
  refine wp_region_held_drew (S := fun w' => Below w5.heap.size w5 w') (by kernel_rfl) (Below.refl _ _).drew (fun hHeld => ?_)
  refine wpAnyH_take (i := 0) (v := _) rfl (by kernel_rfl) (by kernel_rfl) (by kernel_rfl) (fun _ _ _ h => h) (ld_yield (by rfl) 26 _ rfl gX 0 rfl 26 _ (fun w hS => WXB.out.later hS) [.int .i64 f, .int .i64 n, .int .i64 o, .slice uX.a uX.n uX.c] rfl _ Tryd.underlying26 rfl Tryd.sizeBu) (by assumption) ?_
  try simp only [Act.put, List.getElem_toArray, List.getElem_cons_zero, List.getElem_cons_succ, List.setIfInBounds_toArray, List.set_cons_zero, List.set_cons_succ]
  refine wpAnyH_take (i := 1) (v := _) rfl (by kernel_rfl) (by kernel_rfl) (by kernel_rfl) (fun _ _ _ h => h) (ld_yield (by rfl) 37 _ rfl w.heap.size 0 rfl 37 _ (fun w hS => HA.out.later hS) [.int .i64 f, .int .i64 n, .int .i64 o, .slice s.a s.n s.c] rfl _ Tryd.underlying37 rfl Tryd.sizeLBu) (by assumption) ?_
  try simp only [Act.put, List.getElem_toArray, List.getElem_cons_zero, List.getElem_cons_succ, List.setIfInBounds_toArray, List.set_cons_zero, List.set_cons_succ]
  refine wpAnyH_ready (rs := [2]) (by kernel_rfl) (by simp) ?_
  refine AllReadyH.cons (i := 2) rfl (fun K hK => ?_) AllReadyH.nil
  rw [if_pos (by rfl)]
  simp only [List.getElem_toArray, List.getElem_cons_zero, List.getElem_cons_succ]
  go_simp
  refine (toBundle_any f n o s ts _ (show Hid (RIt w5.drew s ts) from HR.out.stays (Below.refl _ _).drew) hlen).mono ?_
  rintro e w6 ⟨u6, rfl, o6, b6⟩
  have c6 : Below w5.heap.size w5 w6 := (Below.refl w5.heap.size w5).drew.trans b6
  refine hK.out _ _ (c6) (fun hHeld => ?_)
  clear hK K
  try simp only [Act.put, List.getElem_toArray, List.getElem_cons_zero, List.getElem_cons_succ, List.setIfInBounds_toArray, List.set_cons_zero, List.set_cons_succ]
  refine wpAnyH_ready (rs := [3]) (by kernel_rfl) (by simp) ?_
  refine AllReadyH.cons (i := 3) rfl (fun K hK => ?_) AllReadyH.nil
  rw [if_pos (by rfl)]
  simp only [List.getElem_toArray, List.getElem_cons_zero, List.getElem_cons_succ]
  go_simp
  refine (eqBundle_same f n o uX u6 ts w3.heap.size _ _ (show Hid (SlI w6 _ uX.v ts) from XO.out.below c6) (show Hid (SlI w6 _ u6.v ts) from o6) hlen).mono ?_
  rintro e w7 ⟨rfl, b7⟩
  have c7 : Below w5.heap.size w5 w7 := bl_nxt c6 b7
  refine hK.out _ _ (c7) (fun hHeld => ?_)
  clear hK K
  try simp only [Act.put, List.getElem_toArray, List.getElem_cons_zero, List.getElem_cons_succ, List.setIfInBounds_toArray, List.set_cons_zero, List.set_cons_succ]
  refine wpAnyH_take (i := 4) (v := ?v4) rfl (by kernel_rfl) (by kernel_rfl) (by kernel_rfl) (fun _ _ _ h => h) (Or.inl ⟨by rfl, ?hy4⟩) (by assumption) ?_
  case hy4 => (intro w hSw; (try dsimp only at hSw); simp only [List.getElem_toArray, List.getElem_cons_zero, List.getElem_cons_succ]; go_simp; try with_reducible rfl)
  try simp only [Act.put, List.getElem_toArray, List.getElem_cons_zero, List.getElem_cons_succ, List.setIfInBounds_toArray, List.set_cons_zero, List.set_cons_succ]
  refine wpAnyH_done (by kernel_rfl) ?_ _
  have BF : Below w.heap.size w w7 := bl_nxt HB0.out c7
  go_wp2_with fail
  go_ret
  exact ⟨rfl, BF⟩
end Go.Proofs.YtlflcjdpdbdbkaaDoor
