/- The law on unions of drawn stores. -/
import Derived.Test.YtjijpcfdkmbgpaaUp
import Derived.Test.YtjijpcfdkmbgpaaSq
import Derived.Test.YtjijpcfdkmbgpaaDj
namespace Go.Proofs.Ytjijpcfdkmbgpaa
open Go.RowKit Pl
set_option linter.unusedVariables false

theorem agg_eq (q f l : Int) (t : ByteArray) : agg (q, f, l, t) = .agg #[.int .i64 q, .int .i64 f, .int .i64 l, .string t] := rfl
theorem putAll_mem : ∀ {ys ts : List It} {x : It}, x ∈ putAll ts ys → x ∈ ts ∨ x ∈ ys
  | [], ts, x, h => .inl h
  | y :: ys, ts, x, h => by
    rcases putAll_mem (ys := ys) (ts := ins1 ts y) h with h | h
    · rcases ins1_mem h with h | rfl
      · exact .inl h
      · exact .inr (List.mem_cons_self ..)
    · exact .inr (List.mem_cons_of_mem _ h)
/-- two lists in a new row. -/
theorem isAt_two {w : World} {ao bo : Option Addr} {ac bc : Nat} {a b : List It} (ha : ItemsAt w ao a) (hb : ItemsAt w bo b) (ua : Upto a 10) (ub : Upto b 10) : IsAt (w.alloc (.cells #[.slice ao a.length ac, .slice bo b.length bc] 24)) (some ⟨w.heap.size, 0, none⟩) [a, b] := by
  have hbl : Below w.heap.size w (w.alloc (.cells #[.slice ao a.length ac, .slice bo b.length bc] 24)) := (Below.refl _ _).alloc (Nat.le_refl _) _
  have hh : (w.alloc (.cells #[.slice ao a.length ac, .slice bo b.length bc] 24)).heap[w.heap.size]? = some (.cells #[.slice ao a.length ac, .slice bo b.length bc] 24 (0, 0)) := heap_alloc_new w _
  have bd : ∀ l : List It, Upto l 10 → l.length ≤ maxLen ∧ ∀ y ∈ l, y.2.2.2.size ≤ maxLen := fun l h => ⟨by have := h.2.2.1; unfold maxLen; omega, fun y hy => by have := h.2.2.2 y hy; unfold maxLen; omega⟩
  intro i hi
  match i, hi with
  | 0, _ => exact ⟨w.heap.size, 0, ao, ac, rfl, by simp, by rw [cell_of_row _ _ _ _ 24 (0, 0) hh]; rfl, ha.stays hbl, bd a ua⟩
  | 1, _ => exact ⟨w.heap.size, 0, bo, bc, rfl, by simp, by rw [cell_of_row _ _ _ _ 24 (0, 0) hh]; rfl, hb.stays hbl, bd b ub⟩
theorem isAt_one {w : World} {ao : Option Addr} {ac : Nat} {a : List It} (ha : ItemsAt w ao a) (ua : Upto a 10) : IsAt (w.alloc (.cells #[.slice ao a.length ac] 24)) (some ⟨w.heap.size, 0, none⟩) [a] := by
  have hbl : Below w.heap.size w (w.alloc (.cells #[.slice ao a.length ac] 24)) := (Below.refl _ _).alloc (Nat.le_refl _) _
  have hh : (w.alloc (.cells #[.slice ao a.length ac] 24)).heap[w.heap.size]? = some (.cells #[.slice ao a.length ac] 24 (0, 0)) := heap_alloc_new w _
  intro i hi
  match i, hi with
  | 0, _ => exact ⟨w.heap.size, 0, ao, ac, rfl, by simp, by rw [cell_of_row _ _ _ _ 24 (0, 0) hh]; rfl, ha.stays hbl, by have := ua.2.2.1; show a.length ≤ maxLen; unfold maxLen; omega, fun y hy => by have := ua.2.2.2 y hy; unfold maxLen; omega⟩

theorem union_of (L : List (List It)) (n : Nat) (hn : L.length = n) (hu : ∀ l ∈ L, Upto l 10) (hL : n ≤ 2) (a : Option Addr) (W : World) (h : Hid (IsAt W a L)) : Calls Try.prog 27 #[.slice a n n] W fun e w' => ∃ v, e = .returned v ∧ SlI w' W.heap.size v (unionP L) ∧ Below W.heap.size W w' := by
  subst hn
  exact union_any a _ L W h (by omega) (fun l hl => by have := (hu l hl).2.2.1; omega) (fun l hl y hy => by have := (hu l hl).2.2.2 y hy; omega)

set_option maxRecDepth 100000 in
set_option maxHeartbeats 1000000 in
theorem same_at (a1 a2 : Option Addr) (c1 c2 : Nat) (ts : List It) (w : World) (X1 : Hid (ItemsAt w a1 ts)) (X2 : Hid (ItemsAt w a2 ts)) (hl : ts.length ≤ 1048576) :
    Calls Try.prog 16 #[.slice a1 ts.length c1, .slice a2 ts.length c2] w fun e w' => e = .returned (.bool true) ∧ Below w.heap.size w w' := by
  go_enter Try.func16, Try.ntmps16
  go_wp2_with fail
  go_loopw [5] (fun i wr => ∃ k : Nat, k ≤ ts.length ∧ i = .int .i64 k ∧ Hid (Below w.heap.size w wr)) (fun i _ => ts.length - (intOf i).toNat)
  case atStart => exact ⟨0, by omega, rfl, Below.refl _ _⟩
  case round =>
    obtain ⟨k, hk, rfl, hb⟩ := hrel
    by_cases hlt : k < ts.length
    · obtain ⟨b1, off1, rfl, hbb1, h0, h1, h2, h3⟩ := X1.out.stays hb.out k hlt
      obtain ⟨b2, off2, rfl, hbb2, g0, g1, g2, g3⟩ := X2.out.stays hb.out k hlt
      have HP : Hid (∃ x : It, x = ts[k]) := ⟨_, rfl⟩
      obtain ⟨⟨q, f, lv, tx⟩, hp⟩ := HP.out
      rw [← hp] at h0 h1 h2 h3 g0 g1 g2 g3
      clear hp HP
      dsimp only at h0 h1 h2 h3 g0 g1 g2 g3
      have i0 : (0 : Int) ≤ (k : Int) := by omega
      have i1 : (k : Int) < (ts.length : Int) := by omega
      go_wp2_with fail
      go_region
      have B1 : Hid (Below w.heap.size w wr.drew) := hb.out.drew
      clear h0 h1 h2 h3 g0 g1 g2 g3
      generalize wr.drew = W1 at *
      go_wp2_with fail
      go_roundw
      case rel => exact ⟨k + 1, by omega, by go_num, B1⟩
      case measure => simp [intOf]; omega
    · go_wp2_with fail
      go_ret
      exact ⟨rfl, hb.out⟩

set_option maxRecDepth 100000 in
set_option maxHeartbeats 8000000 in
theorem lawUnions (w : World) (n cap : Nat) (ao : Option Addr) (hk : Hid (CodeAt w w.heap.size ao n)) :
    Calls Try.prog 5 #[.slice ao n cap] w fun e w' => e = .returned (.bool true) ∧ Below w.heap.size w w' := by
  by_cases hbig : 1048576 < n
  · go_enter Try.func5, Try.ntmps5
    go_wp2_with fail
    refine (big_any w n cap ao true (by simp; omega)).mono ?_
    rintro e w1 ⟨rfl, hw⟩
    obtain rfl := hw.symm
    go_wp2_with fail
    go_ret
    exact ⟨rfl, Below.refl _ _⟩
  have hn : n ≤ 1048576 := by omega
  go_enter Try.func5, Try.ntmps5
  go_wp2_with fail
  refine (big_any w n cap ao false (by simp; omega)).mono ?_
  rintro e w1 ⟨rfl, hw⟩
  obtain rfl := hw.symm
  clear hw hbig
  go_wp2_with fail
  refine (drawStores_any w n cap ao hn hk).mono ?_
  rintro e w1 ⟨⟨va, a, vb, b, rfl, Sa, Ua, Sb, Ub⟩, B1⟩
  obtain ⟨xo, xc, rfl, Xa⟩ := Sa.items
  obtain ⟨yo, yc, rfl, Xb⟩ := Sb.items
  have hal : a.length ≤ 9 := by have := Ua.2.2.1; omega
  have hbl : b.length ≤ 9 := by have := Ub.2.2.1; omega
  have UA : Hid (Upto a 10) := Ua
  have UB : Hid (Upto b 10) := Ub
  have XA : Hid (ItemsAt w1 xo a) := Xa
  have XB : Hid (ItemsAt w1 yo b) := Xb
  have ra : Hid (iGo 0 a = true) := Ua.1
  have rb : Hid (iGo 0 b = true) := Ub.1
  obtain ⟨U, hU⟩ : ∃ U, U = putAll a b := ⟨_, rfl⟩
  obtain ⟨V, hV⟩ : ∃ V, V = putAll b a := ⟨_, rfl⟩
  have UU : Hid (∀ (x : Option Addr) (W : World), Hid (IsAt W x [a, b]) → Calls Try.prog 27 #[.slice x 2 2] W fun e w' => ∃ v, e = .returned v ∧ SlI w' W.heap.size v U ∧ Below W.heap.size W w') := fun x W h => by
    have := union_of [a, b] 2 rfl (by simp; exact ⟨Ua, Ub⟩) (by omega) x W h
    rwa [union_two Ua.1 Ub.1, ← hU] at this
  have VV : Hid (∀ (x : Option Addr) (W : World), Hid (IsAt W x [b, a]) → Calls Try.prog 27 #[.slice x 2 2] W fun e w' => ∃ v, e = .returned v ∧ SlI w' W.heap.size v V ∧ Below W.heap.size W w') := fun x W h => by
    have := union_of [b, a] 2 rfl (by simp; exact ⟨Ub, Ua⟩) (by omega) x W h
    rwa [union_two Ub.1 Ua.1, ← hV] at this
  have ONE : Hid (∀ (x : Option Addr) (W : World), Hid (IsAt W x [a]) → Calls Try.prog 27 #[.slice x 1 1] W fun e w' => ∃ v, e = .returned v ∧ SlI w' W.heap.size v a ∧ Below W.heap.size W w') := fun x W h => by
    have := union_of [a] 1 rfl (by simp; exact Ua) (by omega) x W h
    rwa [union_one Ua.1] at this
  have NIL : Hid (∀ (x : Option Addr) (W : World), Calls Try.prog 27 #[.slice x 0 0] W fun e w' => ∃ v, e = .returned v ∧ SlI w' W.heap.size v [] ∧ Below W.heap.size W w') := fun x W => union_of [] 0 rfl (by simp) (by omega) x W (fun i hi => absurd hi (by simp))
  have HUr : Hid (iGo 0 U = true) := by
    show _ = _
    rw [hU]
    exact putAll_right _ _ Ua.1 (fun x hx => ((iGo_asc b 0 Ub.1).2 x hx).2)
  have hU60 : U.length ≤ 60 := iGo_short HUr.out
  have hV60 : V.length ≤ 60 := by
    rw [hV]
    exact iGo_short (putAll_right _ _ Ub.1 (fun x hx => ((iGo_asc a 0 Ua.1).2 x hx).2))
  have hUl : U.length ≤ a.length + b.length := by rw [hU]; exact putAll_len _ _ (iGo_asc a 0 Ua.1).1
  have HSQ : Hid (U.map (·.1) = V.map (·.1)) := by show _ = _; rw [hU, hV]; exact seq_same Ua.1 Ub.1
  have HUs : Hid (∀ x ∈ U, x.2.2.2.size ≤ 1048576) := fun x hx => by
    rw [hU] at hx
    rcases putAll_mem hx with h | h
    · have := Ua.2.2.2 x h; omega
    · have := Ub.2.2.2 x h; omega
  have HATA : Hid (∀ x ∈ a, atP U x.1 = some x) := fun x hx => by
    rw [hU]
    exact atP_mem (putAll_asc _ _ (iGo_asc a 0 Ua.1).1) (mem_putAll hx)
  have HHB : Hid (∀ x ∈ b, hasP U x.1 = true) := fun x hx => by
    rw [hU]
    exact (hasP_putAll b a x.1).2 (.inr ⟨x, hx, rfl⟩)
  have B1 : Hid (Below w.heap.size w w1) := B1
  have bl2 : Below w1.heap.size w1 (w1.alloc (.cells #[.slice xo a.length xc, .slice yo b.length yc] 24)) := (Below.refl _ _).alloc (Nat.le_refl _) _
  have I2 : Hid (IsAt (w1.alloc (.cells #[.slice xo a.length xc, .slice yo b.length yc] 24)) (some ⟨w1.heap.size, 0, none⟩) [a, b]) := isAt_two Xa Xb Ua Ub
  have XA2 : Hid (ItemsAt (w1.alloc (.cells #[.slice xo a.length xc, .slice yo b.length yc] 24)) xo a) := Xa.stays bl2
  have XB2 : Hid (ItemsAt (w1.alloc (.cells #[.slice xo a.length xc, .slice yo b.length yc] 24)) yo b) := Xb.stays bl2
  have B2 : Hid (Below w.heap.size w (w1.alloc (.cells #[.slice xo a.length xc, .slice yo b.length yc] 24))) := B1.out.trans (bl2.mono B1.out.size)
  clear Sa Sb Ua Ub Xa Xb hU hV hk bl2 XA XB B1
  go_wp2_with fail
  generalize w1.alloc (.cells #[.slice xo a.length xc, .slice yo b.length yc] 24) = W2 at *
  refine (UU.out _ W2 I2).mono ?_
  rintro e w3 ⟨vu, rfl, S3, b3⟩
  obtain ⟨uo, uc, rfl, Y3⟩ := S3.items
  have Y3 : Hid (ItemsAt w3 uo U) := Y3
  have XA3 := XA2.out.stays b3
  have XB3 := XB2.out.stays b3
  have B3 : Below w.heap.size w w3 := B2.out.trans (b3.mono B2.out.size)
  have bl4 : Below w3.heap.size w3 (w3.alloc (.cells #[.slice yo b.length yc, .slice xo a.length xc] 24)) := (Below.refl _ _).alloc (Nat.le_refl _) _
  have I4 : Hid (IsAt (w3.alloc (.cells #[.slice yo b.length yc, .slice xo a.length xc] 24)) (some ⟨w3.heap.size, 0, none⟩) [b, a]) := isAt_two XB3 XA3 UB.out UA.out
  have XA4 : Hid (ItemsAt (w3.alloc (.cells #[.slice yo b.length yc, .slice xo a.length xc] 24)) xo a) := XA3.stays bl4
  have XB4 : Hid (ItemsAt (w3.alloc (.cells #[.slice yo b.length yc, .slice xo a.length xc] 24)) yo b) := XB3.stays bl4
  have Y4 : Hid (ItemsAt (w3.alloc (.cells #[.slice yo b.length yc, .slice xo a.length xc] 24)) uo U) := Y3.out.stays bl4
  have B4 : Hid (Below w.heap.size w (w3.alloc (.cells #[.slice yo b.length yc, .slice xo a.length xc] 24))) := B3.trans (bl4.mono B3.size)
  clear S3 b3 I2 XA2 XB2 B2 XA3 XB3 B3 Y3 bl4 UU
  go_wp2_with fail
  generalize w3.alloc (.cells #[.slice yo b.length yc, .slice xo a.length xc] 24) = W4 at *
  refine (VV.out _ W4 I4).mono ?_
  rintro e w5 ⟨vv, rfl, S5, b5⟩
  obtain ⟨wo, wc_, rfl, Z5⟩ := S5.items
  have Z5 : Hid (ItemsAt w5 wo V) := Z5
  have Y5 : Hid (ItemsAt w5 uo U) := Y4.out.stays b5
  have XA5 : Hid (ItemsAt w5 xo a) := XA4.out.stays b5
  have XB5 : Hid (ItemsAt w5 yo b) := XB4.out.stays b5
  have B5 : Hid (Below w.heap.size w w5) := B4.out.trans (b5.mono B4.out.size)
  clear S5 b5 I4 XA4 XB4 B4 Y4 VV
  go_wp2_with fail
  refine (itemsB_is uo uc w5 Y5 (by omega) HUr.out).mono ?_
  rintro e w6 ⟨rfl, b6⟩
  have Z6 : Hid (ItemsAt w6 wo V) := Z5.out.stays b6
  have Y6 : Hid (ItemsAt w6 uo U) := Y5.out.stays b6
  have XA6 : Hid (ItemsAt w6 xo a) := XA5.out.stays b6
  have XB6 : Hid (ItemsAt w6 yo b) := XB5.out.stays b6
  have B6 : Hid (Below w.heap.size w w6) := B5.out.trans (b6.mono B5.out.size)
  clear b6 Z5 Y5 XA5 XB5 B5
  go_wp2_with fail
  refine (seqs_any uo uc U w6 Y6 (by omega)).mono ?_
  rintro e w7 ⟨s1, rfl, O7, b7⟩
  have O7 : Hid (OwnI w7 w6.heap.size s1 (U.map (·.1))) := O7
  have Z7 : Hid (ItemsAt w7 wo V) := Z6.out.stays b7
  have Y7 : Hid (ItemsAt w7 uo U) := Y6.out.stays b7
  have XA7 : Hid (ItemsAt w7 xo a) := XA6.out.stays b7
  have XB7 : Hid (ItemsAt w7 yo b) := XB6.out.stays b7
  have B7 : Hid (Below w.heap.size w w7) := B6.out.trans (b7.mono B6.out.size)
  clear b7 Z6 Y6 XA6 XB6 B6
  go_wp2_with fail
  refine (seqs_any wo wc_ V w7 Z7 (by omega)).mono ?_
  rintro e w8 ⟨s2, rfl, O8, b8⟩
  have O8b : Hid (OwnI w8 w6.heap.size s1 (U.map (·.1))) := O7.out.under b8
  have O8 : Hid (OwnI w8 w7.heap.size s2 (U.map (·.1))) := by rw [HSQ.out]; exact O8
  have Y8 : Hid (ItemsAt w8 uo U) := Y7.out.stays b8
  have XA8 : Hid (ItemsAt w8 xo a) := XA7.out.stays b8
  have XB8 : Hid (ItemsAt w8 yo b) := XB7.out.stays b8
  have B8 : Hid (Below w.heap.size w w8) := B7.out.trans (b8.mono B7.out.size)
  clear b8 Z7 Y7 XA7 XB7 B7 O7
  go_wp2_with fail
  refine (sameI_same s1 s2 (U.map (·.1)) _ _ w8 O8b.out O8.out (by rw [List.length_map]; omega)).mono ?_
  rintro e w9 ⟨rfl, b9⟩
  have Y9 : Hid (ItemsAt w9 uo U) := Y8.out.stays b9
  have XA9 : Hid (ItemsAt w9 xo a) := XA8.out.stays b9
  have XB9 : Hid (ItemsAt w9 yo b) := XB8.out.stays b9
  have B9 : Hid (Below w.heap.size w w9) := B8.out.trans (b9.mono B8.out.size)
  clear b9 Y8 XA8 XB8 B8 O8 O8b
  go_wp2_with fail
  go_loopw [7] (fun i wr => ∃ k : Nat, k ≤ a.length ∧ i = .int .i64 k ∧ Hid (ItemsAt wr uo U) ∧ Hid (ItemsAt wr xo a) ∧ Hid (ItemsAt wr yo b) ∧ Hid (Below w.heap.size w wr)) (fun i _ => a.length - (intOf i).toNat)
  case atStart => exact ⟨0, Nat.zero_le _, rfl, Y9, XA9, XB9, B9⟩
  case round =>
    clear Y9 XA9 XB9 B9
    obtain ⟨k, hk, rfl, hY, hXA, hXB, hb⟩ := hrel
    by_cases hlt : k < a.length
    · have hata := HATA.out a[k] (List.getElem_mem hlt)
      obtain ⟨bb, off, rfl, hbb, h0, h1, h2, h3⟩ := hXA.out k hlt
      have HP : Hid (∃ x : It, x = a[k]) := ⟨_, rfl⟩
      obtain ⟨⟨q, f, lv, tx⟩, hp⟩ := HP.out
      rw [← hp] at h0 h1 h2 h3 hata
      clear hp HP
      dsimp only at h0 h1 h2 h3 hata
      have A1 := itemAt_any uo uc U q wr hY (by omega) HUs
      have hhas : hasP U q = true := by unfold hasP; rw [hata]; rfl
      rw [hata, hhas] at A1
      have A1 : Hid _ := A1
      have i0 : (0 : Int) ≤ (k : Int) := by omega
      have i1 : (k : Int) < (a.length : Int) := by omega
      clear hata hhas
      go_wp2_with fail
      refine (show Calls _ _ _ _ _ from A1.out).mono ?_
      rintro e wd ⟨rfl, bd⟩
      have b2 : Below wd.heap.size wd (wd.alloc (.cells #[.int .i64 q, .int .i64 f, .int .i64 lv, .string tx] 26)) := (Below.refl _ _).alloc (Nat.le_refl _) _
      have b3 : Below wr.heap.size wr (wd.alloc (.cells #[.int .i64 q, .int .i64 f, .int .i64 lv, .string tx] 26)) := bd.trans (b2.mono bd.size)
      have Yd : Hid (ItemsAt (wd.alloc (.cells #[.int .i64 q, .int .i64 f, .int .i64 lv, .string tx] 26)) uo U) := hY.out.stays b3
      have XAd : Hid (ItemsAt (wd.alloc (.cells #[.int .i64 q, .int .i64 f, .int .i64 lv, .string tx] 26)) (some ⟨bb, off, none⟩) a) := hXA.out.stays b3
      have XBd : Hid (ItemsAt (wd.alloc (.cells #[.int .i64 q, .int .i64 f, .int .i64 lv, .string tx] 26)) yo b) := hXB.out.stays b3
      have Bd : Hid (Below w.heap.size w (wd.alloc (.cells #[.int .i64 q, .int .i64 f, .int .i64 lv, .string tx] 26))) := hb.out.trans (b3.mono hb.out.size)
      have Id : Hid (ItAt (wd.alloc (.cells #[.int .i64 q, .int .i64 f, .int .i64 lv, .string tx] 26)) wd.heap.size q f lv tx) := heap_alloc_new wd _
      have e0 := (b3.cell (p := ⟨bb, off + k * 4, none⟩) hbb).trans h0
      have e1 := (b3.cell (p := ⟨bb, off + k * 4 + 1, none⟩) hbb).trans h1
      have e2 := (b3.cell (p := ⟨bb, off + k * 4 + 2, none⟩) hbb).trans h2
      have e3 := (b3.cell (p := ⟨bb, off + k * 4 + 3, none⟩) hbb).trans h3
      obtain ⟨c0, c1, c2, c3⟩ := Id.out.cells
      clear A1 bd b2 b3 h0 h1 h2 h3 hY hXA hXB hb
      dsimp only [Option.getD]
      rw [agg_eq]
      go_wp2_with fail
      go_region
      clear c0 c1 c2 c3 e0 e1 e2 e3
      have Ye : Hid (ItemsAt ((wd.alloc (.cells #[.int .i64 q, .int .i64 f, .int .i64 lv, .string tx] 26)).drew) uo U) := Yd.out.stays (Below.refl _ _).drew
      have XAe : Hid (ItemsAt ((wd.alloc (.cells #[.int .i64 q, .int .i64 f, .int .i64 lv, .string tx] 26)).drew) (some ⟨bb, off, none⟩) a) := XAd.out.stays (Below.refl _ _).drew
      have XBe : Hid (ItemsAt ((wd.alloc (.cells #[.int .i64 q, .int .i64 f, .int .i64 lv, .string tx] 26)).drew) yo b) := XBd.out.stays (Below.refl _ _).drew
      have Be : Hid (Below w.heap.size w ((wd.alloc (.cells #[.int .i64 q, .int .i64 f, .int .i64 lv, .string tx] 26)).drew)) := Bd.out.drew
      clear Yd XAd XBd Bd Id
      generalize (wd.alloc (.cells #[.int .i64 q, .int .i64 f, .int .i64 lv, .string tx] 26)).drew = We at *
      go_wp2_with fail
      go_roundw
      case rel => exact ⟨k + 1, by omega, by go_num, Ye, XAe, XBe, Be⟩
      case measure => simp [intOf]; omega
    · have i1 : ¬ (k : Int) < (a.length : Int) := by omega
      go_wp2_with fail
      clear i1
      go_loopw [10] (fun i wr => ∃ k : Nat, k ≤ b.length ∧ i = .int .i64 k ∧ Hid (ItemsAt wr uo U) ∧ Hid (ItemsAt wr xo a) ∧ Hid (ItemsAt wr yo b) ∧ Hid (Below w.heap.size w wr)) (fun i _ => b.length - (intOf i).toNat)
      case atStart => exact ⟨0, Nat.zero_le _, rfl, hY, hXA, hXB, hb⟩
      case round =>
        clear hY hXA hXB hb hlt hk
        obtain ⟨j, hj, rfl, hY, hXA, hXB, hb⟩ := hrel
        by_cases hlt : j < b.length
        · have hhb := HHB.out b[j] (List.getElem_mem hlt)
          obtain ⟨bb, off, rfl, hbb, h0, h1, h2, h3⟩ := hXB.out j hlt
          generalize b[j].1 = q at h0 hhb
          have A1 := itemAt_any uo uc U q wr hY (by omega) HUs
          rw [hhb] at A1
          generalize (atP U q).getD zIt = y at A1
          obtain ⟨q3, f3, l3, t3⟩ := y
          have A1 : Hid _ := A1
          have i0 : (0 : Int) ≤ (j : Int) := by omega
          have i1 : (j : Int) < (b.length : Int) := by omega
          clear hhb h1 h2 h3
          go_wp2_with fail
          refine (show Calls _ _ _ _ _ from A1.out).mono ?_
          rintro e wd ⟨rfl, bd⟩
          have b2 : Below wd.heap.size wd (wd.alloc (.cells #[.int .i64 q3, .int .i64 f3, .int .i64 l3, .string t3] 26)) := (Below.refl _ _).alloc (Nat.le_refl _) _
          have b3 : Below wr.heap.size wr (wd.alloc (.cells #[.int .i64 q3, .int .i64 f3, .int .i64 l3, .string t3] 26)) := bd.trans (b2.mono bd.size)
          have Yd : Hid (ItemsAt (wd.alloc (.cells #[.int .i64 q3, .int .i64 f3, .int .i64 l3, .string t3] 26)) uo U) := hY.out.stays b3
          have XAd : Hid (ItemsAt (wd.alloc (.cells #[.int .i64 q3, .int .i64 f3, .int .i64 l3, .string t3] 26)) xo a) := hXA.out.stays b3
          have XBd : Hid (ItemsAt (wd.alloc (.cells #[.int .i64 q3, .int .i64 f3, .int .i64 l3, .string t3] 26)) (some ⟨bb, off, none⟩) b) := hXB.out.stays b3
          have Bd : Hid (Below w.heap.size w (wd.alloc (.cells #[.int .i64 q3, .int .i64 f3, .int .i64 l3, .string t3] 26))) := hb.out.trans (b3.mono hb.out.size)
          clear A1 bd b2 b3 h0 hY hXA hXB hb
          rw [agg_eq]
          go_wp2_with fail
          go_roundw
          case rel => exact ⟨j + 1, by omega, by go_num, Yd, XAd, XBd, Bd⟩
          case measure => simp [intOf]; omega
        · have i1 : ¬ (j : Int) < (b.length : Int) := by omega
          have hle : (U.length : Int) ≤ (a.length : Int) + (b.length : Int) := by omega
          have bl2 : Below wr.heap.size wr (wr.alloc (.cells #[.slice xo a.length xc] 24)) := (Below.refl _ _).alloc (Nat.le_refl _) _
          have I2 : Hid (IsAt (wr.alloc (.cells #[.slice xo a.length xc] 24)) (some ⟨wr.heap.size, 0, none⟩) [a]) := isAt_one hXA.out UA.out
          have XA2 : Hid (ItemsAt (wr.alloc (.cells #[.slice xo a.length xc] 24)) xo a) := hXA.out.stays bl2
          have B2 : Hid (Below w.heap.size w (wr.alloc (.cells #[.slice xo a.length xc] 24))) := hb.out.trans (bl2.mono hb.out.size)
          clear bl2 hY hXA hXB hb
          go_wp2_with fail
          generalize wr.alloc (.cells #[.slice xo a.length xc] 24) = W2 at *
          refine (ONE.out _ W2 I2).mono ?_
          rintro e w3 ⟨v3, rfl, S3, b3⟩
          obtain ⟨po, pc, rfl, P3⟩ := S3.items
          have P3 : Hid (ItemsAt w3 po a) := P3
          have XA3 : Hid (ItemsAt w3 xo a) := XA2.out.stays b3
          have B3 : Hid (Below w.heap.size w w3) := B2.out.trans (b3.mono B2.out.size)
          clear S3 b3 XA2 B2 I2
          go_wp2_with fail
          refine (same_at po xo pc xc a w3 P3 XA3 (by omega)).mono ?_
          rintro e w4 ⟨rfl, b4⟩
          have B4' : Below w.heap.size w w4 := B3.out.trans (b4.mono B3.out.size)
          have B4 : Hid (Below w.heap.size w (w4.alloc (.cells #[] 24))) := B4'.alloc B4'.size _
          clear b4 P3 XA3 B3 B4'
          go_wp2_with fail
          generalize w4.alloc (.cells #[] 24) = W4 at *
          refine (NIL.out _ W4).mono ?_
          rintro e w5 ⟨v5, rfl, S5, b5⟩
          obtain ⟨fo, fc, rfl⟩ := Sl.form S5
          have B5 : Hid (Below w.heap.size w w5) := B4.out.trans (b5.mono B4.out.size)
          clear b5 S5 B4
          go_wp2_with fail
          go_ret
          exact ⟨rfl, B5.out⟩
end Go.Proofs.Ytjijpcfdkmbgpaa
