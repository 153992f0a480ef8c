/- What is given of what is wanted: both Give. -/
import Derived.Test.YthdjkkiegecgnaaRn
import Derived.Test.YthdjkkiegecgnaaA4
import Derived.BigQuiet
namespace Go.Proofs.Ythdjkkiegecgnaa
open Go.RowKit Pl
set_option linter.unusedVariables false

/-- n is one of them. -/
def inB (ws : List Int) (n : Int) : Bool := decide (n ∈ ws)
theorem inB_first {ws : List Int} {n : Int} {k : Nat} (h : FirstAt ws n k) : inB ws n = true := by
  obtain ⟨hk, he, _⟩ := h
  unfold inB
  simp only [decide_eq_true_eq]
  rw [← he]
  exact List.getElem_mem hk
theorem inB_none {ws : List Int} {n : Int} (h : NoneUpto ws n ws.length) : inB ws n = false := by
  unfold inB
  simp only [decide_eq_false_iff_not]
  intro hm
  obtain ⟨j, hj, he⟩ := List.getElem_of_mem hm
  exact h j hj hj he

set_option maxRecDepth 100000 in
set_option maxHeartbeats 1000000 in
theorem contains_any (ao : Option Addr) (cap : Nat) (ws : List Int) (d : Int) (w : World) (hx : Hid (IntsAt w ao ws)) (hl : ws.length ≤ 1048576) :
    Calls Try.prog 121 #[.slice ao ws.length cap, .int .i64 d] w fun e w' => e = .returned (.bool (inB ws d)) ∧ w' = w := by
  rcases first_or_none ws d with ⟨k, hk⟩ | hn
  · rw [inB_first hk]
    have HK : Hid (FirstAt ws d k) := hk
    have h0 : (0 : Int) ≤ (k : Int) := by omega
    clear hk
    go_enter Try.func121, Try.ntmps121
    go_wp2_with fail
    refine (index_at ao cap ws d k w hx hl HK).mono ?_
    rintro e w1 ⟨rfl, rfl⟩
    go_wp2_with fail
    go_ret
    exact ⟨by simp, rfl⟩
  · rw [inB_none hn]
    have HN : Hid (NoneUpto ws d ws.length) := hn
    clear hn
    go_enter Try.func121, Try.ntmps121
    go_wp2_with fail
    refine (index_none ao cap ws d w hx hl HN).mono ?_
    rintro e w1 ⟨rfl, rfl⟩
    go_wp2_with fail
    go_ret
    exact ⟨rfl, rfl⟩

set_option maxRecDepth 100000 in
set_option maxHeartbeats 1000000 in
theorem lin_any (ao : Option Addr) (cap : Nat) (ws : List Int) (d : Int) (w : World) (hx : Hid (IntsAt w ao ws)) (hl : ws.length ≤ 1048576) :
    Calls Try.prog 80 #[.slice ao ws.length cap, .int .i64 d] w fun e w' => e = .returned (.bool (inB ws d)) ∧ w' = w := by
  go_enter Try.func80, Try.ntmps80
  go_wp2
  go_loop [5] (fun i => ∃ (k : Nat), k ≤ ws.length ∧ i = .int .i64 k ∧ Hid (NoneUpto ws d k)) (fun i => ws.length - (intOf i).toNat)
  case atStart => exact ⟨0, Nat.zero_le _, rfl, fun j _ h => by omega⟩
  case round =>
    obtain ⟨k, hk, rfl, hnu⟩ := hrel
    by_cases hlt : k < ws.length
    · obtain ⟨b, off, rfl, hbb, hc⟩ := hx.out k hlt
      obtain ⟨x, ht⟩ : ∃ x, x = ws[k] := ⟨_, rfl⟩
      rw [← ht] at hc
      have HT : Hid (x = ws[k]) := ht
      clear ht
      by_cases h1 : x = d
      · have HF : Hid (FirstAt ws d k) := ⟨hlt, by rw [← HT.out]; exact h1, fun j hj => hnu.out j (by omega) hj⟩
        go_wp2
        go_ret
        exact ⟨by rw [inB_first HF.out]; rfl, rfl⟩
      · have HE : Hid (¬ x = d) := h1
        go_wp2
        go_round
        case rel => exact ⟨k + 1, by omega, by go_num, (fun j hj h => by
            by_cases e : j = k
            · subst e; rw [← HT.out]; exact HE.out
            · exact hnu.out j hj (by omega))⟩
        case measure => simp [intOf]; omega
    · obtain rfl : k = ws.length := by omega
      go_wp2
      go_ret
      exact ⟨by rw [inB_none hnu.out]; rfl, rfl⟩

set_option maxRecDepth 100000 in
set_option maxHeartbeats 1000000 in
theorem asks_any (c r q a b : Int) (ao : Option Addr) (cap : Nat) (ws : List Int) (n f l : Int) (t : ByteArray) (w : World) (hx : Hid (IntsAt w ao ws)) (hl : ws.length ≤ 1048576) :
    Calls Try.prog 129 #[.agg #[.int .i64 c, .int .i64 r, .int .i64 q, .int .i64 a, .int .i64 b, .slice ao ws.length cap], .agg #[.int .i64 n, .int .i64 f, .int .i64 l, .string t]] w fun e w' => e = .returned (.bool (inB ws n)) ∧ Below w.heap.size w w' := by
  have HB : Hid (Below w.heap.size w ((w.alloc (.cells #[.int .i64 c, .int .i64 r, .int .i64 q, .int .i64 a, .int .i64 b, .slice ao ws.length cap] 30)).alloc (.cells #[.int .i64 n, .int .i64 f, .int .i64 l, .string t] 38))) := ((Below.refl _ _).alloc (Nat.le_refl _) _).alloc (by simp) _
  have HX : Hid (IntsAt ((w.alloc (.cells #[.int .i64 c, .int .i64 r, .int .i64 q, .int .i64 a, .int .i64 b, .slice ao ws.length cap] 30)).alloc (.cells #[.int .i64 n, .int .i64 f, .int .i64 l, .string t] 38)) ao ws) := hx.out.stays HB.out
  clear hx
  go_enter Try.func129, Try.ntmps129
  go_wp2_with fail
  generalize ((w.alloc (.cells #[.int .i64 c, .int .i64 r, .int .i64 q, .int .i64 a, .int .i64 b, .slice ao ws.length cap] 30)).alloc (.cells #[.int .i64 n, .int .i64 f, .int .i64 l, .string t] 38)) = W at *
  refine (contains_any ao cap ws n W HX hl).mono ?_
  rintro e w1 ⟨rfl, rfl⟩
  go_wp2_with fail
  go_ret
  exact ⟨rfl, HB.out⟩

/-- those of the list that ws has. -/
def giveP (ws : List Int) (ts : List It) : List It := ts.filter fun x => inB ws x.1
theorem give_step {ws : List Int} {ts : List It} {k : Nat} (hk : k < ts.length) : giveP ws (ts.take (k + 1)) = giveP ws (ts.take k) ++ if inB ws ts[k].1 then [ts[k]] else [] := by
  unfold giveP
  rw [List.take_succ_eq_append_getElem hk, List.filter_append]
  congr 1
  cases h : inB ws ts[k].1 <;> simp [h]
theorem give_len (ws : List Int) (ts : List It) (k : Nat) : (giveP ws (ts.take k)).length ≤ ts.length :=
  Nat.le_trans (List.length_filter_le _ _) (by rw [List.length_take]; omega)

set_option maxRecDepth 100000 in
set_option maxHeartbeats 1000000 in
theorem kept_any (c r q a b : Int) (aw : Option Addr) (cw : Nat) (ws : List Int) (ao : Option Addr) (cap : Nat) (ts : List It) (w : World) (hy : Hid (IntsAt w aw ws)) (hx : Hid (ItemsAt w ao ts)) (hl : ts.length ≤ 1048576) (hw : ws.length ≤ 1048576) :
    Calls Try.prog 128 #[.slice ao ts.length cap, .func (Fn.func 129) #[.agg #[.int .i64 c, .int .i64 r, .int .i64 q, .int .i64 a, .int .i64 b, .slice aw ws.length cw]] #[]] w fun e w' => ∃ v, e = .returned v ∧ SlI w' w.heap.size v (giveP ws ts) ∧ Below w.heap.size w w' := by
  have S0 : Hid (SlI (w.alloc (.cells #[] 38)) w.heap.size (.slice (some ⟨w.heap.size, 0, none⟩) 0 0) []) := SlI.made w w.heap.size (Nat.le_refl _)
  have B0 : Hid (Below w.heap.size w (w.alloc (.cells #[] 38))) := (Below.refl _ _).alloc (Nat.le_refl _) _
  go_enter Try.func128, Try.ntmps128
  go_wp2
  go_loopw [5, 11] (fun v i wr => ∃ (k : Nat), k ≤ ts.length ∧ i = .int .i64 k ∧ Hid (SlI wr w.heap.size v (giveP ws (ts.take k))) ∧ Hid (Below w.heap.size w wr)) (fun _ i _ => ts.length - (intOf i).toNat)
  case atStart => exact ⟨0, Nat.zero_le _, rfl, S0, B0⟩
  case round =>
    clear S0 B0
    obtain ⟨k, hk, rfl, hS, hb⟩ := hrel
    by_cases hlt : k < ts.length
    · obtain ⟨bb, off, rfl, hbb, h0, h1, h2, h3⟩ := hx.out.stays hb.out k hlt
      have HP : Hid (∃ x : It, x = ts[k]) := ⟨_, rfl⟩
      obtain ⟨⟨n, f, lv, tx⟩, hp⟩ := HP.out
      rw [← hp] at h0 h1 h2 h3
      have hst := give_step (ws := ws) hlt
      rw [← hp] at hst
      have HST : Hid _ := hst
      clear hp HP hst
      dsimp only at h0 h1 h2 h3
      have S0 : Hid (SlI (wr.alloc (.cells #[.int .i64 n, .int .i64 f, .int .i64 lv, .string tx] 38)) w.heap.size u5 (giveP ws (ts.take k))) := hS.out.below ((Below.refl _ _).alloc (Nat.le_refl _) _)
      have I0 : Hid (ItAt (wr.alloc (.cells #[.int .i64 n, .int .i64 f, .int .i64 lv, .string tx] 38)) wr.heap.size n f lv tx) := heap_alloc_new wr _
      have B0 : Hid (Below w.heap.size w (wr.alloc (.cells #[.int .i64 n, .int .i64 f, .int .i64 lv, .string tx] 38))) := hb.out.alloc hb.out.size _
      have Y0 : Hid (IntsAt (wr.alloc (.cells #[.int .i64 n, .int .i64 f, .int .i64 lv, .string tx] 38)) aw ws) := hy.out.stays B0.out
      go_wp2_with fail
      generalize wr.alloc (.cells #[.int .i64 n, .int .i64 f, .int .i64 lv, .string tx] 38) = W0 at *
      clear h0 h1 h2 h3
      refine (asks_any c r q a b aw cw ws n f lv tx _ Y0 hw).mono ?_
      rintro e w1 ⟨rfl, hb1⟩
      have S1 : Hid (SlI w1 w.heap.size u5 (giveP ws (ts.take k))) := S0.out.below hb1
      have I1 := I0.out.stays hb1 I0.out.lt
      obtain ⟨c0, c1, c2, c3⟩ := I1.cells
      have B1 : Below w.heap.size w w1 := B0.out.trans (hb1.mono B0.out.size)
      have z1 : w.heap.size ≤ w1.heap.size := B1.size
      have hlk : (giveP ws (ts.take k)).length ≤ 1048576 := Nat.le_trans (give_len ws ts k) hl
      clear hb1 S0 B0 hS I0 I1 Y0
      cases hq : inB ws n with
      | true =>
        have HLS : Hid (giveP ws (ts.take (k + 1)) = giveP ws (ts.take k) ++ [(n, f, lv, tx)]) := by
          have := HST.out
          rwa [if_pos (show inB ws (n, f, lv, tx).1 = true from hq)] at this
        clear HST
        go_wp2_with (at_builtin; refine wpList_pushIt rfl _ _ 27 rfl Try.underlying27 w.heap.size u5 _ rfl S1.out (n, f, lv, tx) rfl hlk z1 ?_; intro v2 w2 S2 g2 b2 _)
        have S2 : Hid (SlI w2 w.heap.size v2 (giveP ws (ts.take (k + 1)))) := by
          rw [HLS.out]
          exact S2
        have B2 : Hid (Below w.heap.size w w2) := B1.trans b2
        go_roundw
        case rel => exact ⟨k + 1, by omega, by go_num, S2, B2⟩
        case measure => simp [intOf]; omega
      | false =>
        have HLS : Hid (giveP ws (ts.take (k + 1)) = giveP ws (ts.take k)) := by
          have := HST.out
          rwa [if_neg (show ¬ inB ws (n, f, lv, tx).1 = true by simp [hq]), List.append_nil] at this
        clear HST
        have S2 : Hid (SlI w1 w.heap.size u5 (giveP ws (ts.take (k + 1)))) := by
          rw [HLS.out]
          exact S1
        have B2 : Hid (Below w.heap.size w w1) := B1
        go_wp2_with fail
        go_roundw
        case rel => exact ⟨k + 1, by omega, by go_num, S2, B2⟩
        case measure => simp [intOf]; omega
    · obtain rfl : k = ts.length := by omega
      go_wp2_with fail
      go_ret
      exact ⟨_, rfl, by have := hS.out; rw [List.take_length] at this; exact this, hb.out⟩

set_option maxRecDepth 100000 in
set_option maxHeartbeats 1000000 in
theorem give_any (c r q a b : Int) (aw : Option Addr) (cw : Nat) (ws : List Int) (ao : Option Addr) (cap : Nat) (ts : List It) (w : World) (hy : Hid (IntsAt w aw ws)) (hx : Hid (ItemsAt w ao ts)) (hl : ts.length ≤ 1048576) (hw : ws.length ≤ 1048576) (hs : Hid (∀ x ∈ ts, x.2.2.2.size ≤ 1048576)) :
    Calls Try.prog 70 #[.agg #[.int .i64 c, .int .i64 r, .int .i64 q, .int .i64 a, .int .i64 b, .slice aw ws.length cw], .slice ao ts.length cap] w fun e w' => ∃ v, e = .returned v ∧ SlI w' w.heap.size v (giveP ws ts) ∧ Below w.heap.size w w' := by
  have HB : Hid (Below w.heap.size w (w.alloc (.cells #[.int .i64 c, .int .i64 r, .int .i64 q, .int .i64 a, .int .i64 b, .slice aw ws.length cw] 30))) := (Below.refl _ _).alloc (Nat.le_refl _) _
  have HY : Hid (IntsAt (w.alloc (.cells #[.int .i64 c, .int .i64 r, .int .i64 q, .int .i64 a, .int .i64 b, .slice aw ws.length cw] 30)) aw ws) := hy.out.stays HB.out
  have HX : Hid (ItemsAt (w.alloc (.cells #[.int .i64 c, .int .i64 r, .int .i64 q, .int .i64 a, .int .i64 b, .slice aw ws.length cw] 30)) ao ts) := hx.out.stays HB.out
  clear hx hy
  go_enter Try.func70, Try.ntmps70
  go_wp2_with fail
  generalize w.alloc (.cells #[.int .i64 c, .int .i64 r, .int .i64 q, .int .i64 a, .int .i64 b, .slice aw ws.length cw] 30) = W at *
  refine (kept_any c r q a b aw cw ws ao cap ts W HY HX hl hw).mono ?_
  rintro e w1 ⟨v, rfl, S1, b1⟩
  have B1 : Below w.heap.size w w1 := HB.out.trans (b1.mono HB.out.size)
  have z1 : w.heap.size ≤ w1.heap.size := B1.size
  obtain ⟨vo, vc, rfl, Y1⟩ := S1.items
  have Y1 : Hid (ItemsAt w1 vo (giveP ws ts)) := Y1
  have hlw : (giveP ws ts).length ≤ 1048576 := Nat.le_trans (List.length_filter_le _ _) hl
  have HSW : Hid (∀ x ∈ giveP ws ts, x.2.2.2.size ≤ 1048576) := fun x hx => hs.out x (List.mem_filter.1 hx).1
  clear S1 hs HX HY b1
  go_wp2_with fail
  refine (copyItems_any vo vc (giveP ws ts) w1 Y1 hlw HSW).mono ?_
  rintro e w2 ⟨v2, rfl, S2, B2⟩
  go_wp2_with fail
  go_ret
  exact ⟨_, rfl, S2.down z1, B1.trans (B2.mono z1)⟩
end Go.Proofs.Ythdjkkiegecgnaa
