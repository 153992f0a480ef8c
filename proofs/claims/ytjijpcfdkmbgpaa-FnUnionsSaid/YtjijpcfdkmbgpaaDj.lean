/- The walks over drawn lists of items that may be wrong, and over DrawPutItem, DrawStores. -/
import Derived.Test.YtjijpcfdkmbgpaaDi
import Derived.Test.YtjijpcfdkmbgpaaMk
namespace Go.Proofs.Ytjijpcfdkmbgpaa
open Go.RowKit Pl
set_option linter.unusedVariables false

theorem cels_set0 {ts : List It} {k : Nat} (hk : k < ts.length) (z : Int) : (cels ts).set (k * 4) (.int .i64 z) = cels (ts.set k (z, ts[k].2)) := by
  have hl : (cels (ts.take k)).length = k * 4 := by rw [cels_length, List.length_take, Nat.min_eq_left (by omega)]
  have e1 : ts = ts.take k ++ ts[k] :: ts.drop (k + 1) := by rw [← List.drop_eq_getElem_cons hk, List.take_append_drop]
  have e2 : ts.set k (z, ts[k].2) = ts.take k ++ (z, ts[k].2) :: ts.drop (k + 1) := by rw [List.set_eq_take_append_cons_drop, if_pos hk]
  have e0 : (cels (ts.take k) ++ cels (ts[k] :: ts.drop (k + 1))).set (k * 4) (.int .i64 z) = cels (ts.take k) ++ (cels (ts[k] :: ts.drop (k + 1))).set 0 (.int .i64 z) := set_right (cels (ts.take k)) (cels (ts[k] :: ts.drop (k + 1))) (k * 4) hl 0 (.int .i64 z)
  rw [e2, cels_append]
  have e3 : cels ts = cels (ts.take k) ++ cels (ts[k] :: ts.drop (k + 1)) := by rw [← cels_append, ← e1]
  rw [e3, e0]
  rfl
theorem code_up {w : World} {B B' n : Nat} {ao : Option Addr} (h : CodeAt w B ao n) (hB : B ≤ B') : Hid (CodeAt w B' ao n) := by
  intro i hi
  obtain ⟨b, off, z, h1, h2, h3⟩ := h i hi
  exact ⟨b, off, z, h1, Nat.lt_of_lt_of_le h2 hB, h3⟩
/-- a list that is short, of short texts. -/
def Short (ts : List It) : Prop := ts.length ≤ 10 ∧ ∀ x ∈ ts, x.2.2.2.size ≤ 61
theorem upto_short {ts : List It} (h : Upto ts 10) : Short ts := ⟨by have := h.2.2.1; omega, fun x hx => by have := h.2.2.2 x hx; omega⟩

set_option maxRecDepth 100000 in
set_option maxHeartbeats 4000000 in
theorem anyItems_any (w0 w : World) (B g n cap : Nat) (ao : Option Addr) (hn : n ≤ 1048576) (hB : B ≤ g) (hd : Hid (Drw w0 w B g ao n cap)) :
    Calls Try.prog 51 #[.pointer (some ⟨g, 0, none⟩)] w fun e w' => (∃ v ts, e = .returned v ∧ SlI w' w.heap.size v ts ∧ Short ts) ∧ Hid (Drw w w' B g ao n cap) := by
  have hg := hd.out.lt
  go_enter Try.func51, Try.ntmps51
  go_wp2_with fail
  refine (items_any w0 w B g n cap ao hn hB hd).mono ?_
  rintro e w1 ⟨⟨v, ts, rfl, S1, U1⟩, D1⟩
  have S1 : Hid (SlI w1 w.heap.size v ts) := S1
  have U1 : Hid (Upto ts 10) := U1
  clear hd
  go_wp2_with fail
  refine (below_small w1 w1 B g n cap 16 ao hn hB (by omega) (by omega) D1.out.here).mono ?_
  rintro e w2 ⟨⟨x, hx, rfl⟩, hd2⟩
  have S2 : Hid (SlI w2 w.heap.size v ts) := S1.out.but hd2.out.2.2 hg
  have D2 := D1.out.back hd2.out
  have hl9 : ts.length ≤ 9 := by have := U1.out.2.2.1; omega
  clear hd2 S1 D1
  by_cases x0 : x = 0
  · subst x0
    go_wp2_with fail
    refine (anyItem_any w2 w2 B g n cap ao hn hB D2.out.here).mono ?_
    rintro e w3 ⟨⟨q, f, l, t, ht, rfl⟩, hd3⟩
    have S3 : SlI w3 w.heap.size v ts := S2.out.but hd3.out.2.2 hg
    have D3 := D2.out.back hd3.out
    have z3 : w.heap.size ≤ w3.heap.size := D3.out.2.2.size
    have hlt : ts.length ≤ 1048576 := by omega
    clear hd3 S2 D2
    go_wp2_with (at_builtin; refine wpList_pushIt rfl _ _ 24 rfl Try.underlying24 w.heap.size v ts rfl S3 (q, f, l, t) rfl hlt z3 ?_; intro v4 w4 S4 g4 b4 _)
    have D4 := D3.out.push b4 hg hB
    go_ret
    refine ⟨⟨_, _, rfl, S4, by simp; omega, fun x hx => ?_⟩, D4⟩
    rcases List.mem_append.1 hx with h3 | h3
    · exact (upto_short U1.out).2 x h3
    · rw [List.mem_singleton.1 h3]; exact ht
  · by_cases x1 : x = 1
    · subst x1
      obtain ⟨vo, vc, rfl⟩ := Sl.form S2.out
      by_cases h0 : 0 < ts.length
      · have h0i : (0 : Int) < (ts.length : Int) := by omega
        go_wp2_with fail
        refine (below_small w2 w2 B g n cap ts.length ao hn hB h0 (by omega) D2.out.here).mono ?_
        rintro e w3 ⟨⟨k, hk, rfl⟩, hd3⟩
        have S3 : Hid (SlI w3 w.heap.size (.slice vo ts.length vc) ts) := S2.out.but hd3.out.2.2 hg
        have D3 := D2.out.back hd3.out
        have hg3 := D3.out.lt
        clear hd3 S2 D2
        have D3a : Hid (Drw w (w3.alloc (.cells #[.int .i64 0, .int .i64 (-1), .int .i64 3, .int .i64 61] 3)) B g ao n cap) := D3.out.alloc hB _
        have hb3 : Below w3.heap.size w3 (w3.alloc (.cells #[.int .i64 0, .int .i64 (-1), .int .i64 3, .int .i64 61] 3)) := (Below.refl _ _).alloc (Nat.le_refl _) _
        have S3a : Hid (SlI (w3.alloc (.cells #[.int .i64 0, .int .i64 (-1), .int .i64 3, .int .i64 61] 3)) w.heap.size (.slice vo ts.length vc) ts) := S3.out.below hb3
        have R3a : Hid (RowI (w3.alloc (.cells #[.int .i64 0, .int .i64 (-1), .int .i64 3, .int .i64 61] 3)) w3.heap.size 4) := rowI_new w3 [0, -1, 3, 61] 4 rfl
        have hS : w3.heap.size < (w3.alloc (.cells #[.int .i64 0, .int .i64 (-1), .int .i64 3, .int .i64 61] 3)).heap.size := by simp
        clear hb3 S3 D3
        go_wp2_with fail
        generalize w3.alloc (.cells #[.int .i64 0, .int .i64 (-1), .int .i64 3, .int .i64 61] 3) = W3 at *
        refine (pickInt_any W3 _ B g n cap w3.heap.size 4 ao hn hB (by omega) (by omega) hS (by omega) R3a D3a.out.here).mono ?_
        rintro e w4 ⟨⟨z, rfl⟩, hd4⟩
        have S4 : Hid (SlI w4 w.heap.size (.slice vo ts.length vc) ts) := S3a.out.but hd4.out.2.2 hg
        have D4 := D3a.out.back hd4.out
        clear hd4 S3a D3a R3a
        obtain ⟨gb, off, cap', hv, hBg, hgl, hc, hf⟩ := Sl.read S4.out h0
        simp at hv
        obtain ⟨rfl, rfl⟩ := hv
        have c0 := hc (k * 4) _ (cels_at hk).1
        have f0 := hf (off + k * 4)
        have S5 : Hid (SlI (w4.setCell ⟨gb, off + k * 4, none⟩ (.int .i64 z)) w.heap.size (.slice (some ⟨gb, off, none⟩) ts.length vc) (ts.set k (z, ts[k].2))) := by
          unfold SlI
          rw [List.length_set, ← cels_set0 hk]
          exact Sl.put S4.out (k * 4) (.int .i64 z)
        have b5 : Below w.heap.size w4 (w4.setCell ⟨gb, off + k * 4, none⟩ (.int .i64 z)) := (Below.refl _ _).setCell hBg _
        have D5 := D4.out.push b5 hg hB
        have hki : (k : Int) < (ts.length : Int) := by omega
        have hk0 : (0 : Int) ≤ (k : Int) := by omega
        clear hc hf b5
        go_wp2_with fail
        go_ret
        refine ⟨⟨_, _, rfl, S5.out, by simp; omega, fun x hx => ?_⟩, D5⟩
        rcases List.mem_or_eq_of_mem_set hx with h3 | h3
        · exact (upto_short U1.out).2 x h3
        · rw [h3]; exact (upto_short U1.out).2 ts[k] (List.getElem_mem hk)
      · have h0i : ¬ (0 : Int) < (ts.length : Int) := by omega
        go_wp2_with fail
        go_ret
        exact ⟨⟨_, _, rfl, S2.out, upto_short U1.out⟩, D2⟩
    · have x0i : ¬ (x : Int) = 0 := by omega
      have x1i : ¬ (x : Int) = 1 := by omega
      go_wp2_with fail
      go_ret
      exact ⟨⟨_, _, rfl, S2.out, upto_short U1.out⟩, D2⟩

set_option maxRecDepth 100000 in
set_option maxHeartbeats 2000000 in
theorem drawPut_any (w : World) (n cap : Nat) (ao : Option Addr) (hn : n ≤ 1048576) (hk : Hid (CodeAt w w.heap.size ao n)) :
    Calls Try.prog 13 #[.slice ao n cap] w fun e w' => (∃ v ts q f l t, e = .returned (.tuple #[v, .agg #[.int .i64 q, .int .i64 f, .int .i64 l, .string t]]) ∧ SlI w' w.heap.size v ts ∧ Short ts ∧ t.size ≤ 61) ∧ Below w.heap.size w w' := by
  have Z0 : Hid (ItAt (w.alloc (.cells #[.int .i64 0, .int .i64 0, .int .i64 0, .string ⟨#[]⟩] 26)) w.heap.size 0 0 0 ⟨#[]⟩) := zt w
  have B0 : Below w.heap.size w (w.alloc (.cells #[.int .i64 0, .int .i64 0, .int .i64 0, .string ⟨#[]⟩] 26)) := (Below.refl _ _).alloc (Nat.le_refl _) _
  have K0 : Hid (CodeAt (w.alloc (.cells #[.int .i64 0, .int .i64 0, .int .i64 0, .string ⟨#[]⟩] 26)) (w.alloc (.cells #[.int .i64 0, .int .i64 0, .int .i64 0, .string ⟨#[]⟩] 26)).heap.size ao n) := code_up (hk.out.stays B0 (Nat.le_refl _)) B0.size
  have z0 : w.heap.size < (w.alloc (.cells #[.int .i64 0, .int .i64 0, .int .i64 0, .string ⟨#[]⟩] 26)).heap.size := by simp
  go_enter Try.func13, Try.ntmps13
  go_wp2_with fail
  generalize w.alloc (.cells #[.int .i64 0, .int .i64 0, .int .i64 0, .string ⟨#[]⟩] 26) = W0 at *
  refine (new_any W0 n cap ao hn K0).mono ?_
  rintro e w1 ⟨rfl, hc1, hb1, hs1⟩
  have I1 : Hid (ItAt w1 w.heap.size 0 0 0 ⟨#[]⟩) := Z0.out.stays hb1 z0
  have D1 : Hid (Drw w1 w1 w.heap.size W0.heap.size ao n cap) := Drw.start hc1.out ((hk.out.stays B0 (Nat.le_refl _)).stays hb1 (Nat.le_of_lt z0))
  have B1 : Hid (Below w.heap.size w w1) := B0.trans (hb1.mono B0.size)
  clear hc1 hb1 Z0 K0 B0 hk
  generalize hgc : W0.heap.size = gc at *
  clear hgc
  go_wp2_with fail
  refine (anyItems_any w1 w1 w.heap.size gc n cap ao hn (by omega) D1).mono ?_
  rintro e w2 ⟨⟨v, ts, rfl, S2, U2⟩, D2⟩
  have S2 : Hid (SlI w2 w1.heap.size v ts) := S2
  have U2 : Hid (Short ts) := U2
  have I2 : Hid (ItAt w2 w.heap.size 0 0 0 ⟨#[]⟩) := I1.out.keep D2.out.2.2 (by omega)
  have B2 : Hid (Below w.heap.size w w2) := B1.out.trans (D2.out.2.2.below (by omega) B1.out.size)
  have z1 : w.heap.size ≤ w1.heap.size := B1.out.size
  clear D1 I1 B1
  go_wp2_with fail
  refine (anyItem_any w2 w2 w.heap.size gc n cap ao hn (by omega) D2.out.here).mono ?_
  rintro e w3 ⟨⟨q, f, l, t, ht, rfl⟩, hd3⟩
  have S3 : Hid (SlI w3 w1.heap.size v ts) := S2.out.but hd3.out.2.2 (by omega)
  have I3 : Hid (ItAt w3 w.heap.size 0 0 0 ⟨#[]⟩) := I2.out.keep hd3.out.2.2 (by omega)
  have B3 : Hid (Below w.heap.size w w3) := B2.out.trans (hd3.out.2.2.below (by omega) B2.out.size)
  clear hd3 S2 I2 B2 D2
  obtain ⟨c0, c1, c2, c3⟩ := I3.out.cells
  have y0 := I3.out.frozen 0
  have y1 := I3.out.frozen 1
  have y2 := I3.out.frozen 2
  have y3 := I3.out.frozen 3
  have S4 : Hid (SlI ((((w3.setCell ⟨w.heap.size, 0, none⟩ (.int .i64 q)).setCell ⟨w.heap.size, 1, none⟩ (.int .i64 f)).setCell ⟨w.heap.size, 2, none⟩ (.int .i64 l)).setCell ⟨w.heap.size, 3, none⟩ (.string t)) w1.heap.size v ts) := S3.out.but (it_turn (w := w3) (g := w.heap.size) q f l t).keep (by omega)
  go_wp2_with fail
  have I4 := I3.out.agg q f l t
  have B4 := B3.out.trans ((it_turn (w := w3) (g := w.heap.size) q f l t).below (Nat.le_refl _))
  generalize ((((w3.setCell ⟨w.heap.size, 0, none⟩ (.int .i64 q)).setCell ⟨w.heap.size, 1, none⟩ (.int .i64 f)).setCell ⟨w.heap.size, 2, none⟩ (.int .i64 l)).setCell ⟨w.heap.size, 3, none⟩ (.string t)) = W4 at *
  obtain ⟨q0, q1, q2, q3⟩ := I4.cells
  refine bodyPost_ret (v := .tuple #[v, .agg #[.int .i64 q, .int .i64 f, .int .i64 l, .string t]]) (by simp [results, Try.results13, go_sem, q0, q1, q2, q3]) rfl ?_
  exact ⟨⟨v, ts, q, f, l, t, rfl, S4.out.down z1, U2.out, ht⟩, B4⟩

set_option maxRecDepth 100000 in
set_option maxHeartbeats 2000000 in
theorem drawStores_any (w : World) (n cap : Nat) (ao : Option Addr) (hn : n ≤ 1048576) (hk : Hid (CodeAt w w.heap.size ao n)) :
    Calls Try.prog 23 #[.slice ao n cap] w fun e w' => (∃ v1 ts1 v2 ts2, e = .returned (.tuple #[v1, v2]) ∧ SlI w' w.heap.size v1 ts1 ∧ Upto ts1 10 ∧ SlI w' w.heap.size v2 ts2 ∧ Upto ts2 10) ∧ Below w.heap.size w w' := by
  go_enter Try.func23, Try.ntmps23
  go_wp2_with fail
  refine (new_any w n cap ao hn hk).mono ?_
  rintro e w1 ⟨rfl, hc1, hb1, hs1⟩
  have D1 : Hid (Drw w1 w1 w.heap.size w.heap.size ao n cap) := Drw.start hc1.out (hk.out.stays hb1 (Nat.le_refl _))
  have B1 : Hid (Below w.heap.size w w1) := hb1
  clear hc1 hb1 hk
  go_wp2_with fail
  refine (items_any w1 w1 w.heap.size w.heap.size n cap ao hn (by omega) D1).mono ?_
  rintro e w2 ⟨⟨v1, t1, rfl, S2, U2⟩, D2⟩
  have S2 : Hid (SlI w2 w1.heap.size v1 t1) := S2
  have U2 : Hid (Upto t1 10) := U2
  have B2 : Hid (Below w.heap.size w w2) := B1.out.trans (D2.out.2.2.below (by omega) B1.out.size)
  have z2 : w1.heap.size ≤ w2.heap.size := D2.out.2.2.size
  clear D1 B1
  go_wp2_with fail
  refine (items_any w2 w2 w.heap.size w.heap.size n cap ao hn (by omega) D2.out.here).mono ?_
  rintro e w3 ⟨⟨v2, t2, rfl, S3, U3⟩, D3⟩
  have S3 : Hid (SlI w3 w2.heap.size v2 t2) := S3
  have U3 : Hid (Upto t2 10) := U3
  have S3b : Hid (SlI w3 w1.heap.size v1 t1) := S2.out.but D3.out.2.2 (by omega)
  have B3 : Hid (Below w.heap.size w w3) := B2.out.trans (D3.out.2.2.below (by omega) B2.out.size)
  clear D2 D3 S2 B2
  go_wp2_with fail
  refine bodyPost_ret (v := .tuple #[v1, v2]) (by simp [results, Try.results23, go_sem]) rfl ?_
  exact ⟨⟨v1, t1, v2, t2, rfl, S3b.out.down (by omega), U2.out, S3.out.down (by omega), U3.out⟩, B3.out⟩
end Go.Proofs.Ytjijpcfdkmbgpaa
