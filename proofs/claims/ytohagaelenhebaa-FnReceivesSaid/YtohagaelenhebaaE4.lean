/- The walks over what the laws use of parcels: compared, marked and looked at again. -/
import Derived.Test.YtohagaelenhebaaE3
import Derived.Deep.RegionHeld3
namespace Go.Proofs.Ytohagaelenhebaa
open Go.RowKit Pl
set_option linter.unusedVariables false

set_option maxRecDepth 100000 in
set_option maxHeartbeats 1000000 in
theorem eqP_same (x y : Int) (t : ByteArray) (w : World) :
    Calls Try.prog 67 #[.agg #[.int .i64 x, .int .i64 y, .string t], .agg #[.int .i64 x, .int .i64 y, .string t]] w fun e w' => e = .returned (.bool true) ∧ Below w.heap.size w w' := by
  go_enter Try.func67, Try.ntmps67
  go_wp2
  go_ret
  exact ⟨rfl, ((Below.refl _ _).alloc (Nat.le_refl _) _).alloc (by simp) _⟩

theorem flat6 {a b c d e f : Prop} (x : a ∧ b ∧ c) (y : d ∧ e ∧ f) : a ∧ b ∧ c ∧ d ∧ e ∧ f := ⟨x.1, x.2.1, x.2.2, y⟩

set_option maxRecDepth 100000 in
set_option maxHeartbeats 2000000 in
theorem eqPs_same (a1 a2 : Option Addr) (k1 k2 : Nat) (ps : List Pc) (w : World) (h1 : Hid (PcAt w a1 ps)) (h2 : Hid (PcAt w a2 ps)) (hl : ps.length ≤ 100000) :
    Calls Try.prog 32 #[.slice a1 ps.length k1, .slice a2 ps.length k2] w fun e w' => e = .returned (.bool true) ∧ Below w.heap.size w w' := by
  go_enter Try.func32, Try.ntmps32
  go_wp2
  go_loopw [5] (fun i wr => ∃ k : Nat, k ≤ ps.length ∧ i = .int .i64 k ∧ Hid (Below w.heap.size w wr)) (fun i _ => ps.length - (intOf i).toNat)
  case atStart => exact ⟨0, by omega, rfl, Below.refl _ _⟩
  case round =>
    obtain ⟨k, hk, rfl, hb⟩ := hrel
    by_cases hlt : k < ps.length
    · obtain ⟨b1, o1, rfl, hb1, c0, c1, c2⟩ := h1.out.stays hb.out k hlt
      obtain ⟨b2, o2, rfl, hb2, d0, d1, d2⟩ := h2.out.stays hb.out k hlt
      obtain ⟨⟨x, y, t⟩, hx⟩ : ∃ p : Pc, p = ps[k] := ⟨_, rfl⟩
      rw [← hx] at c0 c1 c2 d0 d1 d2
      clear hx
      dsimp only at c0 c1 c2 d0 d1 d2
      have hq1 : (0 : Int) ≤ (k : Int) := by omega
      have hq2 : (k : Int) < (ps.length : Int) := by omega
      go_wp2_with fail
      go_region_held3 (fun w' => w'.cell? ⟨b1, o1 + k * 3, none⟩ = some (.int .i64 x) ∧ w'.cell? ⟨b1, o1 + k * 3 + 1, none⟩ = some (.int .i64 y) ∧ w'.cell? ⟨b1, o1 + k * 3 + 2, none⟩ = some (.string t) ∧ w'.cell? ⟨b2, o2 + k * 3, none⟩ = some (.int .i64 x) ∧ w'.cell? ⟨b2, o2 + k * 3 + 1, none⟩ = some (.int .i64 y) ∧ w'.cell? ⟨b2, o2 + k * 3 + 2, none⟩ = some (.string t))
        (first | exact ⟨(hb3.cell (p := ⟨b1, o1 + k * 3, none⟩) hb1).trans c0, (hb3.cell (p := ⟨b1, o1 + k * 3 + 1, none⟩) hb1).trans c1, (hb3.cell (p := ⟨b1, o1 + k * 3 + 2, none⟩) hb1).trans c2, (hb3.cell (p := ⟨b2, o2 + k * 3, none⟩) hb2).trans d0, (hb3.cell (p := ⟨b2, o2 + k * 3 + 1, none⟩) hb2).trans d1, (hb3.cell (p := ⟨b2, o2 + k * 3 + 2, none⟩) hb2).trans d2⟩ | exact ⟨c0, c1, c2, d0, d1, d2⟩)
        (first | (go_at_call 67; refine (eqP_same x y t _).mono ?_; rintro e w3 ⟨rfl, hb3⟩))
      have HB3 : Hid (Below w.heap.size w w3) := hb.out.drew.trans (hb3.mono hb.out.size)
      clear hb3 c0 c1 c2 d0 d1 d2
      go_wp2_with fail
      go_roundw
      case rel => exact ⟨k + 1, by omega, by go_num, HB3.out⟩
      case measure => simp [intOf]; omega
    · go_wp2_with fail
      go_ret
      exact ⟨rfl, hb.out⟩
theorem eqPs_slp {v1 v2 : Value} {ps : List Pc} {B1 B2 : Nat} (w : World) (h1 : SlP w B1 v1 ps) (h2 : SlP w B2 v2 ps) (hl : ps.length ≤ 100000) :
    Calls Try.prog 32 #[v1, v2] w fun e w' => e = .returned (.bool true) ∧ Below w.heap.size w w' := by
  obtain ⟨a1, c1, rfl, t1⟩ := h1.parcels
  obtain ⟨a2, c2, rfl, t2⟩ := h2.parcels
  exact eqPs_same a1 a2 c1 c2 ps w t1 t2 hl

/-- the t-th parcel that markParcelS writes. -/
def markP (K t : Nat) : Pc := (((K + t * 3 : Nat) : Int), ((K + t * 3 + 1 : Nat) : Int), markS (K + t * 3 + 2))
def MarkedP (xs : List Pc) (K j : Nat) : Prop := ∀ t, t < j → xs[t]? = some (markP K t)
theorem markedP_step {xs : List Pc} {K j : Nat} (h : MarkedP xs K j) (hj : j < xs.length) : MarkedP (xs.set j (markP K j)) K (j + 1) := by
  intro t ht
  by_cases e : t = j
  · subst e; simp [hj]
  · rw [List.getElem?_set_ne (by omega)]
    exact h t (by omega)
theorem cellsP_set : ∀ (xs : List Pc) (j : Nat) (h : j < xs.length) (p : Pc), (((cellsP xs).set (j * 3) (.int .i64 p.1)).set (j * 3 + 1) (.int .i64 p.2.1)).set (j * 3 + 2) (.string p.2.2) = cellsP (xs.set j p) := by
  intro xs
  induction xs with
  | nil => intro j h; simp at h
  | cons x xs ih =>
    intro j h p
    have e : ∀ (x : Pc) xs, cellsP (x :: xs) = .int .i64 x.1 :: .int .i64 x.2.1 :: .string x.2.2 :: cellsP xs := fun x xs => by simp [cellsP]
    rw [e]
    cases j with
    | zero => simp [e]
    | succ j =>
      rw [List.set_cons_succ, e, ← ih j (by simpa using h) p, show (j + 1) * 3 = j * 3 + 1 + 1 + 1 by omega]
      simp [List.set_cons_succ, Nat.add_assoc]
theorem slp_put {w : World} {B g off cap n : Nat} {ps : List Pc} (hn : n = ps.length) (h : SlP w B (.slice (some ⟨g, off, none⟩) n cap) ps) (j : Nat) (hj : j < ps.length) (p : Pc) :
    SlP (((w.setCell ⟨g, off + j * 3, none⟩ (.int .i64 p.1)).setCell ⟨g, off + j * 3 + 1, none⟩ (.int .i64 p.2.1)).setCell ⟨g, off + j * 3 + 2, none⟩ (.string p.2.2)) B (.slice (some ⟨g, off, none⟩) n cap) (ps.set j p) := by
  subst hn
  have h1 := Sl.put (Sl.put (Sl.put h (j * 3) (.int .i64 p.1)) (j * 3 + 1) (.int .i64 p.2.1)) (j * 3 + 2) (.string p.2.2)
  unfold SlP
  rw [← cellsP_set ps j hj p, List.length_set]
  simpa [Nat.add_assoc] using h1

theorem slp_cells {w : World} {B g off cap n : Nat} {ps : List Pc} (hn : n = ps.length) (h : SlP w B (.slice (some ⟨g, off, none⟩) n cap) ps) (j : Nat) (hj : j < ps.length) :
    w.cell? ⟨g, off + j * 3, none⟩ = some (.int .i64 ps[j].1) ∧ w.cell? ⟨g, off + j * 3 + 1, none⟩ = some (.int .i64 ps[j].2.1) ∧ w.cell? ⟨g, off + j * 3 + 2, none⟩ = some (.string ps[j].2.2) ∧ ∀ i, w.frozen? ⟨g, i, none⟩ = false := by
  subst hn
  obtain ⟨g', off', cap', hv, _, _, hc, hf⟩ := Sl.read h (by omega)
  simp at hv
  obtain ⟨⟨rfl, rfl⟩, rfl⟩ := hv
  obtain ⟨c0, c1, c2⟩ := cellsP_at ps j hj
  exact ⟨hc _ _ c0, by rw [Nat.add_assoc]; exact hc _ _ c1, by rw [Nat.add_assoc]; exact hc _ _ c2, hf⟩

/-- what markParcelS leaves. -/
def MkPostP (w : World) (B : Nat) (v : Value) (n K : Nat) (w' : World) : Prop := w.grownBy w' v.ownBlock ∧ ∃ xs : List Pc, xs.length = n ∧ MarkedP xs K n ∧ SlP w' B v xs

set_option maxRecDepth 100000 in
set_option maxHeartbeats 4000000 in
theorem markPs_any (v : Value) (ps : List Pc) (B K : Nat) (w : World) (h1 : SlP w B v ps) (hl : K + ps.length * 3 ≤ 1900000) (hK : 0 < K) :
    Calls Try.prog 33 #[v, .int .i64 K] w fun e w' => e = .returned (.int .i64 ((K + ps.length * 3 : Nat) : Int)) ∧ MkPostP w B v ps.length K w' := by
  by_cases h0 : ps.length = 0
  · have H1 : Hid (MkPostP w B v ps.length K w) := ⟨World.grownBy.refl _ _, ps, rfl, fun t ht => by omega, h1⟩
    obtain ⟨ao1, cap1, rfl⟩ := Sl.form h1
    clear h1
    rw [h0] at H1 ⊢
    go_enter Try.func33, Try.ntmps33
    go_wp2
    refine wp_loop_rounds 1 ?_
    rw [rounds_succ]
    go_wp2
    go_ret
    exact ⟨rfl, H1.out⟩
  · obtain ⟨g, off, cap, rfl, hB, hg, hc, hf⟩ := Sl.read h1 (by omega)
    clear hc hf
    have HOWN : Hid (SlP w B (.slice (some ⟨g, off, none⟩) ps.length cap) ps) := h1
    clear h1
    go_enter Try.func33, Try.ntmps33
    go_wp2
    go_loopw [1, 5] (fun kk i wr => ∃ (j : Nat) (xs : List Pc), j ≤ ps.length ∧ i = .int .i64 j ∧ kk = .int .i64 ((K + j * 3 : Nat) : Int) ∧ Hid (xs.length = ps.length) ∧ Hid (MarkedP xs K j) ∧ Hid (SlP wr B (.slice (some ⟨g, off, none⟩) ps.length cap) xs) ∧ g < wr.heap.size ∧ Hid (w.grownBy wr (some g))) (fun _ i _ => ps.length - (intOf i).toNat)
    case atStart => exact ⟨0, ps, by omega, rfl, by simp, rfl, fun t ht => by omega, HOWN.out, hg, World.grownBy.refl _ _⟩
    case round =>
      obtain ⟨j, xs, hj, rfl, rfl, hxl, hmk, hown, hgs, hgr⟩ := hrel
      by_cases hlt : j < ps.length
      · have hjx : j < xs.length := by rw [hxl.out]; exact hlt
        obtain ⟨c0, c1, c2, cf⟩ := slp_cells hxl.out.symm hown.out j hjx
        obtain ⟨⟨x0, x1, x2⟩, hx⟩ : ∃ p : Pc, p = xs[j] := ⟨_, rfl⟩
        rw [← hx] at c0 c1 c2
        clear hx
        dsimp only at c0 c1 c2
        have f0 := cf (off + j * 3)
        have f1 := cf (off + j * 3 + 1)
        have f2 := cf (off + j * 3 + 2)
        have hq1 : (0 : Int) ≤ (j : Int) := by omega
        have hq2 : (j : Int) < (ps.length : Int) := by omega
        clear cf
        go_wp2_with fail
        have gA : wr.grownBy ((wr.setCell ⟨g, off + j * 3, none⟩ (.int .i64 ((K : Int) + (j : Int) * 3))).setCell ⟨g, off + j * 3 + 1, none⟩ (.int .i64 ((K : Int) + (j : Int) * 3 + 1))) (some g) := grown_trans (grown_cell wr g _ _) (grown_cell _ g _ _)
        have d2 : ((wr.setCell ⟨g, off + j * 3, none⟩ (.int .i64 ((K : Int) + (j : Int) * 3))).setCell ⟨g, off + j * 3 + 1, none⟩ (.int .i64 ((K : Int) + (j : Int) * 3 + 1))).cell? ⟨g, off + j * 3 + 2, none⟩ = some (.string x2) := by
          rw [World.cell?_setCell_other _ _ _ _ (by simp), World.cell?_setCell_other _ _ _ _ (by simp)]
          exact c2
        have e2 : ((wr.setCell ⟨g, off + j * 3, none⟩ (.int .i64 ((K : Int) + (j : Int) * 3))).setCell ⟨g, off + j * 3 + 1, none⟩ (.int .i64 ((K : Int) + (j : Int) * 3 + 1))).frozen? ⟨g, off + j * 3 + 2, none⟩ = false := by
          rw [World.frozen?_setCell, World.frozen?_setCell]
          exact f2
        refine (mark_at _ _ (by omega) (by omega)).mono ?_
        have zA : ((wr.setCell ⟨g, off + j * 3, none⟩ (.int .i64 ((K : Int) + (j : Int) * 3))).setCell ⟨g, off + j * 3 + 1, none⟩ (.int .i64 ((K : Int) + (j : Int) * 3 + 1))).heap.size = wr.heap.size := by simp [World.setCell]
        have qA : Sl ((wr.setCell ⟨g, off + j * 3, none⟩ (.int .i64 ((K : Int) + (j : Int) * 3))).setCell ⟨g, off + j * 3 + 1, none⟩ (.int .i64 ((K : Int) + (j : Int) * 3 + 1))) 41 3 B (.slice (some ⟨g, off, none⟩) ps.length cap) ps.length (((cellsP xs).set (j * 3) (.int .i64 ((K : Int) + (j : Int) * 3))).set (j * 3 + 1) (.int .i64 ((K : Int) + (j : Int) * 3 + 1))) := by
          have h2 : Sl wr 41 3 B (.slice (some ⟨g, off, none⟩) ps.length cap) ps.length (cellsP xs) := by
            have := hown.out
            unfold SlP at this
            rw [hxl.out] at this
            exact this
          have := Sl.put (Sl.put h2 (j * 3) (.int .i64 ((K : Int) + (j : Int) * 3))) (j * 3 + 1) (.int .i64 ((K : Int) + (j : Int) * 3 + 1))
          simpa [Nat.add_assoc] using this
        generalize ((wr.setCell ⟨g, off + j * 3, none⟩ (.int .i64 ((K : Int) + (j : Int) * 3))).setCell ⟨g, off + j * 3 + 1, none⟩ (.int .i64 ((K : Int) + (j : Int) * 3 + 1))) = WA at *
        rintro e w3 ⟨rfl, hb3⟩
        have d3 : w3.cell? ⟨g, off + j * 3 + 2, none⟩ = some (.string x2) := (hb3.cell (p := ⟨g, off + j * 3 + 2, none⟩) (show g < WA.heap.size by omega)).trans d2
        have e3 : w3.frozen? ⟨g, off + j * 3 + 2, none⟩ = false := (hb3.frozen (p := ⟨g, off + j * 3 + 2, none⟩) (show g < WA.heap.size by omega)).trans e2
        have htn : ((K : Int) + (j : Int) * 3 + 1 + 1).toNat = K + j * 3 + 2 := by omega
        have z3 : WA.heap.size ≤ w3.heap.size := hb3.size
        have HQ : Hid (SlP (w3.setCell ⟨g, off + j * 3 + 2, none⟩ (.string (markS (K + j * 3 + 2)))) B (.slice (some ⟨g, off, none⟩) ps.length cap) (xs.set j (markP K j))) := by
          have hgA : ∀ t, (Value.slice (some ⟨g, off, none⟩) ps.length cap).ownBlock = some t → t < WA.heap.size := fun t ht => by
            have hgt : g = t := by simpa [Value.ownBlock] using ht
            omega
          have q3 := Sl.put (Sl.stays qA hb3 hgA) (j * 3 + 2) (.string (markS (K + j * 3 + 2)))
          show SlP _ _ _ _
          unfold SlP
          rw [← cellsP_set xs j hjx (markP K j), List.length_set, hxl.out]
          have e1 : (markP K j).1 = (K : Int) + (j : Int) * 3 := by simp [markP]
          have e2 : (markP K j).2.1 = (K : Int) + (j : Int) * 3 + 1 := by simp [markP]
          rw [e1, e2]
          simpa [Nat.add_assoc, markP] using q3
        have HG : Hid (w.grownBy (w3.setCell ⟨g, off + j * 3 + 2, none⟩ (.string (markS (K + j * 3 + 2)))) (some g)) := grown_trans hgr.out (grown_trans gA (grown_trans (grown_below hb3) (grown_cell w3 g _ _)))
        rw [htn]
        clear d2 e2 gA qA hb3 c0 c1 c2 f0 f1 f2 htn
        go_wp2_with fail
        go_roundw
        case rel => exact ⟨j + 1, xs.set j (markP K j), by omega, by go_num, by go_num, (by show (xs.set j (markP K j)).length = _; rw [List.length_set]; exact hxl.out), markedP_step hmk.out hjx, HQ.out, by simp [World.setCell]; omega, HG.out⟩
        case measure => simp [intOf]; omega
      · obtain rfl : j = ps.length := by omega
        go_wp2
        go_ret
        exact ⟨ret_int' (by omega), hgr.out, xs, hxl.out, hmk.out, hown.out⟩

set_option maxRecDepth 100000 in
set_option maxHeartbeats 4000000 in
theorem heldPs_any (ao : Option Addr) (cap : Nat) (xs : List Pc) (K : Nat) (w : World) (h1 : Hid (PcAt w ao xs)) (hl : K + xs.length * 3 ≤ 1900000) (hK : 0 < K) (hmk : Hid (MarkedP xs K xs.length)) :
    Calls Try.prog 34 #[.slice ao xs.length cap, .int .i64 K] w fun e w' => e = .returned (.int .i64 ((K + xs.length * 3 : Nat) : Int)) ∧ Below w.heap.size w w' := by
  go_enter Try.func34, Try.ntmps34
  go_wp2
  go_loopw [1, 5] (fun kk i wr => ∃ j : Nat, j ≤ xs.length ∧ i = .int .i64 j ∧ kk = .int .i64 ((K + j * 3 : Nat) : Int) ∧ Hid (Below w.heap.size w wr)) (fun _ i _ => xs.length - (intOf i).toNat)
  case atStart => exact ⟨0, by omega, rfl, by simp, Below.refl _ _⟩
  case round =>
    obtain ⟨j, hj, rfl, rfl, hb⟩ := hrel
    have hsz := hb.out.size
    by_cases hlt : j < xs.length
    · obtain ⟨g, off, rfl, hgw, c0, c1, c2⟩ := h1.out.stays hb.out j hlt
      have hm : xs[j] = markP K j := by
        have := hmk.out j hlt
        rw [List.getElem?_eq_getElem hlt] at this
        exact Option.some.inj this
      rw [hm] at c0 c1 c2
      have c0' : wr.cell? ⟨g, off + j * 3, none⟩ = some (.int .i64 ((K : Int) + (j : Int) * 3)) := by rw [c0]; simp [markP]
      have c1' : wr.cell? ⟨g, off + j * 3 + 1, none⟩ = some (.int .i64 ((K : Int) + (j : Int) * 3 + 1)) := by rw [c1]; simp [markP]
      have c2' : wr.cell? ⟨g, off + j * 3 + 2, none⟩ = some (.string (markS (K + j * 3 + 2))) := c2
      clear c0 c1 c2 hm
      have hq1 : (0 : Int) ≤ (j : Int) := by omega
      have hq2 : (j : Int) < (xs.length : Int) := by omega
      have htn : ((K : Int) + (j : Int) * 3 + 1 + 1).toNat = K + j * 3 + 2 := by omega
      go_wp2_with fail
      go_region_held3 (fun w' => w'.cell? ⟨g, off + j * 3 + 2, none⟩ = some (.string (markS (K + j * 3 + 2)))) (first | exact hk3 | exact c2') (first | (go_at_call 68; refine (mark_at _ _ (by omega) (by omega)).mono ?_; rintro e w3 ⟨rfl, hb3⟩; rw [htn]; have hk3 : w3.cell? ⟨g, off + j * 3 + 2, none⟩ = some (.string (markS (K + j * 3 + 2))) := (hb3.cell (p := ⟨g, off + j * 3 + 2, none⟩) hgw).trans c2'))
      have HB3 : Hid (Below w.heap.size w w3) := hb.out.drew.trans (hb3.mono hsz)
      clear hb3 hk3 c0' c1' c2'
      go_wp2_with fail
      go_roundw
      case rel => exact ⟨j + 1, by omega, by go_num, by go_num, HB3.out⟩
      case measure => simp [intOf]; omega
    · obtain rfl : j = xs.length := by omega
      go_wp2_with fail
      go_ret
      exact ⟨ret_int' (by omega), hb.out⟩
end Go.Proofs.Ytohagaelenhebaa
