/- The walk over the specification's Spread. -/
import Derived.Test.YtlfgglmgajcpoaaSa
import Derived.Deep.LoopGhost
namespace Go.Proofs.Ytlfgglmgajcpoaa
open Go.RowKit Pl
set_option linter.unusedVariables false

/-- who has it, flag by flag. -/
def flagsOf (N : Nat) (H : List Int) : List Bool := (List.range N).map fun (u : Nat) => H.contains (u : Int)
theorem flags_length (N : Nat) (H : List Int) : (flagsOf N H).length = N := by simp [flagsOf]
theorem flags_push {N : Nat} {H : List Int} {c : Nat} (hc : c < N) : flagsOf N (H ++ [(c : Int)]) = (flagsOf N H).set c true := by
  apply List.ext_getElem (by simp [flagsOf])
  intro i h1 h2
  rw [List.getElem_set]
  simp only [flagsOf, List.getElem_map, List.getElem_range]
  by_cases e : c = i
  · subst e; simp
  · rw [if_neg e]
    have : ¬ ((i : Nat) : Int) = (c : Int) := by omega
    simp [List.contains_eq_mem, this]
theorem flags_one {N r : Nat} (hr : r < N) : flagsOf N [(r : Int)] = (List.replicate N false).set r true := by
  have h0 : flagsOf N [] = List.replicate N false := by
    apply List.ext_getElem (by simp [flagsOf])
    intro i h1 h2
    simp [flagsOf]
  rw [← h0, ← flags_push hr]
  rfl
def FlAt (w : World) (g : Nat) (fs : List Bool) : Prop := w.heap[g]? = some (.cells (fs.map Value.bool).toArray 4 (0, 0))
theorem FlAt.set {w : World} {g j : Nat} {fs : List Bool} (h : FlAt w g fs) (b : Bool) : FlAt (w.setCell ⟨g, j, none⟩ (.bool b)) g (fs.set j b) := by
  have := heap_setCell_same w g j _ 4 (.bool b) h
  have e : ((fs.set j b).map Value.bool).toArray = (fs.map Value.bool).toArray.setIfInBounds j (.bool b) := by simp [List.map_set]
  unfold FlAt
  rw [e]
  exact this
theorem FlAt.cell {w : World} {g j : Nat} {fs : List Bool} (h : FlAt w g fs) (hj : j < fs.length) : w.cell? ⟨g, j, none⟩ = some (.bool fs[j]) ∧ w.frozen? ⟨g, j, none⟩ = false := by
  refine ⟨?_, frozen_of_row w g j _ 4 h⟩
  rw [cell_of_row w g j _ 4 (0, 0) h]
  simp [hj]
theorem FlAt.lt {w : World} {g : Nat} {fs : List Bool} (h : FlAt w g fs) : g < w.heap.size := (Array.getElem?_eq_some_iff.1 h).1
theorem FlAt.below {w w' : World} {g : Nat} {fs : List Bool} (h : FlAt w g fs) (hb : Below w.heap.size w w') : FlAt w' g fs := (hb.block g h.lt).trans h
theorem Try.info4b : (Try.prog.info? 4).map (fun i => (i.zero, i.size, i.bytes)) = some (some (.bool false), 1, 1) := by kernel_rfl
/-- a slice of ints and a row of flags lie apart. -/
theorem Sl.notFlag {w : World} {B n g : Nat} {v : Value} {xs : List Value} {fs : List Bool} (h : Sl w 3 1 B v n xs) (hf : FlAt w g fs) : v.ownBlock ≠ some g := by
  intro he
  rcases h.2 with ⟨rfl, _⟩ | ⟨g', off, cap, cur, rfl, _, hg, _⟩
  · simp [Value.ownBlock] at he
  · simp [Value.ownBlock] at he
    subst he
    unfold FlAt at hf
    rw [hg] at hf
    simp at hf
theorem OwnI.notFlag {w : World} {B g : Nat} {v : Value} {xs : List Int} {fs : List Bool} (h : OwnI w B v xs) (hf : FlAt w g fs) : v.ownBlock ≠ some g := Sl.notFlag (Sl.ofOwn h) hf
theorem FlAt.grown {w w' : World} {g : Nat} {row : Option Nat} {fs : List Bool} (h : FlAt w g fs) (hg : w.grownBy w' row) (hne : some g ≠ row) : FlAt w' g fs := (hg.block g h.lt hne).trans h
theorem cell_grown {w w' : World} {row : Option Nat} {g j : Nat} (hg : w.grownBy w' row) (hl : g < w.heap.size) (hne : some g ≠ row) : w'.cell? ⟨g, j, none⟩ = w.cell? ⟨g, j, none⟩ := by
  have h := hg.block g hl hne
  simp only [World.cell?, h]
theorem ascOf_yes {m : Nat} {H : List Int} (h : H.contains (m : Int) = true) : ascOf (m + 1) H = ascOf m H ++ [(m : Int)] := by
  unfold ascOf
  rw [List.range_succ, List.filter_append, List.map_append, List.filter_cons_of_pos (p := fun (u : Nat) => H.contains (u : Int)) h]
  rfl
theorem ascOf_no {m : Nat} {H : List Int} (h : H.contains (m : Int) = false) : ascOf (m + 1) H = ascOf m H := by
  unfold ascOf
  rw [List.range_succ, List.filter_append, List.map_append, List.filter_cons_of_neg (p := fun (u : Nat) => H.contains (u : Int)) (by rw [h]; decide)]
  simp
theorem ascOf_len (m : Nat) (H : List Int) : (ascOf m H).length ≤ m := by
  unfold ascOf
  rw [List.length_map]
  have := List.length_filter_le (fun (u : Nat) => H.contains (u : Int)) (List.range m)
  simpa using this

set_option maxRecDepth 100000 in
set_option maxHeartbeats 8000000 in
theorem spSpread_any (n s : Int) (ao lo : Option Addr) (cap lc : Nat) (ts : List Rd) (ls : List (List Int)) (w : World) (hx : Hid (RoadsAt w ao ts)) (hl : ts.length ≤ 1048576) (hy : Hid (LsAt w lo ls)) (hl2 : ls.length ≤ 1048576) :
    Calls Try.prog 31 #[.int .i64 n, .slice ao ts.length cap, .int .i64 s, .slice lo ls.length lc] w fun e w' => (∃ v, e = .returned (.tuple #[v, .int .i64 (spreadN n ts s ls : Nat)]) ∧ OwnI w' w.heap.size v (spreadH n ts s ls)) ∧ Below w.heap.size w w' := by
  go_enter Try.func31, Try.ntmps31
  go_wp2_with fail
  refine (spTree_any n s ao cap ts w hx hl).mono ?_
  rintro e w1 ⟨⟨v1, rfl, O1⟩, b1⟩
  obtain ⟨T, hT⟩ : ∃ T, T = trees n ts s := ⟨_, rfl⟩
  rw [← hT] at O1
  obtain ⟨ta, tc, rfl⟩ := O1.form
  obtain ⟨N, hN⟩ : ∃ N, N = T.length := ⟨_, rfl⟩
  have hN6 : N ≤ 6 := by have := trees_le n ts s; rw [← hT] at this; omega
  have HT : Hid (T = trees n ts s) := hT
  have HN : Hid (N = T.length) := hN
  have HO1 : Hid (OwnI w1 w.heap.size (.slice ta N tc) T) := by rw [hN]; exact O1
  have HB1 : Hid (Below w.heap.size w w1) := b1
  rw [← hN]
  clear O1 b1
  by_cases hN0 : N = 0
  · have HR : Hid (spreadH n ts s ls = [] ∧ spreadN n ts s ls = 0) := by
      unfold spreadH spreadN
      rw [← hT, ← hN, if_pos hN0, if_pos hN0]
      exact ⟨rfl, rfl⟩
    have d0 : ((N : Int) == 0) = true := by simp [hN0]
    clear hN hT hN0
    go_wp2_with fail
    go_ret2
    have b2 : Below w1.heap.size w1 (w1.alloc (.cells #[] 3)) := (Below.refl _ _).alloc (Nat.le_refl _) _
    refine ⟨⟨_, by rw [HR.out.2]; rfl, by rw [HR.out.1]; exact OwnI.made w1 _ HB1.out.size⟩, HB1.out.trans (b2.mono HB1.out.size)⟩
  have d0 : ((N : Int) == 0) = false := by simp [hN0]
  have d0' : ¬ (N : Int) = 0 := by omega
  obtain ⟨hok, hs0, hs1⟩ := dists_some (n := n) (s := s) (ts := ts) (by rw [← trees_length, ← hT]; omega)
  have hnN : n = (N : Int) := by
    have h1 := hok.1
    have h2 : N = (dists n ts s).length := by rw [hN, hT, trees_length]
    rw [dists_yes hok hs0 hs1, distL_length] at h2
    omega
  obtain ⟨r, hr⟩ : ∃ r : Nat, s = (r : Int) := ⟨s.toNat, by omega⟩
  have HRT := trees_root (r := r) hok (by omega)
  rw [← hr, ← hT] at HRT
  have HR0 : Hid (T.getD r (-2) = -1) := HRT.1
  have hrN : r < N := by rw [hN]; exact HRT.2
  have HF : Hid (spreadH n ts s ls = ascOf N (had T ls r N) ∧ spreadN n ts s ls = sentN T ls r N) := by
    unfold spreadH spreadN
    rw [← hT, ← hN, if_neg hN0, if_neg hN0, hr]
    exact ⟨rfl, rfl⟩
  clear HRT hN hT hok hs0 hs1 hN0
  subst hr
  subst hnN
  have HX1 : Hid (LsAt w1 lo ls) := hy.out.stays HB1.out
  obtain ⟨i0, hi, hz0, hz1, hz2⟩ := info_parts Try.info4b
  have hmk : (Instr.makeSlice 75 (.int .i64 (N : Int)) (.int .i64 (N : Int))).run Try.prog w1 = .ok (.slice (some ⟨w1.heap.size, 0, none⟩) N N) (w1.alloc (.cells ((List.replicate N false).map Value.bool).toArray 4)) := by
    have h := run_make (P := Try.prog) w1 75 4 i0 _ Try.underlying75 hi hz0 .i64 .i64 (N : Int) (N : Int) (by omega) (by omega) (by rw [hz2]; omega) (by omega)
    have e : madeCells (Value.bool false).cells N = ((List.replicate N false).map Value.bool).toArray := by
      apply Array.ext'
      rw [show (Value.bool false).cells = #[Value.bool false] from rfl, toList_madeCells_one]
      simp
    rw [hz1, Int.toNat_natCast, Nat.mul_one, e] at h
    simpa using h
  have F2 : FlAt (w1.alloc (.cells ((List.replicate N false).map Value.bool).toArray 4)) w1.heap.size (List.replicate N false) := heap_alloc_new w1 _
  obtain ⟨q0, f0⟩ := F2.cell (j := r) (by simp; exact hrN)
  have F3 : Hid (FlAt ((w1.alloc (.cells ((Array.replicate N (Value.bool false)).setIfInBounds r (Value.bool true)) 4)).alloc (.cells #[.int .i64 (r : Int)] 3)) w1.heap.size (flagsOf N (had T ls r 0))) := by
    show FlAt _ _ (flagsOf N [(r : Int)])
    rw [flags_one hrN]
    have h0 : FlAt (w1.alloc (.cells ((Array.replicate N (Value.bool false)).setIfInBounds r (Value.bool true)) 4)) w1.heap.size ((List.replicate N false).set r true) := by
      have := heap_alloc_new w1 (.cells ((Array.replicate N (Value.bool false)).setIfInBounds r (Value.bool true)) 4)
      unfold FlAt
      rw [this]
      congr 2
      apply Array.ext'
      simp [List.map_set]
    exact h0.below ((Below.refl _ _).alloc (Nat.le_refl _) _)
  have B3 : Hid (Below w1.heap.size w1 ((w1.alloc (.cells ((Array.replicate N (Value.bool false)).setIfInBounds r (Value.bool true)) 4)).alloc (.cells #[.int .i64 (r : Int)] 3))) := ((Below.refl _ _).alloc (Nat.le_refl _) _).alloc (by simp) _
  have S3 : Hid (Sl ((w1.alloc (.cells ((Array.replicate N (Value.bool false)).setIfInBounds r (Value.bool true)) 4)).alloc (.cells #[.int .i64 (r : Int)] 3)) 3 1 w1.heap.size (.slice (some ⟨w1.heap.size + 1, 0, none⟩) 1 1) ((had T ls r 0).length - 0) (((had T ls r 0).drop 0).map (Value.int .i64))) := by
    have h := OwnI.lit (w1.alloc (.cells ((Array.replicate N (Value.bool false)).setIfInBounds r (Value.bool true)) 4)) w1.heap.size [(r : Int)] (by simp) (by simp)
    have h2 := Sl.ofOwn h
    have e : (w1.alloc (.cells ((Array.replicate N (Value.bool false)).setIfInBounds r (Value.bool true)) 4)).heap.size = w1.heap.size + 1 := by simp
    rw [e] at h2
    exact h2
  have i1 : (0 : Int) ≤ (r : Int) := by omega
  have i2 : (r : Int) < (N : Int) := by omega
  clear F2 hi hz0 hz1 hz2
  go_wp2_with fail
  generalize (w1.alloc (.cells ((Array.replicate N (Value.bool false)).setIfInBounds r (Value.bool true)) 4)).alloc (.cells #[.int .i64 (r : Int)] 3) = W3 at *
  clear q0 f0 hmk
  go_loopg [12, 13] 7 (fun gk v sn wr => ∃ (k : Nat), gk = 7 - k ∧ k ≤ (had T ls r k).length ∧ sn = .int .i64 (sentN T ls r k : Nat) ∧ Hid (Sl wr 3 1 w1.heap.size v ((had T ls r k).length - k) (((had T ls r k).drop k).map (Value.int .i64))) ∧ Hid (FlAt wr w1.heap.size (flagsOf N (had T ls r k))) ∧ Hid (Below w1.heap.size w1 wr))
  case atStart => exact ⟨0, rfl, Nat.zero_le _, rfl, S3, F3, B3⟩
  case round =>
    obtain ⟨k, hgk, hk, rfl, hQ, hF, hb⟩ := hrel
    clear S3 F3 B3
    have HGK : Hid (gk = 7 - k) := hgk
    have HOKK := had_ok (ls := ls) (r := r) (T := T) (by rw [← HN.out]; exact hrN) HR0.out k
    have hlen := had_len (ls := ls) (r := r) (T := T) (by rw [← HN.out]; exact hrN) HR0.out k
    rw [← HN.out] at hlen
    have hsn := sentN_le T ls r k
    rw [← HN.out] at hsn
    have hsn2 : sentN T ls r k ≤ 100 := Nat.le_trans hsn (Nat.le_trans (Nat.mul_le_mul hN6 (show k ≤ 6 by omega)) (by omega))
    have hk6 : k ≤ 6 := by omega
    obtain ⟨H, hH⟩ : ∃ H, H = had T ls r k := ⟨_, rfl⟩
    obtain ⟨S, hS⟩ : ∃ S, S = sentN T ls r k := ⟨_, rfl⟩
    have HH : Hid (H = had T ls r k) := hH
    have HSS : Hid (S = sentN T ls r k) := hS
    have HOK2 : Hid (HadOk T r k H) := by rw [hH]; exact HOKK
    rw [← hH] at hQ hF hk hlen
    rw [← hS] at hsn2 ⊢
    clear hH hS hsn HOKK hgk
    obtain ⟨D, hD⟩ : ∃ D, D = H.length - k := ⟨_, rfl⟩
    have HDD : Hid (D = H.length - k) := hD
    rw [← hD] at hQ
    by_cases hlt : 0 < D
    · have hkl : k < H.length := by omega
      have hD6 : D ≤ 6 := by omega
      obtain ⟨x, hx0⟩ : ∃ x, H[k]? = some x := ⟨_, List.getElem?_eq_getElem hkl⟩
      obtain ⟨g, off, gc, rfl, hgB, hgl, hcell, _⟩ := hQ.out.read hlt
      have q0 := hcell 0 (.int .i64 x) (by rw [List.getElem?_map, List.getElem?_drop, Nat.add_zero, hx0]; rfl)
      rw [Nat.add_zero] at q0
      have HXK : Hid (H[k]? = some x) := hx0
      have hxs := HOK2.out.site x (List.mem_of_getElem? hx0)
      rw [← HN.out] at hxs
      have hcap : D ≤ gc := by
        rcases hQ.out.2 with ⟨hv, _⟩ | ⟨g', off', cap', cur, hv, _, _, hc, _⟩
        · simp at hv
        · simp at hv
          omega
      have hS1 := Sl.sliced (k := 1) hQ.out (by omega)
      rw [← List.map_drop, List.drop_drop] at hS1
      have OT : OwnI wr w.heap.size (.slice ta N tc) T := HO1.out.stays hb.out (fun k hk => (HO1.out.lt k hk).2)
      obtain ⟨tg, tgc, htv, _⟩ := OT.some (by rw [← HN.out]; omega)
      rw [← HN.out] at htv
      simp at htv
      obtain ⟨rfl, rfl⟩ := htv
      have HOT : Hid (OwnI wr w.heap.size (.slice (some ⟨tg, 0, none⟩) N tc) T) := OT
      have HQB : Hid (∀ i, (Value.slice (some ⟨g, off, none⟩) D gc).ownBlock = some i → i < wr.heap.size) := fun i hi => (hQ.out.lt i hi).2
      have i0 : (0 : Int) < (D : Int) := by omega
      have i1 : (1 : Int) ≤ (D : Int) := by omega
      have HD1 : Hid (D - 1 = H.length - (k + 1)) := by show D - 1 = _; omega
      clear hcell hx0 OT hD
      by_cases hg1 : gc = 1
      · subst hg1
        have HS1 : Hid (Sl wr 3 1 w1.heap.size (.slice (some ⟨g, off, none⟩) 0 0) (D - 1) ((H.drop (k + 1)).map (Value.int .i64))) := by
          have h := hS1
          rw [if_pos rfl] at h
          have e : D - 1 = 0 := by omega
          rw [e] at h ⊢
          exact h
        have HV1 : Hid (∀ i, (Value.slice (some ⟨g, off, none⟩) 0 0).ownBlock = some i → i < wr.heap.size) := HQB
        clear hS1
        go_wp2_with fail
        generalize Value.slice (some ⟨g, off, none⟩) 0 0 = vq at *
        refine (spChildren_any x N tg tc w.heap.size T wr HOT HN.out.symm hN6).mono ?_
        rintro e w3 ⟨⟨u, rfl, OC⟩, b3⟩
        obtain ⟨C, hC⟩ : ∃ C, C = chl T x := ⟨_, rfl⟩
        rw [← hC] at OC
        have HC : Hid (C = chl T x) := hC
        have hCl : C.length ≤ 6 := by have := chl_len T x; rw [← hC, ← HN.out] at this; omega
        obtain ⟨ua, uc, rfl⟩ := OC.form
        have HOC : Hid (OwnI w3 wr.heap.size (.slice ua C.length uc) C) := OC
        have HS3 : Hid (Sl w3 3 1 w1.heap.size vq ((mid T ls H x 0).length - (k + 1)) (((mid T ls H x 0).drop (k + 1)).map (Value.int .i64))) := by rw [mid_zero, ← HD1.out]; exact HS1.out.below b3
        have HF3 : Hid (FlAt w3 w1.heap.size (flagsOf N (mid T ls H x 0))) := by rw [mid_zero]; exact hF.out.below b3
        have HB3 : Hid (Below w1.heap.size w1 w3) := hb.out.trans (b3.mono hb.out.size)
        have HDJ : Hid (∀ i, vq.ownBlock = some i → (Value.slice ua C.length uc).ownBlock ≠ some i) := fun i h1 h2 => by have := HV1.out i h1; have := (OC.lt i h2).1; omega
        clear hC OC q0 hQ HOT hF hb HS1 HV1 HQB
        generalize wr = WO at *
        go_wp2_with fail
        clear b3
        go_loopw [12, 13, 16] (fun v sn i wr => ∃ (j : Nat), j ≤ C.length ∧ i = .int .i64 j ∧ sn = .int .i64 ((S + j : Nat) : Int) ∧ Hid (Sl wr 3 1 w1.heap.size v ((mid T ls H x j).length - (k + 1)) (((mid T ls H x j).drop (k + 1)).map (Value.int .i64))) ∧ Hid (FlAt wr w1.heap.size (flagsOf N (mid T ls H x j))) ∧ Hid (OwnI wr WO.heap.size (.slice ua C.length uc) C) ∧ Hid (∀ i, v.ownBlock = some i → (Value.slice ua C.length uc).ownBlock ≠ some i) ∧ Hid (Below w1.heap.size w1 wr)) (fun _ _ i _ => C.length - (intOf i).toNat)
        case atStart => exact ⟨0, Nat.zero_le _, rfl, rfl, HS3, HF3, HOC, HDJ, HB3⟩
        case round =>
          obtain ⟨j, hj, rfl, rfl, hM, hFl, hU, hDj, hb2⟩ := hrel
          clear HS3 HF3 HOC HDJ HB3
          by_cases hjl : j < C.length
          · obtain ⟨c, hc⟩ : ∃ c, C[j]? = some c := ⟨_, List.getElem?_eq_getElem hjl⟩
            have hcj : C[j] = c := by rw [List.getElem?_eq_getElem hjl] at hc; simpa using hc
            obtain ⟨cn, hcn, hcT, hcc⟩ := chl_mem.1 (show c ∈ chl T x by rw [← HC.out]; exact List.mem_of_getElem? hc)
            subst hcc
            rw [← HN.out] at hcn
            obtain ⟨cg, cc, hcv, hcB, hcg, hcell, _⟩ := hU.out.some (by omega)
            simp at hcv
            obtain ⟨rfl, rfl⟩ := hcv
            have q1 := hcell j hjl
            rw [hcj] at q1
            have HCJ : Hid ((chl T x)[j]? = some (cn : Int)) := by rw [← HC.out]; exact hc
            have hml := mid_le T ls H x j
            rw [← HN.out] at hml
            have hmk : k < (mid T ls H x j).length := (List.getElem?_eq_some_iff.1 (mid_get (T := T) (ls := ls) (v := x) (j := j) HXK.out)).1
            obtain ⟨M, hMM⟩ : ∃ M, M = mid T ls H x j := ⟨_, rfl⟩
            have HMM : Hid (M = mid T ls H x j) := hMM
            rw [← hMM] at hM hFl hml hmk
            clear hMM hcell hc hcj hcT
            have j0 : (0 : Int) ≤ (j : Int) := by omega
            have j1 : (j : Int) < (C.length : Int) := by omega
            have XL : Hid (LsAt wr lo ls) := HX1.out.stays hb2.out
            have hws : IntKind.i64.wrap (((S + j : Nat) : Int) + 1) = ((S + (j + 1) : Nat) : Int) := by rw [IntKind.wrap_i64]; omega
            have hne1 : (Value.slice (some ⟨cg, 0, none⟩) C.length uc).ownBlock ≠ some w1.heap.size := OwnI.notFlag hU.out hFl.out
            have hne : cg ≠ w1.heap.size := fun h => hne1 (by rw [h]; rfl)
            go_wp2_with fail
            refine (spLost_any lo lc ls x (cn : Int) wr XL hl2).mono ?_
            rintro e w4 ⟨rfl, hw4⟩
            subst hw4
            cases hLB : lostB ls x (cn : Int) with
            | true =>
              have HMN : Hid (mid T ls H x (j + 1) = M) := by rw [HMM.out]; exact mid_no HCJ.out hLB
              clear hLB
              go_wp2_with fail
              go_roundw
              case rel => exact ⟨j + 1, by omega, by go_num, (by first | rfl | (congr 1)), (by show Sl _ _ _ _ _ _ _; rw [HMN.out]; exact hM.out), (by show FlAt _ _ _; rw [HMN.out]; exact hFl.out), hU, hDj, hb2⟩
              case measure => simp [intOf]; omega
            | false =>
              have HMN : Hid (mid T ls H x (j + 1) = M ++ [(cn : Int)]) := by rw [HMM.out]; exact mid_yes HCJ.out hLB
              clear hLB
              have hMn : M.length - (k + 1) < 4000000 := by omega
              obtain ⟨q2, f2⟩ := hFl.out.cell (j := cn) (by rw [flags_length]; exact hcn)
              have hn12 : u12.ownBlock ≠ some w1.heap.size := Sl.notFlag hM.out hFl.out
              have G5 := grown_cell w4 w1.heap.size cn (.bool true)
              have HM5 : Hid (Sl (w4.setCell ⟨w1.heap.size, cn, none⟩ (.bool true)) 3 1 w1.heap.size u12 (M.length - (k + 1)) ((M.drop (k + 1)).map (Value.int .i64))) := hM.out.kept G5 (fun i hi he => hn12 (hi.trans he))
              have HF5 : Hid (FlAt (w4.setCell ⟨w1.heap.size, cn, none⟩ (.bool true)) w1.heap.size (flagsOf N (M ++ [(cn : Int)]))) := by show FlAt _ _ _; rw [flags_push hcn]; exact hFl.out.set true
              have HU5 : Hid (OwnI (w4.setCell ⟨w1.heap.size, cn, none⟩ (.bool true)) WO.heap.size (.slice (some ⟨cg, 0, none⟩) C.length uc) C) := ownI_grown hU.out G5 (fun i hi he => hne1 (hi.trans he))
              have hB5 : Below w1.heap.size w1 (w4.setCell ⟨w1.heap.size, cn, none⟩ (.bool true)) := hb2.out.setCell (Nat.le_refl _) _
              have q3 : (w4.setCell ⟨w1.heap.size, cn, none⟩ (.bool true)).cell? ⟨cg, j, none⟩ = some (.int .i64 (cn : Int)) := by
                rw [← q1]
                exact cell_grown G5 hcg (fun he => hne (by simpa using he))
              have hs5 : w1.heap.size ≤ (w4.setCell ⟨w1.heap.size, cn, none⟩ (.bool true)).heap.size := hB5.size
              have HB5 : Hid (Below w1.heap.size w1 (w4.setCell ⟨w1.heap.size, cn, none⟩ (.bool true))) := hB5
              have HS5 : Hid (w1.heap.size ≤ (w4.setCell ⟨w1.heap.size, cn, none⟩ (.bool true)).heap.size) := hs5
              have hc0 : (0 : Int) ≤ (cn : Int) := by omega
              have hc1 : (cn : Int) < (N : Int) := by omega
              have HCG : Hid (cg < (w4.setCell ⟨w1.heap.size, cn, none⟩ (.bool true)).heap.size) := by show cg < _; simpa [World.setCell] using hcg
              clear G5 hB5 hs5
              go_wp2_with (at_builtin; refine wpList_push1 rfl _ _ 27 rfl (.int .i64 0) 8 Try.underlying27 Try.info3i rfl rfl HM5.out (.int .i64 (cn : Int)) rfl (by simp [World.setCell]) rfl hMn (by omega) HS5.out ?_; intro v6 w6 hS6 hg6 hz6 hbk6)
              have HZ6 : Hid (w4.heap.size + 1 ≤ w6.heap.size) := by show _ ≤ _; simpa [World.setCell] using hz6
              clear hz6 q3
              generalize w4.setCell ⟨w1.heap.size, cn, none⟩ (.bool true) = W5 at *
              go_roundw
              case rel =>
                refine ⟨j + 1, by omega, by go_num, (by first | rfl | (congr 1)), ?_, ?_, ownI_grown HU5.out hg6 (fun i hi he => hDj.out i he.symm hi), (fun i h1 h2 => ?_), ?_⟩
                · show Sl _ _ _ _ _ _ _
                  rw [HMN.out, List.drop_append_of_le_length (by omega), List.map_append, List.length_append, show M.length + [(cn : Int)].length - (k + 1) = M.length - (k + 1) + 1 by simp; omega]
                  exact hS6
                · show FlAt _ _ _
                  rw [HMN.out]
                  exact HF5.out.grown hg6 (fun he => hn12 he.symm)
                · rcases hbk6 with hbk | hbk
                  · rw [hbk] at h1; exact hDj.out i h1 h2
                  · rw [hbk] at h1
                    simp [Value.ownBlock] at h1 h2
                    have := HCG.out
                    omega
                · exact HB5.out.grown hg6 HS5.out (fun i hi => (HM5.out.lt i hi).1)
              case measure => simp [intOf]; omega
          · obtain rfl : j = C.length := by omega
            have HME : Hid (mid T ls H x C.length = had T ls r (k + 1)) := by
              rw [HC.out, HH.out]
              exact mid_end (by rw [← HH.out]; exact HXK.out)
            have HSE : Hid (((S + C.length : Nat) : Int) = (sentN T ls r (k + 1) : Nat)) := by
              show ((S + C.length : Nat) : Int) = _
              rw [sentN_succ (by rw [← HH.out]; exact HXK.out), HSS.out, HC.out]
            have hkl2 : k + 1 ≤ (had T ls r (k + 1)).length := by
              rw [← HME.out]
              unfold mid
              rw [List.length_append]
              omega
            go_wp2_with fail
            go_roundg (7 - (k + 1))
            case measure => rw [HGK.out]; omega
            case rel => exact ⟨k + 1, rfl, hkl2, by rw [HSE.out], (by show Sl _ _ _ _ _ _ _; rw [← HME.out]; exact hM.out), (by show FlAt _ _ _; rw [← HME.out]; exact hFl.out), hb2⟩
      · have HS1 : Hid (Sl wr 3 1 w1.heap.size (.slice (some ⟨g, off + 1, none⟩) (D - 1) (gc - 1)) (D - 1) ((H.drop (k + 1)).map (Value.int .i64))) := by
          have h := hS1
          rw [if_neg hg1] at h
          exact h
        have HV1 : Hid (∀ i, (Value.slice (some ⟨g, off + 1, none⟩) (D - 1) (gc - 1)).ownBlock = some i → i < wr.heap.size) := HQB
        clear hS1
        go_wp2_with fail
        generalize Value.slice (some ⟨g, off + 1, none⟩) (D - 1) (gc - 1) = vq at *
        refine (spChildren_any x N tg tc w.heap.size T wr HOT HN.out.symm hN6).mono ?_
        rintro e w3 ⟨⟨u, rfl, OC⟩, b3⟩
        obtain ⟨C, hC⟩ : ∃ C, C = chl T x := ⟨_, rfl⟩
        rw [← hC] at OC
        have HC : Hid (C = chl T x) := hC
        have hCl : C.length ≤ 6 := by have := chl_len T x; rw [← hC, ← HN.out] at this; omega
        obtain ⟨ua, uc, rfl⟩ := OC.form
        have HOC : Hid (OwnI w3 wr.heap.size (.slice ua C.length uc) C) := OC
        have HS3 : Hid (Sl w3 3 1 w1.heap.size vq ((mid T ls H x 0).length - (k + 1)) (((mid T ls H x 0).drop (k + 1)).map (Value.int .i64))) := by rw [mid_zero, ← HD1.out]; exact HS1.out.below b3
        have HF3 : Hid (FlAt w3 w1.heap.size (flagsOf N (mid T ls H x 0))) := by rw [mid_zero]; exact hF.out.below b3
        have HB3 : Hid (Below w1.heap.size w1 w3) := hb.out.trans (b3.mono hb.out.size)
        have HDJ : Hid (∀ i, vq.ownBlock = some i → (Value.slice ua C.length uc).ownBlock ≠ some i) := fun i h1 h2 => by have := HV1.out i h1; have := (OC.lt i h2).1; omega
        clear hC OC q0 hQ HOT hF hb HS1 HV1 HQB
        generalize wr = WO at *
        go_wp2_with fail
        clear b3
        go_loopw [12, 13, 16] (fun v sn i wr => ∃ (j : Nat), j ≤ C.length ∧ i = .int .i64 j ∧ sn = .int .i64 ((S + j : Nat) : Int) ∧ Hid (Sl wr 3 1 w1.heap.size v ((mid T ls H x j).length - (k + 1)) (((mid T ls H x j).drop (k + 1)).map (Value.int .i64))) ∧ Hid (FlAt wr w1.heap.size (flagsOf N (mid T ls H x j))) ∧ Hid (OwnI wr WO.heap.size (.slice ua C.length uc) C) ∧ Hid (∀ i, v.ownBlock = some i → (Value.slice ua C.length uc).ownBlock ≠ some i) ∧ Hid (Below w1.heap.size w1 wr)) (fun _ _ i _ => C.length - (intOf i).toNat)
        case atStart => exact ⟨0, Nat.zero_le _, rfl, rfl, HS3, HF3, HOC, HDJ, HB3⟩
        case round =>
          obtain ⟨j, hj, rfl, rfl, hM, hFl, hU, hDj, hb2⟩ := hrel
          clear HS3 HF3 HOC HDJ HB3
          by_cases hjl : j < C.length
          · obtain ⟨c, hc⟩ : ∃ c, C[j]? = some c := ⟨_, List.getElem?_eq_getElem hjl⟩
            have hcj : C[j] = c := by rw [List.getElem?_eq_getElem hjl] at hc; simpa using hc
            obtain ⟨cn, hcn, hcT, hcc⟩ := chl_mem.1 (show c ∈ chl T x by rw [← HC.out]; exact List.mem_of_getElem? hc)
            subst hcc
            rw [← HN.out] at hcn
            obtain ⟨cg, cc, hcv, hcB, hcg, hcell, _⟩ := hU.out.some (by omega)
            simp at hcv
            obtain ⟨rfl, rfl⟩ := hcv
            have q1 := hcell j hjl
            rw [hcj] at q1
            have HCJ : Hid ((chl T x)[j]? = some (cn : Int)) := by rw [← HC.out]; exact hc
            have hml := mid_le T ls H x j
            rw [← HN.out] at hml
            have hmk : k < (mid T ls H x j).length := (List.getElem?_eq_some_iff.1 (mid_get (T := T) (ls := ls) (v := x) (j := j) HXK.out)).1
            obtain ⟨M, hMM⟩ : ∃ M, M = mid T ls H x j := ⟨_, rfl⟩
            have HMM : Hid (M = mid T ls H x j) := hMM
            rw [← hMM] at hM hFl hml hmk
            clear hMM hcell hc hcj hcT
            have j0 : (0 : Int) ≤ (j : Int) := by omega
            have j1 : (j : Int) < (C.length : Int) := by omega
            have XL : Hid (LsAt wr lo ls) := HX1.out.stays hb2.out
            have hws : IntKind.i64.wrap (((S + j : Nat) : Int) + 1) = ((S + (j + 1) : Nat) : Int) := by rw [IntKind.wrap_i64]; omega
            have hne1 : (Value.slice (some ⟨cg, 0, none⟩) C.length uc).ownBlock ≠ some w1.heap.size := OwnI.notFlag hU.out hFl.out
            have hne : cg ≠ w1.heap.size := fun h => hne1 (by rw [h]; rfl)
            go_wp2_with fail
            refine (spLost_any lo lc ls x (cn : Int) wr XL hl2).mono ?_
            rintro e w4 ⟨rfl, hw4⟩
            subst hw4
            cases hLB : lostB ls x (cn : Int) with
            | true =>
              have HMN : Hid (mid T ls H x (j + 1) = M) := by rw [HMM.out]; exact mid_no HCJ.out hLB
              clear hLB
              go_wp2_with fail
              go_roundw
              case rel => exact ⟨j + 1, by omega, by go_num, (by first | rfl | (congr 1)), (by show Sl _ _ _ _ _ _ _; rw [HMN.out]; exact hM.out), (by show FlAt _ _ _; rw [HMN.out]; exact hFl.out), hU, hDj, hb2⟩
              case measure => simp [intOf]; omega
            | false =>
              have HMN : Hid (mid T ls H x (j + 1) = M ++ [(cn : Int)]) := by rw [HMM.out]; exact mid_yes HCJ.out hLB
              clear hLB
              have hMn : M.length - (k + 1) < 4000000 := by omega
              obtain ⟨q2, f2⟩ := hFl.out.cell (j := cn) (by rw [flags_length]; exact hcn)
              have hn12 : u12.ownBlock ≠ some w1.heap.size := Sl.notFlag hM.out hFl.out
              have G5 := grown_cell w4 w1.heap.size cn (.bool true)
              have HM5 : Hid (Sl (w4.setCell ⟨w1.heap.size, cn, none⟩ (.bool true)) 3 1 w1.heap.size u12 (M.length - (k + 1)) ((M.drop (k + 1)).map (Value.int .i64))) := hM.out.kept G5 (fun i hi he => hn12 (hi.trans he))
              have HF5 : Hid (FlAt (w4.setCell ⟨w1.heap.size, cn, none⟩ (.bool true)) w1.heap.size (flagsOf N (M ++ [(cn : Int)]))) := by show FlAt _ _ _; rw [flags_push hcn]; exact hFl.out.set true
              have HU5 : Hid (OwnI (w4.setCell ⟨w1.heap.size, cn, none⟩ (.bool true)) WO.heap.size (.slice (some ⟨cg, 0, none⟩) C.length uc) C) := ownI_grown hU.out G5 (fun i hi he => hne1 (hi.trans he))
              have hB5 : Below w1.heap.size w1 (w4.setCell ⟨w1.heap.size, cn, none⟩ (.bool true)) := hb2.out.setCell (Nat.le_refl _) _
              have q3 : (w4.setCell ⟨w1.heap.size, cn, none⟩ (.bool true)).cell? ⟨cg, j, none⟩ = some (.int .i64 (cn : Int)) := by
                rw [← q1]
                exact cell_grown G5 hcg (fun he => hne (by simpa using he))
              have hs5 : w1.heap.size ≤ (w4.setCell ⟨w1.heap.size, cn, none⟩ (.bool true)).heap.size := hB5.size
              have HB5 : Hid (Below w1.heap.size w1 (w4.setCell ⟨w1.heap.size, cn, none⟩ (.bool true))) := hB5
              have HS5 : Hid (w1.heap.size ≤ (w4.setCell ⟨w1.heap.size, cn, none⟩ (.bool true)).heap.size) := hs5
              have hc0 : (0 : Int) ≤ (cn : Int) := by omega
              have hc1 : (cn : Int) < (N : Int) := by omega
              have HCG : Hid (cg < (w4.setCell ⟨w1.heap.size, cn, none⟩ (.bool true)).heap.size) := by show cg < _; simpa [World.setCell] using hcg
              clear G5 hB5 hs5
              go_wp2_with (at_builtin; refine wpList_push1 rfl _ _ 27 rfl (.int .i64 0) 8 Try.underlying27 Try.info3i rfl rfl HM5.out (.int .i64 (cn : Int)) rfl (by simp [World.setCell]) rfl hMn (by omega) HS5.out ?_; intro v6 w6 hS6 hg6 hz6 hbk6)
              have HZ6 : Hid (w4.heap.size + 1 ≤ w6.heap.size) := by show _ ≤ _; simpa [World.setCell] using hz6
              clear hz6 q3
              generalize w4.setCell ⟨w1.heap.size, cn, none⟩ (.bool true) = W5 at *
              go_roundw
              case rel =>
                refine ⟨j + 1, by omega, by go_num, (by first | rfl | (congr 1)), ?_, ?_, ownI_grown HU5.out hg6 (fun i hi he => hDj.out i he.symm hi), (fun i h1 h2 => ?_), ?_⟩
                · show Sl _ _ _ _ _ _ _
                  rw [HMN.out, List.drop_append_of_le_length (by omega), List.map_append, List.length_append, show M.length + [(cn : Int)].length - (k + 1) = M.length - (k + 1) + 1 by simp; omega]
                  exact hS6
                · show FlAt _ _ _
                  rw [HMN.out]
                  exact HF5.out.grown hg6 (fun he => hn12 he.symm)
                · rcases hbk6 with hbk | hbk
                  · rw [hbk] at h1; exact hDj.out i h1 h2
                  · rw [hbk] at h1
                    simp [Value.ownBlock] at h1 h2
                    have := HCG.out
                    omega
                · exact HB5.out.grown hg6 HS5.out (fun i hi => (HM5.out.lt i hi).1)
              case measure => simp [intOf]; omega
          · obtain rfl : j = C.length := by omega
            have HME : Hid (mid T ls H x C.length = had T ls r (k + 1)) := by
              rw [HC.out, HH.out]
              exact mid_end (by rw [← HH.out]; exact HXK.out)
            have HSE : Hid (((S + C.length : Nat) : Int) = (sentN T ls r (k + 1) : Nat)) := by
              show ((S + C.length : Nat) : Int) = _
              rw [sentN_succ (by rw [← HH.out]; exact HXK.out), HSS.out, HC.out]
            have hkl2 : k + 1 ≤ (had T ls r (k + 1)).length := by
              rw [← HME.out]
              unfold mid
              rw [List.length_append]
              omega
            go_wp2_with fail
            go_roundg (7 - (k + 1))
            case measure => rw [HGK.out]; omega
            case rel => exact ⟨k + 1, rfl, hkl2, by rw [HSE.out], (by show Sl _ _ _ _ _ _ _; rw [← HME.out]; exact hM.out), (by show FlAt _ _ _; rw [← HME.out]; exact hFl.out), hb2⟩
    · have hkE : (had T ls r k).length ≤ k := by rw [← HH.out]; omega
      have hst := had_stopN (N := N) hkE (by omega)
      have HE : Hid (had T ls r N = H ∧ sentN T ls r N = S) := ⟨hst.1.trans HH.out.symm, hst.2.trans HSS.out.symm⟩
      obtain ⟨qa, qc, rfl⟩ := hQ.out.form
      have i0 : ¬ (0 : Int) < (D : Int) := by omega
      have O4 : Hid (OwnI (wr.alloc (.cells #[] 3)) w1.heap.size (.slice (some ⟨wr.heap.size, 0, none⟩) 0 0) (ascOf 0 H)) := OwnI.made wr _ hb.out.size
      have F4 : Hid (FlAt (wr.alloc (.cells #[] 3)) w1.heap.size (flagsOf N H)) := hF.out.below ((Below.refl _ _).alloc (Nat.le_refl _) _)
      have B4 : Hid (Below w1.heap.size w1 (wr.alloc (.cells #[] 3))) := hb.out.alloc hb.out.size _
      clear hst hkE hQ hF hb
      go_wp2_with fail
      generalize wr.alloc (.cells #[] 3) = W4 at *
      go_loopw [17, 18] (fun v i wr => ∃ (m : Nat), m ≤ N ∧ i = .int .i64 m ∧ Hid (OwnI wr w1.heap.size v (ascOf m H)) ∧ Hid (FlAt wr w1.heap.size (flagsOf N H)) ∧ Hid (Below w1.heap.size w1 wr)) (fun _ i _ => N - (intOf i).toNat)
      case atStart => exact ⟨0, Nat.zero_le _, rfl, O4, F4, B4⟩
      case round =>
        obtain ⟨m, hm, rfl, hO, hFl, hb2⟩ := hrel
        clear O4 F4 B4
        by_cases hml : m < N
        · obtain ⟨q2, f2⟩ := hFl.out.cell (j := m) (by rw [flags_length]; exact hml)
          have m0 : (0 : Int) ≤ (m : Int) := by omega
          have m1 : (m : Int) < (N : Int) := by omega
          obtain ⟨va, vc, rfl⟩ := hO.out.form
          have hAl : (ascOf m H).length ≤ m := ascOf_len m H
          have hgt : (flagsOf N H)[m]'(by rw [flags_length]; exact hml) = H.contains (m : Int) := by simp [flagsOf]
          rw [hgt] at q2
          cases hc : H.contains (m : Int) with
          | true =>
            rw [hc] at q2
            have HY : Hid (ascOf (m + 1) H = ascOf m H ++ [(m : Int)]) := ascOf_yes hc
            have hnb : (Value.slice va (ascOf m H).length vc).ownBlock ≠ some w1.heap.size := OwnI.notFlag hO.out hFl.out
            have hsz : w1.heap.size ≤ wr.heap.size := hb2.out.size
            clear hgt hc
            generalize ascOf m H = A at *
            go_wp2_with (at_builtin; refine wpList_pushIg rfl _ _ 27 rfl Try.underlying27 Try.info3i w1.heap.size _ A rfl hO.out (m : Int) rfl (by omega) hsz ?_; intro v6 w6 hown6 hg6 hbk6)
            go_roundw
            case rel => exact ⟨m + 1, by omega, by go_num, (by show OwnI _ _ _ _; rw [HY.out]; exact hown6), hFl.out.grown hg6 (fun he => hnb he.symm), hb2.out.grown hg6 hsz (fun i hi => (hO.out.lt i hi).1)⟩
            case measure => simp [intOf]; omega
          | false =>
            rw [hc] at q2
            have HY : Hid (ascOf (m + 1) H = ascOf m H) := ascOf_no hc
            clear hgt hc
            generalize ascOf m H = A at *
            go_wp2_with fail
            go_roundw
            case rel => exact ⟨m + 1, by omega, by go_num, (by show OwnI _ _ _ _; rw [HY.out]; exact hO.out), hFl, hb2⟩
            case measure => simp [intOf]; omega
        · obtain rfl : m = N := by omega
          obtain ⟨va, vc, rfl⟩ := hO.out.form
          have m1 : ¬ (m : Int) < (m : Int) := by omega
          generalize hA : ascOf m H = A at *
          have HA : Hid (ascOf m H = A) := hA
          clear hA
          go_wp2_with fail
          go_ret2
          refine ⟨⟨_, by rw [HF.out.2, HE.out.2]; rfl, ?_⟩, HB1.out.trans (hb2.out.mono HB1.out.size)⟩
          rw [HF.out.1, HE.out.1, HA.out]
          exact hO.out.down HB1.out.size
end Go.Proofs.Ytlfgglmgajcpoaa
