/- The walk over the program's Distances. -/
import Derived.Test.YtlfgglmgajcpoaaDs
import Derived.Test.YtlfgglmgajcpoaaR1
namespace Go.Proofs.Ytlfgglmgajcpoaa
open Go.RowKit Pl
set_option linter.unusedVariables false

theorem rep_is (n : Nat) : rep n n = (List.replicate n (-1 : Int)).map (Value.int .i64) := by simp [rep]

theorem HpAt.other {w : World} {B c fb j : Nat} {v u : Value} {L : List St} {arr : Array Value} (h : HpAt w B c v L) (hg : w.heap[fb]? = some (.cells arr 3 (0, 0))) : HpAt (w.setCell ⟨fb, j, none⟩ u) B c v L := by
  have ne : ∀ (k : Nat) (a : Array Value) (t : TypeId), w.heap[k]? = some (.cells a t (0, 0)) → t ≠ 3 → (w.setCell ⟨fb, j, none⟩ u).heap[k]? = w.heap[k]? := fun k a t hk ht => Below.heap_setCell w ⟨fb, j, none⟩ u k (fun he => by
    rw [he] at hk
    rw [hg] at hk
    simp at hk
    exact ht hk.2.symm)
  refine ⟨(ne c _ _ h.var (by decide)).trans h.var, h.row.keep fun k hk _ => ?_, fun x hx => ⟨(h.st x hx).1, (ne x.1 _ _ (h.st x hx).2 (by decide)).trans (h.st x hx).2⟩, h.bc⟩
  rcases h.row.2 with ⟨hv, _⟩ | ⟨g', off', cap', cur, hv, _, hg', _⟩
  · rw [hv] at hk; simp [Value.ownBlock] at hk
  · rw [hv] at hk; simp [Value.ownBlock] at hk; subst hk; exact ne _ _ _ hg' (by decide)
theorem StAt.other {w : World} {fb j : Nat} {u : Value} {x : St} {arr : Array Value} (h : StAt w x) (hg : w.heap[fb]? = some (.cells arr 3 (0, 0))) : StAt (w.setCell ⟨fb, j, none⟩ u) x :=
  (Below.heap_setCell w ⟨fb, j, none⟩ u x.1 (fun he => by
    unfold StAt at h
    rw [he, hg] at h
    simp at h)).trans h
/-- the search begins. -/
theorem hp_new (w : World) (B : Nat) (s : Int) (hB : B ≤ w.heap.size) : HpAt (((w.alloc (Obj.cells #[Value.int IntKind.i64 s, Value.int IntKind.i64 0] 58)).alloc (Obj.cells #[Value.pointer (some ⟨w.heap.size, 0, none⟩)] 56)).alloc (Obj.cells #[Value.slice (some ⟨w.heap.size + 1, 0, none⟩) 1 1] 60)) B (w.heap.size + 2) (.slice (some ⟨w.heap.size + 1, 0, none⟩) 1 1) [(w.heap.size, s, 0)] := by
  have a1 : (w.alloc (Obj.cells #[Value.int IntKind.i64 s, Value.int IntKind.i64 0] 58)).heap.size = w.heap.size + 1 := by simp
  have a2 : ((w.alloc (Obj.cells #[Value.int IntKind.i64 s, Value.int IntKind.i64 0] 58)).alloc (Obj.cells #[Value.pointer (some ⟨w.heap.size, 0, none⟩)] 56)).heap.size = w.heap.size + 2 := by simp
  refine ⟨?_, ⟨rfl, .inr ⟨w.heap.size + 1, 0, 1, #[Value.pointer (some ⟨w.heap.size, 0, none⟩)], rfl, by omega, ?_, Nat.le_refl _, by unfold maxLen; omega, by simp, fun j hj => ?_⟩⟩, fun x hx => ?_, by omega⟩
  · have := heap_alloc_new ((w.alloc (Obj.cells #[Value.int IntKind.i64 s, Value.int IntKind.i64 0] 58)).alloc (Obj.cells #[Value.pointer (some ⟨w.heap.size, 0, none⟩)] 56)) (Obj.cells #[Value.slice (some ⟨w.heap.size + 1, 0, none⟩) 1 1] 60)
    rw [a2] at this
    exact this
  · rw [heap_alloc_old _ _ (by omega)]
    have := heap_alloc_new (w.alloc (Obj.cells #[Value.int IntKind.i64 s, Value.int IntKind.i64 0] 58)) (Obj.cells #[Value.pointer (some ⟨w.heap.size, 0, none⟩)] 56)
    rw [a1] at this
    exact this
  · obtain rfl : j = 0 := by simp at hj; omega
    rfl
  · simp at hx
    subst hx
    refine ⟨hB, ?_⟩
    show _ = _
    rw [heap_alloc_old _ _ (by omega), heap_alloc_old _ _ (by omega)]
    exact heap_alloc_new w _

set_option maxRecDepth 100000 in
set_option maxHeartbeats 4000000 in
theorem dist_any (n s : Int) (ao : Option Addr) (cap : Nat) (ts : List Rd) (w : World) (hx : Hid (RoadsAt w ao ts)) (hl : ts.length ≤ 1048576) :
    Calls Try.prog 11 #[.int .i64 n, .slice ao ts.length cap, .int .i64 s] w fun e w' => (∃ v, e = .returned v ∧ OwnI w' w.heap.size v (dists n ts s)) ∧ Below w.heap.size w w' ∧ (RoadsP n ts → 0 ≤ s → s ≤ n - 1 → Least ts n s (fn (dists n ts s))) := by
  by_cases hok : RoadsP n ts
  case neg =>
    have hB : roadsB n ts = false := roadsB_false hok
    have HD : Hid (dists n ts s = []) := dists_no (fun h => hok h.1)
    have HOK : Hid (¬ RoadsP n ts) := hok
    clear hok
    go_enter Try.func11, Try.ntmps11
    go_wp2_with fail
    refine (roadsOk_any n ao cap ts w hx hl).mono ?_
    rw [hB]
    rintro e w1 ⟨rfl, b1⟩
    go_wp2_with fail
    go_ret
    have b2 : Below w1.heap.size w1 (w1.alloc (.cells #[] 3)) := (Below.refl _ _).alloc (Nat.le_refl _) _
    exact ⟨⟨_, rfl, by rw [HD.out]; exact OwnI.made w1 _ b1.size⟩, b1.trans (b2.mono b1.size), fun h => absurd h HOK.out⟩
  have hB : roadsB n ts = true := roadsB_true hok
  have hn : 1 ≤ n ∧ n ≤ 6 := ⟨hok.1, hok.2.1⟩
  have hw0 : IntKind.i64.wrap (n - 1) = n - 1 := by rw [IntKind.wrap_i64]; omega
  by_cases hs : 0 ≤ s ∧ s ≤ n - 1
  case neg =>
    have HD : Hid (dists n ts s = []) := dists_no (fun h => hs h.2)
    have HS : Hid (¬ (0 ≤ s ∧ s ≤ n - 1)) := hs
    have hd : decide (0 ≤ s ∧ s ≤ n - 1) = false := decide_eq_false hs
    clear hs hok
    go_enter Try.func11, Try.ntmps11
    go_wp2_with fail
    refine (roadsOk_any n ao cap ts w hx hl).mono ?_
    rw [hB]
    rintro e w1 ⟨rfl, b1⟩
    go_wp2_with (go_at_call 37; refine (within_is _ hd).mono ?_; rintro e w' ⟨rfl, hw⟩; obtain rfl := hw.symm)
    go_ret
    have b2 : Below w1.heap.size w1 (w1.alloc (.cells #[] 3)) := (Below.refl _ _).alloc (Nat.le_refl _) _
    exact ⟨⟨_, rfl, by rw [HD.out]; exact OwnI.made w1 _ b1.size⟩, b1.trans (b2.mono b1.size), fun _ h0 h1 => absurd ⟨h0, h1⟩ HS.out⟩
  have hd : decide (0 ≤ s ∧ s ≤ n - 1) = true := decide_eq_true hs
  have HD : Hid (dists n ts s = distL n.toNat ts s) := dists_yes hok hs.1 hs.2
  have hlen : ts.length ≤ 12 := hok.2.2.1
  have HF : Hid (Fits n ts) := hok.fits
  obtain ⟨N, hN⟩ : ∃ N : Nat, n = (N : Int) := ⟨n.toNat, by omega⟩
  have HN : Hid (n = (N : Int)) := hN
  have hN6 : 1 ≤ N ∧ N ≤ 6 := by omega
  subst hN
  have HF6 : Hid (Fits 6 ts) := fun r hr => by have := HF.out r hr; omega
  clear hok
  go_enter Try.func11, Try.ntmps11
  go_wp2_with fail
  refine (roadsOk_any _ ao cap ts w hx hl).mono ?_
  rw [hB]
  rintro e w1 ⟨rfl, b1⟩
  go_wp2_with (go_at_call 37; refine (within_is _ hd).mono ?_; rintro e w' ⟨rfl, hw⟩; obtain rfl := hw.symm)
  refine (repeat_any N w1.heap.size hN6 _ (by simp)).mono ?_
  rintro e w2 ⟨fb, rfl, hfb, hfar, b2⟩
  have hB2 : w.heap.size ≤ w2.heap.size := Nat.le_trans b1.size (Nat.le_trans (by simp) b2.size)
  have bW : Below w2.heap.size w2 (((w2.alloc (Obj.cells #[Value.int IntKind.i64 s, Value.int IntKind.i64 0] 58)).alloc (Obj.cells #[Value.pointer (some ⟨w2.heap.size, 0, none⟩)] 56)).alloc (Obj.cells #[Value.slice (some ⟨w2.heap.size + 1, 0, none⟩) 1 1] 60)) := (((Below.refl _ _).alloc (Nat.le_refl _) _).alloc (by simp) _).alloc (by simp; omega) _
  have bA : Below w1.heap.size w1 (w1.alloc (.cells #[.int .i64 (-1)] 3)) := (Below.refl _ _).alloc (Nat.le_refl _) _
  have B2 : Below w.heap.size w w2 := (b1.trans (bA.mono b1.size)).trans (b2.mono (Nat.le_trans b1.size bA.size))
  have hfbB : w.heap.size ≤ fb := Nat.le_trans b1.size (Nat.le_trans (by simp) hfb)
  have ST : Hid (DjSt w (((w2.alloc (Obj.cells #[Value.int IntKind.i64 s, Value.int IntKind.i64 0] 58)).alloc (Obj.cells #[Value.pointer (some ⟨w2.heap.size, 0, none⟩)] 56)).alloc (Obj.cells #[Value.slice (some ⟨w2.heap.size + 1, 0, none⟩) 1 1] 60)) w.heap.size (w2.heap.size + 2) fb ts N s (.slice (some ⟨w2.heap.size + 1, 0, none⟩) 1 1) [(w2.heap.size, s, 0)] (List.replicate N (-1))) := by
    refine ⟨hp_new w2 _ s hB2, fun k h0 h1 => by simp at h1; omega, ?_, by simp, ?_, fun p hp => ?_, ?_, B2.trans (bW.mono hB2), hfbB⟩
    · rw [← rep_is]
      exact (bW.block fb (Array.getElem?_eq_some_iff.1 hfar).1).trans hfar
    · rw [fn_rep]
      exact Dj.new ts N s hs.1 (by omega)
    · simp [pr] at hp
      subst hp
      rw [uc_rep]
      simp
    · rw [uc_rep]; simp; omega
  obtain ⟨c, hc⟩ : ∃ c, c = w2.heap.size + 2 := ⟨_, rfl⟩
  go_wp2_with fail
  rw [← hc] at ST ⊢
  clear hc hfar bW bA b2 b1 B2 hfb hB2
  generalize (((w2.alloc (Obj.cells #[Value.int IntKind.i64 s, Value.int IntKind.i64 0] 58)).alloc (Obj.cells #[Value.pointer (some ⟨w2.heap.size, 0, none⟩)] 56)).alloc (Obj.cells #[Value.slice (some ⟨w2.heap.size + 1, 0, none⟩) 1 1] 60)) = W0 at *
  generalize (Value.slice (some ⟨w2.heap.size + 1, 0, none⟩) 1 1) = V0 at *
  generalize [(w2.heap.size, s, (0 : Int))] = L0 at *
  go_loopw [] (fun wr => ∃ v L fl, Hid (DjSt w wr w.heap.size c fb ts N s v L fl)) (fun wr => mzW fb c wr)
  case atStart => exact ⟨_, _, _, ST⟩
  case round =>
    obtain ⟨v, L, fl, HS⟩ := hrel
    clear ST
    have c0 := HS.out.at'.cell
    obtain ⟨va, vc, rfl⟩ := HS.out.at'.form
    by_cases hL0 : L.length = 0
    · have hnil : L = [] := List.eq_nil_of_length_eq_zero hL0
      have hfl := HS.out.flen
      have LST : Least ts N s (fn fl) := Dj.done (by have := HS.out.dj; rw [hnil] at this; exact this)
      have HFL : Hid (fl = dists (N : Int) ts s) := by
        rw [HD.out]
        exact least_is LST HF.out hfl
      have HLST : Hid (Least ts N s (fn (dists (N : Int) ts s))) := by rw [← HFL.out]; exact LST
      have HOW : Hid (OwnI wr w.heap.size (.slice (some ⟨fb, 0, none⟩) N N) (dists (N : Int) ts s)) := by
        have := OwnI.ofRow HS.out.fbB (by omega) HS.out.far
        rw [hfl] at this
        rw [← HFL.out]
        exact this
      have hd0 : ¬ (0 < L.length) := by omega
      clear hnil hfl LST
      rw [hL0] at c0
      go_wp2_with fail
      go_ret
      exact ⟨⟨_, rfl, HOW.out⟩, HS.out.below, fun _ _ _ => HLST.out⟩
    · obtain ⟨M, hM⟩ : ∃ M, L.length = M + 1 := ⟨L.length - 1, by omega⟩
      have HM : Hid (L.length = M + 1) := hM
      have hMl : M ≤ 800 := by have := HS.out.len; omega
      rw [hM] at c0 HS
      clear hM hL0
      have hd0 : (0 : Int) < ((M + 1 : Nat) : Int) := by omega
      go_wp2_with fail
      refine (hpop_any HS.out.at' HM.out (by omega) HS.out.heap).mono ?_
      rintro e w3 ⟨⟨xb, xs, xc⟩, rfl, v3, L3, a3, l3, x1, x2, x3, x4, h3, s3, k3, b3⟩
      have OF := off_of x1 x2 x3 x4
      have hst := HS.out.dj.stop (xs, xc) OF.mem
      dsimp only at hst
      obtain ⟨i, hi⟩ : ∃ i : Nat, xs = (i : Int) := ⟨xs.toNat, by omega⟩
      subst hi
      have hiN : i < N := by omega
      have hfl := HS.out.flen
      have far3 : w3.heap[fb]? = some (.cells (fl.map (Value.int .i64)).toArray 3 (0, 0)) := (k3.block fb _ _ HS.out.far (by decide) (by decide)).trans HS.out.far
      obtain ⟨z, hz⟩ : ∃ z, fl[i]? = some z := ⟨_, List.getElem?_eq_getElem (by omega)⟩
      have q0 : w3.cell? ⟨fb, i, none⟩ = some (.int .i64 z) := by
        rw [cell_of_row w3 fb i _ 3 (0, 0) far3]
        simp [hz]
      have f0 := frozen_of_row w3 fb i _ 3 far3
      obtain ⟨t0, t1⟩ := s3.cells
      dsimp only at t0 t1
      have i0 : (0 : Int) ≤ (i : Int) := by omega
      have i1 : (i : Int) < (N : Int) := by omega
      have hfz : fn fl (i : Int) = z := by
        rw [fn_nat (by omega)]
        rw [List.getElem?_eq_getElem (by omega)] at hz
        simpa using hz
      by_cases hzm : z = -1
      · subst hzm
        have hxc0 : 0 ≤ xc := hst.2.2.1
        have hxc1 : xc ≤ 1000000 := by have := HS.out.cost (((i : Nat) : Int), xc) OF.mem; dsimp only at this; omega
        have far4 : (w3.setCell ⟨fb, i, none⟩ (.int .i64 xc)).drew.heap[fb]? = some (.cells ((fl.set i xc).map (Value.int .i64)).toArray 3 (0, 0)) := by
          have := heap_setCell_same w3 fb i _ 3 (.int .i64 xc) far3
          have e : ((fl.set i xc).map (Value.int .i64)).toArray = (fl.map (Value.int .i64)).toArray.setIfInBounds i (.int .i64 xc) := by simp [List.map_set]
          rw [e]
          exact this
        have A4 : HpAt (w3.setCell ⟨fb, i, none⟩ (.int .i64 xc)).drew w.heap.size c v3 L3 := (a3.other far3).drewN 1
        have S4 : StAt (w3.setCell ⟨fb, i, none⟩ (.int .i64 xc)).drew (xb, (i : Int), xc) := s3.other far3
        have B4 : Below w.heap.size w (w3.setCell ⟨fb, i, none⟩ (.int .i64 xc)).drew := ((HS.out.below.trans b3).setCell HS.out.fbB _).drew
        have H4 : Hid _ := And.intro far4 (And.intro A4 (And.intro S4 B4))
        have HFACT : Hid _ := And.intro l3 (And.intro h3 (And.intro OF (And.intro hfz (And.intro hfl (And.intro hiN (And.intro hst hz))))))
        clear far4 A4 S4 B4 a3 l3 x1 x2 x3 x4 h3 s3 k3 b3 OF far3 hfz hz c0 hfl hst
        go_wp2_with fail
        go_region
        go_wp2_with fail
        clear q0 f0 t0 t1
        generalize (w3.setCell ⟨fb, i, none⟩ (.int .i64 xc)).drew = W4 at *
        obtain ⟨far4, A4, S4, B4⟩ := H4.out
        obtain ⟨l3, h3, OF, hfz, hfl, hiN', hst, hz⟩ := HFACT.out
        refine (goOn_any w W4 c cap ao ts v3 L3 (xb, (i : Int), xc) hx B4 hlen HF6 A4 h3 (by omega) S4 ⟨hxc0, hxc1⟩).mono ?_
        rintro e w5 ⟨⟨u, rfl⟩, v5, L5, G5⟩
        have far5 : w5.heap[fb]? = some (.cells ((fl.set i xc).map (Value.int .i64)).toArray 3 (0, 0)) := (G5.keep.block fb _ _ far4 (by decide) (by decide)).trans far4
        have huc := uc_set (i := i) (fl := fl) (by omega) (by rw [← fn_nat (by omega)]; exact hfz) (x := xc) (by omega)
        have HST : Hid (DjSt w w5 w.heap.size c fb ts N s v5 L5 (fl.set i xc)) := by
          refine ⟨G5.at', G5.heap, far5, by rw [List.length_set]; exact hfl, ?_, fun p hp => ?_, ?_, B4.trans G5.below, HS.out.fbB⟩
          · rw [fn_set (by omega)]
            refine Dj.take HF.out HS.out.dj OF hfz (fun p => ?_)
            rw [G5.mem p]
            have := endI_adj HF.out (s := (i : Int)) (p := p) (x := xc)
            rw [← this]
            constructor
            · rintro (h | ⟨j, h, _, h2, h3⟩)
              · exact Or.inl h
              · exact Or.inr ⟨j, h, h2, h3⟩
            · rintro (h | ⟨j, h, h2, h3⟩)
              · exact Or.inl h
              · exact Or.inr ⟨j, h, h, h2, h3⟩
          · rcases (G5.mem p).1 hp with h | ⟨j, h, _, _, rfl⟩
            · have := HS.out.cost p (OF.sub p h)
              omega
            · have h1 := HS.out.cost (((i : Nat) : Int), xc) OF.mem
              have h2 := HF.out ts[j] (List.getElem_mem h)
              dsimp only at h1 ⊢
              omega
          · have h1 := HS.out.len
            have h2 := HM.out
            have h3 := G5.len
            omega
        have HME : Hid (mzW fb c w5 < mzW fb c wr) := by
          rw [mzW_is HST.out.at' HST.out.far, mzW_is HS.out.at' HS.out.far, HM.out]
          have h3 := G5.len
          show _ < _
          omega
        clear far4 A4 S4 B4 l3 h3 OF hfz hfl hiN' hst hz far5 huc G5 H4 HFACT
        go_wp2_with fail
        go_roundw
        case rel => exact ⟨_, _, _, HST⟩
        case measure => exact HME.out
      · have hzd : (z == (-1 : Int)) = false := by simp; exact hzm
        have HST : Hid (DjSt w w3 w.heap.size c fb ts N s v3 L3 fl) := by
          refine ⟨a3, by rw [l3] at h3 ⊢; exact h3, far3, hfl, HS.out.dj.skip OF (by rw [hfz]; exact hzm), fun p hp => HS.out.cost p (OF.sub p hp), ?_, HS.out.below.trans b3, HS.out.fbB⟩
          have := HS.out.len
          have := HM.out
          omega
        have HME : Hid (mzW fb c w3 < mzW fb c wr) := by
          rw [mzW_is HST.out.at' HST.out.far, mzW_is HS.out.at' HS.out.far, l3, HM.out]
          show _ < _
          omega
        clear a3 l3 x1 x2 x3 x4 h3 s3 k3 b3 OF far3 hfz hz c0 hfl
        go_wp2_with fail
        go_roundw
        case rel => exact ⟨_, _, _, HST⟩
        case measure => exact HME.out
end Go.Proofs.Ytlfgglmgajcpoaa
