/- The walk over the specification's Distances. -/
import Derived.Test.YtlfgglmgajcpoaaDi
import Derived.Test.YtlfgglmgajcpoaaR2
import Derived.Deep.DeepCutAuto
namespace Go.Proofs.Ytlfgglmgajcpoaa
open Go.RowKit Pl
set_option linter.unusedVariables false

theorem OwnI.drewN {w : World} {B : Nat} {v : Value} {ss : List Int} (h : OwnI w B v ss) (n : Nat) : OwnI (w.drewN n) B v ss := OwnI.keepT h ((KeepT.refl w).drewN n)
theorem own_cell {w : World} {B g N cap : Nat} {fl : List Int} (h : OwnI w B (.slice (some ⟨g, 0, none⟩) N cap) fl) (hl : fl.length = N) (i : Nat) (z : Int) (hz : fl[i]? = some z) : w.cell? ⟨g, i, none⟩ = some (.int .i64 z) ∧ w.frozen? ⟨g, i, none⟩ = false := by
  have hi := (List.getElem?_eq_some_iff.1 hz).1
  obtain ⟨g', cap', hv, _, _, hc, hf⟩ := h.some (by omega)
  simp at hv
  obtain ⟨rfl, _⟩ := hv
  have := hc i hi
  rw [List.getElem?_eq_getElem hi] at hz
  simp at hz
  rw [hz] at this
  exact ⟨this, hf i⟩
/-- where a list of distances stands: its function, its length, where it lies, its bounds. -/
structure RlSt (w wx : World) (g cap N : Nat) (o : Int → Int) (b : Int) (fl : List Int) : Prop where
  fn : fn fl = o
  len : fl.length = N
  own : OwnI wx w.heap.size (.slice (some ⟨g, 0, none⟩) N cap) fl
  top : ∀ v, o v ≤ b
  low : ∀ v, -1 ≤ o v
  below : Below w.heap.size w wx
theorem RlSt.read {w wx : World} {g cap N : Nat} {o : Int → Int} {b : Int} {fl : List Int} (h : RlSt w wx g cap N o b fl) (u : Nat) (hu : u < N) : wx.cell? ⟨g, u, none⟩ = some (.int .i64 (o u)) ∧ wx.frozen? ⟨g, u, none⟩ = false := by
  refine own_cell h.own h.len u _ ?_
  rw [← h.fn, fn_nat (by rw [h.len]; exact hu)]
  exact List.getElem?_eq_getElem _
theorem RlSt.drewN {w wx : World} {g cap N : Nat} {o : Int → Int} {b : Int} {fl : List Int} (h : RlSt w wx g cap N o b fl) (n : Nat) : RlSt w (wx.drewN n) g cap N o b fl := ⟨h.fn, h.len, OwnI.drewN h.own n, h.top, h.low, below_drewN h.below n⟩
theorem RlSt.alloc {w wx : World} {g cap N : Nat} {o : Int → Int} {b : Int} {fl : List Int} (h : RlSt w wx g cap N o b fl) (x : Obj) : RlSt w (wx.alloc x) g cap N o b fl := ⟨h.fn, h.len, h.own.alloc x, h.top, h.low, h.below.alloc h.below.size x⟩
theorem RlSt.up {w wx : World} {g cap N : Nat} {o : Int → Int} {b b' : Int} {fl : List Int} (h : RlSt w wx g cap N o b fl) (hb : b ≤ b') : RlSt w wx g cap N o b' fl := ⟨h.fn, h.len, h.own, fun v => Int.le_trans (h.top v) hb, h.low, h.below⟩
theorem RlSt.same {w wx : World} {g cap N : Nat} {o : Int → Int} {b : Int} {fl : List Int} {u v c : Int} (h : RlSt w wx g cap N o b fl) (hc : ¬ (0 ≤ o u ∧ (o v < 0 ∨ o u + c < o v))) : RlSt w wx g cap N (relax1 u v c o) (b + 100) fl := by
  have e : relax1 u v c o = o := by unfold relax1; rw [if_neg hc]
  rw [e]
  exact h.up (by omega)
theorem RlSt.turn {w wx : World} {g cap N : Nat} {o : Int → Int} {b : Int} {fl : List Int} {u : Int} {v : Nat} {c : Int} (h : RlSt w wx g cap N o b fl) (hv : v < N) (h1 : 1 ≤ c ∧ c ≤ 100) (hg : w.heap.size ≤ g) (hc : 0 ≤ o u ∧ (o v < 0 ∨ o u + c < o v)) :
    RlSt w (wx.setCell ⟨g, v, none⟩ (.int .i64 (o u + c))) g cap N (relax1 u v c o) (b + 100) (fl.set v (o u + c)) := by
  have hl := h.len
  have ho := h.own
  have hb : 0 ≤ b := Int.le_trans hc.1 (h.top u)
  have e : relax1 u v c o = fun x => if x = (v : Int) then o u + c else o x := by unfold relax1; rw [if_pos hc]
  rw [← hl] at ho
  have st := OwnI.store ho v (o u + c)
  refine ⟨by rw [fn_set (by omega), e, h.fn], by rw [List.length_set]; exact hl, ?_, fun x => ?_, fun x => ?_, h.below.setCell hg _⟩
  · have := st.1
    rw [hl] at this
    exact this
  · rw [e]
    by_cases hx : x = (v : Int)
    · simp [hx]; have := h.top u; omega
    · simp [hx]; have := h.top x; omega
  · rw [e]
    by_cases hx : x = (v : Int)
    · simp [hx]; omega
    · simp [hx]; exact h.low x
theorem RlSt.boxed {w wx : World} {g cap N rb j : Nat} {r : Rd} {o : Int → Int} {b : Int} {fl : List Int} {u : Value} (h : RlSt w wx g cap N o b fl) (hbx : BoxRd wx rb r) : BoxRd (wx.setCell ⟨g, j, none⟩ u) rb r := by
  refine (Below.heap_setCell wx ⟨g, j, none⟩ _ rb (fun he => ?_)).trans hbx
  unfold BoxRd at hbx
  have he : rb = g := he
  rcases h.own.2 with ⟨hv, _⟩ | ⟨g', cap', cur, hv, _, hg', _⟩
  · simp at hv
  · simp at hv
    rw [he, hv.1, hg'] at hbx
    simp at hbx
theorem rl_done {w wx : World} {g cap N : Nat} {ts : List Rd} {s : Int} {b : Int} {fl : List Int} (h : RlSt w wx g cap N (rounds ts N (fun x => if x = s then 0 else -1)) b fl) : fl = distL N ts s := by
  apply List.ext_getElem (by rw [h.len, distL_length])
  intro i h1 h2
  rw [← fn_nat h1, h.fn]
  simp [distL]

set_option maxRecDepth 100000 in
set_option maxHeartbeats 8000000 in
theorem spDist_any (n s : Int) (ao : Option Addr) (cap : Nat) (ts : List Rd) (w : World) (hx : Hid (RoadsAt w ao ts)) (hl : ts.length ≤ 1048576) :
    Calls Try.prog 17 #[.int .i64 n, .slice ao ts.length cap, .int .i64 s] w fun e w' => (∃ v, e = .returned v ∧ OwnI w' w.heap.size v (dists n ts s)) ∧ Below w.heap.size w w' := by
  have bA : Below w.heap.size w (w.alloc (.cells #[] 3)) := (Below.refl _ _).alloc (Nat.le_refl _) _
  have HXA : Hid (RoadsAt (w.alloc (.cells #[] 3)) ao ts) := hx.out.stays bA
  have O0 : Hid (OwnI (w.alloc (.cells #[] 3)) w.heap.size (.slice (some ⟨w.heap.size, 0, none⟩) 0 0) []) := OwnI.made w _ (Nat.le_refl _)
  by_cases hok : RoadsP n ts
  case neg =>
    have hB : roadsB n ts = false := roadsB_false hok
    have HD : Hid (dists n ts s = []) := dists_no (fun h => hok h.1)
    clear hok
    go_enter Try.func17, Try.ntmps17
    go_wp2_with fail
    refine (spRoadsOk_any n ao cap ts _ HXA hl).mono ?_
    rw [hB]
    rintro e w1 ⟨rfl, b1⟩
    go_wp2_with fail
    go_ret
    exact ⟨⟨_, rfl, by rw [HD.out]; exact O0.out.stays b1 (fun k hk => (O0.out.lt k hk).2)⟩, bA.trans (b1.mono bA.size)⟩
  have hB : roadsB n ts = true := roadsB_true hok
  have hn : 1 ≤ n ∧ n ≤ 6 := ⟨hok.1, hok.2.1⟩
  have hw0 : IntKind.i64.wrap (n - 1) = n - 1 := by rw [IntKind.wrap_i64]; omega
  by_cases hs : 0 ≤ s ∧ s ≤ n - 1
  case neg =>
    have HD : Hid (dists n ts s = []) := dists_no (fun h => hs h.2)
    have hd : decide (0 ≤ s ∧ s ≤ n - 1) = false := decide_eq_false hs
    clear hs hok
    go_enter Try.func17, Try.ntmps17
    go_wp2_with fail
    refine (spRoadsOk_any n ao cap ts _ HXA hl).mono ?_
    rw [hB]
    rintro e w1 ⟨rfl, b1⟩
    go_wp2_with (go_at_call 47; refine (in_is _ hd).mono ?_; rintro e w' ⟨rfl, hw⟩; obtain rfl := hw.symm)
    go_ret
    exact ⟨⟨_, rfl, by rw [HD.out]; exact O0.out.stays b1 (fun k hk => (O0.out.lt k hk).2)⟩, bA.trans (b1.mono bA.size)⟩
  have hd : decide (0 ≤ s ∧ s ≤ n - 1) = true := decide_eq_true hs
  have HD : Hid (dists n ts s = distL n.toNat ts s) := dists_yes hok hs.1 hs.2
  have hlen : ts.length ≤ 12 := hok.2.2.1
  have HF : Hid (Fits n ts) := hok.fits
  obtain ⟨N, hN⟩ : ∃ N : Nat, n = (N : Int) := ⟨n.toNat, by omega⟩
  have hN6 : 1 ≤ N ∧ N ≤ 6 := by omega
  subst hN
  obtain ⟨S, hS⟩ : ∃ S : Nat, s = (S : Int) := ⟨s.toNat, by omega⟩
  have hS6 : S < N := by omega
  subst hS
  clear hok
  go_enter Try.func17, Try.ntmps17
  go_wp2_with fail
  refine (spRoadsOk_any _ ao cap ts _ HXA hl).mono ?_
  rw [hB]
  rintro e w1 ⟨rfl, b1⟩
  have O1 : Hid (OwnI w1 w.heap.size (.slice (some ⟨w.heap.size, 0, none⟩) 0 0) []) := O0.out.stays b1 (fun k hk => (O0.out.lt k hk).2)
  have B1 : Hid (Below w.heap.size w w1) := bA.trans (b1.mono bA.size)
  clear O0 b1 bA HXA
  go_wp2_with (go_at_call 47; refine (in_is _ hd).mono ?_; rintro e w' ⟨rfl, hw⟩; obtain rfl := hw.symm)
  go_loopw [7, 8] (fun v i wr => ∃ (k : Nat), k ≤ N ∧ i = .int .i64 k ∧ Hid (OwnI wr w.heap.size v (List.replicate k (-1))) ∧ Hid (Below w.heap.size w wr)) (fun _ i _ => N - (intOf i).toNat)
  case atStart => exact ⟨0, by omega, rfl, O1.out, B1.out⟩
  case round =>
    obtain ⟨k, hk, rfl, hO, hb⟩ := hrel
    clear O1 B1
    by_cases hlt : k < N
    · have hBs : w.heap.size ≤ wr.heap.size := hb.out.size
      go_wp2_with (at_builtin; refine wpList_pushI rfl _ _ 27 rfl Try.underlying27 Try.info3i w.heap.size _ (List.replicate k (-1)) rfl hO.out _ rfl (by simp; omega) hBs ?_; intro v6 w6 hown6 hb6)
      go_roundw
      case rel =>
        refine ⟨k + 1, by omega, by go_num, ?_, hb.out.trans hb6⟩
        rw [List.replicate_succ']
        exact hown6
      case measure => simp [intOf]; omega
    · obtain rfl : k = N := by omega
      have hrl : (List.replicate k (-1 : Int)).length = k := by simp
      obtain ⟨g, cp, hv, hg, hgl, hcl, hfz⟩ := hO.out.some (by rw [hrl]; omega)
      subst hv
      rw [hrl] at hO ⊢
      have q0 := hcl S (by rw [hrl]; omega)
      have f0 := hfz S
      clear hcl hfz
      have st := OwnI.store (show OwnI wr w.heap.size (.slice (some ⟨g, 0, none⟩) (List.replicate k (-1 : Int)).length cp) _ by rw [hrl]; exact hO.out) S 0
      have H0 : Hid (OwnI (wr.setCell ⟨g, S, none⟩ (.int .i64 0)) w.heap.size (.slice (some ⟨g, 0, none⟩) k cp) ((List.replicate k (-1)).set S 0)) := by
        have := st.1
        rw [hrl] at this
        exact this
      have B0 : Hid (Below w.heap.size w (wr.setCell ⟨g, S, none⟩ (.int .i64 0))) := hb.out.setCell hg _
      clear st hO hb
      have R0 : Hid (RlSt w (wr.setCell ⟨g, S, none⟩ (.int .i64 0)) g cp k (rounds ts 0 (fun x => if x = (S : Int) then 0 else -1)) ((2400 * 0 : Nat) : Int) ((List.replicate k (-1)).set S 0)) := by
        refine ⟨?_, by simp, H0.out, fun v => ?_, fun v => ?_, B0.out⟩
        · rw [fn_set (by simp; omega), fn_rep]; rfl
        · show (if v = (S : Int) then (0 : Int) else -1) ≤ _
          split <;> simp
        · show _ ≤ (if v = (S : Int) then (0 : Int) else -1)
          split <;> omega
      clear H0 B0
      generalize (List.replicate k (-1 : Int)).set S 0 = FL0 at *
      go_wp2_with fail
      clear q0 f0
      generalize wr.setCell ⟨g, S, none⟩ (.int .i64 0) = W0 at *
      go_loopw [9] (fun i wr => ∃ (r : Nat) (fl : List Int), r ≤ k ∧ i = .int .i64 r ∧ Hid (RlSt w wr g cp k (rounds ts r (fun x => if x = (S : Int) then 0 else -1)) ((2400 * r : Nat) : Int) fl)) (fun i _ => k - (intOf i).toNat)
      case atStart => exact ⟨0, FL0, by omega, rfl, R0⟩
      case round =>
        obtain ⟨r, fl, hr, rfl, HR⟩ := hrel
        clear R0
        by_cases hrk : r < k
        · go_wp2_with fail
          obtain ⟨RO, hRO⟩ : ∃ RO, RO = rounds ts r (fun x => if x = (S : Int) then 0 else -1) := ⟨_, rfl⟩
          have HRO : Hid (RO = rounds ts r (fun x => if x = (S : Int) then 0 else -1)) := hRO
          rw [← hRO] at HR
          clear hRO
          go_loopw [10] (fun j wr => ∃ (i : Nat) (fl : List Int), i ≤ ts.length ∧ j = .int .i64 i ∧ Hid (RlSt w wr g cp k ((ts.take i).foldl (fun o r => relax r o) RO) ((2400 * r + 200 * i : Nat) : Int) fl)) (fun j _ => ts.length - (intOf j).toNat)
          case atStart => exact ⟨0, fl, by omega, rfl, HR⟩
          case round =>
            obtain ⟨i, fl, hi, rfl, HI⟩ := hrel
            clear HR
            by_cases hil : i < ts.length
            · obtain ⟨O, hO⟩ : ∃ O, O = (ts.take i).foldl (fun o r => relax r o) RO := ⟨_, rfl⟩
              have HO : Hid (O = (ts.take i).foldl (fun o r => relax r o) RO) := hO
              rw [← hO] at HI
              obtain ⟨bd, hbd⟩ : ∃ bd : Int, bd = ((2400 * r + 200 * i : Nat) : Int) := ⟨_, rfl⟩
              have hbd2 : bd ≤ 20000 := by omega
              have HBD : Hid (bd = ((2400 * r + 200 * i : Nat) : Int)) := hbd
              rw [← hbd] at HI
              clear hO hbd
              obtain ⟨b, off, rfl, hbb, r0, r1, r2⟩ := hx.out.stays HI.out.below i hil
              have HP : Hid (∃ x : Rd, x = ts[i]) := ⟨_, rfl⟩
              obtain ⟨⟨q, f, t⟩, hp⟩ := HP.out
              rw [← hp] at r0 r1 r2
              have HQ : Hid ((⟨q, f, t⟩ : Rd) = ts[i]) := hp
              have hft := HF.out ts[i] (List.getElem_mem hil)
              rw [← hp] at hft
              clear hp HP
              dsimp only at r0 r1 r2 hft
              obtain ⟨a, ha⟩ : ∃ a : Nat, q = (a : Int) := ⟨q.toNat, by omega⟩
              obtain ⟨c, hc⟩ : ∃ c : Nat, f = (c : Int) := ⟨f.toNat, by omega⟩
              subst ha
              subst hc
              have htc : 1 ≤ t ∧ t ≤ 100 := hft.2.2.2
              have ha6 : a < k := by omega
              have hc6 : c < k := by omega
              have i0 : (0 : Int) ≤ (i : Int) := by omega
              have i1 : (i : Int) < (ts.length : Int) := by omega
              clear hft
              have HR1 : Hid (RlSt w (wr.alloc (.cells #[.int .i64 (a : Int), .int .i64 (c : Int), .int .i64 t] 31)) g cp k O bd fl) := HI.out.alloc _
              have BX1 : Hid (BoxRd (wr.alloc (.cells #[.int .i64 (a : Int), .int .i64 (c : Int), .int .i64 t] 31)) wr.heap.size ⟨(a : Int), (c : Int), t⟩) := heap_alloc_new wr _
              obtain ⟨rb, hrb⟩ : ∃ rb, rb = wr.heap.size := ⟨_, rfl⟩
              go_upto_region 16 with fail
              rw [← hrb] at BX1 ⊢
              clear hrb r0 r1 r2 HI
              generalize (wr.alloc (.cells #[.int .i64 (a : Int), .int .i64 (c : Int), .int .i64 t] 31)) = W1 at *
              obtain ⟨zu1, hzu⟩ : ∃ z, O (a : Int) = z := ⟨_, rfl⟩
              obtain ⟨zv1, hzv⟩ : ∃ z, O (c : Int) = z := ⟨_, rfl⟩
              obtain ⟨q0, f0⟩ := HR1.out.read a (by omega)
              obtain ⟨q1, f1⟩ := HR1.out.read c (by omega)
              obtain ⟨d0, d1, d2⟩ := BX1.out.cells
              dsimp only at d0 d1 d2
              have hub := HR1.out.top (a : Int)
              have hul := HR1.out.low (a : Int)
              rw [hzu] at q0 hub hul
              rw [hzv] at q1
              have HZU : Hid (O (a : Int) = zu1) := hzu
              have HZV : Hid (O (c : Int) = zv1) := hzv
              have hw1 : IntKind.i64.wrap (zu1 + t) = zu1 + t := by rw [IntKind.wrap_i64]; omega
              clear hzu hzv
              go_cut [80] (fun u_ wx => u_ = .bool (decide (0 ≤ zu1 ∧ (zv1 < 0 ∨ zu1 + t < zv1))) ∧ ∃ m, wx = W1.drewN m)
              case first =>
                by_cases h1 : 0 ≤ zu1
                · by_cases h2 : zv1 < 0
                  · have hD : decide (0 ≤ zu1 ∧ (zv1 < 0 ∨ zu1 + t < zv1)) = true := decide_eq_true (by omega)
                    go_quiet (fail)
                    go_wp2_with fail
                    go_meet
                    case rel => exact ⟨by rw [hD], _, rfl⟩
                  · by_cases h3 : zu1 + t < zv1
                    · have hD : decide (0 ≤ zu1 ∧ (zv1 < 0 ∨ zu1 + t < zv1)) = true := decide_eq_true (by omega)
                      go_quiet (fail)
                      go_wp2_with fail
                      go_meet
                      case rel => exact ⟨by rw [hD], _, rfl⟩
                    · have hD : decide (0 ≤ zu1 ∧ (zv1 < 0 ∨ zu1 + t < zv1)) = false := decide_eq_false (by omega)
                      go_quiet (fail)
                      go_wp2_with fail
                      go_meet
                      case rel => exact ⟨by rw [hD], _, rfl⟩
                · have hD : decide (0 ≤ zu1 ∧ (zv1 < 0 ∨ zu1 + t < zv1)) = false := decide_eq_false (by omega)
                  go_quiet (fail)
                  go_wp2_with fail
                  go_meet
                  case rel => exact ⟨by rw [hD], _, rfl⟩
              case rest =>
                obtain ⟨rfl, m1, rfl⟩ := hcut
                have HRD1 : Hid (RlSt w (W1.drewN m1) g cp k O bd fl) := HR1.out.drewN m1
                have BXD1 : Hid (BoxRd (W1.drewN m1) rb ⟨(a : Int), (c : Int), t⟩) := BX1.out
                clear HR1 BX1 q0 f0 q1 f1 d0 d1 d2
                generalize W1.drewN m1 = WD1 at *
                obtain ⟨q0, f0⟩ := HRD1.out.read a (by omega)
                obtain ⟨q1, f1⟩ := HRD1.out.read c (by omega)
                obtain ⟨d0, d1, d2⟩ := BXD1.out.cells
                dsimp only at d0 d1 d2
                rw [HZU.out] at q0
                rw [HZV.out] at q1
                go_upto_if 80 with fail
                go_cut [] (fun wx => ∃ fl1, Hid (RlSt w wx g cp k (relax1 (a : Int) (c : Int) t O) (bd + 100) fl1) ∧ Hid (BoxRd wx rb ⟨(a : Int), (c : Int), t⟩))
                case first =>
                  by_cases hC : 0 ≤ zu1 ∧ (zv1 < 0 ∨ zu1 + t < zv1)
                  · have hD : decide (0 ≤ zu1 ∧ (zv1 < 0 ∨ zu1 + t < zv1)) = true := decide_eq_true hC
                    have T1 := RlSt.turn (u := (a : Int)) (v := c) (c := t) HRD1.out (by omega) htc hg (by rw [HZU.out, HZV.out]; exact hC)
                    rw [HZU.out] at T1
                    have HT1 : Hid _ := T1
                    have HB1 : Hid (BoxRd (WD1.setCell ⟨g, c, none⟩ (.int .i64 (zu1 + t))) rb ⟨(a : Int), (c : Int), t⟩) := HRD1.out.boxed BXD1.out
                    clear T1
                    rw [hD]
                    clear hD hC
                    go_wp2_with fail
                    go_region
                    go_wp2_with fail
                    go_meet
                    case rel => exact ⟨_, (show RlSt _ _ _ _ _ _ _ _ from RlSt.drewN HT1.out 1), (show BoxRd _ _ _ from HB1.out)⟩
                  · have hD : decide (0 ≤ zu1 ∧ (zv1 < 0 ∨ zu1 + t < zv1)) = false := decide_eq_false hC
                    have HT1 : Hid (RlSt w WD1 g cp k (relax1 (a : Int) (c : Int) t O) (bd + 100) fl) := HRD1.out.same (by rw [HZU.out, HZV.out]; exact hC)
                    rw [hD]
                    clear hD hC
                    go_wp2_with fail
                    go_meet
                    case rel => exact ⟨_, HT1, BXD1⟩
                case rest =>
                  obtain ⟨fl2, HR2, BX2⟩ := hcut
                  clear HRD1 BXD1 q0 f0 q1 f1 d0 d1 d2 hub hul hw1 HZU HZV
                  obtain ⟨O2, hO2⟩ : ∃ O2, O2 = relax1 (a : Int) (c : Int) t O := ⟨_, rfl⟩
                  have HO2 : Hid (O2 = relax1 (a : Int) (c : Int) t O) := hO2
                  rw [← hO2] at HR2
                  obtain ⟨bd2, hbd3⟩ : ∃ bd2, bd2 = bd + 100 := ⟨_, rfl⟩
                  have HBD2 : Hid (bd2 = bd + 100) := hbd3
                  rw [← hbd3] at HR2
                  have hbd4 : bd2 ≤ 20100 := by omega
                  clear hO2 hbd3
                  go_upto_region 18 with fail
                  obtain ⟨zu2, hzu⟩ : ∃ z, O2 (c : Int) = z := ⟨_, rfl⟩
                  obtain ⟨zv2, hzv⟩ : ∃ z, O2 (a : Int) = z := ⟨_, rfl⟩
                  obtain ⟨q0, f0⟩ := HR2.out.read c (by omega)
                  obtain ⟨q1, f1⟩ := HR2.out.read a (by omega)
                  obtain ⟨d0, d1, d2⟩ := BX2.out.cells
                  dsimp only at d0 d1 d2
                  have hub := HR2.out.top (c : Int)
                  have hul := HR2.out.low (c : Int)
                  rw [hzu] at q0 hub hul
                  rw [hzv] at q1
                  have HZU : Hid (O2 (c : Int) = zu2) := hzu
                  have HZV : Hid (O2 (a : Int) = zv2) := hzv
                  have hw1 : IntKind.i64.wrap (zu2 + t) = zu2 + t := by rw [IntKind.wrap_i64]; omega
                  clear hzu hzv
                  go_cut [122] (fun u_ wx => u_ = .bool (decide (0 ≤ zu2 ∧ (zv2 < 0 ∨ zu2 + t < zv2))) ∧ ∃ m, wx = wc.drewN m)
                  case first =>
                    by_cases h1 : 0 ≤ zu2
                    · by_cases h2 : zv2 < 0
                      · have hD : decide (0 ≤ zu2 ∧ (zv2 < 0 ∨ zu2 + t < zv2)) = true := decide_eq_true (by omega)
                        go_quiet (fail)
                        go_wp2_with fail
                        go_meet
                        case rel => exact ⟨by rw [hD], _, rfl⟩
                      · by_cases h3 : zu2 + t < zv2
                        · have hD : decide (0 ≤ zu2 ∧ (zv2 < 0 ∨ zu2 + t < zv2)) = true := decide_eq_true (by omega)
                          go_quiet (fail)
                          go_wp2_with fail
                          go_meet
                          case rel => exact ⟨by rw [hD], _, rfl⟩
                        · have hD : decide (0 ≤ zu2 ∧ (zv2 < 0 ∨ zu2 + t < zv2)) = false := decide_eq_false (by omega)
                          go_quiet (fail)
                          go_wp2_with fail
                          go_meet
                          case rel => exact ⟨by rw [hD], _, rfl⟩
                    · have hD : decide (0 ≤ zu2 ∧ (zv2 < 0 ∨ zu2 + t < zv2)) = false := decide_eq_false (by omega)
                      go_quiet (fail)
                      go_wp2_with fail
                      go_meet
                      case rel => exact ⟨by rw [hD], _, rfl⟩
                  case rest =>
                    obtain ⟨rfl, m2, rfl⟩ := hcut
                    have HRD2 : Hid (RlSt w (wc.drewN m2) g cp k O2 bd2 fl2) := HR2.out.drewN m2
                    have BXD2 : Hid (BoxRd (wc.drewN m2) rb ⟨(a : Int), (c : Int), t⟩) := BX2.out
                    clear HR2 BX2 q0 f0 q1 f1 d0 d1 d2
                    generalize wc.drewN m2 = WD2 at *
                    obtain ⟨q0, f0⟩ := HRD2.out.read c (by omega)
                    obtain ⟨q1, f1⟩ := HRD2.out.read a (by omega)
                    obtain ⟨d0, d1, d2⟩ := BXD2.out.cells
                    dsimp only at d0 d1 d2
                    rw [HZU.out] at q0
                    rw [HZV.out] at q1
                    by_cases hC : 0 ≤ zu2 ∧ (zv2 < 0 ∨ zu2 + t < zv2)
                    · have hD : decide (0 ≤ zu2 ∧ (zv2 < 0 ∨ zu2 + t < zv2)) = true := decide_eq_true hC
                      have T1 := RlSt.turn (u := (c : Int)) (v := a) (c := t) HRD2.out (by omega) htc hg (by rw [HZU.out, HZV.out]; exact hC)
                      rw [HZU.out] at T1
                      have HT1 : Hid _ := T1
                      clear T1
                      have HN : Hid (RlSt w ((WD2.setCell ⟨g, a, none⟩ (.int .i64 (zu2 + t))).drew) g cp k ((ts.take (i + 1)).foldl (fun o r => relax r o) RO) ((2400 * r + 200 * (i + 1) : Nat) : Int) (fl2.set a (zu2 + t))) := by
                        have e : (ts.take (i + 1)).foldl (fun o r => relax r o) RO = relax1 (c : Int) (a : Int) t O2 := by
                          rw [List.take_succ_eq_append_getElem hil, List.foldl_append, ← HO.out, ← HQ.out, HO2.out]
                          rfl
                        rw [e]
                        exact (RlSt.drewN HT1.out 1).up (by have := HBD.out; have := HBD2.out; omega)
                      rw [hD]
                      clear hD hC HT1
                      go_wp2_with fail
                      go_region
                      go_wp2_with fail
                      go_roundw
                      case rel => exact ⟨i + 1, _, by omega, by go_num, HN⟩
                      case measure => simp [intOf]; omega
                    · have hD : decide (0 ≤ zu2 ∧ (zv2 < 0 ∨ zu2 + t < zv2)) = false := decide_eq_false hC
                      have HT1 : Hid (RlSt w WD2 g cp k (relax1 (c : Int) (a : Int) t O2) (bd2 + 100) fl2) := HRD2.out.same (by rw [HZU.out, HZV.out]; exact hC)
                      have HN : Hid (RlSt w (WD2) g cp k ((ts.take (i + 1)).foldl (fun o r => relax r o) RO) ((2400 * r + 200 * (i + 1) : Nat) : Int) (fl2)) := by
                        have e : (ts.take (i + 1)).foldl (fun o r => relax r o) RO = relax1 (c : Int) (a : Int) t O2 := by
                          rw [List.take_succ_eq_append_getElem hil, List.foldl_append, ← HO.out, ← HQ.out, HO2.out]
                          rfl
                        rw [e]
                        exact (HT1.out).up (by have := HBD.out; have := HBD2.out; omega)
                      rw [hD]
                      clear hD hC HT1
                      go_wp2_with fail
                      go_roundw
                      case rel => exact ⟨i + 1, _, by omega, by go_num, HN⟩
                      case measure => simp [intOf]; omega
            · obtain rfl : i = ts.length := by omega
              have HN : Hid (RlSt w wr g cp k (rounds ts (r + 1) (fun x => if x = (S : Int) then 0 else -1)) ((2400 * (r + 1) : Nat) : Int) fl) := by
                have := HI.out
                rw [List.take_length, HRO.out] at this
                exact this.up (by omega)
              go_wp2_with fail
              go_roundw
              case rel => exact ⟨r + 1, fl, by omega, by go_num, HN⟩
              case measure => simp [intOf]; omega
        · obtain rfl : r = k := by omega
          have HFL : Hid (fl = dists ((r : Nat) : Int) ts ((S : Nat) : Int)) := by
            rw [HD.out]
            exact rl_done HR.out
          have HOW : Hid (OwnI wr w.heap.size (.slice (some ⟨g, 0, none⟩) r cp) (dists ((r : Nat) : Int) ts ((S : Nat) : Int))) := by
            rw [← HFL.out]
            exact HR.out.own
          go_wp2_with fail
          go_ret
          exact ⟨⟨_, rfl, HOW.out⟩, HR.out.below⟩
end Go.Proofs.Ytlfgglmgajcpoaa
