/- Joined texts: CSvc CLtb CSvd CIvc CLtc. -/
import Derived.Test.YtmbjflhhffcjdaaDoorTbq22
import Derived.Test.YtmbjflhhffcjdaaDoorTbq26
import Derived.Test.YtmbjflhhffcjdaaDoorTbq19
import Derived.Test.YtmbjflhhffcjdaaDoorTbq18
import Derived.Test.YtmbjflhhffcjdaaDoorTbq21
/- The specification's TableOk. Written by gen_svc.py. -/
namespace Go.Proofs.YtmbjflhhffcjdaaDoor
open Go.RowKit Pl
set_option linter.unusedVariables false
set_option linter.unusedSimpArgs false

set_option maxRecDepth 100000 in
set_option maxHeartbeats 32000000 in
theorem spTableOk_any (s : Sv) (es : List Gn) (w : World) (hx : Hid (GnsR w s es)) (hl : es.length ≤ 1048576) (hs : Hid (∀ e ∈ es, e.M)) :
    Calls Tryd.prog 25 #[.agg #[.slice s.a s.n s.c]] w fun e w' => e = .returned (.bool (tbB (es.map Gn.pl))) ∧ Below w.heap.size w w' := by
  obtain ⟨a, n, c⟩ := s
  dsimp only
  have HN : Hid (n = es.length) := hx.out.1
  have hn : n ≤ 1048576 := by have := HN.out; omega
  have LA : Hid (Bx (w.alloc (.cells #[.slice a n c] 49)) w.heap.size 49 [.slice a n c]) := by
    have h := Bx.new w 49 [.slice a n c]
    exact h
  have BW : Hid (Below w.heap.size w (w.alloc (.cells #[.slice a n c] 49))) := ((Below.refl _ _).alloc (by simp) _)
  have HX : Hid (GnsR (w.alloc (.cells #[.slice a n c] 49)) ⟨a, n, c⟩ es) := hx.out.stays BW.out
  obtain ⟨T, hT⟩ : ∃ T, es.map Gn.pl = T := ⟨_, rfl⟩
  have HT : Hid (es.map Gn.pl = T) := hT
  have HTn : Hid (T.length = n) := (by rw [← hT, List.length_map]; exact HN.out.symm : T.length = n)
  rw [hT]
  clear hx hl hT
  have c0 := LA.out.cell 0
  simp only [List.getElem?_cons_zero] at c0
  go_enter Tryd.func25, Tryd.ntmps25
  by_cases h6 : 6 < n
  · have HV : Hid (tbB T = false) := (by unfold tbB; rw [decide_eq_false (by have := HTn.out; omega)]; rfl : tbB T = false)
    have hd : decide ((n : Int) > 6) = true := by simp; omega
    go_wp2_with fail
    go_ret
    exact ⟨by rw [HV.out]; rfl, BW.out⟩
  have hd : decide ((n : Int) > 6) = false := by simp; omega
  go_wp2_with fail
  generalize (w.alloc (.cells #[.slice a n c] 49)) = W at *
  clear c0 hd
  go_loopw [3] (fun kk wr => ∃ k : Nat, k ≤ n ∧ kk = .int .i64 k ∧ Hid (∀ j (hj : j < T.length), j < k → grB T[j] = true) ∧ Hid (∀ j (hj : j + 1 < T.length), j + 1 < k → Tlt T[j].1 T[j + 1].1) ∧ Hid (Below W.heap.size W wr)) (fun kk _ => n - (intOf kk).toNat)
  case atStart => exact ⟨0, Nat.zero_le _, rfl, fun j hj h => absurd h (by omega), fun j hj h => absurd h (by omega), Below.refl _ _⟩
  case round =>
    obtain ⟨k, hk, rfl, HA, HB, hb⟩ := hrel
    by_cases hlt : k < n
    · have hlt2 : k < es.length := by have := HN.out; omega
      have hltT : k < T.length := by have := HTn.out; omega
      have LA : Hid (Bx wr w.heap.size 49 [.slice a n c]) := LA.out.later hb.out
      have HXr : Hid (GnsR wr ⟨a, n, c⟩ es) := HX.out.stays hb.out
      obtain ⟨g, off, ha, hg, _, hr⟩ := HXr.out.2.1 k (by simpa using hlt2)
      obtain ⟨e, he⟩ : ∃ e, e = es[k] := ⟨_, rfl⟩
      have hr2 : wr.rangeAt g (off + k * 2) e.row := by rw [he]; simpa using hr
      have RR : Hid (e.R wr) := by rw [he]; exact HXr.out.2.2 _ (List.getElem_mem hlt2)
      have SS : Hid e.M := by rw [he]; exact hs.out _ (List.getElem_mem hlt2)
      have TE : Hid (T[k] = e.pl) := (by simp only [← HT.out, List.getElem_map, he] : T[k] = e.pl)
      have PV : Hid (∀ j, j + 1 = k → ∃ y, (∃ hj : j < T.length, T[j].1 = y) ∧ wr.cell? ⟨g, off + j * 2, none⟩ = some (.string y)) := fun j hj => by
        have hj2 : j < es.length := by omega
        obtain ⟨g', off', ha', _, _, hr'⟩ := HXr.out.2.1 j (by simpa using hj2)
        have e1 : some (⟨g, off, none⟩ : Addr) = some ⟨g', off', none⟩ := ha.symm.trans ha'
        simp only [Option.some.injEq, Addr.mk.injEq] at e1
        obtain ⟨rfl, rfl, _⟩ := e1
        refine ⟨es[j].nm, ⟨by have := HTn.out; omega, by simp only [← HT.out, List.getElem_map]; rfl⟩, ?_⟩
        have h0 := hr' 0 (.string es[j].nm) (by simp [hj2, Gn.row])
        simpa using h0
      obtain ⟨nm, ms, sv⟩ := e
      obtain ⟨sa, sn, sc⟩ := sv
      obtain ⟨ao, cap, hv, hx0⟩ := RR.out
      simp only [Sv.v, Value.slice.injEq] at hv
      obtain ⟨rfl, rfl, rfl⟩ := hv
      have MX : Hid (TextsAt wr sa ms) := hx0
      have hms : ms.length ≤ 1048576 := SS.out
      have HR : Hid (wr.rangeAt g (off + k * 2) [.string nm, .slice sa ms.length sc]) := hr2
      have ha : a = some ⟨g, off, none⟩ := ha
      subst ha
      have i0 : (0 : Int) ≤ (k : Int) := by omega
      have i1 : (k : Int) < (n : Int) := by omega
      have hgl : g < wr.heap.size := by have := hg; omega
      have c0 := LA.out.cell 0
      simp only [List.getElem?_cons_zero] at c0
      clear hr hr2 he hg hx0 RR SS HXr
      have VB : Hid (Bx (wr.alloc (.cells #[.string nm, .slice sa ms.length sc] 86)) wr.heap.size 86 [.string nm, .slice sa ms.length sc]) := Bx.new wr 86 _
      have b : Below wr.heap.size wr (wr.alloc (.cells #[.string nm, .slice sa ms.length sc] 86)) := (Below.refl _ _).alloc (Nat.le_refl _) _
      have hb1 : Hid (Below W.heap.size W (wr.alloc (.cells #[.string nm, .slice sa ms.length sc] 86))) := bl_next hb.out b
      have LA1 : Hid (Bx (wr.alloc (.cells #[.string nm, .slice sa ms.length sc] 86)) w.heap.size 49 [.slice (some ⟨g, off, none⟩) n c]) := LA.out.later b
      have MX1 : Hid (TextsAt (wr.alloc (.cells #[.string nm, .slice sa ms.length sc] 86)) sa ms) := MX.out.stays b
      have PV1 : Hid (∀ j, j + 1 = k → ∃ y, (∃ hj : j < T.length, T[j].1 = y) ∧ (wr.alloc (.cells #[.string nm, .slice sa ms.length sc] 86)).cell? ⟨g, off + j * 2, none⟩ = some (.string y)) := fun j hj => by
        obtain ⟨y, h1, h2⟩ := PV.out j hj
        exact ⟨y, h1, (b.cell (p := ⟨g, off + j * 2, none⟩) hgl).trans h2⟩
      have hgl1 : g < (wr.alloc (.cells #[.string nm, .slice sa ms.length sc] 86)).heap.size := Nat.lt_of_lt_of_le hgl b.size
      go_wp2_with (first | (refine wpList_ldN rfl 86 _ rfl g (off + k * 2) (by rfl) [.string nm, .slice sa ms.length sc] HR.out _ Tryd.underlying86 rfl Tryd.sizeGn ?_))
      clear hb LA MX PV hgl b HR c0
      have hb := hb1
      have LA := LA1
      have MX := MX1
      have PV := PV1
      have hgl := hgl1
      clear hb1 LA1 MX1 PV1 hgl1
      generalize (wr.alloc (.cells #[.string nm, .slice sa ms.length sc] 86)) = v1 at *
      generalize hg_VB : wr.heap.size = gVB at *
      clear hg_VB
      cases hn : nmB nm with
      | false =>
        have HN : Hid (nmB nm = false) := hn
        have HV : Hid (tbB T = false) := tbB_gr hltT (by rw [TE.out]; unfold grB Gn.pl; simp only; rw [hn]; rfl)
        clear hn
        go_wp2_with fail
        refine quietC (C := fun w' => Below v1.heap.size v1 w') (by kernel_rfl) (by kernel_rfl) (Below.refl _ _).drew ?_
        go_big_quiet_want
        refine q_val (.pointer (some ⟨gVB, 0, none⟩)) (fun w' hw' => by go_simp) ?_
        go_big_quiet_on
        simp only [Act.put, List.setIfInBounds_toArray, List.set_cons_zero, List.set_cons_succ]
        go_big_quiet_want
        refine q_val (.string nm) (fun w' hw' => by have r0 : w'.cell? ⟨gVB, 0, none⟩ = some (.string nm) := (VB.out.later hw').cell 0; go_simp) ?_
        go_big_quiet_on
        simp only [Act.put, List.setIfInBounds_toArray, List.set_cons_zero, List.set_cons_succ]
        go_big_quiet_want
        refine q_callB (W := v1) (.bool false) 66 #[(.string nm)] (fun w' hw' => by go_simp) (fun w' hw' => (specName_any nm w').mono fun e w'' ⟨h1, h2⟩ => ⟨by rw [h1, HN.out], h2⟩) ?_
        go_big_quiet_on
        simp only [Act.put, List.setIfInBounds_toArray, List.set_cons_zero, List.set_cons_succ]
        go_big_quiet_want
        refine q_val (.bool true) (fun w' hw' => by go_simp) ?_
        go_big_quiet_on
        simp only [Act.put, List.setIfInBounds_toArray, List.set_cons_zero, List.set_cons_succ]
        go_big_quiet_want
        refine q_val (.bool true) (fun w' hw' => by go_simp) ?_
        go_big_quiet_on
        simp only [Act.put, List.setIfInBounds_toArray, List.set_cons_zero, List.set_cons_succ]
        go_big_quiet_skip
        go_big_quiet_skip
        go_big_quiet_skip
        go_big_quiet_skip
        go_big_quiet_skip
        go_big_quiet_skip
        go_big_quiet_skip
        go_big_quiet_skip
        go_big_quiet_skip
        go_big_quiet_skip
        go_big_quiet_skip
        go_big_quiet_skip
        go_big_quiet_skip
        go_big_quiet_skip
        go_big_quiet_want
        refine q_val (.bool true) (fun w' hw' => by go_simp) ?_
        go_big_quiet_on
        simp only [Act.put, List.setIfInBounds_toArray, List.set_cons_zero, List.set_cons_succ]
        go_big_quiet_want
        refine q_val (.bool true) (fun w' hw' => by go_simp) ?_
        go_big_quiet_on
        simp only [Act.put, List.setIfInBounds_toArray, List.set_cons_zero, List.set_cons_succ]
        go_big_quiet_skip
        go_big_quiet_skip
        go_big_quiet_skip
        go_big_quiet_skip
        go_big_quiet_skip
        go_big_quiet_want
        refine q_val (.bool true) (fun w' hw' => by go_simp) ?_
        go_big_quiet_on
        simp only [Act.put, List.setIfInBounds_toArray, List.set_cons_zero, List.set_cons_succ]
        refine wpQuiet_nil ?_
        intro w2 c2
        go_wp2_with fail
        go_ret
        exact ⟨by rw [HV.out]; rfl, bl_next BW.out (bl_next hb.out c2)⟩
      | true =>
        have HN : Hid (nmB nm = true) := hn
        clear hn
        -- the place among the others
        have key : ∀ (hBk : Hid (∀ j (hj : j + 1 < T.length), j + 1 < k + 1 → Tlt T[j].1 T[j + 1].1)), True := fun _ => trivial
        clear key
        cases hi : decide (1 ≤ (ms.length : Int) ∧ (ms.length : Int) ≤ 8) with
        | false =>
          have HI : Hid (decide (1 ≤ (ms.length : Int) ∧ (ms.length : Int) ≤ 8) = false) := hi
          have HV : Hid (tbB T = false) := tbB_gr hltT (by rw [TE.out]; unfold grB Gn.pl; simp only; rw [hi]; simp)
          clear hi
          by_cases hk0 : k = 0
          · have HK : Hid (k = 0) := hk0
            clear hk0
            go_wp2_with fail
            refine quietC (C := fun w' => Below v1.heap.size v1 w') (by kernel_rfl) (by kernel_rfl) (Below.refl _ _).drew ?_
            go_big_quiet_want
            refine q_val (.pointer (some ⟨gVB, 0, none⟩)) (fun w' hw' => by go_simp) ?_
            go_big_quiet_on
            simp only [Act.put, List.setIfInBounds_toArray, List.set_cons_zero, List.set_cons_succ]
            go_big_quiet_want
            refine q_val (.string nm) (fun w' hw' => by have r0 : w'.cell? ⟨gVB, 0, none⟩ = some (.string nm) := (VB.out.later hw').cell 0; go_simp) ?_
            go_big_quiet_on
            simp only [Act.put, List.setIfInBounds_toArray, List.set_cons_zero, List.set_cons_succ]
            go_big_quiet_want
            refine q_callB (W := v1) (.bool true) 66 #[(.string nm)] (fun w' hw' => by go_simp) (fun w' hw' => (specName_any nm w').mono fun e w'' ⟨h1, h2⟩ => ⟨by rw [h1, HN.out], h2⟩) ?_
            go_big_quiet_on
            simp only [Act.put, List.setIfInBounds_toArray, List.set_cons_zero, List.set_cons_succ]
            go_big_quiet_want
            refine q_val (.bool false) (fun w' hw' => by go_simp) ?_
            go_big_quiet_on
            simp only [Act.put, List.setIfInBounds_toArray, List.set_cons_zero, List.set_cons_succ]
            go_big_quiet_want
            refine q_val (.bool false) (fun w' hw' => by go_simp) ?_
            go_big_quiet_on
            simp only [Act.put, List.setIfInBounds_toArray, List.set_cons_zero, List.set_cons_succ]
            go_big_quiet_want
            refine q_val (.int .i64 ((k : Int))) (fun w' hw' => by go_simp) ?_
            go_big_quiet_on
            simp only [Act.put, List.setIfInBounds_toArray, List.set_cons_zero, List.set_cons_succ]
            go_big_quiet_want
            refine q_val (.bool false) (fun w' hw' => by have hk0 := HK.out; go_simp) ?_
            go_big_quiet_on
            simp only [Act.put, List.setIfInBounds_toArray, List.set_cons_zero, List.set_cons_succ]
            go_big_quiet_want
            refine q_val (.bool false) (fun w' hw' => by go_simp) ?_
            go_big_quiet_on
            simp only [Act.put, List.setIfInBounds_toArray, List.set_cons_zero, List.set_cons_succ]
            go_big_quiet_skip
            go_big_quiet_skip
            go_big_quiet_skip
            go_big_quiet_skip
            go_big_quiet_skip
            go_big_quiet_skip
            go_big_quiet_skip
            go_big_quiet_skip
            go_big_quiet_skip
            go_big_quiet_skip
            go_big_quiet_want
            refine q_val (.bool false) (fun w' hw' => by go_simp) ?_
            go_big_quiet_on
            simp only [Act.put, List.setIfInBounds_toArray, List.set_cons_zero, List.set_cons_succ]
            go_big_quiet_want
            refine q_val (.bool false) (fun w' hw' => by go_simp) ?_
            go_big_quiet_on
            simp only [Act.put, List.setIfInBounds_toArray, List.set_cons_zero, List.set_cons_succ]
            go_big_quiet_want
            refine q_val (.bool false) (fun w' hw' => by go_simp) ?_
            go_big_quiet_on
            simp only [Act.put, List.setIfInBounds_toArray, List.set_cons_zero, List.set_cons_succ]
            go_big_quiet_want
            refine q_val (.pointer (some ⟨gVB, 1, none⟩)) (fun w' hw' => by go_simp) ?_
            go_big_quiet_on
            simp only [Act.put, List.setIfInBounds_toArray, List.set_cons_zero, List.set_cons_succ]
            go_big_quiet_want
            refine q_val (.slice sa ms.length sc) (fun w' hw' => by have r1 : w'.cell? ⟨gVB, 1, none⟩ = some (.slice sa ms.length sc) := (VB.out.later hw').cell 1; go_simp) ?_
            go_big_quiet_on
            simp only [Act.put, List.setIfInBounds_toArray, List.set_cons_zero, List.set_cons_succ]
            go_big_quiet_want
            refine q_val (.int .i64 ((ms.length : Int))) (fun w' hw' => by go_simp) ?_
            go_big_quiet_on
            simp only [Act.put, List.setIfInBounds_toArray, List.set_cons_zero, List.set_cons_succ]
            go_big_quiet_want
            refine q_callB (W := v1) (.bool false) 46 #[(.int .i64 ((ms.length : Int))), (.int .i64 1), (.int .i64 8)] (fun w' hw' => by go_simp) (fun w' hw' => (in_any (ms.length : Int) 1 8 w').mono fun e w'' ⟨h1, h2⟩ => ⟨by rw [h1, HI.out], by rw [h2]; exact Below.refl _ _⟩) ?_
            go_big_quiet_on
            simp only [Act.put, List.setIfInBounds_toArray, List.set_cons_zero, List.set_cons_succ]
            go_big_quiet_want
            refine q_val (.bool true) (fun w' hw' => by go_simp) ?_
            go_big_quiet_on
            simp only [Act.put, List.setIfInBounds_toArray, List.set_cons_zero, List.set_cons_succ]
            go_big_quiet_want
            refine q_val (.bool true) (fun w' hw' => by go_simp) ?_
            go_big_quiet_on
            simp only [Act.put, List.setIfInBounds_toArray, List.set_cons_zero, List.set_cons_succ]
            refine wpQuiet_nil ?_
            intro w2 c2
            go_wp2_with fail
            go_ret
            exact ⟨by rw [HV.out]; rfl, bl_next BW.out (bl_next hb.out c2)⟩
          · obtain ⟨j, hkj⟩ : ∃ j, k = j + 1 := ⟨k - 1, by omega⟩
            have HJ : Hid (k = j + 1) := hkj
            obtain ⟨y, _, hy⟩ := PV.out j hkj.symm
            have HY : Hid (v1.cell? ⟨g, off + j * 2, none⟩ = some (.string y)) := hy
            have j0 : (0 : Int) ≤ (j : Int) := by omega
            have j1 : (j : Int) < (n : Int) := by omega
            have hw1 : IntKind.i64.wrap ((k : Int) - 1) = (j : Int) := by rw [IntKind.wrap_i64]; omega
            clear hy hkj hk0
            cases hq : tltB y nm with
            | false =>
              have hge : (!Op.bytesLess y.toList nm.toList) = true := by rw [less_no (by intro h; rw [tltB_iff.2 h] at hq; cases hq)]; rfl
              clear hq
              go_wp2_with fail
              refine quietC (C := fun w' => Below v1.heap.size v1 w') (by kernel_rfl) (by kernel_rfl) (Below.refl _ _).drew ?_
              go_big_quiet_want
              refine q_val (.pointer (some ⟨gVB, 0, none⟩)) (fun w' hw' => by go_simp) ?_
              go_big_quiet_on
              simp only [Act.put, List.setIfInBounds_toArray, List.set_cons_zero, List.set_cons_succ]
              go_big_quiet_want
              refine q_val (.string nm) (fun w' hw' => by have r0 : w'.cell? ⟨gVB, 0, none⟩ = some (.string nm) := (VB.out.later hw').cell 0; go_simp) ?_
              go_big_quiet_on
              simp only [Act.put, List.setIfInBounds_toArray, List.set_cons_zero, List.set_cons_succ]
              go_big_quiet_want
              refine q_callB (W := v1) (.bool true) 66 #[(.string nm)] (fun w' hw' => by go_simp) (fun w' hw' => (specName_any nm w').mono fun e w'' ⟨h1, h2⟩ => ⟨by rw [h1, HN.out], h2⟩) ?_
              go_big_quiet_on
              simp only [Act.put, List.setIfInBounds_toArray, List.set_cons_zero, List.set_cons_succ]
              go_big_quiet_want
              refine q_val (.bool false) (fun w' hw' => by go_simp) ?_
              go_big_quiet_on
              simp only [Act.put, List.setIfInBounds_toArray, List.set_cons_zero, List.set_cons_succ]
              go_big_quiet_want
              refine q_val (.bool false) (fun w' hw' => by go_simp) ?_
              go_big_quiet_on
              simp only [Act.put, List.setIfInBounds_toArray, List.set_cons_zero, List.set_cons_succ]
              go_big_quiet_want
              refine q_val (.int .i64 ((k : Int))) (fun w' hw' => by go_simp) ?_
              go_big_quiet_on
              simp only [Act.put, List.setIfInBounds_toArray, List.set_cons_zero, List.set_cons_succ]
              go_big_quiet_want
              refine q_val (.bool true) (fun w' hw' => by have hk0 : 0 < k := (by have := HJ.out; omega); go_simp) ?_
              go_big_quiet_on
              simp only [Act.put, List.setIfInBounds_toArray, List.set_cons_zero, List.set_cons_succ]
              go_big_quiet_want
              refine q_val (.bool true) (fun w' hw' => by go_simp) ?_
              go_big_quiet_on
              simp only [Act.put, List.setIfInBounds_toArray, List.set_cons_zero, List.set_cons_succ]
              go_big_quiet_want
              refine q_val (.pointer (some ⟨w.heap.size, 0, none⟩)) (fun w' hw' => by go_simp) ?_
              go_big_quiet_on
              simp only [Act.put, List.setIfInBounds_toArray, List.set_cons_zero, List.set_cons_succ]
              go_big_quiet_want
              refine q_val (.slice (some ⟨g, off, none⟩) n c) (fun w' hw' => by have r0 : w'.cell? ⟨w.heap.size, 0, none⟩ = some (.slice (some ⟨g, off, none⟩) n c) := (LA.out.later hw').cell 0; go_simp) ?_
              go_big_quiet_on
              simp only [Act.put, List.setIfInBounds_toArray, List.set_cons_zero, List.set_cons_succ]
              go_big_quiet_want
              refine q_val (.int .i64 ((k : Int))) (fun w' hw' => by go_simp) ?_
              go_big_quiet_on
              simp only [Act.put, List.setIfInBounds_toArray, List.set_cons_zero, List.set_cons_succ]
              go_big_quiet_want
              refine q_val (.int .i64 ((j : Int))) (fun w' hw' => by go_simp) ?_
              go_big_quiet_on
              simp only [Act.put, List.setIfInBounds_toArray, List.set_cons_zero, List.set_cons_succ]
              go_big_quiet_want
              refine q_val (.pointer (some ⟨g, off + j * 2, none⟩)) (fun w' hw' => by go_simp) ?_
              go_big_quiet_on
              simp only [Act.put, List.setIfInBounds_toArray, List.set_cons_zero, List.set_cons_succ]
              go_big_quiet_want
              refine q_val (.pointer (some ⟨g, off + j * 2, none⟩)) (fun w' hw' => by go_simp) ?_
              go_big_quiet_on
              simp only [Act.put, List.setIfInBounds_toArray, List.set_cons_zero, List.set_cons_succ]
              go_big_quiet_want
              refine q_val (.string y) (fun w' hw' => by have c0 : w'.cell? ⟨g, off + j * 2, none⟩ = some (.string y) := (hw'.cell (p := ⟨g, off + j * 2, none⟩) hgl).trans HY.out; go_simp) ?_
              go_big_quiet_on
              simp only [Act.put, List.setIfInBounds_toArray, List.set_cons_zero, List.set_cons_succ]
              go_big_quiet_want
              refine q_val (.pointer (some ⟨gVB, 0, none⟩)) (fun w' hw' => by go_simp) ?_
              go_big_quiet_on
              simp only [Act.put, List.setIfInBounds_toArray, List.set_cons_zero, List.set_cons_succ]
              go_big_quiet_want
              refine q_val (.string nm) (fun w' hw' => by have r0 : w'.cell? ⟨gVB, 0, none⟩ = some (.string nm) := (VB.out.later hw').cell 0; go_simp) ?_
              go_big_quiet_on
              simp only [Act.put, List.setIfInBounds_toArray, List.set_cons_zero, List.set_cons_succ]
              go_big_quiet_want
              refine q_val (.bool true) (fun w' hw' => by go_simp) ?_
              go_big_quiet_on
              simp only [Act.put, List.setIfInBounds_toArray, List.set_cons_zero, List.set_cons_succ]
              go_big_quiet_want
              refine q_val (.bool true) (fun w' hw' => by go_simp) ?_
              go_big_quiet_on
              simp only [Act.put, List.setIfInBounds_toArray, List.set_cons_zero, List.set_cons_succ]
              go_big_quiet_want
              refine q_val (.bool true) (fun w' hw' => by go_simp) ?_
              go_big_quiet_on
              simp only [Act.put, List.setIfInBounds_toArray, List.set_cons_zero, List.set_cons_succ]
              go_big_quiet_want
              refine q_val (.bool true) (fun w' hw' => by go_simp) ?_
              go_big_quiet_on
              simp only [Act.put, List.setIfInBounds_toArray, List.set_cons_zero, List.set_cons_succ]
              go_big_quiet_skip
              go_big_quiet_skip
              go_big_quiet_skip
              go_big_quiet_skip
              go_big_quiet_skip
              go_big_quiet_want
              refine q_val (.bool true) (fun w' hw' => by go_simp) ?_
              go_big_quiet_on
              simp only [Act.put, List.setIfInBounds_toArray, List.set_cons_zero, List.set_cons_succ]
              refine wpQuiet_nil ?_
              intro w2 c2
              go_wp2_with fail
              go_ret
              exact ⟨by rw [HV.out]; rfl, bl_next BW.out (bl_next hb.out c2)⟩
            | true =>
              have hge : (!Op.bytesLess y.toList nm.toList) = false := by rw [less_yes (tltB_iff.1 hq)]; rfl
              clear hq
              go_wp2_with fail
              refine quietC (C := fun w' => Below v1.heap.size v1 w') (by kernel_rfl) (by kernel_rfl) (Below.refl _ _).drew ?_
              go_big_quiet_want
              refine q_val (.pointer (some ⟨gVB, 0, none⟩)) (fun w' hw' => by go_simp) ?_
              go_big_quiet_on
              simp only [Act.put, List.setIfInBounds_toArray, List.set_cons_zero, List.set_cons_succ]
              go_big_quiet_want
              refine q_val (.string nm) (fun w' hw' => by have r0 : w'.cell? ⟨gVB, 0, none⟩ = some (.string nm) := (VB.out.later hw').cell 0; go_simp) ?_
              go_big_quiet_on
              simp only [Act.put, List.setIfInBounds_toArray, List.set_cons_zero, List.set_cons_succ]
              go_big_quiet_want
              refine q_callB (W := v1) (.bool true) 66 #[(.string nm)] (fun w' hw' => by go_simp) (fun w' hw' => (specName_any nm w').mono fun e w'' ⟨h1, h2⟩ => ⟨by rw [h1, HN.out], h2⟩) ?_
              go_big_quiet_on
              simp only [Act.put, List.setIfInBounds_toArray, List.set_cons_zero, List.set_cons_succ]
              go_big_quiet_want
              refine q_val (.bool false) (fun w' hw' => by go_simp) ?_
              go_big_quiet_on
              simp only [Act.put, List.setIfInBounds_toArray, List.set_cons_zero, List.set_cons_succ]
              go_big_quiet_want
              refine q_val (.bool false) (fun w' hw' => by go_simp) ?_
              go_big_quiet_on
              simp only [Act.put, List.setIfInBounds_toArray, List.set_cons_zero, List.set_cons_succ]
              go_big_quiet_want
              refine q_val (.int .i64 ((k : Int))) (fun w' hw' => by go_simp) ?_
              go_big_quiet_on
              simp only [Act.put, List.setIfInBounds_toArray, List.set_cons_zero, List.set_cons_succ]
              go_big_quiet_want
              refine q_val (.bool true) (fun w' hw' => by have hk0 : 0 < k := (by have := HJ.out; omega); go_simp) ?_
              go_big_quiet_on
              simp only [Act.put, List.setIfInBounds_toArray, List.set_cons_zero, List.set_cons_succ]
              go_big_quiet_want
              refine q_val (.bool true) (fun w' hw' => by go_simp) ?_
              go_big_quiet_on
              simp only [Act.put, List.setIfInBounds_toArray, List.set_cons_zero, List.set_cons_succ]
              go_big_quiet_want
              refine q_val (.pointer (some ⟨w.heap.size, 0, none⟩)) (fun w' hw' => by go_simp) ?_
              go_big_quiet_on
              simp only [Act.put, List.setIfInBounds_toArray, List.set_cons_zero, List.set_cons_succ]
              go_big_quiet_want
              refine q_val (.slice (some ⟨g, off, none⟩) n c) (fun w' hw' => by have r0 : w'.cell? ⟨w.heap.size, 0, none⟩ = some (.slice (some ⟨g, off, none⟩) n c) := (LA.out.later hw').cell 0; go_simp) ?_
              go_big_quiet_on
              simp only [Act.put, List.setIfInBounds_toArray, List.set_cons_zero, List.set_cons_succ]
              go_big_quiet_want
              refine q_val (.int .i64 ((k : Int))) (fun w' hw' => by go_simp) ?_
              go_big_quiet_on
              simp only [Act.put, List.setIfInBounds_toArray, List.set_cons_zero, List.set_cons_succ]
              go_big_quiet_want
              refine q_val (.int .i64 ((j : Int))) (fun w' hw' => by go_simp) ?_
              go_big_quiet_on
              simp only [Act.put, List.setIfInBounds_toArray, List.set_cons_zero, List.set_cons_succ]
              go_big_quiet_want
              refine q_val (.pointer (some ⟨g, off + j * 2, none⟩)) (fun w' hw' => by go_simp) ?_
              go_big_quiet_on
              simp only [Act.put, List.setIfInBounds_toArray, List.set_cons_zero, List.set_cons_succ]
              go_big_quiet_want
              refine q_val (.pointer (some ⟨g, off + j * 2, none⟩)) (fun w' hw' => by go_simp) ?_
              go_big_quiet_on
              simp only [Act.put, List.setIfInBounds_toArray, List.set_cons_zero, List.set_cons_succ]
              go_big_quiet_want
              refine q_val (.string y) (fun w' hw' => by have c0 : w'.cell? ⟨g, off + j * 2, none⟩ = some (.string y) := (hw'.cell (p := ⟨g, off + j * 2, none⟩) hgl).trans HY.out; go_simp) ?_
              go_big_quiet_on
              simp only [Act.put, List.setIfInBounds_toArray, List.set_cons_zero, List.set_cons_succ]
              go_big_quiet_want
              refine q_val (.pointer (some ⟨gVB, 0, none⟩)) (fun w' hw' => by go_simp) ?_
              go_big_quiet_on
              simp only [Act.put, List.setIfInBounds_toArray, List.set_cons_zero, List.set_cons_succ]
              go_big_quiet_want
              refine q_val (.string nm) (fun w' hw' => by have r0 : w'.cell? ⟨gVB, 0, none⟩ = some (.string nm) := (VB.out.later hw').cell 0; go_simp) ?_
              go_big_quiet_on
              simp only [Act.put, List.setIfInBounds_toArray, List.set_cons_zero, List.set_cons_succ]
              go_big_quiet_want
              refine q_val (.bool false) (fun w' hw' => by go_simp) ?_
              go_big_quiet_on
              simp only [Act.put, List.setIfInBounds_toArray, List.set_cons_zero, List.set_cons_succ]
              go_big_quiet_want
              refine q_val (.bool false) (fun w' hw' => by go_simp) ?_
              go_big_quiet_on
              simp only [Act.put, List.setIfInBounds_toArray, List.set_cons_zero, List.set_cons_succ]
              go_big_quiet_want
              refine q_val (.bool false) (fun w' hw' => by go_simp) ?_
              go_big_quiet_on
              simp only [Act.put, List.setIfInBounds_toArray, List.set_cons_zero, List.set_cons_succ]
              go_big_quiet_want
              refine q_val (.bool false) (fun w' hw' => by go_simp) ?_
              go_big_quiet_on
              simp only [Act.put, List.setIfInBounds_toArray, List.set_cons_zero, List.set_cons_succ]
              go_big_quiet_want
              refine q_val (.pointer (some ⟨gVB, 1, none⟩)) (fun w' hw' => by go_simp) ?_
              go_big_quiet_on
              simp only [Act.put, List.setIfInBounds_toArray, List.set_cons_zero, List.set_cons_succ]
              go_big_quiet_want
              refine q_val (.slice sa ms.length sc) (fun w' hw' => by have r1 : w'.cell? ⟨gVB, 1, none⟩ = some (.slice sa ms.length sc) := (VB.out.later hw').cell 1; go_simp) ?_
              go_big_quiet_on
              simp only [Act.put, List.setIfInBounds_toArray, List.set_cons_zero, List.set_cons_succ]
              go_big_quiet_want
              refine q_val (.int .i64 ((ms.length : Int))) (fun w' hw' => by go_simp) ?_
              go_big_quiet_on
              simp only [Act.put, List.setIfInBounds_toArray, List.set_cons_zero, List.set_cons_succ]
              go_big_quiet_want
              refine q_callB (W := v1) (.bool false) 46 #[(.int .i64 ((ms.length : Int))), (.int .i64 1), (.int .i64 8)] (fun w' hw' => by go_simp) (fun w' hw' => (in_any (ms.length : Int) 1 8 w').mono fun e w'' ⟨h1, h2⟩ => ⟨by rw [h1, HI.out], by rw [h2]; exact Below.refl _ _⟩) ?_
              go_big_quiet_on
              simp only [Act.put, List.setIfInBounds_toArray, List.set_cons_zero, List.set_cons_succ]
              go_big_quiet_want
              refine q_val (.bool true) (fun w' hw' => by go_simp) ?_
              go_big_quiet_on
              simp only [Act.put, List.setIfInBounds_toArray, List.set_cons_zero, List.set_cons_succ]
              go_big_quiet_want
              refine q_val (.bool true) (fun w' hw' => by go_simp) ?_
              go_big_quiet_on
              simp only [Act.put, List.setIfInBounds_toArray, List.set_cons_zero, List.set_cons_succ]
              refine wpQuiet_nil ?_
              intro w2 c2
              go_wp2_with fail
              go_ret
              exact ⟨by rw [HV.out]; rfl, bl_next BW.out (bl_next hb.out c2)⟩
        | true =>
          have HI : Hid (decide (1 ≤ (ms.length : Int) ∧ (ms.length : Int) ≤ 8) = true) := hi
          clear hi
          have HG : Hid (mbB ms = true → ∀ j (hj : j < T.length), j < k + 1 → grB T[j] = true) := fun hm j hj h => by
            by_cases e : j = k
            · subst e; rw [TE.out]; unfold grB Gn.pl; simp only; rw [HN.out, HI.out, hm]; rfl
            · exact HA.out j hj (by omega)
          have HGN : Hid (mbB ms = false → tbB T = false) := fun hm => tbB_gr hltT (by rw [TE.out]; unfold grB Gn.pl; simp only; rw [hm]; simp)
          by_cases hk0 : k = 0
          · have HK : Hid (k = 0) := hk0
            have HB1 : Hid (∀ j (hj : j + 1 < T.length), j + 1 < k + 1 → Tlt T[j].1 T[j + 1].1) := fun j hj h => absurd h (by omega)
            clear hk0
            go_wp2_with fail
            refine quietC (C := fun w' => Below v1.heap.size v1 w') (by kernel_rfl) (by kernel_rfl) (Below.refl _ _).drew ?_
            go_big_quiet_want
            refine q_val (.pointer (some ⟨gVB, 0, none⟩)) (fun w' hw' => by go_simp) ?_
            go_big_quiet_on
            simp only [Act.put, List.setIfInBounds_toArray, List.set_cons_zero, List.set_cons_succ]
            go_big_quiet_want
            refine q_val (.string nm) (fun w' hw' => by have r0 : w'.cell? ⟨gVB, 0, none⟩ = some (.string nm) := (VB.out.later hw').cell 0; go_simp) ?_
            go_big_quiet_on
            simp only [Act.put, List.setIfInBounds_toArray, List.set_cons_zero, List.set_cons_succ]
            go_big_quiet_want
            refine q_callB (W := v1) (.bool true) 66 #[(.string nm)] (fun w' hw' => by go_simp) (fun w' hw' => (specName_any nm w').mono fun e w'' ⟨h1, h2⟩ => ⟨by rw [h1, HN.out], h2⟩) ?_
            go_big_quiet_on
            simp only [Act.put, List.setIfInBounds_toArray, List.set_cons_zero, List.set_cons_succ]
            go_big_quiet_want
            refine q_val (.bool false) (fun w' hw' => by go_simp) ?_
            go_big_quiet_on
            simp only [Act.put, List.setIfInBounds_toArray, List.set_cons_zero, List.set_cons_succ]
            go_big_quiet_want
            refine q_val (.bool false) (fun w' hw' => by go_simp) ?_
            go_big_quiet_on
            simp only [Act.put, List.setIfInBounds_toArray, List.set_cons_zero, List.set_cons_succ]
            go_big_quiet_want
            refine q_val (.int .i64 ((k : Int))) (fun w' hw' => by go_simp) ?_
            go_big_quiet_on
            simp only [Act.put, List.setIfInBounds_toArray, List.set_cons_zero, List.set_cons_succ]
            go_big_quiet_want
            refine q_val (.bool false) (fun w' hw' => by have hk0 := HK.out; go_simp) ?_
            go_big_quiet_on
            simp only [Act.put, List.setIfInBounds_toArray, List.set_cons_zero, List.set_cons_succ]
            go_big_quiet_want
            refine q_val (.bool false) (fun w' hw' => by go_simp) ?_
            go_big_quiet_on
            simp only [Act.put, List.setIfInBounds_toArray, List.set_cons_zero, List.set_cons_succ]
            go_big_quiet_skip
            go_big_quiet_skip
            go_big_quiet_skip
            go_big_quiet_skip
            go_big_quiet_skip
            go_big_quiet_skip
            go_big_quiet_skip
            go_big_quiet_skip
            go_big_quiet_skip
            go_big_quiet_skip
            go_big_quiet_want
            refine q_val (.bool false) (fun w' hw' => by go_simp) ?_
            go_big_quiet_on
            simp only [Act.put, List.setIfInBounds_toArray, List.set_cons_zero, List.set_cons_succ]
            go_big_quiet_want
            refine q_val (.bool false) (fun w' hw' => by go_simp) ?_
            go_big_quiet_on
            simp only [Act.put, List.setIfInBounds_toArray, List.set_cons_zero, List.set_cons_succ]
            go_big_quiet_want
            refine q_val (.bool false) (fun w' hw' => by go_simp) ?_
            go_big_quiet_on
            simp only [Act.put, List.setIfInBounds_toArray, List.set_cons_zero, List.set_cons_succ]
            go_big_quiet_want
            refine q_val (.pointer (some ⟨gVB, 1, none⟩)) (fun w' hw' => by go_simp) ?_
            go_big_quiet_on
            simp only [Act.put, List.setIfInBounds_toArray, List.set_cons_zero, List.set_cons_succ]
            go_big_quiet_want
            refine q_val (.slice sa ms.length sc) (fun w' hw' => by have r1 : w'.cell? ⟨gVB, 1, none⟩ = some (.slice sa ms.length sc) := (VB.out.later hw').cell 1; go_simp) ?_
            go_big_quiet_on
            simp only [Act.put, List.setIfInBounds_toArray, List.set_cons_zero, List.set_cons_succ]
            go_big_quiet_want
            refine q_val (.int .i64 ((ms.length : Int))) (fun w' hw' => by go_simp) ?_
            go_big_quiet_on
            simp only [Act.put, List.setIfInBounds_toArray, List.set_cons_zero, List.set_cons_succ]
            go_big_quiet_want
            refine q_callB (W := v1) (.bool true) 46 #[(.int .i64 ((ms.length : Int))), (.int .i64 1), (.int .i64 8)] (fun w' hw' => by go_simp) (fun w' hw' => (in_any (ms.length : Int) 1 8 w').mono fun e w'' ⟨h1, h2⟩ => ⟨by rw [h1, HI.out], by rw [h2]; exact Below.refl _ _⟩) ?_
            go_big_quiet_on
            simp only [Act.put, List.setIfInBounds_toArray, List.set_cons_zero, List.set_cons_succ]
            go_big_quiet_want
            refine q_val (.bool false) (fun w' hw' => by go_simp) ?_
            go_big_quiet_on
            simp only [Act.put, List.setIfInBounds_toArray, List.set_cons_zero, List.set_cons_succ]
            go_big_quiet_want
            refine q_val (.bool false) (fun w' hw' => by go_simp) ?_
            go_big_quiet_on
            simp only [Act.put, List.setIfInBounds_toArray, List.set_cons_zero, List.set_cons_succ]
            refine wpQuiet_nil ?_
            intro w2 c2
            have B2 : Hid (Below W.heap.size W w2) := bl_next hb.out c2
            have VI : Hid (Bx w2 gVB 86 [.string nm, .slice sa ms.length sc]) := VB.out.later c2
            have MX2 : Hid (TextsAt w2 sa ms) := MX.out.stays c2
            clear c2 VB MX PV
            have d1 := VI.out.cell 1
            simp only [List.getElem?_cons_succ, List.getElem?_cons_zero] at d1
            go_wp2_with fail
            generalize hwa : w2 = wa at *
            clear hwa d1
            go_loopw [5] (fun ii wr => ∃ i : Nat, i ≤ ms.length ∧ ii = .int .i64 i ∧ Hid (∀ p (hp : p < ms.length), p < i → prB ms[p] = true) ∧ Hid (∀ p (hp : p + 1 < ms.length), p + 1 < i → Tlt ms[p] ms[p + 1]) ∧ Hid (Below wa.heap.size wa wr)) (fun ii _ => ms.length - (intOf ii).toNat)
            case atStart => exact ⟨0, Nat.zero_le _, rfl, fun p hp h => absurd h (by omega), fun p hp h => absurd h (by omega), Below.refl _ _⟩
            case round =>
              obtain ⟨i, hi, rfl, HA2, HT2, hb2⟩ := hrel
              have VI : Hid (Bx wr gVB 86 [.string nm, .slice sa ms.length sc]) := VI.out.later hb2.out
              by_cases hlt3 : i < ms.length
              · obtain ⟨b, of, rfl, hbb, hc⟩ := (MX2.out.stays hb2.out) i hlt3
                obtain ⟨x, hxe⟩ : ∃ x, x = ms[i] := ⟨_, rfl⟩
                have XE : Hid (x = ms[i]) := hxe
                have HC : Hid (wr.cell? ⟨b, of + i, none⟩ = some (.string x)) := by rw [hxe]; exact hc
                have hbl : b < wr.heap.size := hbb
                have ii0 : (0 : Int) ≤ (i : Int) := by omega
                have ii1 : (i : Int) < (ms.length : Int) := by omega
                have d1 := VI.out.cell 1
                simp only [List.getElem?_cons_succ, List.getElem?_cons_zero] at d1
                clear hc hxe
                cases hp : prB x with
                | false =>
                  have HP : Hid (prB x = false) := hp
                  have HV : Hid (tbB T = false) := HGN.out (mbB_pr hlt3 (by rw [← XE.out]; exact hp))
                  clear hp
                  go_wp2_with fail
                  refine quietC (C := fun w' => Below wr.heap.size wr w') (by kernel_rfl) (by kernel_rfl) (Below.refl _ _).drew ?_
                  go_big_quiet_want
                  refine q_val (.pointer (some ⟨gVB, 1, none⟩)) (fun w' hw' => by go_simp) ?_
                  go_big_quiet_on
                  simp only [Act.put, List.setIfInBounds_toArray, List.set_cons_zero, List.set_cons_succ]
                  go_big_quiet_want
                  refine q_val (.slice (some ⟨b, of, none⟩) ms.length sc) (fun w' hw' => by have r1 : w'.cell? ⟨gVB, 1, none⟩ = some (.slice (some ⟨b, of, none⟩) ms.length sc) := (VI.out.later hw').cell 1; go_simp) ?_
                  go_big_quiet_on
                  simp only [Act.put, List.setIfInBounds_toArray, List.set_cons_zero, List.set_cons_succ]
                  go_big_quiet_want
                  refine q_val (.int .i64 ((i : Int))) (fun w' hw' => by go_simp) ?_
                  go_big_quiet_on
                  simp only [Act.put, List.setIfInBounds_toArray, List.set_cons_zero, List.set_cons_succ]
                  go_big_quiet_want
                  refine q_val (.pointer (some ⟨b, of + i, none⟩)) (fun w' hw' => by go_simp) ?_
                  go_big_quiet_on
                  simp only [Act.put, List.setIfInBounds_toArray, List.set_cons_zero, List.set_cons_succ]
                  go_big_quiet_want
                  refine q_val (.string x) (fun w' hw' => by have c0 : w'.cell? ⟨b, of + i, none⟩ = some (.string x) := (hw'.cell (p := ⟨b, of + i, none⟩) hbl).trans HC.out; go_simp) ?_
                  go_big_quiet_on
                  simp only [Act.put, List.setIfInBounds_toArray, List.set_cons_zero, List.set_cons_succ]
                  go_big_quiet_want
                  refine q_callB (W := wr) (.bool false) 47 #[(.string x)] (fun w' hw' => by go_simp) (fun w' hw' => (spPriv_any x w').mono fun e w'' ⟨h1, h2⟩ => ⟨by rw [h1, HP.out], h2⟩) ?_
                  go_big_quiet_on
                  simp only [Act.put, List.setIfInBounds_toArray, List.set_cons_zero, List.set_cons_succ]
                  go_big_quiet_want
                  refine q_val (.bool true) (fun w' hw' => by go_simp) ?_
                  go_big_quiet_on
                  simp only [Act.put, List.setIfInBounds_toArray, List.set_cons_zero, List.set_cons_succ]
                  go_big_quiet_want
                  refine q_val (.bool true) (fun w' hw' => by go_simp) ?_
                  go_big_quiet_on
                  simp only [Act.put, List.setIfInBounds_toArray, List.set_cons_zero, List.set_cons_succ]
                  go_big_quiet_skip
                  go_big_quiet_skip
                  go_big_quiet_skip
                  go_big_quiet_skip
                  go_big_quiet_skip
                  go_big_quiet_skip
                  go_big_quiet_skip
                  go_big_quiet_skip
                  go_big_quiet_skip
                  go_big_quiet_skip
                  go_big_quiet_skip
                  go_big_quiet_skip
                  go_big_quiet_skip
                  go_big_quiet_skip
                  go_big_quiet_skip
                  go_big_quiet_skip
                  go_big_quiet_want
                  refine q_val (.bool true) (fun w' hw' => by go_simp) ?_
                  go_big_quiet_on
                  simp only [Act.put, List.setIfInBounds_toArray, List.set_cons_zero, List.set_cons_succ]
                  refine wpQuiet_nil ?_
                  intro w4 c4
                  go_wp2_with fail
                  go_ret
                  exact ⟨by rw [HV.out]; rfl, bl_next BW.out (bl_next B2.out (bl_next hb2.out c4))⟩
                | true =>
                  have HP : Hid (prB x = true) := hp
                  have HA3 : Hid (∀ p (hp : p < ms.length), p < i + 1 → prB ms[p] = true) := fun p hp h => by
                    by_cases e : p = i
                    · subst e; rw [← XE.out]; exact HP.out
                    · exact HA2.out p hp (by omega)
                  clear hp
                  by_cases hi0 : i = 0
                  · have HK2 : Hid (i = 0) := hi0
                    clear hi0
                    go_wp2_with fail
                    refine quietC (C := fun w' => Below wr.heap.size wr w') (by kernel_rfl) (by kernel_rfl) (Below.refl _ _).drew ?_
                    go_big_quiet_want
                    refine q_val (.pointer (some ⟨gVB, 1, none⟩)) (fun w' hw' => by go_simp) ?_
                    go_big_quiet_on
                    simp only [Act.put, List.setIfInBounds_toArray, List.set_cons_zero, List.set_cons_succ]
                    go_big_quiet_want
                    refine q_val (.slice (some ⟨b, of, none⟩) ms.length sc) (fun w' hw' => by have r1 : w'.cell? ⟨gVB, 1, none⟩ = some (.slice (some ⟨b, of, none⟩) ms.length sc) := (VI.out.later hw').cell 1; go_simp) ?_
                    go_big_quiet_on
                    simp only [Act.put, List.setIfInBounds_toArray, List.set_cons_zero, List.set_cons_succ]
                    go_big_quiet_want
                    refine q_val (.int .i64 ((i : Int))) (fun w' hw' => by go_simp) ?_
                    go_big_quiet_on
                    simp only [Act.put, List.setIfInBounds_toArray, List.set_cons_zero, List.set_cons_succ]
                    go_big_quiet_want
                    refine q_val (.pointer (some ⟨b, of + i, none⟩)) (fun w' hw' => by go_simp) ?_
                    go_big_quiet_on
                    simp only [Act.put, List.setIfInBounds_toArray, List.set_cons_zero, List.set_cons_succ]
                    go_big_quiet_want
                    refine q_val (.string x) (fun w' hw' => by have c0 : w'.cell? ⟨b, of + i, none⟩ = some (.string x) := (hw'.cell (p := ⟨b, of + i, none⟩) hbl).trans HC.out; go_simp) ?_
                    go_big_quiet_on
                    simp only [Act.put, List.setIfInBounds_toArray, List.set_cons_zero, List.set_cons_succ]
                    go_big_quiet_want
                    refine q_callB (W := wr) (.bool true) 47 #[(.string x)] (fun w' hw' => by go_simp) (fun w' hw' => (spPriv_any x w').mono fun e w'' ⟨h1, h2⟩ => ⟨by rw [h1, HP.out], h2⟩) ?_
                    go_big_quiet_on
                    simp only [Act.put, List.setIfInBounds_toArray, List.set_cons_zero, List.set_cons_succ]
                    go_big_quiet_want
                    refine q_val (.bool false) (fun w' hw' => by go_simp) ?_
                    go_big_quiet_on
                    simp only [Act.put, List.setIfInBounds_toArray, List.set_cons_zero, List.set_cons_succ]
                    go_big_quiet_want
                    refine q_val (.bool false) (fun w' hw' => by go_simp) ?_
                    go_big_quiet_on
                    simp only [Act.put, List.setIfInBounds_toArray, List.set_cons_zero, List.set_cons_succ]
                    go_big_quiet_want
                    refine q_val (.int .i64 ((i : Int))) (fun w' hw' => by go_simp) ?_
                    go_big_quiet_on
                    simp only [Act.put, List.setIfInBounds_toArray, List.set_cons_zero, List.set_cons_succ]
                    go_big_quiet_want
                    refine q_val (.bool false) (fun w' hw' => by have hk0 := HK2.out; go_simp) ?_
                    go_big_quiet_on
                    simp only [Act.put, List.setIfInBounds_toArray, List.set_cons_zero, List.set_cons_succ]
                    go_big_quiet_want
                    refine q_val (.bool false) (fun w' hw' => by go_simp) ?_
                    go_big_quiet_on
                    simp only [Act.put, List.setIfInBounds_toArray, List.set_cons_zero, List.set_cons_succ]
                    go_big_quiet_skip
                    go_big_quiet_skip
                    go_big_quiet_skip
                    go_big_quiet_skip
                    go_big_quiet_skip
                    go_big_quiet_skip
                    go_big_quiet_skip
                    go_big_quiet_skip
                    go_big_quiet_skip
                    go_big_quiet_skip
                    go_big_quiet_skip
                    go_big_quiet_skip
                    go_big_quiet_want
                    refine q_val (.bool false) (fun w' hw' => by go_simp) ?_
                    go_big_quiet_on
                    simp only [Act.put, List.setIfInBounds_toArray, List.set_cons_zero, List.set_cons_succ]
                    go_big_quiet_want
                    refine q_val (.bool false) (fun w' hw' => by go_simp) ?_
                    go_big_quiet_on
                    simp only [Act.put, List.setIfInBounds_toArray, List.set_cons_zero, List.set_cons_succ]
                    refine wpQuiet_nil ?_
                    intro w4 c4
                    have B4 : Hid (Below wa.heap.size wa w4) := bl_next hb2.out c4
                    go_wp2_with fail
                    go_roundw
                    case rel => exact ⟨i + 1, by omega, by go_num, HA3, fun p hp h => absurd h (by have := HK2.out; omega), B4⟩
                    case measure => simp [intOf]; omega
                  · obtain ⟨q, hiq⟩ : ∃ q, i = q + 1 := ⟨i - 1, by omega⟩
                    have HJ2 : Hid (i = q + 1) := hiq
                    have hql : q < ms.length := by omega
                    obtain ⟨b', of', hb', _, hc'⟩ := (MX2.out.stays hb2.out) q hql
                    simp only [Option.some.injEq, Addr.mk.injEq] at hb'
                    obtain ⟨rfl, rfl, _⟩ := hb'
                    obtain ⟨z, hze⟩ : ∃ z, z = ms[q] := ⟨_, rfl⟩
                    have ZE : Hid (z = ms[q]) := hze
                    have HZ : Hid (wr.cell? ⟨b, of + q, none⟩ = some (.string z)) := by rw [hze]; exact hc'
                    have q0 : (0 : Int) ≤ (q : Int) := by omega
                    have q1 : (q : Int) < (ms.length : Int) := by omega
                    have hw2 : IntKind.i64.wrap ((i : Int) - 1) = (q : Int) := by rw [IntKind.wrap_i64]; omega
                    clear hze hc' hiq hi0
                    cases hq : tltB z x with
                    | false =>
                      have HV : Hid (tbB T = false) := HGN.out (mbB_lt (j := q) (by have := HJ2.out; omega) (by have hkj := HJ2.out; subst hkj; rw [← XE.out, ← ZE.out]; intro h; rw [tltB_iff.2 h] at hq; cases hq))
                      have hge2 : (!Op.bytesLess z.toList x.toList) = true := by rw [less_no (by intro h; rw [tltB_iff.2 h] at hq; cases hq)]; rfl
                      clear hq
                      go_wp2_with fail
                      refine quietC (C := fun w' => Below wr.heap.size wr w') (by kernel_rfl) (by kernel_rfl) (Below.refl _ _).drew ?_
                      go_big_quiet_want
                      refine q_val (.pointer (some ⟨gVB, 1, none⟩)) (fun w' hw' => by go_simp) ?_
                      go_big_quiet_on
                      simp only [Act.put, List.setIfInBounds_toArray, List.set_cons_zero, List.set_cons_succ]
                      go_big_quiet_want
                      refine q_val (.slice (some ⟨b, of, none⟩) ms.length sc) (fun w' hw' => by have r1 : w'.cell? ⟨gVB, 1, none⟩ = some (.slice (some ⟨b, of, none⟩) ms.length sc) := (VI.out.later hw').cell 1; go_simp) ?_
                      go_big_quiet_on
                      simp only [Act.put, List.setIfInBounds_toArray, List.set_cons_zero, List.set_cons_succ]
                      go_big_quiet_want
                      refine q_val (.int .i64 ((i : Int))) (fun w' hw' => by go_simp) ?_
                      go_big_quiet_on
                      simp only [Act.put, List.setIfInBounds_toArray, List.set_cons_zero, List.set_cons_succ]
                      go_big_quiet_want
                      refine q_val (.pointer (some ⟨b, of + i, none⟩)) (fun w' hw' => by go_simp) ?_
                      go_big_quiet_on
                      simp only [Act.put, List.setIfInBounds_toArray, List.set_cons_zero, List.set_cons_succ]
                      go_big_quiet_want
                      refine q_val (.string x) (fun w' hw' => by have c0 : w'.cell? ⟨b, of + i, none⟩ = some (.string x) := (hw'.cell (p := ⟨b, of + i, none⟩) hbl).trans HC.out; go_simp) ?_
                      go_big_quiet_on
                      simp only [Act.put, List.setIfInBounds_toArray, List.set_cons_zero, List.set_cons_succ]
                      go_big_quiet_want
                      refine q_callB (W := wr) (.bool true) 47 #[(.string x)] (fun w' hw' => by go_simp) (fun w' hw' => (spPriv_any x w').mono fun e w'' ⟨h1, h2⟩ => ⟨by rw [h1, HP.out], h2⟩) ?_
                      go_big_quiet_on
                      simp only [Act.put, List.setIfInBounds_toArray, List.set_cons_zero, List.set_cons_succ]
                      go_big_quiet_want
                      refine q_val (.bool false) (fun w' hw' => by go_simp) ?_
                      go_big_quiet_on
                      simp only [Act.put, List.setIfInBounds_toArray, List.set_cons_zero, List.set_cons_succ]
                      go_big_quiet_want
                      refine q_val (.bool false) (fun w' hw' => by go_simp) ?_
                      go_big_quiet_on
                      simp only [Act.put, List.setIfInBounds_toArray, List.set_cons_zero, List.set_cons_succ]
                      go_big_quiet_want
                      refine q_val (.int .i64 ((i : Int))) (fun w' hw' => by go_simp) ?_
                      go_big_quiet_on
                      simp only [Act.put, List.setIfInBounds_toArray, List.set_cons_zero, List.set_cons_succ]
                      go_big_quiet_want
                      refine q_val (.bool true) (fun w' hw' => by have hk0 : 0 < i := (by have := HJ2.out; omega); go_simp) ?_
                      go_big_quiet_on
                      simp only [Act.put, List.setIfInBounds_toArray, List.set_cons_zero, List.set_cons_succ]
                      go_big_quiet_want
                      refine q_val (.bool true) (fun w' hw' => by go_simp) ?_
                      go_big_quiet_on
                      simp only [Act.put, List.setIfInBounds_toArray, List.set_cons_zero, List.set_cons_succ]
                      go_big_quiet_want
                      refine q_val (.pointer (some ⟨gVB, 1, none⟩)) (fun w' hw' => by go_simp) ?_
                      go_big_quiet_on
                      simp only [Act.put, List.setIfInBounds_toArray, List.set_cons_zero, List.set_cons_succ]
                      go_big_quiet_want
                      refine q_val (.slice (some ⟨b, of, none⟩) ms.length sc) (fun w' hw' => by have r1 : w'.cell? ⟨gVB, 1, none⟩ = some (.slice (some ⟨b, of, none⟩) ms.length sc) := (VI.out.later hw').cell 1; go_simp) ?_
                      go_big_quiet_on
                      simp only [Act.put, List.setIfInBounds_toArray, List.set_cons_zero, List.set_cons_succ]
                      go_big_quiet_want
                      refine q_val (.int .i64 ((i : Int))) (fun w' hw' => by go_simp) ?_
                      go_big_quiet_on
                      simp only [Act.put, List.setIfInBounds_toArray, List.set_cons_zero, List.set_cons_succ]
                      go_big_quiet_want
                      refine q_val (.int .i64 ((q : Int))) (fun w' hw' => by go_simp) ?_
                      go_big_quiet_on
                      simp only [Act.put, List.setIfInBounds_toArray, List.set_cons_zero, List.set_cons_succ]
                      go_big_quiet_want
                      refine q_val (.pointer (some ⟨b, of + q, none⟩)) (fun w' hw' => by go_simp) ?_
                      go_big_quiet_on
                      simp only [Act.put, List.setIfInBounds_toArray, List.set_cons_zero, List.set_cons_succ]
                      go_big_quiet_want
                      refine q_val (.string z) (fun w' hw' => by have c0 : w'.cell? ⟨b, of + q, none⟩ = some (.string z) := (hw'.cell (p := ⟨b, of + q, none⟩) hbl).trans HZ.out; go_simp) ?_
                      go_big_quiet_on
                      simp only [Act.put, List.setIfInBounds_toArray, List.set_cons_zero, List.set_cons_succ]
                      go_big_quiet_want
                      refine q_val (.pointer (some ⟨gVB, 1, none⟩)) (fun w' hw' => by go_simp) ?_
                      go_big_quiet_on
                      simp only [Act.put, List.setIfInBounds_toArray, List.set_cons_zero, List.set_cons_succ]
                      go_big_quiet_want
                      refine q_val (.slice (some ⟨b, of, none⟩) ms.length sc) (fun w' hw' => by have r1 : w'.cell? ⟨gVB, 1, none⟩ = some (.slice (some ⟨b, of, none⟩) ms.length sc) := (VI.out.later hw').cell 1; go_simp) ?_
                      go_big_quiet_on
                      simp only [Act.put, List.setIfInBounds_toArray, List.set_cons_zero, List.set_cons_succ]
                      go_big_quiet_want
                      refine q_val (.int .i64 ((i : Int))) (fun w' hw' => by go_simp) ?_
                      go_big_quiet_on
                      simp only [Act.put, List.setIfInBounds_toArray, List.set_cons_zero, List.set_cons_succ]
                      go_big_quiet_want
                      refine q_val (.pointer (some ⟨b, of + i, none⟩)) (fun w' hw' => by go_simp) ?_
                      go_big_quiet_on
                      simp only [Act.put, List.setIfInBounds_toArray, List.set_cons_zero, List.set_cons_succ]
                      go_big_quiet_want
                      refine q_val (.string x) (fun w' hw' => by have c0 : w'.cell? ⟨b, of + i, none⟩ = some (.string x) := (hw'.cell (p := ⟨b, of + i, none⟩) hbl).trans HC.out; go_simp) ?_
                      go_big_quiet_on
                      simp only [Act.put, List.setIfInBounds_toArray, List.set_cons_zero, List.set_cons_succ]
                      go_big_quiet_want
                      refine q_val (.bool true) (fun w' hw' => by go_simp) ?_
                      go_big_quiet_on
                      simp only [Act.put, List.setIfInBounds_toArray, List.set_cons_zero, List.set_cons_succ]
                      go_big_quiet_want
                      refine q_val (.bool true) (fun w' hw' => by go_simp) ?_
                      go_big_quiet_on
                      simp only [Act.put, List.setIfInBounds_toArray, List.set_cons_zero, List.set_cons_succ]
                      go_big_quiet_want
                      refine q_val (.bool true) (fun w' hw' => by go_simp) ?_
                      go_big_quiet_on
                      simp only [Act.put, List.setIfInBounds_toArray, List.set_cons_zero, List.set_cons_succ]
                      refine wpQuiet_nil ?_
                      intro w4 c4
                      go_wp2_with fail
                      go_ret
                      exact ⟨by rw [HV.out]; rfl, bl_next BW.out (bl_next B2.out (bl_next hb2.out c4))⟩
                    | true =>
                      have LT2 : Hid (Tlt z x) := tltB_iff.1 hq
                      have hge2 : (!Op.bytesLess z.toList x.toList) = false := by rw [less_yes LT2.out]; rfl
                      clear hq
                      go_wp2_with fail
                      refine quietC (C := fun w' => Below wr.heap.size wr w') (by kernel_rfl) (by kernel_rfl) (Below.refl _ _).drew ?_
                      go_big_quiet_want
                      refine q_val (.pointer (some ⟨gVB, 1, none⟩)) (fun w' hw' => by go_simp) ?_
                      go_big_quiet_on
                      simp only [Act.put, List.setIfInBounds_toArray, List.set_cons_zero, List.set_cons_succ]
                      go_big_quiet_want
                      refine q_val (.slice (some ⟨b, of, none⟩) ms.length sc) (fun w' hw' => by have r1 : w'.cell? ⟨gVB, 1, none⟩ = some (.slice (some ⟨b, of, none⟩) ms.length sc) := (VI.out.later hw').cell 1; go_simp) ?_
                      go_big_quiet_on
                      simp only [Act.put, List.setIfInBounds_toArray, List.set_cons_zero, List.set_cons_succ]
                      go_big_quiet_want
                      refine q_val (.int .i64 ((i : Int))) (fun w' hw' => by go_simp) ?_
                      go_big_quiet_on
                      simp only [Act.put, List.setIfInBounds_toArray, List.set_cons_zero, List.set_cons_succ]
                      go_big_quiet_want
                      refine q_val (.pointer (some ⟨b, of + i, none⟩)) (fun w' hw' => by go_simp) ?_
                      go_big_quiet_on
                      simp only [Act.put, List.setIfInBounds_toArray, List.set_cons_zero, List.set_cons_succ]
                      go_big_quiet_want
                      refine q_val (.string x) (fun w' hw' => by have c0 : w'.cell? ⟨b, of + i, none⟩ = some (.string x) := (hw'.cell (p := ⟨b, of + i, none⟩) hbl).trans HC.out; go_simp) ?_
                      go_big_quiet_on
                      simp only [Act.put, List.setIfInBounds_toArray, List.set_cons_zero, List.set_cons_succ]
                      go_big_quiet_want
                      refine q_callB (W := wr) (.bool true) 47 #[(.string x)] (fun w' hw' => by go_simp) (fun w' hw' => (spPriv_any x w').mono fun e w'' ⟨h1, h2⟩ => ⟨by rw [h1, HP.out], h2⟩) ?_
                      go_big_quiet_on
                      simp only [Act.put, List.setIfInBounds_toArray, List.set_cons_zero, List.set_cons_succ]
                      go_big_quiet_want
                      refine q_val (.bool false) (fun w' hw' => by go_simp) ?_
                      go_big_quiet_on
                      simp only [Act.put, List.setIfInBounds_toArray, List.set_cons_zero, List.set_cons_succ]
                      go_big_quiet_want
                      refine q_val (.bool false) (fun w' hw' => by go_simp) ?_
                      go_big_quiet_on
                      simp only [Act.put, List.setIfInBounds_toArray, List.set_cons_zero, List.set_cons_succ]
                      go_big_quiet_want
                      refine q_val (.int .i64 ((i : Int))) (fun w' hw' => by go_simp) ?_
                      go_big_quiet_on
                      simp only [Act.put, List.setIfInBounds_toArray, List.set_cons_zero, List.set_cons_succ]
                      go_big_quiet_want
                      refine q_val (.bool true) (fun w' hw' => by have hk0 : 0 < i := (by have := HJ2.out; omega); go_simp) ?_
                      go_big_quiet_on
                      simp only [Act.put, List.setIfInBounds_toArray, List.set_cons_zero, List.set_cons_succ]
                      go_big_quiet_want
                      refine q_val (.bool true) (fun w' hw' => by go_simp) ?_
                      go_big_quiet_on
                      simp only [Act.put, List.setIfInBounds_toArray, List.set_cons_zero, List.set_cons_succ]
                      go_big_quiet_want
                      refine q_val (.pointer (some ⟨gVB, 1, none⟩)) (fun w' hw' => by go_simp) ?_
                      go_big_quiet_on
                      simp only [Act.put, List.setIfInBounds_toArray, List.set_cons_zero, List.set_cons_succ]
                      go_big_quiet_want
                      refine q_val (.slice (some ⟨b, of, none⟩) ms.length sc) (fun w' hw' => by have r1 : w'.cell? ⟨gVB, 1, none⟩ = some (.slice (some ⟨b, of, none⟩) ms.length sc) := (VI.out.later hw').cell 1; go_simp) ?_
                      go_big_quiet_on
                      simp only [Act.put, List.setIfInBounds_toArray, List.set_cons_zero, List.set_cons_succ]
                      go_big_quiet_want
                      refine q_val (.int .i64 ((i : Int))) (fun w' hw' => by go_simp) ?_
                      go_big_quiet_on
                      simp only [Act.put, List.setIfInBounds_toArray, List.set_cons_zero, List.set_cons_succ]
                      go_big_quiet_want
                      refine q_val (.int .i64 ((q : Int))) (fun w' hw' => by go_simp) ?_
                      go_big_quiet_on
                      simp only [Act.put, List.setIfInBounds_toArray, List.set_cons_zero, List.set_cons_succ]
                      go_big_quiet_want
                      refine q_val (.pointer (some ⟨b, of + q, none⟩)) (fun w' hw' => by go_simp) ?_
                      go_big_quiet_on
                      simp only [Act.put, List.setIfInBounds_toArray, List.set_cons_zero, List.set_cons_succ]
                      go_big_quiet_want
                      refine q_val (.string z) (fun w' hw' => by have c0 : w'.cell? ⟨b, of + q, none⟩ = some (.string z) := (hw'.cell (p := ⟨b, of + q, none⟩) hbl).trans HZ.out; go_simp) ?_
                      go_big_quiet_on
                      simp only [Act.put, List.setIfInBounds_toArray, List.set_cons_zero, List.set_cons_succ]
                      go_big_quiet_want
                      refine q_val (.pointer (some ⟨gVB, 1, none⟩)) (fun w' hw' => by go_simp) ?_
                      go_big_quiet_on
                      simp only [Act.put, List.setIfInBounds_toArray, List.set_cons_zero, List.set_cons_succ]
                      go_big_quiet_want
                      refine q_val (.slice (some ⟨b, of, none⟩) ms.length sc) (fun w' hw' => by have r1 : w'.cell? ⟨gVB, 1, none⟩ = some (.slice (some ⟨b, of, none⟩) ms.length sc) := (VI.out.later hw').cell 1; go_simp) ?_
                      go_big_quiet_on
                      simp only [Act.put, List.setIfInBounds_toArray, List.set_cons_zero, List.set_cons_succ]
                      go_big_quiet_want
                      refine q_val (.int .i64 ((i : Int))) (fun w' hw' => by go_simp) ?_
                      go_big_quiet_on
                      simp only [Act.put, List.setIfInBounds_toArray, List.set_cons_zero, List.set_cons_succ]
                      go_big_quiet_want
                      refine q_val (.pointer (some ⟨b, of + i, none⟩)) (fun w' hw' => by go_simp) ?_
                      go_big_quiet_on
                      simp only [Act.put, List.setIfInBounds_toArray, List.set_cons_zero, List.set_cons_succ]
                      go_big_quiet_want
                      refine q_val (.string x) (fun w' hw' => by have c0 : w'.cell? ⟨b, of + i, none⟩ = some (.string x) := (hw'.cell (p := ⟨b, of + i, none⟩) hbl).trans HC.out; go_simp) ?_
                      go_big_quiet_on
                      simp only [Act.put, List.setIfInBounds_toArray, List.set_cons_zero, List.set_cons_succ]
                      go_big_quiet_want
                      refine q_val (.bool false) (fun w' hw' => by go_simp) ?_
                      go_big_quiet_on
                      simp only [Act.put, List.setIfInBounds_toArray, List.set_cons_zero, List.set_cons_succ]
                      go_big_quiet_want
                      refine q_val (.bool false) (fun w' hw' => by go_simp) ?_
                      go_big_quiet_on
                      simp only [Act.put, List.setIfInBounds_toArray, List.set_cons_zero, List.set_cons_succ]
                      go_big_quiet_want
                      refine q_val (.bool false) (fun w' hw' => by go_simp) ?_
                      go_big_quiet_on
                      simp only [Act.put, List.setIfInBounds_toArray, List.set_cons_zero, List.set_cons_succ]
                      refine wpQuiet_nil ?_
                      intro w4 c4
                      have B4 : Hid (Below wa.heap.size wa w4) := bl_next hb2.out c4
                      go_wp2_with fail
                      go_roundw
                      case rel =>
                        refine ⟨i + 1, by omega, by go_num, HA3, fun p hp h => ?_, B4⟩
                        have hkj := HJ2.out
                        by_cases e : p = q
                        · subst e; subst hkj; rw [← XE.out, ← ZE.out]; exact LT2.out
                        · exact HT2.out p hp (by omega)
                      case measure => simp [intOf]; omega
              · have HM : Hid (mbB ms = true) := mbB_yes (fun p hp => HA2.out p hp (by omega)) (fun p hp => HT2.out p hp (by omega))
                have B4 : Hid (Below W.heap.size W wr) := bl_next B2.out hb2.out
                have d1 := VI.out.cell 1
                simp only [List.getElem?_cons_succ, List.getElem?_cons_zero] at d1
                go_wp2_with fail
                go_roundw
                case rel => exact ⟨k + 1, by omega, by go_num, HG.out HM.out, HB1, B4⟩
                case measure => simp [intOf]; omega
          · obtain ⟨j, hkj⟩ : ∃ j, k = j + 1 := ⟨k - 1, by omega⟩
            have HJ : Hid (k = j + 1) := hkj
            obtain ⟨y, ⟨hjT, hyT⟩, hy⟩ := PV.out j hkj.symm
            have HY : Hid (v1.cell? ⟨g, off + j * 2, none⟩ = some (.string y)) := hy
            have YT : Hid (T[j].1 = y) := hyT
            have j0 : (0 : Int) ≤ (j : Int) := by omega
            have j1 : (j : Int) < (n : Int) := by omega
            have hw1 : IntKind.i64.wrap ((k : Int) - 1) = (j : Int) := by rw [IntKind.wrap_i64]; omega
            clear hy hyT hkj hk0
            cases hq : tltB y nm with
            | false =>
              have HV : Hid (tbB T = false) := tbB_lt (j := j) (by have := HJ.out; omega) (by have hkj := HJ.out; subst hkj; rw [YT.out, TE.out]; intro h; have h : Tlt y nm := h; rw [tltB_iff.2 h] at hq; cases hq)
              have hge : (!Op.bytesLess y.toList nm.toList) = true := by rw [less_no (by intro h; rw [tltB_iff.2 h] at hq; cases hq)]; rfl
              clear hq
              go_wp2_with fail
              refine quietC (C := fun w' => Below v1.heap.size v1 w') (by kernel_rfl) (by kernel_rfl) (Below.refl _ _).drew ?_
              go_big_quiet_want
              refine q_val (.pointer (some ⟨gVB, 0, none⟩)) (fun w' hw' => by go_simp) ?_
              go_big_quiet_on
              simp only [Act.put, List.setIfInBounds_toArray, List.set_cons_zero, List.set_cons_succ]
              go_big_quiet_want
              refine q_val (.string nm) (fun w' hw' => by have r0 : w'.cell? ⟨gVB, 0, none⟩ = some (.string nm) := (VB.out.later hw').cell 0; go_simp) ?_
              go_big_quiet_on
              simp only [Act.put, List.setIfInBounds_toArray, List.set_cons_zero, List.set_cons_succ]
              go_big_quiet_want
              refine q_callB (W := v1) (.bool true) 66 #[(.string nm)] (fun w' hw' => by go_simp) (fun w' hw' => (specName_any nm w').mono fun e w'' ⟨h1, h2⟩ => ⟨by rw [h1, HN.out], h2⟩) ?_
              go_big_quiet_on
              simp only [Act.put, List.setIfInBounds_toArray, List.set_cons_zero, List.set_cons_succ]
              go_big_quiet_want
              refine q_val (.bool false) (fun w' hw' => by go_simp) ?_
              go_big_quiet_on
              simp only [Act.put, List.setIfInBounds_toArray, List.set_cons_zero, List.set_cons_succ]
              go_big_quiet_want
              refine q_val (.bool false) (fun w' hw' => by go_simp) ?_
              go_big_quiet_on
              simp only [Act.put, List.setIfInBounds_toArray, List.set_cons_zero, List.set_cons_succ]
              go_big_quiet_want
              refine q_val (.int .i64 ((k : Int))) (fun w' hw' => by go_simp) ?_
              go_big_quiet_on
              simp only [Act.put, List.setIfInBounds_toArray, List.set_cons_zero, List.set_cons_succ]
              go_big_quiet_want
              refine q_val (.bool true) (fun w' hw' => by have hk0 : 0 < k := (by have := HJ.out; omega); go_simp) ?_
              go_big_quiet_on
              simp only [Act.put, List.setIfInBounds_toArray, List.set_cons_zero, List.set_cons_succ]
              go_big_quiet_want
              refine q_val (.bool true) (fun w' hw' => by go_simp) ?_
              go_big_quiet_on
              simp only [Act.put, List.setIfInBounds_toArray, List.set_cons_zero, List.set_cons_succ]
              go_big_quiet_want
              refine q_val (.pointer (some ⟨w.heap.size, 0, none⟩)) (fun w' hw' => by go_simp) ?_
              go_big_quiet_on
              simp only [Act.put, List.setIfInBounds_toArray, List.set_cons_zero, List.set_cons_succ]
              go_big_quiet_want
              refine q_val (.slice (some ⟨g, off, none⟩) n c) (fun w' hw' => by have r0 : w'.cell? ⟨w.heap.size, 0, none⟩ = some (.slice (some ⟨g, off, none⟩) n c) := (LA.out.later hw').cell 0; go_simp) ?_
              go_big_quiet_on
              simp only [Act.put, List.setIfInBounds_toArray, List.set_cons_zero, List.set_cons_succ]
              go_big_quiet_want
              refine q_val (.int .i64 ((k : Int))) (fun w' hw' => by go_simp) ?_
              go_big_quiet_on
              simp only [Act.put, List.setIfInBounds_toArray, List.set_cons_zero, List.set_cons_succ]
              go_big_quiet_want
              refine q_val (.int .i64 ((j : Int))) (fun w' hw' => by go_simp) ?_
              go_big_quiet_on
              simp only [Act.put, List.setIfInBounds_toArray, List.set_cons_zero, List.set_cons_succ]
              go_big_quiet_want
              refine q_val (.pointer (some ⟨g, off + j * 2, none⟩)) (fun w' hw' => by go_simp) ?_
              go_big_quiet_on
              simp only [Act.put, List.setIfInBounds_toArray, List.set_cons_zero, List.set_cons_succ]
              go_big_quiet_want
              refine q_val (.pointer (some ⟨g, off + j * 2, none⟩)) (fun w' hw' => by go_simp) ?_
              go_big_quiet_on
              simp only [Act.put, List.setIfInBounds_toArray, List.set_cons_zero, List.set_cons_succ]
              go_big_quiet_want
              refine q_val (.string y) (fun w' hw' => by have c0 : w'.cell? ⟨g, off + j * 2, none⟩ = some (.string y) := (hw'.cell (p := ⟨g, off + j * 2, none⟩) hgl).trans HY.out; go_simp) ?_
              go_big_quiet_on
              simp only [Act.put, List.setIfInBounds_toArray, List.set_cons_zero, List.set_cons_succ]
              go_big_quiet_want
              refine q_val (.pointer (some ⟨gVB, 0, none⟩)) (fun w' hw' => by go_simp) ?_
              go_big_quiet_on
              simp only [Act.put, List.setIfInBounds_toArray, List.set_cons_zero, List.set_cons_succ]
              go_big_quiet_want
              refine q_val (.string nm) (fun w' hw' => by have r0 : w'.cell? ⟨gVB, 0, none⟩ = some (.string nm) := (VB.out.later hw').cell 0; go_simp) ?_
              go_big_quiet_on
              simp only [Act.put, List.setIfInBounds_toArray, List.set_cons_zero, List.set_cons_succ]
              go_big_quiet_want
              refine q_val (.bool true) (fun w' hw' => by go_simp) ?_
              go_big_quiet_on
              simp only [Act.put, List.setIfInBounds_toArray, List.set_cons_zero, List.set_cons_succ]
              go_big_quiet_want
              refine q_val (.bool true) (fun w' hw' => by go_simp) ?_
              go_big_quiet_on
              simp only [Act.put, List.setIfInBounds_toArray, List.set_cons_zero, List.set_cons_succ]
              go_big_quiet_want
              refine q_val (.bool true) (fun w' hw' => by go_simp) ?_
              go_big_quiet_on
              simp only [Act.put, List.setIfInBounds_toArray, List.set_cons_zero, List.set_cons_succ]
              go_big_quiet_want
              refine q_val (.bool true) (fun w' hw' => by go_simp) ?_
              go_big_quiet_on
              simp only [Act.put, List.setIfInBounds_toArray, List.set_cons_zero, List.set_cons_succ]
              go_big_quiet_skip
              go_big_quiet_skip
              go_big_quiet_skip
              go_big_quiet_skip
              go_big_quiet_skip
              go_big_quiet_want
              refine q_val (.bool true) (fun w' hw' => by go_simp) ?_
              go_big_quiet_on
              simp only [Act.put, List.setIfInBounds_toArray, List.set_cons_zero, List.set_cons_succ]
              refine wpQuiet_nil ?_
              intro w2 c2
              go_wp2_with fail
              go_ret
              exact ⟨by rw [HV.out]; rfl, bl_next BW.out (bl_next hb.out c2)⟩
            | true =>
              have LT : Hid (Tlt y nm) := tltB_iff.1 hq
              have HB1 : Hid (∀ i (hi : i + 1 < T.length), i + 1 < k + 1 → Tlt T[i].1 T[i + 1].1) := fun i hi h => by
                have hkj := HJ.out
                by_cases e : i = j
                · subst e; subst hkj; rw [YT.out, TE.out]; exact LT.out
                · exact HB.out i hi (by omega)
              have hge : (!Op.bytesLess y.toList nm.toList) = false := by rw [less_yes LT.out]; rfl
              clear hq
              go_wp2_with fail
              refine quietC (C := fun w' => Below v1.heap.size v1 w') (by kernel_rfl) (by kernel_rfl) (Below.refl _ _).drew ?_
              go_big_quiet_want
              refine q_val (.pointer (some ⟨gVB, 0, none⟩)) (fun w' hw' => by go_simp) ?_
              go_big_quiet_on
              simp only [Act.put, List.setIfInBounds_toArray, List.set_cons_zero, List.set_cons_succ]
              go_big_quiet_want
              refine q_val (.string nm) (fun w' hw' => by have r0 : w'.cell? ⟨gVB, 0, none⟩ = some (.string nm) := (VB.out.later hw').cell 0; go_simp) ?_
              go_big_quiet_on
              simp only [Act.put, List.setIfInBounds_toArray, List.set_cons_zero, List.set_cons_succ]
              go_big_quiet_want
              refine q_callB (W := v1) (.bool true) 66 #[(.string nm)] (fun w' hw' => by go_simp) (fun w' hw' => (specName_any nm w').mono fun e w'' ⟨h1, h2⟩ => ⟨by rw [h1, HN.out], h2⟩) ?_
              go_big_quiet_on
              simp only [Act.put, List.setIfInBounds_toArray, List.set_cons_zero, List.set_cons_succ]
              go_big_quiet_want
              refine q_val (.bool false) (fun w' hw' => by go_simp) ?_
              go_big_quiet_on
              simp only [Act.put, List.setIfInBounds_toArray, List.set_cons_zero, List.set_cons_succ]
              go_big_quiet_want
              refine q_val (.bool false) (fun w' hw' => by go_simp) ?_
              go_big_quiet_on
              simp only [Act.put, List.setIfInBounds_toArray, List.set_cons_zero, List.set_cons_succ]
              go_big_quiet_want
              refine q_val (.int .i64 ((k : Int))) (fun w' hw' => by go_simp) ?_
              go_big_quiet_on
              simp only [Act.put, List.setIfInBounds_toArray, List.set_cons_zero, List.set_cons_succ]
              go_big_quiet_want
              refine q_val (.bool true) (fun w' hw' => by have hk0 : 0 < k := (by have := HJ.out; omega); go_simp) ?_
              go_big_quiet_on
              simp only [Act.put, List.setIfInBounds_toArray, List.set_cons_zero, List.set_cons_succ]
              go_big_quiet_want
              refine q_val (.bool true) (fun w' hw' => by go_simp) ?_
              go_big_quiet_on
              simp only [Act.put, List.setIfInBounds_toArray, List.set_cons_zero, List.set_cons_succ]
              go_big_quiet_want
              refine q_val (.pointer (some ⟨w.heap.size, 0, none⟩)) (fun w' hw' => by go_simp) ?_
              go_big_quiet_on
              simp only [Act.put, List.setIfInBounds_toArray, List.set_cons_zero, List.set_cons_succ]
              go_big_quiet_want
              refine q_val (.slice (some ⟨g, off, none⟩) n c) (fun w' hw' => by have r0 : w'.cell? ⟨w.heap.size, 0, none⟩ = some (.slice (some ⟨g, off, none⟩) n c) := (LA.out.later hw').cell 0; go_simp) ?_
              go_big_quiet_on
              simp only [Act.put, List.setIfInBounds_toArray, List.set_cons_zero, List.set_cons_succ]
              go_big_quiet_want
              refine q_val (.int .i64 ((k : Int))) (fun w' hw' => by go_simp) ?_
              go_big_quiet_on
              simp only [Act.put, List.setIfInBounds_toArray, List.set_cons_zero, List.set_cons_succ]
              go_big_quiet_want
              refine q_val (.int .i64 ((j : Int))) (fun w' hw' => by go_simp) ?_
              go_big_quiet_on
              simp only [Act.put, List.setIfInBounds_toArray, List.set_cons_zero, List.set_cons_succ]
              go_big_quiet_want
              refine q_val (.pointer (some ⟨g, off + j * 2, none⟩)) (fun w' hw' => by go_simp) ?_
              go_big_quiet_on
              simp only [Act.put, List.setIfInBounds_toArray, List.set_cons_zero, List.set_cons_succ]
              go_big_quiet_want
              refine q_val (.pointer (some ⟨g, off + j * 2, none⟩)) (fun w' hw' => by go_simp) ?_
              go_big_quiet_on
              simp only [Act.put, List.setIfInBounds_toArray, List.set_cons_zero, List.set_cons_succ]
              go_big_quiet_want
              refine q_val (.string y) (fun w' hw' => by have c0 : w'.cell? ⟨g, off + j * 2, none⟩ = some (.string y) := (hw'.cell (p := ⟨g, off + j * 2, none⟩) hgl).trans HY.out; go_simp) ?_
              go_big_quiet_on
              simp only [Act.put, List.setIfInBounds_toArray, List.set_cons_zero, List.set_cons_succ]
              go_big_quiet_want
              refine q_val (.pointer (some ⟨gVB, 0, none⟩)) (fun w' hw' => by go_simp) ?_
              go_big_quiet_on
              simp only [Act.put, List.setIfInBounds_toArray, List.set_cons_zero, List.set_cons_succ]
              go_big_quiet_want
              refine q_val (.string nm) (fun w' hw' => by have r0 : w'.cell? ⟨gVB, 0, none⟩ = some (.string nm) := (VB.out.later hw').cell 0; go_simp) ?_
              go_big_quiet_on
              simp only [Act.put, List.setIfInBounds_toArray, List.set_cons_zero, List.set_cons_succ]
              go_big_quiet_want
              refine q_val (.bool false) (fun w' hw' => by go_simp) ?_
              go_big_quiet_on
              simp only [Act.put, List.setIfInBounds_toArray, List.set_cons_zero, List.set_cons_succ]
              go_big_quiet_want
              refine q_val (.bool false) (fun w' hw' => by go_simp) ?_
              go_big_quiet_on
              simp only [Act.put, List.setIfInBounds_toArray, List.set_cons_zero, List.set_cons_succ]
              go_big_quiet_want
              refine q_val (.bool false) (fun w' hw' => by go_simp) ?_
              go_big_quiet_on
              simp only [Act.put, List.setIfInBounds_toArray, List.set_cons_zero, List.set_cons_succ]
              go_big_quiet_want
              refine q_val (.bool false) (fun w' hw' => by go_simp) ?_
              go_big_quiet_on
              simp only [Act.put, List.setIfInBounds_toArray, List.set_cons_zero, List.set_cons_succ]
              go_big_quiet_want
              refine q_val (.pointer (some ⟨gVB, 1, none⟩)) (fun w' hw' => by go_simp) ?_
              go_big_quiet_on
              simp only [Act.put, List.setIfInBounds_toArray, List.set_cons_zero, List.set_cons_succ]
              go_big_quiet_want
              refine q_val (.slice sa ms.length sc) (fun w' hw' => by have r1 : w'.cell? ⟨gVB, 1, none⟩ = some (.slice sa ms.length sc) := (VB.out.later hw').cell 1; go_simp) ?_
              go_big_quiet_on
              simp only [Act.put, List.setIfInBounds_toArray, List.set_cons_zero, List.set_cons_succ]
              go_big_quiet_want
              refine q_val (.int .i64 ((ms.length : Int))) (fun w' hw' => by go_simp) ?_
              go_big_quiet_on
              simp only [Act.put, List.setIfInBounds_toArray, List.set_cons_zero, List.set_cons_succ]
              go_big_quiet_want
              refine q_callB (W := v1) (.bool true) 46 #[(.int .i64 ((ms.length : Int))), (.int .i64 1), (.int .i64 8)] (fun w' hw' => by go_simp) (fun w' hw' => (in_any (ms.length : Int) 1 8 w').mono fun e w'' ⟨h1, h2⟩ => ⟨by rw [h1, HI.out], by rw [h2]; exact Below.refl _ _⟩) ?_
              go_big_quiet_on
              simp only [Act.put, List.setIfInBounds_toArray, List.set_cons_zero, List.set_cons_succ]
              go_big_quiet_want
              refine q_val (.bool false) (fun w' hw' => by go_simp) ?_
              go_big_quiet_on
              simp only [Act.put, List.setIfInBounds_toArray, List.set_cons_zero, List.set_cons_succ]
              go_big_quiet_want
              refine q_val (.bool false) (fun w' hw' => by go_simp) ?_
              go_big_quiet_on
              simp only [Act.put, List.setIfInBounds_toArray, List.set_cons_zero, List.set_cons_succ]
              refine wpQuiet_nil ?_
              intro w2 c2
              clear hge hw1 j0 j1
              have B2 : Hid (Below W.heap.size W w2) := bl_next hb.out c2
              have VI : Hid (Bx w2 gVB 86 [.string nm, .slice sa ms.length sc]) := VB.out.later c2
              have MX2 : Hid (TextsAt w2 sa ms) := MX.out.stays c2
              clear c2 VB MX PV
              have d1 := VI.out.cell 1
              simp only [List.getElem?_cons_succ, List.getElem?_cons_zero] at d1
              go_wp2_with fail
              generalize hwa : w2 = wa at *
              clear hwa d1
              go_loopw [5] (fun ii wr => ∃ i : Nat, i ≤ ms.length ∧ ii = .int .i64 i ∧ Hid (∀ p (hp : p < ms.length), p < i → prB ms[p] = true) ∧ Hid (∀ p (hp : p + 1 < ms.length), p + 1 < i → Tlt ms[p] ms[p + 1]) ∧ Hid (Below wa.heap.size wa wr)) (fun ii _ => ms.length - (intOf ii).toNat)
              case atStart => exact ⟨0, Nat.zero_le _, rfl, fun p hp h => absurd h (by omega), fun p hp h => absurd h (by omega), Below.refl _ _⟩
              case round =>
                obtain ⟨i, hi, rfl, HA2, HT2, hb2⟩ := hrel
                have VI : Hid (Bx wr gVB 86 [.string nm, .slice sa ms.length sc]) := VI.out.later hb2.out
                by_cases hlt3 : i < ms.length
                · obtain ⟨b, of, rfl, hbb, hc⟩ := (MX2.out.stays hb2.out) i hlt3
                  obtain ⟨x, hxe⟩ : ∃ x, x = ms[i] := ⟨_, rfl⟩
                  have XE : Hid (x = ms[i]) := hxe
                  have HC : Hid (wr.cell? ⟨b, of + i, none⟩ = some (.string x)) := by rw [hxe]; exact hc
                  have hbl : b < wr.heap.size := hbb
                  have ii0 : (0 : Int) ≤ (i : Int) := by omega
                  have ii1 : (i : Int) < (ms.length : Int) := by omega
                  have d1 := VI.out.cell 1
                  simp only [List.getElem?_cons_succ, List.getElem?_cons_zero] at d1
                  clear hc hxe
                  cases hp : prB x with
                  | false =>
                    have HP : Hid (prB x = false) := hp
                    have HV : Hid (tbB T = false) := HGN.out (mbB_pr hlt3 (by rw [← XE.out]; exact hp))
                    clear hp
                    go_wp2_with fail
                    refine quietC (C := fun w' => Below wr.heap.size wr w') (by kernel_rfl) (by kernel_rfl) (Below.refl _ _).drew ?_
                    go_big_quiet_want
                    refine q_val (.pointer (some ⟨gVB, 1, none⟩)) (fun w' hw' => by go_simp) ?_
                    go_big_quiet_on
                    simp only [Act.put, List.setIfInBounds_toArray, List.set_cons_zero, List.set_cons_succ]
                    go_big_quiet_want
                    refine q_val (.slice (some ⟨b, of, none⟩) ms.length sc) (fun w' hw' => by have r1 : w'.cell? ⟨gVB, 1, none⟩ = some (.slice (some ⟨b, of, none⟩) ms.length sc) := (VI.out.later hw').cell 1; go_simp) ?_
                    go_big_quiet_on
                    simp only [Act.put, List.setIfInBounds_toArray, List.set_cons_zero, List.set_cons_succ]
                    go_big_quiet_want
                    refine q_val (.int .i64 ((i : Int))) (fun w' hw' => by go_simp) ?_
                    go_big_quiet_on
                    simp only [Act.put, List.setIfInBounds_toArray, List.set_cons_zero, List.set_cons_succ]
                    go_big_quiet_want
                    refine q_val (.pointer (some ⟨b, of + i, none⟩)) (fun w' hw' => by go_simp) ?_
                    go_big_quiet_on
                    simp only [Act.put, List.setIfInBounds_toArray, List.set_cons_zero, List.set_cons_succ]
                    go_big_quiet_want
                    refine q_val (.string x) (fun w' hw' => by have c0 : w'.cell? ⟨b, of + i, none⟩ = some (.string x) := (hw'.cell (p := ⟨b, of + i, none⟩) hbl).trans HC.out; go_simp) ?_
                    go_big_quiet_on
                    simp only [Act.put, List.setIfInBounds_toArray, List.set_cons_zero, List.set_cons_succ]
                    go_big_quiet_want
                    refine q_callB (W := wr) (.bool false) 47 #[(.string x)] (fun w' hw' => by go_simp) (fun w' hw' => (spPriv_any x w').mono fun e w'' ⟨h1, h2⟩ => ⟨by rw [h1, HP.out], h2⟩) ?_
                    go_big_quiet_on
                    simp only [Act.put, List.setIfInBounds_toArray, List.set_cons_zero, List.set_cons_succ]
                    go_big_quiet_want
                    refine q_val (.bool true) (fun w' hw' => by go_simp) ?_
                    go_big_quiet_on
                    simp only [Act.put, List.setIfInBounds_toArray, List.set_cons_zero, List.set_cons_succ]
                    go_big_quiet_want
                    refine q_val (.bool true) (fun w' hw' => by go_simp) ?_
                    go_big_quiet_on
                    simp only [Act.put, List.setIfInBounds_toArray, List.set_cons_zero, List.set_cons_succ]
                    go_big_quiet_skip
                    go_big_quiet_skip
                    go_big_quiet_skip
                    go_big_quiet_skip
                    go_big_quiet_skip
                    go_big_quiet_skip
                    go_big_quiet_skip
                    go_big_quiet_skip
                    go_big_quiet_skip
                    go_big_quiet_skip
                    go_big_quiet_skip
                    go_big_quiet_skip
                    go_big_quiet_skip
                    go_big_quiet_skip
                    go_big_quiet_skip
                    go_big_quiet_skip
                    go_big_quiet_want
                    refine q_val (.bool true) (fun w' hw' => by go_simp) ?_
                    go_big_quiet_on
                    simp only [Act.put, List.setIfInBounds_toArray, List.set_cons_zero, List.set_cons_succ]
                    refine wpQuiet_nil ?_
                    intro w4 c4
                    go_wp2_with fail
                    go_ret
                    exact ⟨by rw [HV.out]; rfl, bl_next BW.out (bl_next B2.out (bl_next hb2.out c4))⟩
                  | true =>
                    have HP : Hid (prB x = true) := hp
                    have HA3 : Hid (∀ p (hp : p < ms.length), p < i + 1 → prB ms[p] = true) := fun p hp h => by
                      by_cases e : p = i
                      · subst e; rw [← XE.out]; exact HP.out
                      · exact HA2.out p hp (by omega)
                    clear hp
                    by_cases hi0 : i = 0
                    · have HK2 : Hid (i = 0) := hi0
                      clear hi0
                      go_wp2_with fail
                      refine quietC (C := fun w' => Below wr.heap.size wr w') (by kernel_rfl) (by kernel_rfl) (Below.refl _ _).drew ?_
                      go_big_quiet_want
                      refine q_val (.pointer (some ⟨gVB, 1, none⟩)) (fun w' hw' => by go_simp) ?_
                      go_big_quiet_on
                      simp only [Act.put, List.setIfInBounds_toArray, List.set_cons_zero, List.set_cons_succ]
                      go_big_quiet_want
                      refine q_val (.slice (some ⟨b, of, none⟩) ms.length sc) (fun w' hw' => by have r1 : w'.cell? ⟨gVB, 1, none⟩ = some (.slice (some ⟨b, of, none⟩) ms.length sc) := (VI.out.later hw').cell 1; go_simp) ?_
                      go_big_quiet_on
                      simp only [Act.put, List.setIfInBounds_toArray, List.set_cons_zero, List.set_cons_succ]
                      go_big_quiet_want
                      refine q_val (.int .i64 ((i : Int))) (fun w' hw' => by go_simp) ?_
                      go_big_quiet_on
                      simp only [Act.put, List.setIfInBounds_toArray, List.set_cons_zero, List.set_cons_succ]
                      go_big_quiet_want
                      refine q_val (.pointer (some ⟨b, of + i, none⟩)) (fun w' hw' => by go_simp) ?_
                      go_big_quiet_on
                      simp only [Act.put, List.setIfInBounds_toArray, List.set_cons_zero, List.set_cons_succ]
                      go_big_quiet_want
                      refine q_val (.string x) (fun w' hw' => by have c0 : w'.cell? ⟨b, of + i, none⟩ = some (.string x) := (hw'.cell (p := ⟨b, of + i, none⟩) hbl).trans HC.out; go_simp) ?_
                      go_big_quiet_on
                      simp only [Act.put, List.setIfInBounds_toArray, List.set_cons_zero, List.set_cons_succ]
                      go_big_quiet_want
                      refine q_callB (W := wr) (.bool true) 47 #[(.string x)] (fun w' hw' => by go_simp) (fun w' hw' => (spPriv_any x w').mono fun e w'' ⟨h1, h2⟩ => ⟨by rw [h1, HP.out], h2⟩) ?_
                      go_big_quiet_on
                      simp only [Act.put, List.setIfInBounds_toArray, List.set_cons_zero, List.set_cons_succ]
                      go_big_quiet_want
                      refine q_val (.bool false) (fun w' hw' => by go_simp) ?_
                      go_big_quiet_on
                      simp only [Act.put, List.setIfInBounds_toArray, List.set_cons_zero, List.set_cons_succ]
                      go_big_quiet_want
                      refine q_val (.bool false) (fun w' hw' => by go_simp) ?_
                      go_big_quiet_on
                      simp only [Act.put, List.setIfInBounds_toArray, List.set_cons_zero, List.set_cons_succ]
                      go_big_quiet_want
                      refine q_val (.int .i64 ((i : Int))) (fun w' hw' => by go_simp) ?_
                      go_big_quiet_on
                      simp only [Act.put, List.setIfInBounds_toArray, List.set_cons_zero, List.set_cons_succ]
                      go_big_quiet_want
                      refine q_val (.bool false) (fun w' hw' => by have hk0 := HK2.out; go_simp) ?_
                      go_big_quiet_on
                      simp only [Act.put, List.setIfInBounds_toArray, List.set_cons_zero, List.set_cons_succ]
                      go_big_quiet_want
                      refine q_val (.bool false) (fun w' hw' => by go_simp) ?_
                      go_big_quiet_on
                      simp only [Act.put, List.setIfInBounds_toArray, List.set_cons_zero, List.set_cons_succ]
                      go_big_quiet_skip
                      go_big_quiet_skip
                      go_big_quiet_skip
                      go_big_quiet_skip
                      go_big_quiet_skip
                      go_big_quiet_skip
                      go_big_quiet_skip
                      go_big_quiet_skip
                      go_big_quiet_skip
                      go_big_quiet_skip
                      go_big_quiet_skip
                      go_big_quiet_skip
                      go_big_quiet_want
                      refine q_val (.bool false) (fun w' hw' => by go_simp) ?_
                      go_big_quiet_on
                      simp only [Act.put, List.setIfInBounds_toArray, List.set_cons_zero, List.set_cons_succ]
                      go_big_quiet_want
                      refine q_val (.bool false) (fun w' hw' => by go_simp) ?_
                      go_big_quiet_on
                      simp only [Act.put, List.setIfInBounds_toArray, List.set_cons_zero, List.set_cons_succ]
                      refine wpQuiet_nil ?_
                      intro w4 c4
                      have B4 : Hid (Below wa.heap.size wa w4) := bl_next hb2.out c4
                      go_wp2_with fail
                      go_roundw
                      case rel => exact ⟨i + 1, by omega, by go_num, HA3, fun p hp h => absurd h (by have := HK2.out; omega), B4⟩
                      case measure => simp [intOf]; omega
                    · obtain ⟨q, hiq⟩ : ∃ q, i = q + 1 := ⟨i - 1, by omega⟩
                      have HJ2 : Hid (i = q + 1) := hiq
                      have hql : q < ms.length := by omega
                      obtain ⟨b', of', hb', _, hc'⟩ := (MX2.out.stays hb2.out) q hql
                      simp only [Option.some.injEq, Addr.mk.injEq] at hb'
                      obtain ⟨rfl, rfl, _⟩ := hb'
                      obtain ⟨z, hze⟩ : ∃ z, z = ms[q] := ⟨_, rfl⟩
                      have ZE : Hid (z = ms[q]) := hze
                      have HZ : Hid (wr.cell? ⟨b, of + q, none⟩ = some (.string z)) := by rw [hze]; exact hc'
                      have q0 : (0 : Int) ≤ (q : Int) := by omega
                      have q1 : (q : Int) < (ms.length : Int) := by omega
                      have hw2 : IntKind.i64.wrap ((i : Int) - 1) = (q : Int) := by rw [IntKind.wrap_i64]; omega
                      clear hze hc' hiq hi0
                      cases hq : tltB z x with
                      | false =>
                        have HV : Hid (tbB T = false) := HGN.out (mbB_lt (j := q) (by have := HJ2.out; omega) (by have hkj := HJ2.out; subst hkj; rw [← XE.out, ← ZE.out]; intro h; rw [tltB_iff.2 h] at hq; cases hq))
                        have hge2 : (!Op.bytesLess z.toList x.toList) = true := by rw [less_no (by intro h; rw [tltB_iff.2 h] at hq; cases hq)]; rfl
                        clear hq
                        go_wp2_with fail
                        refine quietC (C := fun w' => Below wr.heap.size wr w') (by kernel_rfl) (by kernel_rfl) (Below.refl _ _).drew ?_
                        go_big_quiet_want
                        refine q_val (.pointer (some ⟨gVB, 1, none⟩)) (fun w' hw' => by go_simp) ?_
                        go_big_quiet_on
                        simp only [Act.put, List.setIfInBounds_toArray, List.set_cons_zero, List.set_cons_succ]
                        go_big_quiet_want
                        refine q_val (.slice (some ⟨b, of, none⟩) ms.length sc) (fun w' hw' => by have r1 : w'.cell? ⟨gVB, 1, none⟩ = some (.slice (some ⟨b, of, none⟩) ms.length sc) := (VI.out.later hw').cell 1; go_simp) ?_
                        go_big_quiet_on
                        simp only [Act.put, List.setIfInBounds_toArray, List.set_cons_zero, List.set_cons_succ]
                        go_big_quiet_want
                        refine q_val (.int .i64 ((i : Int))) (fun w' hw' => by go_simp) ?_
                        go_big_quiet_on
                        simp only [Act.put, List.setIfInBounds_toArray, List.set_cons_zero, List.set_cons_succ]
                        go_big_quiet_want
                        refine q_val (.pointer (some ⟨b, of + i, none⟩)) (fun w' hw' => by go_simp) ?_
                        go_big_quiet_on
                        simp only [Act.put, List.setIfInBounds_toArray, List.set_cons_zero, List.set_cons_succ]
                        go_big_quiet_want
                        refine q_val (.string x) (fun w' hw' => by have c0 : w'.cell? ⟨b, of + i, none⟩ = some (.string x) := (hw'.cell (p := ⟨b, of + i, none⟩) hbl).trans HC.out; go_simp) ?_
                        go_big_quiet_on
                        simp only [Act.put, List.setIfInBounds_toArray, List.set_cons_zero, List.set_cons_succ]
                        go_big_quiet_want
                        refine q_callB (W := wr) (.bool true) 47 #[(.string x)] (fun w' hw' => by go_simp) (fun w' hw' => (spPriv_any x w').mono fun e w'' ⟨h1, h2⟩ => ⟨by rw [h1, HP.out], h2⟩) ?_
                        go_big_quiet_on
                        simp only [Act.put, List.setIfInBounds_toArray, List.set_cons_zero, List.set_cons_succ]
                        go_big_quiet_want
                        refine q_val (.bool false) (fun w' hw' => by go_simp) ?_
                        go_big_quiet_on
                        simp only [Act.put, List.setIfInBounds_toArray, List.set_cons_zero, List.set_cons_succ]
                        go_big_quiet_want
                        refine q_val (.bool false) (fun w' hw' => by go_simp) ?_
                        go_big_quiet_on
                        simp only [Act.put, List.setIfInBounds_toArray, List.set_cons_zero, List.set_cons_succ]
                        go_big_quiet_want
                        refine q_val (.int .i64 ((i : Int))) (fun w' hw' => by go_simp) ?_
                        go_big_quiet_on
                        simp only [Act.put, List.setIfInBounds_toArray, List.set_cons_zero, List.set_cons_succ]
                        go_big_quiet_want
                        refine q_val (.bool true) (fun w' hw' => by have hk0 : 0 < i := (by have := HJ2.out; omega); go_simp) ?_
                        go_big_quiet_on
                        simp only [Act.put, List.setIfInBounds_toArray, List.set_cons_zero, List.set_cons_succ]
                        go_big_quiet_want
                        refine q_val (.bool true) (fun w' hw' => by go_simp) ?_
                        go_big_quiet_on
                        simp only [Act.put, List.setIfInBounds_toArray, List.set_cons_zero, List.set_cons_succ]
                        go_big_quiet_want
                        refine q_val (.pointer (some ⟨gVB, 1, none⟩)) (fun w' hw' => by go_simp) ?_
                        go_big_quiet_on
                        simp only [Act.put, List.setIfInBounds_toArray, List.set_cons_zero, List.set_cons_succ]
                        go_big_quiet_want
                        refine q_val (.slice (some ⟨b, of, none⟩) ms.length sc) (fun w' hw' => by have r1 : w'.cell? ⟨gVB, 1, none⟩ = some (.slice (some ⟨b, of, none⟩) ms.length sc) := (VI.out.later hw').cell 1; go_simp) ?_
                        go_big_quiet_on
                        simp only [Act.put, List.setIfInBounds_toArray, List.set_cons_zero, List.set_cons_succ]
                        go_big_quiet_want
                        refine q_val (.int .i64 ((i : Int))) (fun w' hw' => by go_simp) ?_
                        go_big_quiet_on
                        simp only [Act.put, List.setIfInBounds_toArray, List.set_cons_zero, List.set_cons_succ]
                        go_big_quiet_want
                        refine q_val (.int .i64 ((q : Int))) (fun w' hw' => by go_simp) ?_
                        go_big_quiet_on
                        simp only [Act.put, List.setIfInBounds_toArray, List.set_cons_zero, List.set_cons_succ]
                        go_big_quiet_want
                        refine q_val (.pointer (some ⟨b, of + q, none⟩)) (fun w' hw' => by go_simp) ?_
                        go_big_quiet_on
                        simp only [Act.put, List.setIfInBounds_toArray, List.set_cons_zero, List.set_cons_succ]
                        go_big_quiet_want
                        refine q_val (.string z) (fun w' hw' => by have c0 : w'.cell? ⟨b, of + q, none⟩ = some (.string z) := (hw'.cell (p := ⟨b, of + q, none⟩) hbl).trans HZ.out; go_simp) ?_
                        go_big_quiet_on
                        simp only [Act.put, List.setIfInBounds_toArray, List.set_cons_zero, List.set_cons_succ]
                        go_big_quiet_want
                        refine q_val (.pointer (some ⟨gVB, 1, none⟩)) (fun w' hw' => by go_simp) ?_
                        go_big_quiet_on
                        simp only [Act.put, List.setIfInBounds_toArray, List.set_cons_zero, List.set_cons_succ]
                        go_big_quiet_want
                        refine q_val (.slice (some ⟨b, of, none⟩) ms.length sc) (fun w' hw' => by have r1 : w'.cell? ⟨gVB, 1, none⟩ = some (.slice (some ⟨b, of, none⟩) ms.length sc) := (VI.out.later hw').cell 1; go_simp) ?_
                        go_big_quiet_on
                        simp only [Act.put, List.setIfInBounds_toArray, List.set_cons_zero, List.set_cons_succ]
                        go_big_quiet_want
                        refine q_val (.int .i64 ((i : Int))) (fun w' hw' => by go_simp) ?_
                        go_big_quiet_on
                        simp only [Act.put, List.setIfInBounds_toArray, List.set_cons_zero, List.set_cons_succ]
                        go_big_quiet_want
                        refine q_val (.pointer (some ⟨b, of + i, none⟩)) (fun w' hw' => by go_simp) ?_
                        go_big_quiet_on
                        simp only [Act.put, List.setIfInBounds_toArray, List.set_cons_zero, List.set_cons_succ]
                        go_big_quiet_want
                        refine q_val (.string x) (fun w' hw' => by have c0 : w'.cell? ⟨b, of + i, none⟩ = some (.string x) := (hw'.cell (p := ⟨b, of + i, none⟩) hbl).trans HC.out; go_simp) ?_
                        go_big_quiet_on
                        simp only [Act.put, List.setIfInBounds_toArray, List.set_cons_zero, List.set_cons_succ]
                        go_big_quiet_want
                        refine q_val (.bool true) (fun w' hw' => by go_simp) ?_
                        go_big_quiet_on
                        simp only [Act.put, List.setIfInBounds_toArray, List.set_cons_zero, List.set_cons_succ]
                        go_big_quiet_want
                        refine q_val (.bool true) (fun w' hw' => by go_simp) ?_
                        go_big_quiet_on
                        simp only [Act.put, List.setIfInBounds_toArray, List.set_cons_zero, List.set_cons_succ]
                        go_big_quiet_want
                        refine q_val (.bool true) (fun w' hw' => by go_simp) ?_
                        go_big_quiet_on
                        simp only [Act.put, List.setIfInBounds_toArray, List.set_cons_zero, List.set_cons_succ]
                        refine wpQuiet_nil ?_
                        intro w4 c4
                        go_wp2_with fail
                        go_ret
                        exact ⟨by rw [HV.out]; rfl, bl_next BW.out (bl_next B2.out (bl_next hb2.out c4))⟩
                      | true =>
                        have LT2 : Hid (Tlt z x) := tltB_iff.1 hq
                        have hge2 : (!Op.bytesLess z.toList x.toList) = false := by rw [less_yes LT2.out]; rfl
                        clear hq
                        go_wp2_with fail
                        refine quietC (C := fun w' => Below wr.heap.size wr w') (by kernel_rfl) (by kernel_rfl) (Below.refl _ _).drew ?_
                        go_big_quiet_want
                        refine q_val (.pointer (some ⟨gVB, 1, none⟩)) (fun w' hw' => by go_simp) ?_
                        go_big_quiet_on
                        simp only [Act.put, List.setIfInBounds_toArray, List.set_cons_zero, List.set_cons_succ]
                        go_big_quiet_want
                        refine q_val (.slice (some ⟨b, of, none⟩) ms.length sc) (fun w' hw' => by have r1 : w'.cell? ⟨gVB, 1, none⟩ = some (.slice (some ⟨b, of, none⟩) ms.length sc) := (VI.out.later hw').cell 1; go_simp) ?_
                        go_big_quiet_on
                        simp only [Act.put, List.setIfInBounds_toArray, List.set_cons_zero, List.set_cons_succ]
                        go_big_quiet_want
                        refine q_val (.int .i64 ((i : Int))) (fun w' hw' => by go_simp) ?_
                        go_big_quiet_on
                        simp only [Act.put, List.setIfInBounds_toArray, List.set_cons_zero, List.set_cons_succ]
                        go_big_quiet_want
                        refine q_val (.pointer (some ⟨b, of + i, none⟩)) (fun w' hw' => by go_simp) ?_
                        go_big_quiet_on
                        simp only [Act.put, List.setIfInBounds_toArray, List.set_cons_zero, List.set_cons_succ]
                        go_big_quiet_want
                        refine q_val (.string x) (fun w' hw' => by have c0 : w'.cell? ⟨b, of + i, none⟩ = some (.string x) := (hw'.cell (p := ⟨b, of + i, none⟩) hbl).trans HC.out; go_simp) ?_
                        go_big_quiet_on
                        simp only [Act.put, List.setIfInBounds_toArray, List.set_cons_zero, List.set_cons_succ]
                        go_big_quiet_want
                        refine q_callB (W := wr) (.bool true) 47 #[(.string x)] (fun w' hw' => by go_simp) (fun w' hw' => (spPriv_any x w').mono fun e w'' ⟨h1, h2⟩ => ⟨by rw [h1, HP.out], h2⟩) ?_
                        go_big_quiet_on
                        simp only [Act.put, List.setIfInBounds_toArray, List.set_cons_zero, List.set_cons_succ]
                        go_big_quiet_want
                        refine q_val (.bool false) (fun w' hw' => by go_simp) ?_
                        go_big_quiet_on
                        simp only [Act.put, List.setIfInBounds_toArray, List.set_cons_zero, List.set_cons_succ]
                        go_big_quiet_want
                        refine q_val (.bool false) (fun w' hw' => by go_simp) ?_
                        go_big_quiet_on
                        simp only [Act.put, List.setIfInBounds_toArray, List.set_cons_zero, List.set_cons_succ]
                        go_big_quiet_want
                        refine q_val (.int .i64 ((i : Int))) (fun w' hw' => by go_simp) ?_
                        go_big_quiet_on
                        simp only [Act.put, List.setIfInBounds_toArray, List.set_cons_zero, List.set_cons_succ]
                        go_big_quiet_want
                        refine q_val (.bool true) (fun w' hw' => by have hk0 : 0 < i := (by have := HJ2.out; omega); go_simp) ?_
                        go_big_quiet_on
                        simp only [Act.put, List.setIfInBounds_toArray, List.set_cons_zero, List.set_cons_succ]
                        go_big_quiet_want
                        refine q_val (.bool true) (fun w' hw' => by go_simp) ?_
                        go_big_quiet_on
                        simp only [Act.put, List.setIfInBounds_toArray, List.set_cons_zero, List.set_cons_succ]
                        go_big_quiet_want
                        refine q_val (.pointer (some ⟨gVB, 1, none⟩)) (fun w' hw' => by go_simp) ?_
                        go_big_quiet_on
                        simp only [Act.put, List.setIfInBounds_toArray, List.set_cons_zero, List.set_cons_succ]
                        go_big_quiet_want
                        refine q_val (.slice (some ⟨b, of, none⟩) ms.length sc) (fun w' hw' => by have r1 : w'.cell? ⟨gVB, 1, none⟩ = some (.slice (some ⟨b, of, none⟩) ms.length sc) := (VI.out.later hw').cell 1; go_simp) ?_
                        go_big_quiet_on
                        simp only [Act.put, List.setIfInBounds_toArray, List.set_cons_zero, List.set_cons_succ]
                        go_big_quiet_want
                        refine q_val (.int .i64 ((i : Int))) (fun w' hw' => by go_simp) ?_
                        go_big_quiet_on
                        simp only [Act.put, List.setIfInBounds_toArray, List.set_cons_zero, List.set_cons_succ]
                        go_big_quiet_want
                        refine q_val (.int .i64 ((q : Int))) (fun w' hw' => by go_simp) ?_
                        go_big_quiet_on
                        simp only [Act.put, List.setIfInBounds_toArray, List.set_cons_zero, List.set_cons_succ]
                        go_big_quiet_want
                        refine q_val (.pointer (some ⟨b, of + q, none⟩)) (fun w' hw' => by go_simp) ?_
                        go_big_quiet_on
                        simp only [Act.put, List.setIfInBounds_toArray, List.set_cons_zero, List.set_cons_succ]
                        go_big_quiet_want
                        refine q_val (.string z) (fun w' hw' => by have c0 : w'.cell? ⟨b, of + q, none⟩ = some (.string z) := (hw'.cell (p := ⟨b, of + q, none⟩) hbl).trans HZ.out; go_simp) ?_
                        go_big_quiet_on
                        simp only [Act.put, List.setIfInBounds_toArray, List.set_cons_zero, List.set_cons_succ]
                        go_big_quiet_want
                        refine q_val (.pointer (some ⟨gVB, 1, none⟩)) (fun w' hw' => by go_simp) ?_
                        go_big_quiet_on
                        simp only [Act.put, List.setIfInBounds_toArray, List.set_cons_zero, List.set_cons_succ]
                        go_big_quiet_want
                        refine q_val (.slice (some ⟨b, of, none⟩) ms.length sc) (fun w' hw' => by have r1 : w'.cell? ⟨gVB, 1, none⟩ = some (.slice (some ⟨b, of, none⟩) ms.length sc) := (VI.out.later hw').cell 1; go_simp) ?_
                        go_big_quiet_on
                        simp only [Act.put, List.setIfInBounds_toArray, List.set_cons_zero, List.set_cons_succ]
                        go_big_quiet_want
                        refine q_val (.int .i64 ((i : Int))) (fun w' hw' => by go_simp) ?_
                        go_big_quiet_on
                        simp only [Act.put, List.setIfInBounds_toArray, List.set_cons_zero, List.set_cons_succ]
                        go_big_quiet_want
                        refine q_val (.pointer (some ⟨b, of + i, none⟩)) (fun w' hw' => by go_simp) ?_
                        go_big_quiet_on
                        simp only [Act.put, List.setIfInBounds_toArray, List.set_cons_zero, List.set_cons_succ]
                        go_big_quiet_want
                        refine q_val (.string x) (fun w' hw' => by have c0 : w'.cell? ⟨b, of + i, none⟩ = some (.string x) := (hw'.cell (p := ⟨b, of + i, none⟩) hbl).trans HC.out; go_simp) ?_
                        go_big_quiet_on
                        simp only [Act.put, List.setIfInBounds_toArray, List.set_cons_zero, List.set_cons_succ]
                        go_big_quiet_want
                        refine q_val (.bool false) (fun w' hw' => by go_simp) ?_
                        go_big_quiet_on
                        simp only [Act.put, List.setIfInBounds_toArray, List.set_cons_zero, List.set_cons_succ]
                        go_big_quiet_want
                        refine q_val (.bool false) (fun w' hw' => by go_simp) ?_
                        go_big_quiet_on
                        simp only [Act.put, List.setIfInBounds_toArray, List.set_cons_zero, List.set_cons_succ]
                        go_big_quiet_want
                        refine q_val (.bool false) (fun w' hw' => by go_simp) ?_
                        go_big_quiet_on
                        simp only [Act.put, List.setIfInBounds_toArray, List.set_cons_zero, List.set_cons_succ]
                        refine wpQuiet_nil ?_
                        intro w4 c4
                        have B4 : Hid (Below wa.heap.size wa w4) := bl_next hb2.out c4
                        go_wp2_with fail
                        go_roundw
                        case rel =>
                          refine ⟨i + 1, by omega, by go_num, HA3, fun p hp h => ?_, B4⟩
                          have hkj := HJ2.out
                          by_cases e : p = q
                          · subst e; subst hkj; rw [← XE.out, ← ZE.out]; exact LT2.out
                          · exact HT2.out p hp (by omega)
                        case measure => simp [intOf]; omega
                · have HM : Hid (mbB ms = true) := mbB_yes (fun p hp => HA2.out p hp (by omega)) (fun p hp => HT2.out p hp (by omega))
                  have B4 : Hid (Below W.heap.size W wr) := bl_next B2.out hb2.out
                  have d1 := VI.out.cell 1
                  simp only [List.getElem?_cons_succ, List.getElem?_cons_zero] at d1
                  go_wp2_with fail
                  go_roundw
                  case rel => exact ⟨k + 1, by omega, by go_num, HG.out HM.out, HB1, B4⟩
                  case measure => simp [intOf]; omega
    · have HV : Hid (tbB T = true) := tbB_yes (by have := HTn.out; omega) (fun j hj => HA.out j hj (by have := HTn.out; omega)) (fun j hj => HB.out j hj (by have := HTn.out; omega))
      have LA : Hid (Bx wr w.heap.size 49 [.slice a n c]) := LA.out.later hb.out
      have c0 := LA.out.cell 0
      simp only [List.getElem?_cons_zero] at c0
      go_wp2_with fail
      go_ret
      exact ⟨by rw [HV.out]; rfl, bl_next BW.out hb.out⟩
end Go.Proofs.YtmbjflhhffcjdaaDoor


/- The law on TableOk, over a contract of the program's. Written by gen_ltb.py. -/
namespace Go.Proofs.YtmbjflhhffcjdaaDoor
open Go.RowKit Pl
set_option linter.unusedVariables false
set_option linter.unusedSimpArgs false

theorem Tryd.sizeLTb : (Tryd.prog.info? 44).map (·.size) = some 1 := by kernel_rfl
theorem Gns.same_M {es fs : List Gn} (h : es.map Gn.pl = fs.map Gn.pl) (hs : ∀ e ∈ fs, e.S) : ∀ e ∈ es, e.M := fun e he => (Gns.same_S h hs e he).m
set_option maxRecDepth 100000 in
set_option maxHeartbeats 32000000 in
theorem lawTableOk (s : Sv) (es : List Gn) (w : World) (h0 : Hid (GnsR w s es)) (hle : es.length ≤ 9223372036854775807) (hL : Hid (∀ e ∈ es, e.L))
    (IMP : Hid (∀ (u : Sv) (cs : List Gn) (B : Nat) (W : World), Hid (GnsO W B u cs) → Hid (cs.length ≤ 1048576) → Hid (∀ e ∈ cs, e.S) → Calls Tryd.prog 27 #[.agg #[.slice u.a u.n u.c]] W fun e w' => e = .returned (.bool (tbB (cs.map Gn.pl))) ∧ Below W.heap.size W w')) :
    Calls Tryd.prog 7 #[.agg #[.slice s.a s.n s.c]] w fun e w' => e = .returned (.bool true) ∧ Below w.heap.size w w' := by
  have LA : Hid (Bx (w.alloc (.cells #[.slice s.a s.n s.c] 44)) w.heap.size 44 [.slice s.a s.n s.c]) := by
    have h := Bx.new w 44 [.slice s.a s.n s.c]
    exact h
  have BW : Hid (Below w.heap.size w (w.alloc (.cells #[.slice s.a s.n s.c] 44))) := ((Below.refl _ _).alloc (by simp) _)
  have HR : Hid (GnsR (w.alloc (.cells #[.slice s.a s.n s.c] 44)) s es) := h0.out.stays BW.out
  obtain ⟨R, hR0⟩ : ∃ R, tbB (es.map Gn.pl) = R := ⟨_, rfl⟩
  have HD : Hid (tbB (es.map Gn.pl) = R) := hR0
  clear hR0
  have dOK : (R != R) = false := by simp
  go_enter Tryd.func7, Tryd.ntmps7
  go_wp2_with (first | (refine wpList_ldG rfl 44 _ rfl w.heap.size 0 rfl 44 _ LA.out [.slice s.a s.n s.c] rfl _ Tryd.underlying44 rfl Tryd.sizeLTb ?_))
  generalize (w.alloc (.cells #[.slice s.a s.n s.c] 44)) = W0 at *
  refine (szTable_any s es 1048576 _ HR (by omega) hle hL).mono ?_
  rintro e w1 ⟨rfl | ⟨z1, rfl, hz1⟩, b⟩
  · go_wp2_with fail
    go_ret
    exact ⟨rfl, bl_next BW.out b⟩
  have hd1 : decide ((z1 : Int) < 0) = false := by simp
  obtain ⟨hN, hS0⟩ := Gns.small hz1.out (by omega)
  have HN : Hid (es.length ≤ 1048576) := hN
  have HS : Hid (∀ e ∈ es, e.S) := hS0
  have LA : Hid (Bx w1 w.heap.size 44 [.slice s.a s.n s.c]) := LA.out.later b
  have BW : Hid (Below w.heap.size w w1) := bl_next BW.out b
  have HR : Hid (GnsR w1 s es) := HR.out.stays b
  clear b hz1 hS0
  go_wp2_with (first | (refine wpList_ldG rfl 44 _ rfl w.heap.size 0 rfl 44 _ LA.out [.slice s.a s.n s.c] rfl _ Tryd.underlying44 rfl Tryd.sizeLTb ?_))
  clear hd1
  refine (toTable_any s es _ HR hN HS).mono ?_
  rintro e w2 ⟨u2, c2, rfl, e2, o2, _, b⟩
  have O2 : Hid (GnsO w2 w1.heap.size u2 c2) := o2
  have E2 : Hid (c2.map Gn.pl = es.map Gn.pl) := e2
  clear o2 e2
  have z_w2 : w1.heap.size ≤ w2.heap.size := b.size
  have LA : Hid (Bx w2 w.heap.size 44 [.slice s.a s.n s.c]) := LA.out.later b
  have BW : Hid (Below w.heap.size w w2) := bl_next BW.out b
  have HR : Hid (GnsR w2 s es) := HR.out.stays b
  clear b
  go_wp2_with fail
  refine (spTableOk_any u2 c2 _ (show Hid (GnsR _ u2 c2) from O2.out.r) (by rw [Gns.same_len E2.out]; exact hN) (show Hid (∀ e ∈ c2, e.M) from Gns.same_M E2.out HS.out)).mono ?_
  rintro e w3 ⟨rfl, b⟩
  have z_w3 : w2.heap.size ≤ w3.heap.size := b.size
  have LA : Hid (Bx w3 w.heap.size 44 [.slice s.a s.n s.c]) := LA.out.later b
  have BW : Hid (Below w.heap.size w w3) := bl_next BW.out b
  have HR : Hid (GnsR w3 s es) := HR.out.stays b
  clear b
  simp only [E2.out, HD.out]
  clear O2 E2
  go_wp2_with (first | (refine wpList_ldG rfl 44 _ rfl w.heap.size 0 rfl 44 _ LA.out [.slice s.a s.n s.c] rfl _ Tryd.underlying44 rfl Tryd.sizeLTb ?_))
  refine (toTable_any s es _ HR hN HS).mono ?_
  rintro e w4 ⟨ux, cx, rfl, ex, ox, _, b⟩
  have XO : Hid (GnsO w4 w3.heap.size ux cx) := ox
  have EX : Hid (cx.map Gn.pl = es.map Gn.pl) := ex
  have NX : cx.length ≤ 1048576 := by rw [Gns.same_len ex]; exact hN
  have SX : Hid (∀ e ∈ cx, e.S) := Gns.same_S ex HS.out
  clear ox ex
  have z_w4 : w3.heap.size ≤ w4.heap.size := b.size
  have LA : Hid (Bx w4 w.heap.size 44 [.slice s.a s.n s.c]) := LA.out.later b
  have BW : Hid (Below w.heap.size w w4) := bl_next BW.out b
  have HR : Hid (GnsR w4 s es) := HR.out.stays b
  clear b
  have XB : Hid (Bx (w4.alloc (.cells #[.slice ux.a ux.n ux.c] 49)) w4.heap.size 49 [.slice ux.a ux.n ux.c]) := Bx.new w4 49 _
  have b : Below w4.heap.size w4 (w4.alloc (.cells #[.slice ux.a ux.n ux.c] 49)) := (Below.refl _ _).alloc (Nat.le_refl _) _
  have LA5 : Hid (Bx (w4.alloc (.cells #[.slice ux.a ux.n ux.c] 49)) w.heap.size 44 [.slice s.a s.n s.c]) := LA.out.later b
  have BW5 : Hid (Below w.heap.size w (w4.alloc (.cells #[.slice ux.a ux.n ux.c] 49))) := bl_next BW.out b
  have HR5 : Hid (GnsR (w4.alloc (.cells #[.slice ux.a ux.n ux.c] 49)) s es) := HR.out.stays b
  have XO5 : Hid (GnsO (w4.alloc (.cells #[.slice ux.a ux.n ux.c] 49)) w3.heap.size ux cx) := XO.out.below b
  have zl : w3.heap.size ≤ w4.heap.size := z_w4
  clear b LA BW HR XO
  go_wp2_with (first | (refine wpList_ldG rfl 49 _ rfl w4.heap.size 0 rfl 49 _ XB.out [.slice ux.a ux.n ux.c] rfl _ Tryd.underlying49 rfl Tryd.sizeTb ?_))
  generalize (w4.alloc (.cells #[.slice ux.a ux.n ux.c] 49)) = WX at *
  generalize hg_XB : w4.heap.size = gXB at *
  have LA := LA5
  have BW := BW5
  have HR := HR5
  have XO := XO5
  clear LA5 BW5 HR5 XO5
  refine (IMP.out ux cx _ WX XO NX SX).mono ?_
  rintro e w6 ⟨rfl, b⟩
  have z_w6 : WX.heap.size ≤ w6.heap.size := b.size
  have LA : Hid (Bx w6 w.heap.size 44 [.slice s.a s.n s.c]) := LA.out.later b
  have BW : Hid (Below w.heap.size w w6) := bl_next BW.out b
  have HR : Hid (GnsR w6 s es) := HR.out.stays b
  have XO : Hid (GnsO w6 w3.heap.size ux cx) := XO.out.below b
  have XB : Hid (Bx w6 gXB 49 [.slice ux.a ux.n ux.c]) := XB.out.later b
  clear b
  simp only [EX.out, HD.out]
  go_wp2_with fail
  have c : Below w6.heap.size w6 w6.drew := (Below.refl _ _).drew
  refine wp_region_held_drew (S := fun w' => Below w6.heap.size w6 w') (by kernel_rfl) c (fun hHeld => ?_)
  refine wpAnyH_take (i := 0) (v := _) rfl (by kernel_rfl) (by kernel_rfl) (by kernel_rfl) (fun _ _ _ h => h) (ld_yield (by rfl) 49 _ rfl gXB 0 rfl 49 _ (fun w hS => XB.out.later hS) [.slice ux.a ux.n ux.c] rfl _ Tryd.underlying49 rfl Tryd.sizeTb) (by assumption) ?_
  try simp only [Act.put, List.getElem_toArray, List.getElem_cons_zero, List.getElem_cons_succ, List.setIfInBounds_toArray, List.set_cons_zero, List.set_cons_succ]
  refine wpAnyH_take (i := 1) (v := _) rfl (by kernel_rfl) (by kernel_rfl) (by kernel_rfl) (fun _ _ _ h => h) (ld_yield (by rfl) 44 _ rfl w.heap.size 0 rfl 44 _ (fun w hS => LA.out.later hS) [.slice s.a s.n s.c] rfl _ Tryd.underlying44 rfl Tryd.sizeLTb) (by assumption) ?_
  try simp only [Act.put, List.getElem_toArray, List.getElem_cons_zero, List.getElem_cons_succ, List.setIfInBounds_toArray, List.set_cons_zero, List.set_cons_succ]
  refine wpAnyH_ready (rs := [2]) (by kernel_rfl) (by simp) ?_
  refine AllReadyH.cons (i := 2) rfl (fun K hK => ?_) AllReadyH.nil
  rw [if_pos (by rfl)]
  simp only [List.getElem_toArray, List.getElem_cons_zero, List.getElem_cons_succ]
  go_simp
  refine (toTable_any s es _ (show Hid (GnsR w6.drew s es) from HR.out.stays c) hN HS).mono ?_
  rintro e y1 ⟨ut, ct, rfl, et, ot, _, b1⟩
  have OT : Hid (GnsO y1 _ ut ct) := ot
  have ET : Hid (cx.map Gn.pl = ct.map Gn.pl) := EX.out.trans et.symm
  have c : Below w6.heap.size w6 y1 := bl_next c b1
  refine hK.out _ _ (c) (fun hHeld => ?_)
  clear hK K
  try simp only [Act.put, List.getElem_toArray, List.getElem_cons_zero, List.getElem_cons_succ, List.setIfInBounds_toArray, List.set_cons_zero, List.set_cons_succ]
  clear ot et b1
  refine wpAnyH_ready (rs := [3]) (by kernel_rfl) (by simp) ?_
  refine AllReadyH.cons (i := 3) rfl (fun K hK => ?_) AllReadyH.nil
  rw [if_pos (by rfl)]
  simp only [List.getElem_toArray, List.getElem_cons_zero, List.getElem_cons_succ]
  go_simp
  refine (eqTable_any ux ut cx ct _ _ _ (show Hid (GnsO y1 w3.heap.size ux cx) from XO.out.below c) OT ET NX SX).mono ?_
  rintro e v2 ⟨rfl, b1⟩
  have c : Below w6.heap.size w6 v2 := bl_next c b1
  refine hK.out _ _ (c) (fun hHeld => ?_)
  clear hK K
  try simp only [Act.put, List.getElem_toArray, List.getElem_cons_zero, List.getElem_cons_succ, List.setIfInBounds_toArray, List.set_cons_zero, List.set_cons_succ]
  clear b1
  refine wpAnyH_take (i := 4) (v := ?v4b3) rfl (by kernel_rfl) (by kernel_rfl) (by kernel_rfl) (fun _ _ _ h => h) (Or.inl ⟨by rfl, ?hy4b3⟩) (by assumption) ?_
  case hy4b3 => (intro w hSw; (try dsimp only at hSw); simp only [List.getElem_toArray, List.getElem_cons_zero, List.getElem_cons_succ]; go_simp; try with_reducible rfl)
  try simp only [Act.put, List.getElem_toArray, List.getElem_cons_zero, List.getElem_cons_succ, List.setIfInBounds_toArray, List.set_cons_zero, List.set_cons_succ]
  refine wpAnyH_done (by kernel_rfl) ?_ _
  have BW : Hid (Below w.heap.size w v2) := bl_next BW.out c
  clear c hHeld OT ET
  go_wp2_with fail
  go_ret
  exact ⟨rfl, BW.out⟩
end Go.Proofs.YtmbjflhhffcjdaaDoor


/- The specification's MembersOf, l17Without, l03Has. -/
namespace Go.Proofs.YtmbjflhhffcjdaaDoor
open Go.RowKit Pl
set_option linter.unusedVariables false
set_option linter.unusedSimpArgs false

theorem OwnS.svs {w : World} {B : Nat} {v : Value} {ss : List ByteArray} (h : OwnS w B v ss) : ∃ u : Sv, v = .slice u.a u.n u.c := by
  obtain ⟨ao, cap, rfl⟩ := OwnS.form h
  exact ⟨⟨ao, ss.length, cap⟩, rfl⟩
end Go.Proofs.YtmbjflhhffcjdaaDoor


/- The program's TableOk. Written by gen_ivc.py. -/
namespace Go.Proofs.YtmbjflhhffcjdaaDoor
open Go.RowKit Pl
set_option linter.unusedVariables false
set_option linter.unusedSimpArgs false

/-- a group that is right but for its name. -/
def mgB (g : ByteArray × List ByteArray) : Bool := decide (1 ≤ (g.2.length : Int) ∧ (g.2.length : Int) ≤ 8) && mbB g.2
abbrev names (t : Tb) : List ByteArray := t.map (·.1)
theorem tbB_split (t : Tb) : tbB t = (decide (t.length ≤ 6) && (t.all mgB && namesB (names t))) := by
  have e : ∀ l : Tb, l.all grB = (l.all mgB && (names l).all nmB) := fun l => by
    induction l with
    | nil => rfl
    | cons a l ih =>
      rw [List.all_cons, ih, List.all_cons]
      show (grB a && (l.all mgB && (names l).all nmB)) = (mgB a && l.all mgB && (nmB a.1 && (names l).all nmB))
      unfold grB mgB
      cases nmB a.1 <;> cases (decide (1 ≤ (a.2.length : Int) ∧ (a.2.length : Int) ≤ 8) && mbB a.2) <;> simp
  unfold tbB namesB
  rw [e]
  cases t.all mgB <;> simp
theorem tbB_big {t : Tb} (h : 6 < t.length) : tbB t = false := by rw [tbB_split, decide_eq_false (by omega)]; rfl
theorem tbB_mg {t : Tb} {k : Nat} (hk : k < t.length) (h : mgB t[k] = false) : tbB t = false := by
  rw [tbB_split, show t.all mgB = false from List.all_eq_false.2 ⟨_, List.getElem_mem hk, by simp [h]⟩]; simp
theorem tbB_all {t : Tb} (h0 : t.length ≤ 6) (h : ∀ j (hj : j < t.length), mgB t[j] = true) : tbB t = namesB (names t) := by
  rw [tbB_split, decide_eq_true h0, show t.all mgB = true from List.all_eq_true.2 fun x hx => by obtain ⟨j, hj, rfl⟩ := List.getElem_of_mem hx; exact h j hj]
  rfl
theorem names_take {t : Tb} {k : Nat} (hk : k < t.length) : names (t.take (k + 1)) = names (t.take k) ++ [t[k].1] := by
  unfold names
  rw [List.take_succ_eq_append_getElem hk, List.map_append]; rfl
set_option maxRecDepth 100000 in
set_option maxHeartbeats 16000000 in
theorem tableOk_any (s : Sv) (es : List Gn) (w : World) (hx : Hid (GnsR w s es)) (hl : es.length ≤ 1048576) (hs : Hid (∀ e ∈ es, e.S)) :
    Calls Tryd.prog 27 #[.agg #[.slice s.a s.n s.c]] w fun e w' => e = .returned (.bool (tbB (es.map Gn.pl))) ∧ Below w.heap.size w w' := by
  obtain ⟨a, n, c⟩ := s
  dsimp only
  have HN : Hid (n = es.length) := hx.out.1
  have hn : n ≤ 1048576 := by have := HN.out; omega
  have LA : Hid (Bx (w.alloc (.cells #[.slice a n c] 49)) w.heap.size 49 [.slice a n c]) := by
    have h := Bx.new w 49 [.slice a n c]
    exact h
  have BW0 : Hid (Below w.heap.size w (w.alloc (.cells #[.slice a n c] 49))) := ((Below.refl _ _).alloc (by simp) _)
  obtain ⟨T, hT⟩ : ∃ T, es.map Gn.pl = T := ⟨_, rfl⟩
  have HT : Hid (es.map Gn.pl = T) := hT
  have HTn : Hid (T.length = n) := (by rw [← hT, List.length_map]; exact HN.out.symm : T.length = n)
  rw [hT]
  clear hl hT
  have c0 := LA.out.cell 0
  simp only [List.getElem?_cons_zero] at c0
  by_cases h6 : n ≤ 6
  case neg =>
    have HV : Hid (tbB T = false) := tbB_big (by have := HTn.out; omega)
    have hd : 6 < n := by omega
    clear h6
    go_enter Tryd.func27, Tryd.ntmps27
    go_wp2_with fail
    go_ret
    exact ⟨by rw [HV.out]; rfl, BW0.out⟩
  have hd : ¬ 6 < n := by omega
  have c0b : ((w.alloc (.cells #[.slice a n c] 49)).alloc (.cells #[] 9)).cell? ⟨w.heap.size, 0, none⟩ = some (.slice a n c) := (LA.out.later ((Below.refl _ _).alloc (Nat.le_refl _) _)).cell 0
  go_enter Tryd.func27, Tryd.ntmps27
  go_wp2_with fail
  have BW1 : Hid (Below w.heap.size w ((w.alloc (.cells #[.slice a n c] 49)).alloc (.cells #[] 9))) := BW0.out.alloc (by simp) _
  have OW1 : Hid (OwnS ((w.alloc (.cells #[.slice a n c] 49)).alloc (.cells #[] 9)) w.heap.size (.slice (some ⟨(w.alloc (.cells #[.slice a n c] 49)).heap.size, 0, none⟩) 0 0) []) := OwnS.made _ _ (by simp)
  have hW : (w.alloc (.cells #[.slice a n c] 49)).heap.size = w.heap.size + 1 := by simp
  rw [hW] at OW1
  generalize (w.alloc (.cells #[.slice a n c] 49)) = W at *
  clear c0 c0b LA hd
  go_loopw [3, 14] (fun u3 kk wr => ∃ k : Nat, k ≤ n ∧ kk = .int .i64 k ∧ Hid (Below w.heap.size w wr) ∧ Hid (OwnS wr w.heap.size u3 (names (T.take k))) ∧ Hid (∀ j (hj : j < T.length), j < k → mgB T[j] = true)) (fun _ kk _ => n - (intOf kk).toNat)
  case atStart => exact ⟨0, Nat.zero_le _, rfl, BW1, OW1, fun j hj h => absurd h (by omega)⟩
  case round =>
    obtain ⟨k, hk, rfl, BW, HO, HA⟩ := hrel
    have zB : w.heap.size ≤ wr.heap.size := BW.out.size
    by_cases hlt : k < n
    · have hlt2 : k < es.length := by have := HN.out; omega
      have hltT : k < T.length := by have := HTn.out; omega
      obtain ⟨g, off, ha, hg, _, hr⟩ := (hx.out.stays BW.out).2.1 k (by simpa using hlt2)
      obtain ⟨e, he⟩ : ∃ e, e = es[k] := ⟨_, rfl⟩
      have hr2 : wr.rangeAt g (off + k * 2) e.row := by rw [he]; simpa using hr
      have RR : Hid (e.R wr) := by rw [he]; exact (hx.out.stays BW.out).2.2 _ (List.getElem_mem hlt2)
      have SS : Hid e.S := by rw [he]; exact hs.out _ (List.getElem_mem hlt2)
      have TE : Hid (T[k] = e.pl) := (by simp only [← HT.out, List.getElem_map, he] : T[k] = e.pl)
      obtain ⟨nm, ms, sv⟩ := e
      have hms : Hid (ms.length ≤ 1048576) := SS.out.m
      have hmz : Hid (∀ x ∈ ms, x.size ≤ 1048576) := fun x h => Nat.le_trans (sumS_mem h) SS.out.2
      have RR : Hid (RT wr sv.v ms) := RR.out
      have hlm : Hid (sv.n = ms.length) := RT.len RR.out
      have HR : Hid (wr.rangeAt g (off + k * 2) [.string nm, .slice sv.a sv.n sv.c]) := hr2
      have ha : a = some ⟨g, off, none⟩ := ha
      subst ha
      have i0 : (0 : Int) ≤ (k : Int) := by omega
      have i1 : (k : Int) < (n : Int) := by omega
      have hz : Hid (Bx (wr.alloc (.cells #[.string ⟨#[]⟩, .slice none 0 0] 86)) wr.heap.size 86 [.string ⟨#[]⟩, .slice none 0 0]) := Bx.new wr 86 _
      clear hr hr2 he hg
      go_wp2_with (first | (refine wpList_ldN rfl 86 _ rfl g (off + k * 2) (by rfl) [.string nm, .slice sv.a sv.n sv.c] HR.out _ Tryd.underlying86 rfl Tryd.sizeGn ?_) | (refine wpList_stB rfl 86 _ _ rfl wr.heap.size 0 rfl 86 _ hz.out [.string nm, .slice sv.a sv.n sv.c] rfl (by simp) Tryd.sizeGn rfl [.string nm, .slice sv.a sv.n sv.c] rfl ?_; intro v1 OB TB; have b : Below wr.heap.size wr v1 := ((Below.refl _ _).alloc (Nat.le_refl _) _).trans (TB.below (Nat.le_refl _)); have VB : Hid (Bx v1 wr.heap.size 86 [.string nm, .slice sv.a sv.n sv.c]) := OB; have BW : Hid (Below w.heap.size w v1) := BW.out.trans (b.mono BW.out.size); have HO : Hid (OwnS v1 w.heap.size u3 (names (T.take k))) := OwnS.keep' HO.out (fun y _ hy => Below.block b y hy); have RR : Hid (RT v1 sv.v ms) := RR.out.stays b; clear OB TB b; refine Stp.here ?_))
      refine Stp.go ?_
      clear hz HR
      have zg : w.heap.size ≤ wr.heap.size := zB
      generalize hg_VB : wr.heap.size = gVB at *
      have c1 := VB.out.cell 1
      simp only [List.getElem?_cons_succ, List.getElem?_cons_zero] at c1
      go_wp2_with fail
      refine (within_b (sv.n : Int) 1 8 _).mono ?_
      rintro e w2 ⟨rfl, b⟩
      have VB : Hid (Bx w2 gVB 86 [.string nm, .slice sv.a sv.n sv.c]) := VB.out.later b
      have RR : Hid (RT w2 sv.v ms) := RR.out.stays b
      have BW : Hid (Below w.heap.size w w2) := bl_next BW.out b
      have HO : Hid (OwnS w2 w.heap.size u3 (names (T.take k))) := OwnS.keep' HO.out (fun y _ hy => Below.block b y hy)
      clear b c1
      cases h1 : decide (1 ≤ (sv.n : Int) ∧ (sv.n : Int) ≤ 8) with
      | false =>
        have HV : Hid (tbB T = false) := tbB_mg hltT (by rw [TE.out]; unfold mgB Gn.pl; rw [← hlm.out, h1]; rfl)
        clear h1
        go_wp2_with fail
        go_ret
        exact ⟨by rw [HV.out]; rfl, BW.out⟩
      | true =>
        have H1 : Hid (decide (1 ≤ (sv.n : Int) ∧ (sv.n : Int) ≤ 8) = true) := h1
        clear h1
        have c1 := VB.out.cell 1
        simp only [List.getElem?_cons_succ, List.getElem?_cons_zero] at c1
        go_wp2_with fail
        refine (ascPriv_any sv ms _ RR hms.out hmz).mono ?_
        rintro e w3 ⟨rfl, b⟩
        have VB : Hid (Bx w3 gVB 86 [.string nm, .slice sv.a sv.n sv.c]) := VB.out.later b
        have BW : Hid (Below w.heap.size w w3) := bl_next BW.out b
        have HO : Hid (OwnS w3 w.heap.size u3 (names (T.take k))) := OwnS.keep' HO.out (fun y _ hy => Below.block b y hy)
        clear b c1
        cases h2 : mbB ms with
        | false =>
          have HV : Hid (tbB T = false) := tbB_mg hltT (by rw [TE.out]; unfold mgB Gn.pl; dsimp only; rw [h2, Bool.and_false])
          clear h2
          go_wp2_with fail
          go_ret
          exact ⟨by rw [HV.out]; rfl, BW.out⟩
        | true =>
          have HM : Hid (mgB T[k] = true) := (by rw [TE.out]; unfold mgB Gn.pl; dsimp only; rw [h2, ← hlm.out, H1.out]; rfl : mgB T[k] = true)
          have HL : Hid (names (T.take (k + 1)) = names (T.take k) ++ [nm]) := (by rw [names_take hltT, TE.out]; rfl : _ = _)
          have hle : (names (T.take k)).length ≤ 1048576 := by simp [names]; omega
          have zc : w.heap.size ≤ w3.heap.size := BW.out.size
          clear h2
          have c0 := VB.out.cell 0
          simp only [List.getElem?_cons_zero] at c0
          go_wp2_with (first | (at_builtin; refine wpList_pushS rfl _ _ 24 rfl Tryd.underlying24 Tryd.info9 w.heap.size _ (names (T.take k)) rfl HO.out _ rfl (by omega) (by omega) ?_; intro v4 w4 hown1 hb1))
          go_roundw
          case rel =>
            refine ⟨k + 1, by omega, by go_num, BW.out.trans hb1, (by rw [HL.out]; exact hown1 : OwnS _ _ _ (names (T.take (k + 1)))), fun j hj h => ?_⟩
            by_cases e : j = k
            · subst e; exact HM.out
            · exact HA.out j hj (by omega)
          case measure => simp [intOf]; omega
    · obtain rfl : k = n := by omega
      have HQ : Hid (tbB T = namesB (names T)) := tbB_all (by have := HTn.out; omega) (fun j hj => HA.out j hj (by have := HTn.out; omega))
      have HO : Hid (OwnS wr w.heap.size u3 (names T)) := (by have := HO.out; rwa [List.take_of_length_le (by have := HTn.out; omega)] at this : OwnS wr w.heap.size u3 (names T))
      obtain ⟨u, hu⟩ := OwnS.svs HO.out
      subst hu
      have hz : Hid (∀ x ∈ names T, x.size ≤ 1048576) := (by
        intro x hx2
        obtain ⟨p, hp, rfl⟩ := List.mem_map.1 hx2
        rw [← HT.out] at hp
        obtain ⟨e, he, rfl⟩ := List.mem_map.1 hp
        exact (hs.out e he).1 : ∀ x ∈ names T, x.size ≤ 1048576)
      go_wp2_with fail
      refine (ascNames_any u (names T) _ (show Hid (RT _ u.v (names T)) from OwnS.texts HO.out) (by have := HTn.out; simp [names]; omega) hz).mono ?_
      rintro e w2 ⟨rfl, b⟩
      go_wp2_with fail
      go_ret
      exact ⟨by rw [HQ.out]; rfl, bl_next BW.out b⟩
end Go.Proofs.YtmbjflhhffcjdaaDoor


/- The law on TableOk. -/
namespace Go.Proofs.YtmbjflhhffcjdaaDoor
open Go.RowKit Pl
set_option linter.unusedVariables false

theorem lawTableOkAll (s : Sv) (es : List Gn) (w : World) (h0 : Hid (GnsR w s es)) (hle : es.length ≤ 9223372036854775807) (hL : Hid (∀ e ∈ es, e.L)) :
    Calls Tryd.prog 7 #[.agg #[.slice s.a s.n s.c]] w fun e w' => e = .returned (.bool true) ∧ Below w.heap.size w w' :=
  lawTableOk s es w h0 hle hL (show Hid _ from fun u cs B W h hl hs => tableOk_any u cs W (show Hid _ from h.out.r) hl.out hs)
end Go.Proofs.YtmbjflhhffcjdaaDoor


