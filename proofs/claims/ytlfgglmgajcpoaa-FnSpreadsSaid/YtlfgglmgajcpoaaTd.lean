/- The walk over the specification's TreeOf. -/
import Derived.Test.YtlfgglmgajcpoaaTc
import Derived.Deep.QuietTactic
import Derived.BigQuiet
namespace Go.Proofs.Ytlfgglmgajcpoaa
open Go.RowKit Pl
set_option linter.unusedVariables false

/-- the least site ahead of v of those from m on. -/
def Best (fl : List Int) (ts : List Rd) (N v m : Nat) (best : Int) : Prop := (best = -1 ∧ ∀ x, m ≤ x → x < N → ¬ Lead fl ts x v) ∨ ∃ b : Nat, best = (b : Int) ∧ m ≤ b ∧ b < N ∧ Lead fl ts b v ∧ ∀ x, m ≤ x → x < b → ¬ Lead fl ts x v
theorem Best.new (fl : List Int) (ts : List Rd) (N v : Nat) : Best fl ts N v N (-1) := Or.inl ⟨rfl, fun x h1 h2 => by omega⟩
theorem Best.no {fl : List Int} {ts : List Rd} {N v m : Nat} {best : Int} (h : Best fl ts N v (m + 1) best) (hn : ¬ Lead fl ts m v) : Best fl ts N v m best := by
  rcases h with ⟨h1, h2⟩ | ⟨b, h1, h2, h3, h4, h5⟩
  · refine Or.inl ⟨h1, fun x a c => ?_⟩
    by_cases e : x = m
    · subst e; exact hn
    · exact h2 x (by omega) c
  · refine Or.inr ⟨b, h1, by omega, h3, h4, fun x a c => ?_⟩
    by_cases e : x = m
    · subst e; exact hn
    · exact h5 x (by omega) c
theorem Best.yes {fl : List Int} {ts : List Rd} {N v m : Nat} {best : Int} (h : Best fl ts N v (m + 1) best) (hm : m < N) (hn : Lead fl ts m v) : Best fl ts N v m (m : Int) :=
  Or.inr ⟨m, rfl, Nat.le_refl _, hm, hn, fun x a c => by omega⟩
theorem Best.end {fl : List Int} {ts : List Rd} {v : Nat} {best : Int} (h : Best fl ts fl.length v 0 best) : best = ahd fl ts v := by
  rcases h with ⟨h1, h2⟩ | ⟨b, h1, h2, h3, h4, h5⟩
  · rw [h1, ahd_no (fun x hx => h2 x (by omega) hx)]
  · rw [h1, ahd_yes h3 h4 (fun x hx => h5 x (by omega) hx)]

set_option maxRecDepth 100000 in
set_option maxHeartbeats 4000000 in
theorem spTree_any (n s : Int) (ao : Option Addr) (cap : Nat) (ts : List Rd) (w : World) (hx : Hid (RoadsAt w ao ts)) (hl : ts.length ≤ 1048576) :
    Calls Try.prog 14 #[.int .i64 n, .slice ao ts.length cap, .int .i64 s] w fun e w' => (∃ v, e = .returned v ∧ OwnI w' w.heap.size v (trees n ts s)) ∧ Below w.heap.size w w' := by
  go_enter Try.func14, Try.ntmps14
  go_wp2_with fail
  refine (spDist_any n s ao cap ts w hx hl).mono ?_
  rintro e w1 ⟨⟨v1, rfl, O1⟩, b1⟩
  obtain ⟨da, dc, rfl⟩ := O1.form
  have HO1 : Hid (OwnI w1 w.heap.size (.slice da (dists n ts s).length dc) (dists n ts s)) := O1
  obtain ⟨N, hN⟩ : ∃ N, N = (dists n ts s).length := ⟨_, rfl⟩
  have HN : Hid (N = (dists n ts s).length) := hN
  have hN6 : N ≤ 6 := by have := dists_le' n ts s; omega
  rw [← hN] at HO1 ⊢
  clear O1 hN
  have O2 : Hid (OwnI (w1.alloc (.cells #[] 3)) w1.heap.size (.slice (some ⟨w1.heap.size, 0, none⟩) 0 0) []) := OwnI.made w1 _ (Nat.le_refl _)
  have B2 : Hid (Below w1.heap.size w1 (w1.alloc (.cells #[] 3))) := (Below.refl _ _).alloc (Nat.le_refl _) _
  have HB1 : Hid (Below w.heap.size w w1) := b1
  clear b1
  go_wp2_with fail
  generalize w1.alloc (.cells #[] 3) = W2 at *
  go_loopw [8, 9] (fun v i wr => ∃ (k : Nat), k ≤ N ∧ i = .int .i64 k ∧ Hid (OwnI wr w1.heap.size v ((trees n ts s).take k)) ∧ Hid (Below w1.heap.size w1 wr)) (fun _ i _ => N - (intOf i).toNat)
  case atStart => exact ⟨0, by omega, rfl, O2, B2⟩
  case round =>
    obtain ⟨k, hk, rfl, hO, hb⟩ := hrel
    clear O2 B2
    by_cases hlt : k < N
    · obtain ⟨hok, hs0, hs1⟩ := dists_some (n := n) (s := s) (ts := ts) (by rw [← HN.out]; omega)
      have HOK : Hid (RoadsP n ts) := hok
      have hl12 : ts.length ≤ 12 := hok.2.2.1
      have HF6 : Hid (Fits 6 ts) := fun r hr => by have := hok.fits r hr; have := hok.2.1; omega
      obtain ⟨g, cp, hv, _, _, _, _⟩ := HO1.out.some (by rw [← HN.out]; omega)
      rw [← HN.out] at hv
      simp at hv
      obtain ⟨rfl, rfl⟩ := hv
      have hwN : IntKind.i64.wrap ((N : Int) - 1) = (N : Int) - 1 := by rw [IntKind.wrap_i64]; omega
      have hlO := fun kk hkk => hO.out.lt kk hkk
      have HLO : Hid (∀ kk, _ → _) := hlO
      clear hlO hok
      go_wp2_with fail
      generalize wr = WO at *
      go_loopw [10, 11] (fun bs us wr => ∃ (m : Nat) (best : Int), m ≤ N ∧ bs = .int .i64 best ∧ us = .int .i64 ((m : Int) - 1) ∧ Hid (Best (dists n ts s) ts N k m best) ∧ Hid (Below WO.heap.size WO wr)) (fun _ us _ => (intOf us + 1).toNat)
      case atStart => exact ⟨N, -1, Nat.le_refl _, rfl, rfl, Best.new _ _ _ _, Below.refl _ _⟩
      case round =>
        obtain ⟨m1, best, hm1, rfl, rfl, hbest, hb2⟩ := hrel
        by_cases hm0 : m1 = 0
        · subst hm0
          have HB : Hid (best = ahd (dists n ts s) ts k) := by
            have := hbest.out
            rw [HN.out] at this
            exact this.end
          have O3 : Hid (OwnI wr w1.heap.size _ ((trees n ts s).take k)) := hO.out.stays hb2.out (fun kk hkk => (HLO.out kk hkk).2)
          have B3 : Hid (Below w1.heap.size w1 wr) := hb.out.trans (hb2.out.mono hb.out.size)
          have hB3 : w1.heap.size ≤ wr.heap.size := B3.out.size
          clear hO hb
          go_wp2_with (at_builtin; refine wpList_pushI rfl _ _ 27 rfl Try.underlying27 Try.info3i w1.heap.size _ ((trees n ts s).take k) rfl O3.out best rfl (by rw [List.length_take]; omega) hB3 ?_; intro v6 w6 hown6 hb6)
          go_roundw
          case rel =>
            refine ⟨k + 1, by omega, by go_num, ?_, B3.out.trans hb6⟩
            show OwnI _ _ _ _
            rw [trees_take (by rw [← HN.out]; exact hlt), ← HB.out]
            exact hown6
          case measure => simp [intOf]; omega
        · obtain ⟨m, hm⟩ : ∃ m, m1 = m + 1 := ⟨m1 - 1, by omega⟩
          subst hm
          have hmN : m < N := by omega
          have hu1 : (((m + 1 : Nat) : Int) - 1) = (m : Int) := by omega
          rw [hu1]
          have hge : (0 : Int) ≤ (m : Int) := by omega
          have HWM : Hid (Value.int .i64 (IntKind.i64.wrap ((m : Int) - 1)) = .int .i64 ((m : Int) - 1)) := by show _ = _; congr 1; rw [IntKind.wrap_i64]; omega
          have hwm : IntKind.i64.wrap ((m : Int) - 1) = (m : Int) - 1 := by rw [IntKind.wrap_i64]; omega
          have X3 : Hid (RoadsAt wr ao ts) := hx.out.stays (HB1.out.trans ((hb.out.trans (hb2.out.mono hb.out.size)).mono HB1.out.size))
          clear hm0 hu1
          go_wp2_with fail
          refine (spCost_any ao cap ts (m : Int) (k : Int) wr X3 hl).mono ?_
          rintro e w3 ⟨rfl, b3⟩
          have B3 : Hid (Below WO.heap.size WO w3) := hb2.out.trans (b3.mono hb2.out.size)
          have OD : OwnI w3 w.heap.size (.slice (some ⟨g, 0, none⟩) N dc) (dists n ts s) := HO1.out.stays (hb.out.trans (B3.out.mono hb.out.size)) (fun k hk => (HO1.out.lt k hk).2)
          obtain ⟨cz, hcz⟩ : ∃ z, costI ts (m : Int) (k : Int) = z := ⟨_, rfl⟩
          rw [hcz]
          have HCZ : Hid (costI ts (m : Int) (k : Int) = cz) := hcz
          have hcb : 0 ≤ cz ∧ cz ≤ 100 := by
            by_cases e : cz = 0
            · omega
            · obtain ⟨i, hi, _, hc⟩ := costI_get ts (m : Int) (k : Int) (by rw [hcz]; exact e)
              have := HF6.out ts[i] (List.getElem_mem hi)
              omega
          obtain ⟨zu, hzu⟩ : ∃ z, fn (dists n ts s) (m : Int) = z := ⟨_, rfl⟩
          obtain ⟨zv, hzv⟩ : ∃ z, fn (dists n ts s) (k : Int) = z := ⟨_, rfl⟩
          have cu := (own_cell OD HN.out.symm m zu (by rw [← hzu, fn_nat (by have := HN.out; omega)]; exact List.getElem?_eq_getElem _)).1
          have cv := (own_cell OD HN.out.symm k zv (by rw [← hzv, fn_nat (by have := HN.out; omega)]; exact List.getElem?_eq_getElem _)).1
          have bu := dists_bd (n := n) (s := s) (ts := ts) m
          rw [hzu] at bu
          have HZU : Hid (fn (dists n ts s) (m : Int) = zu) := hzu
          have HZV : Hid (fn (dists n ts s) (k : Int) = zv) := hzv
          have hw1 : IntKind.i64.wrap (zu + cz) = zu + cz := by rw [IntKind.wrap_i64]; omega
          have u1 : (m : Int) < (N : Int) := by omega
          have v0 : (0 : Int) ≤ (k : Int) := by omega
          have v1 : (k : Int) < (N : Int) := by omega
          have hok := HOK.out
          clear hcz hzu hzv OD X3 hb2
          go_wp2_with fail
          by_cases e1 : (k : Int) = s
          · have d1 : ((k : Int) != s) = false := by simp [e1]
            have HNO : Hid (Best (dists n ts s) ts N k m best) := hbest.out.no (fun h => by have := (spLead_iff hok (least_dists hok hs0 hs1) m k).2 h; unfold SpLead at this; rw [HCZ.out, HZU.out, HZV.out] at this; omega)
            clear e1 hok
            go_quiet (fail)
            go_wp2_with fail
            go_roundw
            case rel => exact ⟨m, best, by omega, rfl, rfl, HNO, (show Below _ _ _ from below_drewN B3.out _)⟩
            case measure => simp [intOf]
          · have d1 : ((k : Int) != s) = true := by simp [e1]
            by_cases e2 : 0 < cz
            · by_cases e3 : 0 ≤ zu
              · by_cases e4 : zu + cz = zv
                · have d4 : (zu + cz == zv) = true := by simp [e4]
                  have HYES : Hid (Best (dists n ts s) ts N k m (m : Int)) := hbest.out.yes hmN ((spLead_iff hok (least_dists hok hs0 hs1) m k).1 (by unfold SpLead; rw [HCZ.out, HZU.out, HZV.out]; omega))
                  clear e4 hok
                  go_quiet (fail)
                  go_wp2_with fail
                  go_roundw
                  case rel => exact ⟨m, (m : Int), by omega, rfl, rfl, HYES, (show Below _ _ _ from below_drewN B3.out _)⟩
                  case measure => simp [intOf]
                · have d4 : (zu + cz == zv) = false := by simp [e4]
                  have HNO : Hid (Best (dists n ts s) ts N k m best) := hbest.out.no (fun h => by have := (spLead_iff hok (least_dists hok hs0 hs1) m k).2 h; unfold SpLead at this; rw [HCZ.out, HZU.out, HZV.out] at this; omega)
                  clear hok
                  go_quiet (fail)
                  go_wp2_with fail
                  go_roundw
                  case rel => exact ⟨m, best, by omega, rfl, rfl, HNO, (show Below _ _ _ from below_drewN B3.out _)⟩
                  case measure => simp [intOf]
              · 
                have HNO : Hid (Best (dists n ts s) ts N k m best) := hbest.out.no (fun h => by have := (spLead_iff hok (least_dists hok hs0 hs1) m k).2 h; unfold SpLead at this; rw [HCZ.out, HZU.out, HZV.out] at this; omega)
                clear hok
                go_quiet (fail)
                go_wp2_with fail
                go_roundw
                case rel => exact ⟨m, best, by omega, rfl, rfl, HNO, (show Below _ _ _ from below_drewN B3.out _)⟩
                case measure => simp [intOf]
            · 
              have HNO : Hid (Best (dists n ts s) ts N k m best) := hbest.out.no (fun h => by have := (spLead_iff hok (least_dists hok hs0 hs1) m k).2 h; unfold SpLead at this; rw [HCZ.out, HZU.out, HZV.out] at this; omega)
              clear hok
              go_quiet (fail)
              go_wp2_with fail
              go_roundw
              case rel => exact ⟨m, best, by omega, rfl, rfl, HNO, (show Below _ _ _ from below_drewN B3.out _)⟩
              case measure => simp [intOf]
    · obtain rfl : k = N := by omega
      have HT : Hid ((trees n ts s).take k = trees n ts s) := List.take_of_length_le (by rw [trees_length, ← HN.out]; exact Nat.le_refl _)
      go_wp2_with fail
      go_ret
      refine ⟨⟨_, rfl, ?_⟩, HB1.out.trans (hb.out.mono HB1.out.size)⟩
      have := hO.out
      rw [HT.out] at this
      exact this.down HB1.out.size
end Go.Proofs.Ytlfgglmgajcpoaa
