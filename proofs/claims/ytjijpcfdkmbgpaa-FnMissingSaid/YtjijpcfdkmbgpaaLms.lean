/- The law on what is missing of a drawn store. -/
import Derived.Test.YtjijpcfdkmbgpaaSw
import Derived.Test.YtjijpcfdkmbgpaaMs
namespace Go.Proofs.Ytjijpcfdkmbgpaa
open Go.RowKit Pl
set_option linter.unusedVariables false

theorem agg_eq (q f l : Int) (t : ByteArray) : agg (q, f, l, t) = .agg #[.int .i64 q, .int .i64 f, .int .i64 l, .string t] := rfl

theorem putAll_mem : ∀ {ys ts : List It} {x : It}, x ∈ putAll ts ys → x ∈ ts ∨ x ∈ ys
  | [], ts, x, h => .inl h
  | y :: ys, ts, x, h => by
    rcases putAll_mem (ys := ys) (ts := ins1 ts y) h with h | h
    · rcases ins1_mem h with h | rfl
      · exact .inl h
      · exact .inr (List.mem_cons_self ..)
    · exact .inr (List.mem_cons_of_mem _ h)

set_option maxRecDepth 100000 in
set_option maxHeartbeats 8000000 in
theorem lawMissings (w : World) (n cap : Nat) (ao : Option Addr) (hk : Hid (CodeAt w w.heap.size ao n)) :
    Calls Try.prog 4 #[.slice ao n cap] w fun e w' => e = .returned (.bool true) ∧ Below w.heap.size w w' := by
  by_cases hbig : 1048576 < n
  · go_enter Try.func4, Try.ntmps4
    go_wp2_with fail
    refine (big_any w n cap ao true (by simp; omega)).mono ?_
    rintro e w1 ⟨rfl, hw⟩
    obtain rfl := hw.symm
    go_wp2_with fail
    go_ret
    exact ⟨rfl, Below.refl _ _⟩
  have hn : n ≤ 1048576 := by omega
  go_enter Try.func4, Try.ntmps4
  go_wp2_with fail
  refine (big_any w n cap ao false (by simp; omega)).mono ?_
  rintro e w1 ⟨rfl, hw⟩
  obtain rfl := hw.symm
  clear hw hbig
  go_wp2_with fail
  refine (drawStores_any w n cap ao hn hk).mono ?_
  rintro e w1 ⟨⟨v, ts, v2, ts2, rfl, S1, U1, S1b, U1b⟩, B1⟩
  have S1 : Hid (SlI w1 w.heap.size v ts) := S1
  have hl10 : ts.length ≤ 9 := by have := U1.2.2.1; omega
  have HR : Hid (iGo 0 ts = true) := U1.1
  have HSZ : Hid (∀ x ∈ ts, x.2.2.2.size ≤ 13) := U1.2.2.2
  have K1 : Hid (CodeAt w1 w1.heap.size ao n) := code_up (hk.out.stays B1 (Nat.le_refl _)) B1.size
  clear U1 hk S1b U1b ts2
  go_wp2_with fail
  refine (drawPlaces w1 n cap ao hn K1).mono ?_
  rintro e w2 ⟨⟨vp, xs, rfl, hxl, hsm, O2⟩, b2⟩
  have S2 : Hid (SlI w2 w.heap.size v ts) := S1.out.below b2
  have B2 : Hid (Below w.heap.size w w2) := B1.trans (b2.mono B1.size)
  obtain ⟨g, gc, rfl, _, _, hc, _⟩ := O2.out.some (by omega)
  have c0 := hc 0 (by omega)
  obtain ⟨z, hz⟩ : ∃ z : Nat, xs[0] = (z : Int) := ⟨(xs[0]).toNat, by have := hsm.out xs[0] (List.getElem_mem _); omega⟩
  rw [hz] at c0
  clear hc hsm O2 b2 S1 K1 B1 hz
  rw [hxl]
  obtain ⟨U, hU⟩ : ∃ U : Nat, (z : Int) % 15 = (U : Int) := ⟨z % 15, by omega⟩
  have hU14 : U ≤ 14 := by omega
  obtain ⟨vo, vc, rfl, X2⟩ := S2.out.items
  have X2 : Hid (ItemsAt w2 vo ts) := X2
  have LK0 : Lacks ts U (missP ts (U : Int)) := lacks hU14 HR.out
  have MS := missing_any vo vc ts (U : Int) w2 X2 (by omega)
  obtain ⟨ms, hms⟩ : ∃ ms, ms = missP ts (U : Int) := ⟨_, rfl⟩
  rw [← hms] at LK0 MS
  have LK : Hid (Lacks ts U ms) := LK0
  have hml : ms.length ≤ 20 := LK0.len
  have MS : Hid _ := MS
  have HUZ : Hid ((z : Int) % 15 = (U : Int)) := hU
  have z2 : w.heap.size ≤ w2.heap.size := B2.out.size
  clear hms LK0 hU X2
  go_wp2_with fail
  rw [HUZ.out]
  clear HUZ c0
  refine (show Calls _ _ _ _ _ from MS.out).mono ?_
  rintro e w3 ⟨vl, rfl, O3, b3⟩
  have O3 : Hid (OwnI w3 w2.heap.size vl ms) := O3
  have S3 : Hid (SlI w3 w.heap.size (.slice vo ts.length vc) ts) := S2.out.below b3
  have B3 : Hid (Below w.heap.size w w3) := B2.out.trans (b3.mono B2.out.size)
  clear MS S2 B2 b3
  go_wp2_with fail
  refine (rises_any vl ms w2.heap.size w3 O3 (by omega) LK.out.asc).mono ?_
  rintro e w4 ⟨rfl, m4, hw4⟩
  have b4 : Below w3.heap.size w3 w4 := by rw [hw4]; exact ((TurnAt.refl w3.heap.size w3).drewN m4).below (Nat.le_refl _)
  have O4 : Hid (OwnI w4 w2.heap.size vl ms) := O3.out.under b4
  have S4 : Hid (SlI w4 w.heap.size (.slice vo ts.length vc) (putAll ts (lackI (ms.take 0)))) := S3.out.below b4
  have B4 : Hid (Below w.heap.size w w4) := B3.out.trans (b4.mono B3.out.size)
  clear O3 S3 B3 b4 hw4
  obtain ⟨lo, lc, rfl⟩ := O4.out.form
  have hg20 : ¬ (20 : Int) < (ms.length : Int) := by omega
  go_wp2_with fail
  go_loopw [3, 7] (fun u i wr => ∃ k : Nat, k ≤ ms.length ∧ i = .int .i64 k ∧ Hid (SlI wr w.heap.size u (putAll ts (lackI (ms.take k)))) ∧ Hid (OwnI wr w2.heap.size (.slice lo ms.length lc) ms) ∧ Hid (Below w.heap.size w wr)) (fun _ i _ => ms.length - (intOf i).toNat)
  case atStart => exact ⟨0, Nat.zero_le _, rfl, S4, O4, B4⟩
  case round =>
    clear S4 O4 B4
    obtain ⟨k, hk, rfl, hS, hO, hb⟩ := hrel
    have LL : ∃ L, L = putAll ts (lackI (ms.take k)) := ⟨_, rfl⟩
    obtain ⟨L, hL⟩ := LL
    have hLi : iGo 0 L = true := by rw [hL]; exact LK.out.ok k
    have hL60 : L.length ≤ 60 := iGo_short hLi
    have HLs : Hid (∀ x ∈ L, x.2.2.2.size ≤ 1048576) := fun x hx => by
      rw [hL] at hx
      rcases putAll_mem hx with h | h
      · have := HSZ.out x h; omega
      · obtain ⟨y, _, rfl⟩ := List.mem_map.1 h
        show (ByteArray.mk #[]).size ≤ _
        decide
    by_cases hlt : k < ms.length
    · have hnew : hasP L ms[k] = false := by rw [hL]; exact LK.out.new k hlt
      have hrg := LK.out.rng ms[k] (List.getElem_mem hlt)
      have HST : Hid (putAll ts (lackI (ms.take (k + 1))) = putP L (ms[k], 1, 1, ⟨#[]⟩)) := by
        show _ = _
        have e : lackI (ms.take (k + 1)) = lackI (ms.take k) ++ [(ms[k], 1, 1, ⟨#[]⟩)] := by
          unfold lackI
          rw [List.take_succ_eq_append_getElem hlt, List.map_append]
          rfl
        have e2 : putAll ts (lackI (ms.take k) ++ [(ms[k], 1, 1, ⟨#[]⟩)]) = ins1 (putAll ts (lackI (ms.take k))) (ms[k], 1, 1, ⟨#[]⟩) := by
          unfold putAll
          rw [List.foldl_append]
          rfl
        rw [e, e2, ← hL]
        unfold putP
        rw [if_pos ⟨hLi, itB_yes (by
          unfold ItOk
          refine ⟨by dsimp only; omega, by dsimp only; omega, by dsimp only; omega, ?_⟩
          show (ByteArray.mk #[]).size ≤ 60
          decide)⟩]
      rw [← hL] at hS
      obtain ⟨gb, gcap, hv, _, _, hc, _⟩ := hO.out.some (by omega)
      simp at hv
      obtain ⟨rfl, rfl⟩ := hv
      have c0 := hc k hlt
      have hgw := (hO.out.lt gb rfl).2
      obtain ⟨x, hx⟩ : ∃ x, x = ms[k] := ⟨_, rfl⟩
      rw [← hx] at c0 hrg hnew HST
      clear hc hx hL hLi
      obtain ⟨uo, uc, rfl, X1⟩ := hS.out.items
      have X1 : Hid (ItemsAt wr uo L) := X1
      have A1 := itemAt_any uo uc L x wr X1 (by omega) HLs
      rw [hnew] at A1
      generalize (atP L x).getD zIt = y at A1
      obtain ⟨q3, f3, l3, t3⟩ := y
      have A1 : Hid _ := A1
      have i0 : (0 : Int) ≤ (k : Int) := by omega
      have i1 : (k : Int) < (ms.length : Int) := by omega
      have hgt : ¬ (U : Int) < x := by omega
      go_wp2_with fail
      refine (show Calls _ _ _ _ _ from A1.out).mono ?_
      rintro e w5 ⟨rfl, b5⟩
      have b5a : Below w5.heap.size w5 (w5.alloc (.cells #[.int .i64 q3, .int .i64 f3, .int .i64 l3, .string t3] 26)) := (Below.refl _ _).alloc (Nat.le_refl _) _
      have b5' : Below wr.heap.size wr (w5.alloc (.cells #[.int .i64 q3, .int .i64 f3, .int .i64 l3, .string t3] 26)) := b5.trans (b5a.mono b5.size)
      have c5 := (b5'.cell (p := ⟨gb, k, none⟩) hgw).trans c0
      have X5 : Hid (ItemsAt (w5.alloc (.cells #[.int .i64 q3, .int .i64 f3, .int .i64 l3, .string t3] 26)) uo L) := X1.out.stays b5'
      have O5 : Hid (OwnI (w5.alloc (.cells #[.int .i64 q3, .int .i64 f3, .int .i64 l3, .string t3] 26)) w2.heap.size (.slice (some ⟨gb, 0, none⟩) ms.length lc) ms) := hO.out.under b5'
      have B5 : Hid (Below w.heap.size w (w5.alloc (.cells #[.int .i64 q3, .int .i64 f3, .int .i64 l3, .string t3] 26))) := hb.out.trans (b5'.mono hb.out.size)
      clear b5 b5a b5' c0 A1 X1 hO hb hS
      rw [agg_eq]
      go_wp2_with fail
      generalize w5.alloc (.cells #[.int .i64 q3, .int .i64 f3, .int .i64 l3, .string t3] 26) = W5 at *
      clear c5
      refine (putItem_any uo uc L x 1 1 ⟨#[]⟩ W5 X5 (by omega) HLs (by show (ByteArray.mk #[]).size ≤ _; decide)).mono ?_
      rintro e w6 ⟨v6, rfl, S6, b6⟩
      have S6 : Hid (SlI w6 w.heap.size v6 (putAll ts (lackI (ms.take (k + 1))))) := by rw [HST.out]; exact S6.down B5.out.size
      have O6 : Hid (OwnI w6 w2.heap.size (.slice (some ⟨gb, 0, none⟩) ms.length lc) ms) := O5.out.under b6
      have B6 : Hid (Below w.heap.size w w6) := B5.out.trans (b6.mono B5.out.size)
      clear b6 X5 O5 B5
      go_wp2_with fail
      go_roundw
      case rel => exact ⟨k + 1, by omega, by go_num, S6, O6, B6⟩
      case measure => simp [intOf]; omega
    · have hkk : ms.take k = ms := List.take_of_length_le (by omega)
      rw [hkk] at hL
      have hlt2 : ¬ (k : Int) < (ms.length : Int) := by omega
      have hAU : U ≤ aruP L := by rw [hL]; exact LK.out.aru
      have hNO : missP L (U : Int) = [] := by rw [hL]; exact LK.out.none
      rw [hkk, ← hL] at hS
      clear hL hkk
      obtain ⟨uo, uc, rfl, X1⟩ := hS.out.items
      have X1 : Hid (ItemsAt wr uo L) := X1
      have AU := aruOf_any uo uc L wr X1 (by omega)
      obtain ⟨A, hA⟩ : ∃ A, A = aruP L := ⟨_, rfl⟩
      rw [← hA] at AU hAU
      have AU : Hid _ := AU
      have MI := fun (W : World) (h : Hid (ItemsAt W uo L)) => missing_any uo uc L (U : Int) W h (by omega)
      rw [hNO] at MI
      have MI : Hid _ := MI
      have hge : (U : Int) ≤ (A : Int) := by omega
      clear hA hNO hS hO
      go_wp2_with fail
      refine (show Calls _ _ _ _ _ from AU.out).mono ?_
      rintro e w5 ⟨rfl, b5⟩
      have X5 : Hid (ItemsAt w5 uo L) := X1.out.stays b5
      have B5 : Hid (Below w.heap.size w w5) := hb.out.trans (b5.mono hb.out.size)
      clear b5 X1 hb AU
      go_wp2_with fail
      refine (show Calls _ _ _ _ _ from MI.out w5 X5).mono ?_
      rintro e w6 ⟨v6, rfl, O6, b6⟩
      obtain ⟨fo, fc, rfl⟩ := O6.form
      have B6 : Hid (Below w.heap.size w w6) := B5.out.trans (b6.mono B5.out.size)
      clear b6 O6 X5 B5 MI
      go_wp2_with fail
      go_ret
      exact ⟨rfl, B6.out⟩
end Go.Proofs.Ytjijpcfdkmbgpaa
