/- The walk over the specification's NextOf. -/
import Derived.Test.YtnhnpneedcjcfaaRx
namespace Go.Proofs.Ytnhnpneedcjcfaa
open Go.RowKit Pl
set_option linter.unusedVariables false

set_option maxRecDepth 100000 in
set_option maxHeartbeats 2000000 in
theorem spNextOf_any (i d : Int) (ao : Option Addr) (cap : Nat) (ws : List Int) (w : World) (hx : Hid (IntsAt w ao ws)) (hl : ws.length ≤ 1048576) :
    Calls Try.prog 31 #[.agg #[.int .i64 i, .slice ao ws.length cap], .int .i64 d] w fun e w' => e = .returned (.int .i64 (nextP i ws d)) ∧ Below w.heap.size w w' := by
  have HB : Hid (Below w.heap.size w (w.alloc (.cells #[.int .i64 i, .slice ao ws.length cap] 26))) := (Below.refl _ _).alloc (Nat.le_refl _) _
  have HX : Hid (IntsAt (w.alloc (.cells #[.int .i64 i, .slice ao ws.length cap] 26)) ao ws) := hx.out.stays HB.out
  have HT : Hid (RgAt (w.alloc (.cells #[.int .i64 i, .slice ao ws.length cap] 26)) w.heap.size i (.slice ao ws.length cap)) := heap_alloc_new w _
  clear hx
  cases hr : ringB i ws with
  | false =>
    rw [nextP_bad hr]
    go_enter Try.func31, Try.ntmps31
    go_wp2_with fail
    generalize w.alloc (.cells #[.int .i64 i, .slice ao ws.length cap] 26) = W at *
    refine (spRingOk_any i ao cap ws _ HX hl).mono ?_
    rintro e w2 ⟨rfl, hb2⟩
    rw [hr]
    go_wp2_with fail
    go_ret
    exact ⟨rfl, HB.out.trans (hb2.mono HB.out.size)⟩
  | true =>
    go_enter Try.func31, Try.ntmps31
    go_wp2_with fail
    generalize w.alloc (.cells #[.int .i64 i, .slice ao ws.length cap] 26) = W at *
    refine (spRingOk_any i ao cap ws _ HX hl).mono ?_
    rintro e w2 ⟨rfl, hb2⟩
    have HR : Hid (ringB i ws = true) := hr
    rw [hr]
    clear hr
    have H2 : Hid (Below w.heap.size w w2) := HB.out.trans (hb2.mono HB.out.size)
    have X2 : Hid (IntsAt w2 ao ws) := HX.out.stays hb2
    have T2 : Hid (RgAt w2 w.heap.size i (.slice ao ws.length cap)) := HT.out.stays hb2 HT.out.lt
    clear HB HX HT hb2
    go_wp2_with fail
    go_loopw [5] (fun ix wr => ∃ (k : Nat), k ≤ ws.length ∧ ix = .int .i64 k ∧ Hid (NoneUpto ws d k) ∧ Hid (wr = w2)) (fun ix _ => ws.length - (intOf ix).toNat)
    case atStart => exact ⟨0, by omega, rfl, fun j _ h => by omega, rfl⟩
    case round =>
      obtain ⟨k, hk, rfl, hnu, hwr⟩ := hrel
      obtain rfl := hwr.out
      obtain ⟨c0, c1⟩ := T2.out.cells
      clear hwr
      by_cases hlt : k < ws.length
      · obtain ⟨bb, off, hao, hbb, hc⟩ := X2.out k hlt
        obtain ⟨x, ht⟩ : ∃ x, x = ws[k] := ⟨_, rfl⟩
        rw [← ht] at hc
        have HV : Hid (x = ws[k]) := ht
        have i0 : (0 : Int) ≤ (k : Int) := by omega
        have i1 : (k : Int) < (ws.length : Int) := by omega
        by_cases he : x = d
        · have HF : Hid (FirstAt ws d k) := ⟨hlt, by rw [← HV.out]; exact he, fun j hj => hnu.out j (by omega) hj⟩
          have hm : (k + 1) % ws.length < ws.length := Nat.mod_lt _ (by omega)
          obtain ⟨y, hxe⟩ : ∃ x, x = ws[(k + 1) % ws.length]'hm := ⟨_, rfl⟩
          have HY : Hid (nextP i ws d = y) := by rw [hxe]; exact nextP_at HF.out HR.out
          obtain ⟨bb2, off2, hao2, _, hcy⟩ := X2.out _ hm
          rw [← hxe] at hcy
          obtain ⟨rfl, rfl⟩ : bb2 = bb ∧ off2 = off := by rw [hao] at hao2; simp at hao2; exact ⟨hao2.1.symm, hao2.2.symm⟩
          subst hao
          subst he
          have e2 := nx_mod hlt hl
          have j0 : (0 : Int) ≤ (((k + 1) % ws.length : Nat) : Int) := by omega
          have j1 : (((k + 1) % ws.length : Nat) : Int) < (ws.length : Int) := by omega
          have hnz : ¬ (ws.length : Int) = 0 := by omega
          have hnz2 : ¬ ws.length = 0 := by omega
          have hnz3 : ¬ ws = [] := by intro h; rw [h] at hlt; simp at hlt
          have HBB : Hid (Below w.heap.size w wr) := H2
          clear hbb ht hxe hao2 HF HV hnu X2 T2 H2
          generalize hmm : (k + 1) % ws.length = mm at *
          clear hmm
          go_wp2_with fail
          go_quiet (fail)
          go_wp2_with fail
          go_ret
          exact ⟨by rw [HY.out]; rfl, below_drewK HBB.out _⟩
        · have HE : Hid (¬ x = d) := he
          subst hao
          clear ht
          go_wp2_with fail
          go_roundw
          case rel => exact ⟨k + 1, by omega, by go_num, (fun j hj h => by
            by_cases e : j = k
            · subst e; rw [← HV.out]; exact HE.out
            · exact hnu.out j hj (by omega)), (by first | exact True.intro | rfl)⟩
          case measure => simp [intOf]; omega
      · obtain rfl : k = ws.length := by omega
        go_wp2_with fail
        go_ret
        exact ⟨by rw [nextP_none hnu.out]; rfl, H2.out⟩
end Go.Proofs.Ytnhnpneedcjcfaa
