/- The walks over both NextOf. -/
import Derived.Test.YtnhnpneedcjcfaaRn
import Derived.Test.YtnhnpneedcjcfaaRs
namespace Go.Proofs.Ytnhnpneedcjcfaa
open Go.RowKit Pl
set_option linter.unusedVariables false

theorem nx_wrap {k n : Nat} (hk : k < n) (hn : n ≤ 1048576) : IntKind.i64.wrap ((k : Int) + 1) = ((k + 1 : Nat) : Int) := by
  rw [IntKind.wrap_i64]; omega
theorem nx_mod {k n : Nat} (hk : k < n) (hn : n ≤ 1048576) : (IntKind.i64.wrap ((k : Int) + 1)).tmod (n : Int) = (((k + 1) % n : Nat) : Int) := by
  rw [show IntKind.i64.wrap ((k : Int) + 1) = (k : Int) + 1 from by rw [IntKind.wrap_i64]; omega, Int.tmod_eq_emod_of_nonneg (by omega), Int.natCast_emod, Int.natCast_add]; rfl
set_option maxRecDepth 100000 in
set_option maxHeartbeats 2000000 in
theorem nextOf_any (i d : Int) (ao : Option Addr) (cap : Nat) (ws : List Int) (w : World) (hx : Hid (IntsAt w ao ws)) (hl : ws.length ≤ 1048576) :
    Calls Try.prog 14 #[.agg #[.int .i64 i, .slice ao ws.length cap], .int .i64 d] w fun e w' => e = .returned (.int .i64 (nextP i ws d)) ∧ Below w.heap.size w w' := by
  have HB : Hid (Below w.heap.size w (w.alloc (.cells #[.int .i64 i, .slice ao ws.length cap] 26))) := (Below.refl _ _).alloc (Nat.le_refl _) _
  have HX : Hid (IntsAt (w.alloc (.cells #[.int .i64 i, .slice ao ws.length cap] 26)) ao ws) := hx.out.stays HB.out
  have HT : Hid (RgAt (w.alloc (.cells #[.int .i64 i, .slice ao ws.length cap] 26)) w.heap.size i (.slice ao ws.length cap)) := heap_alloc_new w _
  obtain ⟨c0, c1⟩ := HT.out.cells
  clear hx
  rcases first_or_none ws d with ⟨k, hk⟩ | hn
  · have hk' := hk
    obtain ⟨hkl, _, _⟩ := hk'
    have HK : Hid (FirstAt ws d k) := hk
    have h0 : ¬ (k : Int) < 0 := by omega
    clear hk
    cases hr : ringB i ws with
    | false =>
      rw [nextP_bad hr]
      go_enter Try.func14, Try.ntmps14
      go_wp2_with fail
      generalize w.alloc (.cells #[.int .i64 i, .slice ao ws.length cap] 26) = W at *
      refine (index_at ao cap ws d k W HX hl HK).mono ?_
      rintro e w1 ⟨rfl, rfl⟩
      go_wp2_with fail
      refine (ringOk_any i ao cap ws _ HX hl).mono ?_
      rintro e w2 ⟨rfl, hb2⟩
      rw [hr]
      go_wp2_with fail
      go_ret
      exact ⟨rfl, HB.out.trans (hb2.mono HB.out.size)⟩
    | true =>
      rw [nextP_at HK.out hr]
      have hm : (k + 1) % ws.length < ws.length := Nat.mod_lt _ (by omega)
      obtain ⟨x, hxe⟩ : ∃ x, x = ws[(k + 1) % ws.length]'hm := ⟨_, rfl⟩
      rw [← hxe]
      go_enter Try.func14, Try.ntmps14
      go_wp2_with fail
      generalize w.alloc (.cells #[.int .i64 i, .slice ao ws.length cap] 26) = W at *
      refine (index_at ao cap ws d k W HX hl HK).mono ?_
      rintro e w1 ⟨rfl, rfl⟩
      go_wp2_with fail
      refine (ringOk_any i ao cap ws _ HX hl).mono ?_
      rintro e w2 ⟨rfl, hb2⟩
      rw [hr]
      obtain ⟨bb, off, rfl, hbb, hc⟩ := (HX.out.stays hb2) _ hm
      rw [← hxe] at hc
      clear c0 c1
      obtain ⟨c0, c1⟩ := (HT.out.stays hb2 HT.out.lt).cells
      have e2 := nx_mod hkl hl
      have i0 : (0 : Int) ≤ (((k + 1) % ws.length : Nat) : Int) := by omega
      have i1 : (((k + 1) % ws.length : Nat) : Int) < (ws.length : Int) := by omega
      have hc' : w2.cell? ⟨bb, off + (((k + 1) % ws.length : Nat) : Int).toNat, none⟩ = some (.int .i64 x) := by rw [Int.toNat_natCast]; exact hc
      have hnz : ¬ (ws.length : Int) = 0 := by omega
      have hnz2 : ¬ ws.length = 0 := by omega
      have hnz3 : ¬ ws = [] := by intro h; rw [h] at hkl; simp at hkl
      have HBB : Hid (Below w.heap.size w w2) := HB.out.trans (hb2.mono HB.out.size)
      clear hb2 HX hxe hbb
      generalize hmm : (k + 1) % ws.length = mm at *
      clear hmm
      go_wp2_with fail
      go_quiet (fail)
      go_wp2_with fail
      go_ret
      exact ⟨rfl, below_drewK HBB.out _⟩
  · rw [nextP_none hn]
    have HN : Hid (NoneUpto ws d ws.length) := hn
    clear hn
    go_enter Try.func14, Try.ntmps14
    go_wp2_with fail
    generalize w.alloc (.cells #[.int .i64 i, .slice ao ws.length cap] 26) = W at *
    refine (index_none ao cap ws d W HX hl HN).mono ?_
    rintro e w1 ⟨rfl, rfl⟩
    go_wp2_with fail
    go_ret
    exact ⟨rfl, HB.out⟩
end Go.Proofs.Ytnhnpneedcjcfaa
