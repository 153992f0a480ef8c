/- The walk over the specification's Give. -/
import Derived.Test.YtnhnpneedcjcfaaGv
import Derived.Test.YtnhnpneedcjcfaaT1
namespace Go.Proofs.Ytnhnpneedcjcfaa
open Go.RowKit Pl
set_option linter.unusedVariables false

theorem IntsAt.drawn {w : World} {ao : Option Addr} {ts : List Int} (h : IntsAt w ao ts) (n : Nat) : IntsAt (w.drewN n) ao ts := h.stays (below_drewK (Below.refl _ _) n)

set_option maxRecDepth 100000 in
set_option maxHeartbeats 1000000 in
theorem spGive_any (c r q a b : Int) (aw : Option Addr) (cw : Nat) (ws : List Int) (ao : Option Addr) (cap : Nat) (ts : List It) (w : World) (hy : Hid (IntsAt w aw ws)) (hx : Hid (ItemsAt w ao ts)) (hl : ts.length ≤ 1048576) (hw : ws.length ≤ 1048576) :
    Calls Try.prog 50 #[.agg #[.int .i64 c, .int .i64 r, .int .i64 q, .int .i64 a, .int .i64 b, .slice aw ws.length cw], .slice ao ts.length cap] w fun e w' => ∃ v, e = .returned v ∧ SlI w' w.heap.size v (giveP ws ts) ∧ Below w.heap.size w w' := by
  have hn1 : (w.alloc (.cells #[.int .i64 c, .int .i64 r, .int .i64 q, .int .i64 a, .int .i64 b, .slice aw ws.length cw] 30)).heap.size = w.heap.size + 1 := by simp
  have HT : Hid (TokAt ((w.alloc (.cells #[.int .i64 c, .int .i64 r, .int .i64 q, .int .i64 a, .int .i64 b, .slice aw ws.length cw] 30)).alloc (.cells #[] 43)) w.heap.size c r q a b (.slice aw ws.length cw)) := by
    have h := heap_alloc_new w (.cells #[.int .i64 c, .int .i64 r, .int .i64 q, .int .i64 a, .int .i64 b, .slice aw ws.length cw] 30)
    exact TokAt.stays (B := w.heap.size + 1) h ((Below.refl _ _).alloc (by rw [hn1]; exact Nat.le_refl _) _) (by omega)
  have S0 : Hid (SlI ((w.alloc (.cells #[.int .i64 c, .int .i64 r, .int .i64 q, .int .i64 a, .int .i64 b, .slice aw ws.length cw] 30)).alloc (.cells #[] 43)) (w.heap.size + 1) (.slice (some ⟨w.heap.size + 1, 0, none⟩) 0 0) []) := by
    have h := SlI.made (w.alloc (.cells #[.int .i64 c, .int .i64 r, .int .i64 q, .int .i64 a, .int .i64 b, .slice aw ws.length cw] 30)) (w.heap.size + 1) (by rw [hn1]; exact Nat.le_refl _)
    rw [hn1] at h
    exact h
  have B0 : Hid (Below w.heap.size w ((w.alloc (.cells #[.int .i64 c, .int .i64 r, .int .i64 q, .int .i64 a, .int .i64 b, .slice aw ws.length cw] 30)).alloc (.cells #[] 43))) := ((Below.refl _ _).alloc (Nat.le_refl _) _).alloc (by simp) _
  have z0 : w.heap.size + 1 ≤ ((w.alloc (.cells #[.int .i64 c, .int .i64 r, .int .i64 q, .int .i64 a, .int .i64 b, .slice aw ws.length cw] 30)).alloc (.cells #[] 43)).heap.size := by simp
  clear hn1
  go_enter Try.func50, Try.ntmps50
  go_wp2_with fail
  generalize (w.alloc (.cells #[.int .i64 c, .int .i64 r, .int .i64 q, .int .i64 a, .int .i64 b, .slice aw ws.length cw] 30)).alloc (.cells #[] 43) = W at *
  have HE : Hid (Below (w.heap.size + 1) W W) := Below.refl _ _
  go_loopw [5, 6] (fun v i wr => ∃ (k : Nat), k ≤ ts.length ∧ i = .int .i64 k ∧ Hid (SlI wr (w.heap.size + 1) v (giveP ws (ts.take k))) ∧ Hid (Below (w.heap.size + 1) W wr)) (fun _ i _ => ts.length - (intOf i).toNat)
  case atStart => exact ⟨0, Nat.zero_le _, rfl, S0, HE⟩
  case round =>
    clear S0 HE
    obtain ⟨k, hk, rfl, hS, hb'⟩ := hrel
    have hb : Hid (Below w.heap.size w wr) := B0.out.trans (hb'.out.mono (by omega))
    have HT' : Hid (TokAt wr w.heap.size c r q a b (.slice aw ws.length cw)) := HT.out.stays hb'.out (by omega)
    obtain ⟨t0, t1, t2, t3, t4, t5⟩ := HT'.out.cells
    clear t0 t1 t2 t3 t4
    by_cases hlt : k < ts.length
    · obtain ⟨bb, off, rfl, hbb, h0, h1, h2, h3⟩ := hx.out.stays hb.out k hlt
      have HP : Hid (∃ x : It, x = ts[k]) := ⟨_, rfl⟩
      obtain ⟨⟨n, f, lv, tx⟩, hp⟩ := HP.out
      rw [← hp] at h0 h1 h2 h3
      have hst := give_step (ws := ws) hlt
      rw [← hp] at hst
      have HST : Hid _ := hst
      clear hp HP hst
      dsimp only at h0 h1 h2 h3
      have hY : Hid (IntsAt wr aw ws) := hy.out.stays hb.out
      have i0 : (0 : Int) ≤ (k : Int) := by omega
      have i1 : (k : Int) < (ts.length : Int) := by omega
      have z1 : w.heap.size + 1 ≤ wr.heap.size := Nat.le_trans z0 hb'.out.size
      have hlk : (giveP ws (ts.take k)).length ≤ 1048576 := Nat.le_trans (give_len ws ts k) hl
      go_wp2_with fail
      go_quiet (first | (go_at_call 78; exact Calls.quiet_of_same (lin_any aw cw ws n _ (show Hid (IntsAt _ aw ws) from IntsAt.drawn hY.out _) hw)))
      have SD : Hid (SlI (wr.drewN nq) (w.heap.size + 1) u5 (giveP ws (ts.take k))) := hS.out.drewN _
      have BD : Hid (Below (w.heap.size + 1) W (wr.drewN nq)) := below_drewK hb'.out _
      have ZD : w.heap.size + 1 ≤ (wr.drewN nq).heap.size := by rw [World.heap_drewN]; exact z1
      cases hq : inB ws n with
      | true =>
        have HLS : Hid (giveP ws (ts.take (k + 1)) = giveP ws (ts.take k) ++ [(n, f, lv, tx)]) := by
          have := HST.out
          rwa [if_pos (show inB ws (n, f, lv, tx).1 = true from hq)] at this
        clear HST
        go_wp2_with (at_builtin; refine wpList_pushIt rfl _ _ 38 rfl Try.underlying38 (w.heap.size + 1) u5 _ rfl SD.out (n, f, lv, tx) rfl hlk ZD ?_; intro v2 w2 S2 g2 b2 _)
        have S2 : Hid (SlI w2 (w.heap.size + 1) v2 (giveP ws (ts.take (k + 1)))) := by
          rw [HLS.out]
          exact S2
        have B2 : Hid (Below (w.heap.size + 1) W w2) := BD.out.trans b2
        go_roundw
        case rel => exact ⟨k + 1, by omega, by go_num, S2, B2⟩
        case measure => simp [intOf]; omega
      | false =>
        have HLS : Hid (giveP ws (ts.take (k + 1)) = giveP ws (ts.take k)) := by
          have := HST.out
          rwa [if_neg (show ¬ inB ws (n, f, lv, tx).1 = true by simp [hq]), List.append_nil] at this
        clear HST
        have S2 : Hid (SlI (wr.drewN nq) (w.heap.size + 1) u5 (giveP ws (ts.take (k + 1)))) := by
          rw [HLS.out]
          exact SD
        go_wp2_with fail
        go_roundw
        case rel => exact ⟨k + 1, by omega, by go_num, S2, BD⟩
        case measure => simp [intOf]; omega
    · obtain rfl : k = ts.length := by omega
      go_wp2_with fail
      go_ret
      exact ⟨_, rfl, by have := hS.out; rw [List.take_length] at this; exact this.down (by omega), hb.out⟩
end Go.Proofs.Ytnhnpneedcjcfaa
