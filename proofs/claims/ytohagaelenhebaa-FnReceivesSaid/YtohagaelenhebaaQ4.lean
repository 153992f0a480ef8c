/- The walks over the program's SendAgain. -/
import Derived.Test.YtohagaelenhebaaQ3
namespace Go.Proofs.Ytohagaelenhebaa
open Go.RowKit Pl Go.Conc
set_option linter.unusedVariables false

def againL (e : En) : List Pc := if okB e then againP e else []
theorem again_len {e : En} (h : OkP e) : (againP e).length ≤ 4 := by
  unfold againP
  split
  · rw [parcs_length]; unfold sent; have := h.n1; omega
  · simp

set_option maxRecDepth 100000 in
set_option maxHeartbeats 4000000 in
theorem sendAgain_any {v : Value} {e : En} {lo : Nat} (w : World) (h : EndM w lo v e) (lq : e.q.length ≤ 1048577) (lo' : e.o.length ≤ 1048576) (lq' : e.q.length ≤ 1048576) :
    Calls Try.prog 19 #[v] w fun r w' => ∃ v', r = .returned v' ∧ SlP w' w.heap.size v' (againL e) ∧ Below w.heap.size w w' := by
  obtain ⟨qv, ov, rfl, s1, s2, dj⟩ := h
  obtain ⟨qa, qc, rfl⟩ := Sl.form s1
  obtain ⟨oa, oc, rfl⟩ := Sl.form s2
  have HM : Hid (EndM w lo (.agg #[.int .i64 e.nx, .int .i64 e.ak, .slice qa e.q.length qc, .int .i64 e.gt, .slice oa e.o.length oc]) e) := ⟨_, _, rfl, s1, s2, dj⟩
  have HP : Hid (EndP (w.alloc (.cells #[.int .i64 e.nx, .int .i64 e.ak, .slice qa e.q.length qc, .int .i64 e.gt, .slice oa e.o.length oc] 32)) 0 w.heap.size e) :=
    ⟨_, _, EndC.new w 32 e.nx e.ak e.gt _ _, Sl.down (Sl.alloc s1 _) (Nat.zero_le _), Sl.down (Sl.alloc s2 _) (Nat.zero_le _), dj, Nat.zero_le _, ne_high s1 (Nat.le_refl _), ne_high s2 (Nat.le_refl _)⟩
  clear s1 s2 dj
  have hb0 : Below w.heap.size w (w.alloc (.cells #[.int .i64 e.nx, .int .i64 e.ak, .slice qa e.q.length qc, .int .i64 e.gt, .slice oa e.o.length oc] 32)) := (Below.refl _ _).alloc (Nat.le_refl _) _
  have z0 : (w.alloc (.cells #[.int .i64 e.nx, .int .i64 e.ak, .slice qa e.q.length qc, .int .i64 e.gt, .slice oa e.o.length oc] 32)).heap.size = w.heap.size + 1 := by simp
  go_enter Try.func19, Try.ntmps19
  go_wp2_with fail
  generalize (w.alloc (.cells #[.int .i64 e.nx, .int .i64 e.ak, .slice qa e.q.length qc, .int .i64 e.gt, .slice oa e.o.length oc] 32)) = W at *
  refine (endOk_any W (EndR.stays HM.out.r hb0) lq' lo').mono ?_
  rintro r w1 ⟨rfl, hb1⟩
  have HB1 : Hid (Below w.heap.size w w1) := hb0.trans (hb1.mono hb0.size)
  have HP1 : Hid (EndP w1 0 w.heap.size e) := HP.out.below hb1
  have z1 : w.heap.size + 1 ≤ w1.heap.size := by have := hb1.size; omega
  clear HP hb0 hb1 HM
  cases hok : okB e with
  | false =>
    go_wp2_with fail
    go_ret
    refine ⟨_, rfl, ?_, HB1.out.alloc (by omega) _⟩
    unfold againL
    rw [hok]
    exact Sl.made w1 41 3 w.heap.size (by omega)
  | true =>
    have hp := okB_true.1 hok
    have hm : SlP (w1.alloc (.cells #[] 41)) w1.heap.size (.slice (some ⟨w1.heap.size, 0, none⟩) 0 0) [] := Sl.made w1 41 3 w1.heap.size (Nat.le_refl _)
    have hb2 : Below w1.heap.size w1 (w1.alloc (.cells #[] 41)) := (Below.refl _ _).alloc (Nat.le_refl _) _
    go_wp2_with fail
    have z2 : (w1.alloc (.cells #[] 41)).heap.size = w1.heap.size + 1 := by simp
    generalize (w1.alloc (.cells #[] 41)) = W2 at *
    refine (psendAgain_any W2 (HP1.out.below hb2) hp).mono ?_
    rintro r w3 ⟨c, cap, rfl, hC, hc, hb3⟩
    have hm3 : SlP w3 w1.heap.size (.slice (some ⟨w1.heap.size, 0, none⟩) 0 0) [] := Sl.below hm hb3
    have HB3 : Hid (Below w.heap.size w w3) := (HB1.out.trans (hb2.mono (by omega))).trans (hb3.mono (by omega))
    have z3 : W2.heap.size ≤ w3.heap.size := hb3.size
    clear hm hb2 hb3 HP1 HB1
    go_wp2_with fail
    refine (withP_any w3 hm3 hC (by omega) (by have := again_len hp; simp; omega)).mono ?_
    rintro r w4 ⟨v4, rfl, s4, g4, l4⟩
    have HS4 : Hid (SlP w4 w1.heap.size v4 (againP e)) := s4
    have HB4 : Hid (Below w.heap.size w w4) := HB3.out.trans (g4.below (fun k hk => by rcases hk with rfl | hk; omega; simp [Value.ownBlock] at hk; omega) HB3.out.size)
    clear s4 g4 l4 hm3 hC HB3
    go_wp2_with fail
    go_ret
    refine ⟨_, rfl, ?_, HB4.out⟩
    unfold againL
    rw [hok]
    exact Sl.down HS4.out (by omega)
end Go.Proofs.Ytohagaelenhebaa
