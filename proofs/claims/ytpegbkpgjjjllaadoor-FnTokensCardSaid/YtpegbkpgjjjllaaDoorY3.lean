/- The walks over the reading of a token's packet and over the program's ReadToken. -/
import Derived.Test.YtpegbkpgjjjllaaDoorY2
import Derived.Test.YtpegbkpgjjjllaaDoorX1
namespace Go.Proofs.YtpegbkpgjjjllaaDoor
open Go.RowKit Pl
set_option linter.unusedVariables false

theorem keep_out {w W w1 w2 : World} {gm : Nat} (h : Below w.heap.size w W) (hk : Keep2 gm (w.heap.size + 1) W w1) (ht : TurnAt w.heap.size w1 w2) : KeepBut gm w w2 :=
  ⟨ht.os.trans (hk.os.trans h.os), ht.tape.trans (hk.tape.trans h.tape), ht.output.trans (hk.output.trans h.output), by have := h.size; have := hk.size; have := ht.size; omega,
    fun k h1 h2 => (ht.block k (by omega)).trans ((hk.block k (Nat.lt_of_lt_of_le h1 h.size) h2 (by omega)).trans (h.block k h1))⟩

/-- what the reading of a token's packet answers. -/
def RpAnsT (s : ByteArray) (gm : Nat) (w : World) (e : Ending) (w' : World) : Prop :=
  (e = .returned (.bool false) ∧ tokP s = none ∧ KeepBut gm w w') ∨
  ∃ (c r q a b A : Nat) (ns : List Nat) (v : Value), e = .returned (.bool ((A : Int) == (s.size : Int))) ∧ tokP s = some ((c, r, q, a, b), ns, A) ∧ ns.length ≤ 1048576 ∧ TokAt w' gm c r q a b v ∧ OwnI w' w.heap.size v (ns.map fun n : Nat => (n : Int)) ∧ KeepBut gm w w'

set_option maxRecDepth 100000 in
set_option maxHeartbeats 4000000 in
theorem readP_any (s : ByteArray) (gm : Nat) (w : World) (hm : Hid (TokAt w gm 0 0 0 0 0 (.slice none 0 0))) (hs : s.size ≤ 1048576) :
    Calls Tryd.prog 27 #[.string s, .func (.func 28) #[] #[.pointer (some ⟨gm, 0, none⟩)]] w fun e w' => RpAnsT s gm w e w' := by
  have hmf : ∀ (fn : Fn) (first cap : Array Value) (w : World), (Instr.makeFunc fn first cap).run Tryd.prog w = .ok (.func fn first cap) w := fun _ _ _ _ => rfl
  have hlt := hm.out.lt
  have H1 : Hid (TokAt ((w.alloc (.cells #[.bool false] 4)).alloc (.cells #[.string s, .int .i64 0] 73)) gm 0 0 0 0 0 (.slice none 0 0)) := (hm.out.stays ((Below.refl w.heap.size w).alloc (Nat.le_refl _) _) hlt).stays ((Below.refl (w.heap.size + 1) _).alloc (by simp) _) (by omega)
  have H2 : Hid (PrAt ((w.alloc (.cells #[.bool false] 4)).alloc (.cells #[.string s, .int .i64 0] 73)) (w.heap.size + 1) s 0) := by
    have := heap_alloc_new (w.alloc (.cells #[.bool false] 4)) (.cells #[.string s, .int .i64 0] 73)
    show PrAt _ _ _ _
    simpa [PrAt] using this
  have H3 : Hid (((w.alloc (.cells #[.bool false] 4)).alloc (.cells #[.string s, .int .i64 0] 73)).heap[w.heap.size]? = some (.cells #[.bool false] 4 (0, 0))) :=
    (((Below.refl (w.heap.size + 1) (w.alloc (.cells #[.bool false] 4))).alloc (by simp) _).block w.heap.size (by omega)).trans (heap_alloc_new w _)
  have H4 : Hid (Below w.heap.size w ((w.alloc (.cells #[.bool false] 4)).alloc (.cells #[.string s, .int .i64 0] 73))) := ((Below.refl _ _).alloc (Nat.le_refl _) _).alloc (by simp) _
  have H5 : Hid (((w.alloc (.cells #[.bool false] 4)).alloc (.cells #[.string s, .int .i64 0] 73)).heap.size = w.heap.size + 2) := by show _ = _; simp
  go_enter_defers Tryd.func27, Tryd.ntmps27
  go_wp2_with fail
  generalize (w.alloc (.cells #[.bool false] 4)).alloc (.cells #[.string s, .int .i64 0] 73) = W at *
  refine (clToken_any s gm (w.heap.size + 1) W H1 H2 (by omega) hs).mono ?_
  rintro e w1 (⟨rfl, hn, hk⟩ | ⟨c, r, q, a, b, A, ns, v, rfl, hq, hl, hi, hv, hp, hk⟩)
  · have hb : w1.heap[w.heap.size]? = some (.cells #[.bool false] 4 (0, 0)) := (hk.block w.heap.size (by have := H5.out; omega) (by omega) (by omega)).trans H3.out
    have hc : w1.cell? ⟨w.heap.size, 0, none⟩ = some (.bool false) := by rw [cell_of_row w1 w.heap.size 0 _ 4 (0, 0) hb]; rfl
    have hf := frozen_of_row w1 w.heap.size 0 _ 4 hb
    refine leaves_cons (f := 55) (args := #[.pointer (some ⟨w.heap.size, 0, none⟩)]) (by simp) (by simp [go_sem]) ?_
    refine (catch_panicking ⟨w.heap.size, 0, none⟩ false _ hc hf).mono ?_
    rintro e u' w'' ⟨rfl, rfl, rfl⟩
    have hsame : (w1.setCell ⟨w.heap.size, 0, none⟩ (.bool false)).cell? ⟨w.heap.size, 0, none⟩ = some (.bool false) := by
      rw [cell_of_row _ w.heap.size 0 _ 4 (0, 0) (heap_setCell_same w1 w.heap.size 0 _ 4 (.bool false) hb)]; rfl
    simp [Leaves, settle, results, Tryd.results27, go_sem, hsame]
    exact .inl ⟨rfl, hn, keep_out H4.out hk ((TurnAt.refl _ _).setCell 0 _)⟩
  · have hb : w1.heap[w.heap.size]? = some (.cells #[.bool false] 4 (0, 0)) := (hk.block w.heap.size (by have := H5.out; omega) (by omega) (by omega)).trans H3.out
    have hc : w1.cell? ⟨w.heap.size, 0, none⟩ = some (.bool false) := by rw [cell_of_row w1 w.heap.size 0 _ 4 (0, 0) hb]; rfl
    have hf := frozen_of_row w1 w.heap.size 0 _ 4 hb
    obtain ⟨c0, c1, _, _⟩ := hp.cells
    have HB : Hid (w1.heap[w.heap.size]? = some (.cells #[.bool false] 4 (0, 0))) := hb
    have HI : Hid (TokAt w1 gm c r q a b v) := hi
    have HV : Hid (OwnI w1 (w.heap.size + 2) v (ns.map fun n : Nat => (n : Int))) := by
      show OwnI _ _ _ _
      rw [← H5.out]
      exact hv
    have HK : Hid (Keep2 gm (w.heap.size + 1) W w1) := hk
    have HQ : Hid (tokP s = some ((c, r, q, a, b), ns, A)) := hq
    clear hb hi hv hp hk hq H1 H2 H3 H5
    go_wp2_with fail
    have hsame : (w1.setCell ⟨w.heap.size, 0, none⟩ (.bool ((A : Int) == (s.size : Int)))).cell? ⟨w.heap.size, 0, none⟩ = some (.bool ((A : Int) == (s.size : Int))) := by
      rw [cell_of_row _ w.heap.size 0 _ 4 (0, 0) (heap_setCell_same w1 w.heap.size 0 _ 4 _ HB.out)]; rfl
    refine leaves_cons (f := 55) (args := #[.pointer (some ⟨w.heap.size, 0, none⟩)]) (by simp) (by simp [go_sem]) ?_
    refine (catch_idle ⟨w.heap.size, 0, none⟩ _).mono ?_
    rintro e u' w'' ⟨rfl, rfl, rfl⟩
    simp [Leaves, settle, results, Tryd.results27, go_sem, hsame]
    exact .inr ⟨c, r, q, a, b, A, ns, v, rfl, HQ.out, hl, HI.out.keep ((TurnAt.refl w.heap.size w1).setCell 0 _).keep (by omega), (OwnI_turn HV.out ((TurnAt.refl w.heap.size w1).setCell 0 _) (by omega)).down (by omega), keep_out H4.out HK.out ((TurnAt.refl _ _).setCell 0 _)⟩

end Go.Proofs.YtpegbkpgjjjllaaDoor
