/- The walks over the reading of a packet and over the program's ReadItem. -/
import Derived.Test.YtlflcjdpdbdbkaaDoorR3
namespace Go.Proofs.YtlflcjdpdbdbkaaDoor
open Go.RowKit Pl
set_option linter.unusedVariables false

theorem keep_out {w W w1 w2 : World} {gm : Nat} (h : Below w.heap.size w W) (hk : Keep2 gm (w.heap.size + 1) W w1) (ht : TurnAt w.heap.size w1 w2) : KeepBut gm w w2 :=
  ⟨ht.os.trans (hk.os.trans h.os), ht.tape.trans (hk.tape.trans h.tape), ht.output.trans (hk.output.trans h.output), by have := h.size; have := hk.size; have := ht.size; omega,
    fun k h1 h2 => (ht.block k (by omega)).trans ((hk.block k (Nat.lt_of_lt_of_le h1 h.size) h2 (by omega)).trans (h.block k h1))⟩

/-- what the reading of an item's packet answers. -/
def RpAns (s : ByteArray) (gm : Nat) (w : World) (e : Ending) (w' : World) : Prop :=
  (e = .returned (.bool false) ∧ itemP s = none ∧ KeepBut gm w w') ∨
  ∃ (q f l A : Nat) (t : ByteArray), e = .returned (.bool ((A : Int) == (s.size : Int))) ∧ itemP s = some (q, f, l, t, A) ∧ ItAt w' gm q f l t ∧ KeepBut gm w w'

set_option maxRecDepth 100000 in
set_option maxHeartbeats 4000000 in
theorem readP_any (s : ByteArray) (gm : Nat) (w : World) (hm : Hid (ItAt w gm 0 0 0 ByteArray.empty)) (hs : s.size ≤ 1048576) :
    Calls Tryd.prog 27 #[.string s, .func (.func 86) #[] #[.pointer (some ⟨gm, 0, none⟩)]] w fun e w' => RpAns s gm w e w' := by
  have hmf : ∀ (fn : Fn) (first cap : Array Value) (w : World), (Instr.makeFunc fn first cap).run Tryd.prog w = .ok (.func fn first cap) w := fun _ _ _ _ => rfl
  have hlt := hm.out.lt
  have H1 : Hid (ItAt ((w.alloc (.cells #[.bool false] 4)).alloc (.cells #[.string s, .int .i64 0] 88)) gm 0 0 0 ByteArray.empty) := (hm.out.stays ((Below.refl w.heap.size w).alloc (Nat.le_refl _) _) hlt).stays ((Below.refl (w.heap.size + 1) _).alloc (by simp) _) (by omega)
  have H2 : Hid (PrAt ((w.alloc (.cells #[.bool false] 4)).alloc (.cells #[.string s, .int .i64 0] 88)) (w.heap.size + 1) s 0) := by
    have := heap_alloc_new (w.alloc (.cells #[.bool false] 4)) (.cells #[.string s, .int .i64 0] 88)
    show PrAt _ _ _ _
    simpa [PrAt] using this
  have H3 : Hid (((w.alloc (.cells #[.bool false] 4)).alloc (.cells #[.string s, .int .i64 0] 88)).heap[w.heap.size]? = some (.cells #[.bool false] 4 (0, 0))) :=
    (((Below.refl (w.heap.size + 1) (w.alloc (.cells #[.bool false] 4))).alloc (by simp) _).block w.heap.size (by omega)).trans (heap_alloc_new w _)
  have H4 : Hid (Below w.heap.size w ((w.alloc (.cells #[.bool false] 4)).alloc (.cells #[.string s, .int .i64 0] 88))) := ((Below.refl _ _).alloc (Nat.le_refl _) _).alloc (by simp) _
  have H5 : Hid (((w.alloc (.cells #[.bool false] 4)).alloc (.cells #[.string s, .int .i64 0] 88)).heap.size = w.heap.size + 2) := by show _ = _; simp
  go_enter_defers Tryd.func27, Tryd.ntmps27
  go_wp2_with fail
  generalize (w.alloc (.cells #[.bool false] 4)).alloc (.cells #[.string s, .int .i64 0] 88) = W at *
  refine (clItem_any s gm (w.heap.size + 1) W H1 H2 (by omega) hs).mono ?_
  rintro e w1 (⟨rfl, hn, hk⟩ | ⟨q, f, l, A, t, rfl, hq, hi, hp, hk⟩)
  · have hb : w1.heap[w.heap.size]? = some (.cells #[.bool false] 4 (0, 0)) := (hk.block w.heap.size (by have := H5.out; omega) (by omega) (by omega)).trans H3.out
    have hc : w1.cell? ⟨w.heap.size, 0, none⟩ = some (.bool false) := by rw [cell_of_row w1 w.heap.size 0 _ 4 (0, 0) hb]; rfl
    have hf := frozen_of_row w1 w.heap.size 0 _ 4 hb
    refine leaves_cons (f := 63) (args := #[.pointer (some ⟨w.heap.size, 0, none⟩)]) (by simp) (by simp [go_sem]) ?_
    refine (catch_panicking ⟨w.heap.size, 0, none⟩ false _ hc hf).mono ?_
    rintro e u' w'' ⟨rfl, rfl, rfl⟩
    have hsame : (w1.setCell ⟨w.heap.size, 0, none⟩ (.bool false)).cell? ⟨w.heap.size, 0, none⟩ = some (.bool false) := by
      rw [cell_of_row _ w.heap.size 0 _ 4 (0, 0) (heap_setCell_same w1 w.heap.size 0 _ 4 (.bool false) hb)]; rfl
    simp [Leaves, settle, results, Tryd.results27, go_sem, hsame]
    exact .inl ⟨rfl, hn, keep_out H4.out hk ((TurnAt.refl _ _).setCell 0 _)⟩
  · have hb : w1.heap[w.heap.size]? = some (.cells #[.bool false] 4 (0, 0)) := (hk.block w.heap.size (by have := H5.out; omega) (by omega) (by omega)).trans H3.out
    have hc : w1.cell? ⟨w.heap.size, 0, none⟩ = some (.bool false) := by rw [cell_of_row w1 w.heap.size 0 _ 4 (0, 0) hb]; rfl
    have hf := frozen_of_row w1 w.heap.size 0 _ 4 hb
    obtain ⟨c0, c1, _, _⟩ := hp.cells
    have HB : Hid (w1.heap[w.heap.size]? = some (.cells #[.bool false] 4 (0, 0))) := hb
    have HI : Hid (ItAt w1 gm q f l t) := hi
    have HK : Hid (Keep2 gm (w.heap.size + 1) W w1) := hk
    have HQ : Hid (itemP s = some (q, f, l, t, A)) := hq
    clear hb hi hp hk hq H1 H2 H3 H5
    go_wp2_with fail
    have hsame : (w1.setCell ⟨w.heap.size, 0, none⟩ (.bool ((A : Int) == (s.size : Int)))).cell? ⟨w.heap.size, 0, none⟩ = some (.bool ((A : Int) == (s.size : Int))) := by
      rw [cell_of_row _ w.heap.size 0 _ 4 (0, 0) (heap_setCell_same w1 w.heap.size 0 _ 4 _ HB.out)]; rfl
    refine leaves_cons (f := 63) (args := #[.pointer (some ⟨w.heap.size, 0, none⟩)]) (by simp) (by simp [go_sem]) ?_
    refine (catch_idle ⟨w.heap.size, 0, none⟩ _).mono ?_
    rintro e u' w'' ⟨rfl, rfl, rfl⟩
    simp [Leaves, settle, results, Tryd.results27, go_sem, hsame]
    exact .inr ⟨q, f, l, A, t, rfl, HQ.out, HI.out.keep ((TurnAt.refl w.heap.size w1).setCell 0 _).keep (by omega), keep_out H4.out HK.out ((TurnAt.refl _ _).setCell 0 _)⟩

theorem ItAt.agg {w : World} {g : Nat} {q f l : Int} {t : ByteArray} (h : ItAt w g q f l t) (q' f' l' : Int) (t' : ByteArray) :
    ItAt ((((w.setCell ⟨g, 0, none⟩ (.int .i64 q')).setCell ⟨g, 1, none⟩ (.int .i64 f')).setCell ⟨g, 2, none⟩ (.int .i64 l')).setCell ⟨g, 3, none⟩ (.string t')) g q' f' l' t' :=
  (((h.set0 q').set1 f').set2 l').set3 t'

set_option maxRecDepth 100000 in
set_option maxHeartbeats 4000000 in
theorem readItem_any (s : ByteArray) (w : World) (hs : s.size ≤ 1048576) :
    Calls Tryd.prog 65 #[.string s] w fun e w' => ∃ (q f l : Nat) (t : ByteArray) (r : Bool), e = .returned (.tuple #[.agg #[.int .i64 q, .int .i64 f, .int .i64 l, .string t], .bool r]) ∧ AnsI s q f l t r ∧ Below w.heap.size w w' := by
  have hmf : ∀ (fn : Fn) (first cap : Array Value) (w : World), (Instr.makeFunc fn first cap).run Tryd.prog w = .ok (.func fn first cap) w := fun _ _ _ _ => rfl
  have H1 : Hid (ItAt ((w.alloc (.cells #[.int .i64 0, .int .i64 0, .int .i64 0, .string ⟨#[]⟩] 57)).alloc (.cells #[.int .i64 0, .int .i64 0, .int .i64 0, .string ⟨#[]⟩] 57)) w.heap.size 0 0 0 ByteArray.empty) :=
    (((Below.refl (w.heap.size + 1) (w.alloc (.cells #[.int .i64 0, .int .i64 0, .int .i64 0, .string ⟨#[]⟩] 57))).alloc (by simp) _).block w.heap.size (by omega)).trans (heap_alloc_new w _)
  have H2 : Hid (ItAt ((w.alloc (.cells #[.int .i64 0, .int .i64 0, .int .i64 0, .string ⟨#[]⟩] 57)).alloc (.cells #[.int .i64 0, .int .i64 0, .int .i64 0, .string ⟨#[]⟩] 57)) (w.heap.size + 1) 0 0 0 ByteArray.empty) := by
    have := heap_alloc_new (w.alloc (.cells #[.int .i64 0, .int .i64 0, .int .i64 0, .string ⟨#[]⟩] 57)) (.cells #[.int .i64 0, .int .i64 0, .int .i64 0, .string ⟨#[]⟩] 57)
    rw [show (w.alloc (.cells #[.int .i64 0, .int .i64 0, .int .i64 0, .string ⟨#[]⟩] 57)).heap.size = w.heap.size + 1 by simp] at this
    exact this
  have H4 : Hid (Below w.heap.size w ((w.alloc (.cells #[.int .i64 0, .int .i64 0, .int .i64 0, .string ⟨#[]⟩] 57)).alloc (.cells #[.int .i64 0, .int .i64 0, .int .i64 0, .string ⟨#[]⟩] 57))) := ((Below.refl _ _).alloc (Nat.le_refl _) _).alloc (by simp) _
  go_enter Tryd.func65, Tryd.ntmps65
  go_wp2_with fail
  generalize (w.alloc (.cells #[.int .i64 0, .int .i64 0, .int .i64 0, .string ⟨#[]⟩] 57)).alloc (.cells #[.int .i64 0, .int .i64 0, .int .i64 0, .string ⟨#[]⟩] 57) = W at *
  refine (readP_any s (w.heap.size + 1) W H2 hs).mono ?_
  rintro e w1 (⟨rfl, hn, hk⟩ | ⟨q, f, l, A, t, rfl, hq, hi, hk⟩)
  · have R1 : Hid (ItAt w1 w.heap.size 0 0 0 ByteArray.empty) := H1.out.keep hk (by omega)
    have HN : Hid (itemP s = none) := hn
    have HB : Hid (Below w.heap.size w w1) := H4.out.trans (hk.below (by omega) H4.out.size)
    obtain ⟨c0, c1, c2, c3⟩ := R1.out.cells
    have z0 := R1.out.frozen 0
    have z1 := R1.out.frozen 1
    have z2 := R1.out.frozen 2
    have z3 := R1.out.frozen 3
    clear H1 H2 H4 hn hk
    have R2 : ItAt _ w.heap.size 0 0 0 ⟨#[]⟩ := R1.out.agg 0 0 0 ⟨#[]⟩
    have HB2 := (((HB.out.setCell (p := ⟨w.heap.size, 0, none⟩) (Nat.le_refl _) (.int .i64 0)).setCell (p := ⟨w.heap.size, 1, none⟩) (Nat.le_refl _) (.int .i64 0)).setCell (p := ⟨w.heap.size, 2, none⟩) (Nat.le_refl _) (.int .i64 0)).setCell (p := ⟨w.heap.size, 3, none⟩) (Nat.le_refl _) (.string ⟨#[]⟩)
    go_wp2_with fail
    generalize ((((w1.setCell ⟨w.heap.size, 0, none⟩ (.int .i64 0)).setCell ⟨w.heap.size, 1, none⟩ (.int .i64 0)).setCell ⟨w.heap.size, 2, none⟩ (.int .i64 0)).setCell ⟨w.heap.size, 3, none⟩ (.string ⟨#[]⟩)) = W2 at *
    obtain ⟨q0, q1, q2, q3⟩ := R2.cells
    clear c0 c1 c2 c3 z0 z1 z2 z3
    refine bodyPost_ret (v := .tuple #[.agg #[.int .i64 0, .int .i64 0, .int .i64 0, .string ⟨#[]⟩], .bool false]) (by simp [results, Tryd.results65, go_sem, q0, q1, q2, q3]) rfl ?_
    exact ⟨0, 0, 0, ByteArray.empty, false, rfl, ansI_none HN.out, HB2⟩
  · have R1 : Hid (ItAt w1 w.heap.size 0 0 0 ByteArray.empty) := H1.out.keep hk (by omega)
    have HQ : Hid (itemP s = some (q, f, l, t, A)) := hq
    have HB : Hid (Below w.heap.size w w1) := H4.out.trans (hk.below (by omega) H4.out.size)
    have HM : Hid (ItAt w1 (w.heap.size + 1) q f l t) := hi
    clear H1 H2 H4 hq hk hi
    by_cases hA : A = s.size
    · have hb : ((A : Int) == (s.size : Int)) = true := by rw [hA]; simp
      rw [hb]
      obtain ⟨m0, m1, m2, m3⟩ := HM.out.cells
      go_wp2_with fail
      by_cases ho : ItOk q f l t
      · refine (itemOk_yes _ ho).mono ?_
        rintro e w2 ⟨rfl, hb2⟩
        have HO : Hid (ItOk q f l t) := ho
        have HA : Hid (A = s.size) := hA
        have R1 : Hid (ItAt w2 w.heap.size 0 0 0 ByteArray.empty) := R1.out.stays hb2 R1.out.lt
        have HM : Hid (ItAt w2 (w.heap.size + 1) q f l t) := HM.out.stays hb2 HM.out.lt
        have HB : Hid (Below w.heap.size w w2) := HB.out.trans (hb2.mono HB.out.size)
        clear ho hA hb hb2 m0 m1 m2 m3
        obtain ⟨m0, m1, m2, m3⟩ := HM.out.cells
        obtain ⟨c0, c1, c2, c3⟩ := R1.out.cells
        have z0 := R1.out.frozen 0
        have z1 := R1.out.frozen 1
        have z2 := R1.out.frozen 2
        have z3 := R1.out.frozen 3
        have R2 : ItAt _ w.heap.size q f l t := R1.out.agg q f l t
        have HB2 := (((HB.out.setCell (p := ⟨w.heap.size, 0, none⟩) (Nat.le_refl _) (.int .i64 q)).setCell (p := ⟨w.heap.size, 1, none⟩) (Nat.le_refl _) (.int .i64 f)).setCell (p := ⟨w.heap.size, 2, none⟩) (Nat.le_refl _) (.int .i64 l)).setCell (p := ⟨w.heap.size, 3, none⟩) (Nat.le_refl _) (.string t)
        go_wp2_with fail
        generalize ((((w2.setCell ⟨w.heap.size, 0, none⟩ (.int .i64 q)).setCell ⟨w.heap.size, 1, none⟩ (.int .i64 f)).setCell ⟨w.heap.size, 2, none⟩ (.int .i64 l)).setCell ⟨w.heap.size, 3, none⟩ (.string t)) = W2 at *
        obtain ⟨q0, q1, q2, q3⟩ := R2.cells
        clear c0 c1 c2 c3 z0 z1 z2 z3 m0 m1 m2 m3
        refine bodyPost_ret (v := .tuple #[.agg #[.int .i64 q, .int .i64 f, .int .i64 l, .string t], .bool true]) (by simp [results, Tryd.results65, go_sem, q0, q1, q2, q3]) rfl ?_
        exact ⟨q, f, l, t, true, rfl, ansI_good (by rw [← HA.out]; exact HQ.out) HO.out, HB2⟩
      · refine (itemOk_no _ ho).mono ?_
        rintro e w2 ⟨rfl, hb2⟩
        have HO : Hid (¬ ItOk q f l t) := ho
        have R1 : Hid (ItAt w2 w.heap.size 0 0 0 ByteArray.empty) := R1.out.stays hb2 R1.out.lt
        have HB : Hid (Below w.heap.size w w2) := HB.out.trans (hb2.mono HB.out.size)
        clear ho hA hb hb2 m0 m1 m2 m3
        obtain ⟨c0, c1, c2, c3⟩ := R1.out.cells
        have z0 := R1.out.frozen 0
        have z1 := R1.out.frozen 1
        have z2 := R1.out.frozen 2
        have z3 := R1.out.frozen 3
        have R2 : ItAt _ w.heap.size 0 0 0 ⟨#[]⟩ := R1.out.agg 0 0 0 ⟨#[]⟩
        have HB2 := (((HB.out.setCell (p := ⟨w.heap.size, 0, none⟩) (Nat.le_refl _) (.int .i64 0)).setCell (p := ⟨w.heap.size, 1, none⟩) (Nat.le_refl _) (.int .i64 0)).setCell (p := ⟨w.heap.size, 2, none⟩) (Nat.le_refl _) (.int .i64 0)).setCell (p := ⟨w.heap.size, 3, none⟩) (Nat.le_refl _) (.string ⟨#[]⟩)
        go_wp2_with fail
        generalize ((((w2.setCell ⟨w.heap.size, 0, none⟩ (.int .i64 0)).setCell ⟨w.heap.size, 1, none⟩ (.int .i64 0)).setCell ⟨w.heap.size, 2, none⟩ (.int .i64 0)).setCell ⟨w.heap.size, 3, none⟩ (.string ⟨#[]⟩)) = W2 at *
        obtain ⟨q0, q1, q2, q3⟩ := R2.cells
        clear c0 c1 c2 c3 z0 z1 z2 z3
        refine bodyPost_ret (v := .tuple #[.agg #[.int .i64 0, .int .i64 0, .int .i64 0, .string ⟨#[]⟩], .bool false]) (by simp [results, Tryd.results65, go_sem, q0, q1, q2, q3]) rfl ?_
        exact ⟨0, 0, 0, ByteArray.empty, false, rfl, ansI_bad HQ.out (.inr HO.out), HB2⟩
    · have hb : ((A : Int) == (s.size : Int)) = false := by simp; omega
      rw [hb]
      have HA : Hid (A ≠ s.size) := hA
      clear hA hb
      obtain ⟨c0, c1, c2, c3⟩ := R1.out.cells
      have z0 := R1.out.frozen 0
      have z1 := R1.out.frozen 1
      have z2 := R1.out.frozen 2
      have z3 := R1.out.frozen 3
      have R2 : ItAt _ w.heap.size 0 0 0 ⟨#[]⟩ := R1.out.agg 0 0 0 ⟨#[]⟩
      have HB2 := (((HB.out.setCell (p := ⟨w.heap.size, 0, none⟩) (Nat.le_refl _) (.int .i64 0)).setCell (p := ⟨w.heap.size, 1, none⟩) (Nat.le_refl _) (.int .i64 0)).setCell (p := ⟨w.heap.size, 2, none⟩) (Nat.le_refl _) (.int .i64 0)).setCell (p := ⟨w.heap.size, 3, none⟩) (Nat.le_refl _) (.string ⟨#[]⟩)
      go_wp2_with fail
      generalize ((((w1.setCell ⟨w.heap.size, 0, none⟩ (.int .i64 0)).setCell ⟨w.heap.size, 1, none⟩ (.int .i64 0)).setCell ⟨w.heap.size, 2, none⟩ (.int .i64 0)).setCell ⟨w.heap.size, 3, none⟩ (.string ⟨#[]⟩)) = W2 at *
      obtain ⟨q0, q1, q2, q3⟩ := R2.cells
      clear c0 c1 c2 c3 z0 z1 z2 z3
      refine bodyPost_ret (v := .tuple #[.agg #[.int .i64 0, .int .i64 0, .int .i64 0, .string ⟨#[]⟩], .bool false]) (by simp [results, Tryd.results65, go_sem, q0, q1, q2, q3]) rfl ?_
      exact ⟨0, 0, 0, ByteArray.empty, false, rfl, ansI_bad HQ.out (.inl HA.out), HB2⟩
end Go.Proofs.YtlflcjdpdbdbkaaDoor
