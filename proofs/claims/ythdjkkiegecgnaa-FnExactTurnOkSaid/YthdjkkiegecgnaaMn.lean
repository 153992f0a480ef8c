/- A new member: the walks over isMember, copyOfRing and both MateNew. -/
import Derived.Test.YthdjkkiegecgnaaWr
namespace Go.Proofs.Ythdjkkiegecgnaa
open Go.RowKit Pl
set_option linter.unusedVariables false

set_option maxRecDepth 100000 in
set_option maxHeartbeats 1000000 in
theorem isMember_any (id i : Int) (v : Value) (ms : List Int) (w : World) (h : Hid (RI w v ms)) (hl : ms.length ≤ 1048576) :
    Calls Try.prog 57 #[.int .i64 id, .agg #[.int .i64 i, v]] w fun e w' => e = .returned (.bool (ringB i ms && inB ms id)) ∧ Below w.heap.size w w' := by
  have HB : Hid (Bx (w.alloc (.cells #[.int .i64 i, v] 26)) w.heap.size 26 [.int .i64 i, v]) := Bx.new w 26 _
  have HL : Hid (Below w.heap.size w (w.alloc (.cells #[.int .i64 i, v] 26))) := (Below.refl _ _).alloc (Nat.le_refl _) _
  have HX : Hid (RI (w.alloc (.cells #[.int .i64 i, v] 26)) v ms) := h.out.stays HL.out
  clear h
  go_enter Try.func57, Try.ntmps57
  go_wp2_with fail
  generalize w.alloc (.cells #[.int .i64 i, v] 26) = W at *
  refine (ringOk_r i ms HX hl).mono ?_
  rintro e w1 ⟨rfl, b1⟩
  have B1 : Hid (Below w.heap.size w w1) := bl_next HL.out b1
  have X1 : Hid (RI w1 v ms) := HX.out.stays b1
  have c0 : w1.cell? ⟨w.heap.size, 0, none⟩ = some (.int .i64 i) := (HB.out.later b1).cell 0
  have c1 : w1.cell? ⟨w.heap.size, 1, none⟩ = some v := (HB.out.later b1).cell 1
  clear HB HL HX b1
  obtain ⟨R, hR⟩ : ∃ R, ringB i ms = R := ⟨_, rfl⟩
  rw [hR]
  have HR : Hid (ringB i ms = R) := hR
  clear hR
  cases R with
  | false =>
    go_wp2_with fail
    go_ret
    exact ⟨by rw [HR.out]; rfl, B1.out⟩
  | true =>
    go_wp2_with fail
    refine (contains_r ms id X1 hl).mono ?_
    rintro e w2 ⟨rfl, b2⟩
    have B2 : Hid (Below w.heap.size w w2) := bl_next B1.out b2
    clear b2
    go_wp2_with fail
    go_ret
    exact ⟨by rw [HR.out]; rfl, B2.out⟩

set_option maxRecDepth 100000 in
set_option maxHeartbeats 1000000 in
theorem copyRing_any (i : Int) (v : Value) (ms : List Int) (w : World) (h : Hid (RI w v ms)) (hl : ms.length ≤ 1048576) :
    Calls Try.prog 65 #[.agg #[.int .i64 i, v]] w fun e w' => ∃ v', e = .returned (.agg #[.int .i64 i, v']) ∧ OwnI w' w.heap.size v' ms ∧ Below w.heap.size w w' := by
  have hn1 : (w.alloc (.cells #[.int .i64 i, v] 26)).heap.size = w.heap.size + 1 := by simp
  have hn2 : ((w.alloc (.cells #[.int .i64 i, v] 26)).alloc (.cells #[.int .i64 0, .slice none 0 0] 26)).heap.size = w.heap.size + 2 := by simp
  have HA : Hid (Bx (((w.alloc (.cells #[.int .i64 i, v] 26)).alloc (.cells #[.int .i64 0, .slice none 0 0] 26)).alloc (.cells #[] 3)) w.heap.size 26 [.int .i64 i, v]) := by
    have h := Bx.new w 26 [.int .i64 i, v]
    exact h.stays (B := w.heap.size + 1) (((Below.refl _ _).alloc (by rw [hn1]; exact Nat.le_refl _) _).alloc (by rw [hn2]; omega) _) (by omega)
  have HR : Hid (Bx (((w.alloc (.cells #[.int .i64 i, v] 26)).alloc (.cells #[.int .i64 0, .slice none 0 0] 26)).alloc (.cells #[] 3)) (w.heap.size + 1) 26 [.int .i64 0, .slice none 0 0]) := by
    have h := Bx.new (w.alloc (.cells #[.int .i64 i, v] 26)) 26 [.int .i64 0, .slice none 0 0]
    rw [hn1] at h
    exact h.stays (B := w.heap.size + 2) ((Below.refl _ _).alloc (by rw [hn2]; exact Nat.le_refl _) _) (by omega)
  have HO : Hid (OwnI (((w.alloc (.cells #[.int .i64 i, v] 26)).alloc (.cells #[.int .i64 0, .slice none 0 0] 26)).alloc (.cells #[] 3)) w.heap.size (.slice (some ⟨w.heap.size + 2, 0, none⟩) 0 0) []) := by
    have h := OwnI.made ((w.alloc (.cells #[.int .i64 i, v] 26)).alloc (.cells #[.int .i64 0, .slice none 0 0] 26)) w.heap.size (by rw [hn2]; omega)
    rw [hn2] at h
    exact h
  have HB : Hid (Below w.heap.size w (((w.alloc (.cells #[.int .i64 i, v] 26)).alloc (.cells #[.int .i64 0, .slice none 0 0] 26)).alloc (.cells #[] 3))) := (((Below.refl _ _).alloc (Nat.le_refl _) _).alloc (by simp) _).alloc (by simp; omega) _
  have HU : Hid (RI (((w.alloc (.cells #[.int .i64 i, v] 26)).alloc (.cells #[.int .i64 0, .slice none 0 0] 26)).alloc (.cells #[] 3)) v ms) := h.out.stays HB.out
  have hsz : w.heap.size ≤ (((w.alloc (.cells #[.int .i64 i, v] 26)).alloc (.cells #[.int .i64 0, .slice none 0 0] 26)).alloc (.cells #[] 3)).heap.size := HB.out.size
  have a1 := HA.out.cell 1
  clear h hn1 hn2
  go_enter Try.func65, Try.ntmps65
  go_wp2_with (first | (at_builtin; refine wpList_catR rfl _ _ 24 rfl Try.underlying24 Try.info3' w.heap.size (.slice (some ⟨w.heap.size + 2, 0, none⟩) 0 0) [] rfl HO.out _ ms rfl HU.out (by simp; omega) hsz (fun h => by cases h) ?_; intro v1 w1 hv1 hg1; have hs1 : Hid (World.grownBy _ w1 (some (w.heap.size + 2))) := hg1; have ht1 : Hid (OwnI w1 w.heap.size v1 ms) := hv1; clear hv1 hg1; refine Stp.here ?_))
  refine Stp.go ?_
  have hv1 := ht1.out
  have hg1 := hs1.out
  obtain ⟨ao1, cap1, hf1⟩ := hv1.form
  subst hf1
  generalize (((w.alloc (.cells #[.int .i64 i, v] 26)).alloc (.cells #[.int .i64 0, .slice none 0 0] 26)).alloc (.cells #[] 3)) = W at *
  have A1 : Hid (Bx w1 w.heap.size 26 [.int .i64 i, v]) := HA.out.grown hg1 (by simp)
  have R1 : Hid (Bx w1 (w.heap.size + 1) 26 [.int .i64 0, .slice none 0 0]) := HR.out.grown hg1 (by simp)
  have B1 : Hid (Below w.heap.size w w1) := HB.out.grown hg1 hsz (fun k hk => by simp at hk; omega)
  have V1 : Hid (OwnI w1 w.heap.size (.slice ao1 ms.length cap1) ms) := hv1
  clear hs1 ht1 hv1 hg1 HA HR HB HO HU hsz a1
  have c1 := A1.out.cell 1
  have f1 := A1.out.frozen 1
  have T2 := (TurnAt.refl w.heap.size w1).setCell 1 (.slice ao1 ms.length cap1)
  have O2 : Hid (Bx (w1.setCell ⟨w.heap.size, 1, none⟩ (.slice ao1 ms.length cap1)) w.heap.size 26 [.int .i64 i, .slice ao1 ms.length cap1]) := A1.out.set 1 (.slice ao1 ms.length cap1)
  have R2 : Hid (Bx (w1.setCell ⟨w.heap.size, 1, none⟩ (.slice ao1 ms.length cap1)) (w.heap.size + 1) 26 [.int .i64 0, .slice none 0 0]) := R1.out.turn T2 (by omega)
  have B2 : Hid (Below w.heap.size w (w1.setCell ⟨w.heap.size, 1, none⟩ (.slice ao1 ms.length cap1))) := B1.out.trans (T2.below (by omega))
  have V2 : Hid (OwnI (w1.setCell ⟨w.heap.size, 1, none⟩ (.slice ao1 ms.length cap1)) w.heap.size (.slice ao1 ms.length cap1) ms) := V1.out.keep fun k hk _ => T2.block k (fun e => bx_i_ne V1.out A1.out (by decide) (e ▸ hk))
  have o0 := O2.out.cell 0
  have o1 := O2.out.cell 1
  have r0 := R2.out.cell 0
  have r1 := R2.out.cell 1
  have z0 := R2.out.frozen 0
  have z1 := R2.out.frozen 1
  have R3 : Bx _ (w.heap.size + 1) 26 [.int .i64 i, .slice ao1 ms.length cap1] := (R2.out.set 0 (.int .i64 i)).set 1 (.slice ao1 ms.length cap1)
  have T3 := ((TurnAt.refl (w.heap.size + 1) (w1.setCell ⟨w.heap.size, 1, none⟩ (.slice ao1 ms.length cap1))).setCell 0 (.int .i64 i)).setCell 1 (.slice ao1 ms.length cap1)
  have B3 := B2.out.trans (T3.below (by omega))
  have V3 := V2.out.keep fun k hk _ => T3.block k (fun e => bx_i_ne V2.out R2.out (by decide) (e ▸ hk))
  clear T2 T3 R1 A1 B1 V1 V2 R2 O2 B2
  go_wp2_with fail
  generalize ((w1.setCell ⟨w.heap.size, 1, none⟩ (.slice ao1 ms.length cap1)).setCell ⟨w.heap.size + 1, 0, none⟩ (.int .i64 i)).setCell ⟨w.heap.size + 1, 1, none⟩ (.slice ao1 ms.length cap1) = W3 at *
  have q0 := R3.cell 0
  have q1 := R3.cell 1
  refine bodyPost_ret (v := .agg #[.int .i64 i, .slice ao1 ms.length cap1]) (by simp [results, Try.results65, go_sem, q0, q1]) rfl ?_
  exact ⟨_, rfl, V3, B3⟩
end Go.Proofs.Ythdjkkiegecgnaa
