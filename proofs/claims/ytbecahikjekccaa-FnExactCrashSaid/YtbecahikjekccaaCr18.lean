/- Joined texts: CGem2 CGpl CDmk CCdm CLnd14 CCrs. -/
import Derived.Test.YtbecahikjekccaaCr15
import Derived.Test.YtbecahikjekccaaCr17
import Derived.Test.YtbecahikjekccaaCr5
import Derived.Test.YtbecahikjekccaaCr11
import Derived.Test.YtbecahikjekccaaCr13
/- Lists of events: marked, and looked at again. Written by gen_gs.py. -/
namespace Go.Proofs.Ytbecahikjekccaa
open Go.RowKit Pl
set_option linter.unusedVariables false
set_option linter.unusedSimpArgs false

/-- where the places of one lie. -/
structure EvSeg (w : World) (TL : List Spot) (n g o : Nat) (u : Ev) : Prop where
  gl : g < w.heap.size
  p0 : TL[n]? = some (g, o, 0)
  p1 : TL[n + 1]? = some (g, o + 1, 0)
  h2 : w.cell? ⟨g, o + 2, none⟩ = some (.slice u.sm.a u.sm.n u.sm.c)
  q2 : ∀ s ∈ TL, ¬ (s.1 = g ∧ s.2.1 = o + 2)
  s2 : Seg TL (n + 1 + 1) u.sm.a u.sm.n [0]
  p3 : TL[n + 1 + 1 + u.sm.n]? = some (g, o + 3, 0)
  p4 : TL[n + 1 + 1 + u.sm.n + 1]? = some (g, o + 4, 0)
  p5 : TL[n + 1 + 1 + u.sm.n + 1 + 1]? = some (g, o + 5, 0)
  p6 : TL[n + 1 + 1 + u.sm.n + 1 + 1 + 1]? = some (g, o + 6, 2)
  h7 : w.cell? ⟨g, o + 7, none⟩ = some (.slice u.sw.a u.sw.n u.sw.c)
  q7 : ∀ s ∈ TL, ¬ (s.1 = g ∧ s.2.1 = o + 7)
  s7 : Seg TL (n + 1 + 1 + u.sm.n + 1 + 1 + 1 + 1) u.sw.a u.sw.n [0]
def EvSeg.len (u : Ev) : Nat := 1 + 1 + u.sm.n + 1 + 1 + 1 + 1 + u.sw.n
theorem EvSeg.marked {w0 ws w : World} {TL : List Spot} {n g o K m : Nat} {u : Ev} (h : EvSeg w0 TL n g o u) (k : MkI w0 ws TL K m w) : EvSeg w TL n g o u :=
  { h with gl := by have := h.gl; have := k.size; omega, h2 := k.cell h.gl h.q2 h.h2, h7 := k.cell h.gl h.q7 h.h7 }
theorem EvSeg.later {w w' : World} {TL : List Spot} {n g o : Nat} {u : Ev} (h : EvSeg w TL n g o u) (b : Below w.heap.size w w') : EvSeg w' TL n g o u :=
  { h with gl := by have := h.gl; have := b.size; omega, h2 := (cell_block (b.block _ h.gl)).trans h.h2, h7 := (cell_block (b.block _ h.gl)).trans h.h7 }
/-- .. and of a list of them. -/
structure EvSegL (w : World) (TL : List Spot) (ao : Option Addr) (len : Nat) (us : Nat → Ev) (N : Nat → Nat) : Prop where
  one : ∀ j, j < len → ∃ g off, ao = some ⟨g, off, none⟩ ∧ EvSeg w TL (N j) g (off + j * 8) (us j)
  nx : ∀ j, j < len → N (j + 1) = N j + EvSeg.len (us j)
theorem EvSegL.marked {w0 ws w : World} {TL : List Spot} {ao : Option Addr} {len K m : Nat} {us : Nat → Ev} {N : Nat → Nat} (h : EvSegL w0 TL ao len us N) (k : MkI w0 ws TL K m w) : EvSegL w TL ao len us N := ⟨fun j hj => by obtain ⟨g, off, e, x⟩ := h.one j hj; exact ⟨g, off, e, x.marked k⟩, h.nx⟩
theorem EvSegL.later {w w' : World} {TL : List Spot} {ao : Option Addr} {len : Nat} {us : Nat → Ev} {N : Nat → Nat} (h : EvSegL w TL ao len us N) (b : Below w.heap.size w w') : EvSegL w' TL ao len us N := ⟨fun j hj => by obtain ⟨g, off, e, x⟩ := h.one j hj; exact ⟨g, off, e, x.later b⟩, h.nx⟩
theorem EvSegL.le {w : World} {TL : List Spot} {ao : Option Addr} {len : Nat} {us : Nat → Ev} {N : Nat → Nat} (h : EvSegL w TL ao len us N) : ∀ (d j : Nat), j + d = len → N j ≤ N len
  | 0, j, e => by rw [show j = len by omega]; exact Nat.le_refl _
  | d + 1, j, e => by
    have h1 := h.nx j (by omega)
    have h2 := h.le d (j + 1) (by omega)
    omega
set_option maxRecDepth 100000 in
set_option maxHeartbeats 16000000 in
theorem markevents_sp (w0 : World) (TL : List Spot) (K : Nat) (ao : Option Addr) (len cap : Nat) (us : Nat → Ev) (N : Nat → Nat) (z : Int) (w : World) (hT : Hid (TLok w0 TL)) (hI : Hid (MkI w0 w TL K (N 0) w)) (hs : Hid (EvSegL w0 TL ao len us N)) (hz : Hid (z = ((K + N 0 : Nat) : Int))) (hl : K + N len ≤ 39999990) (hll : len ≤ 39999990) (hK : 0 < K) :
    Calls Try.prog 26 #[.slice ao len cap, .int .i64 z] w fun e w' => ∃ M : Nat, e = .returned (.int .i64 (M : Int)) ∧ M = K + N len ∧ MkI w0 w TL K (N len) w' := by
  obtain ⟨M0, hM0⟩ : ∃ M : Nat, M = K + N 0 := ⟨_, rfl⟩
  have e0 : z = (M0 : Int) := by have := hz.out; omega
  subst e0
  have HM0 : Hid (M0 = K + N 0) := hM0
  clear hM0 hz
  go_enter Try.func26, Try.ntmps26
  go_wp2_with fail
  go_loopw [1, 5] (fun kk i wr => ∃ (j : Nat), j ≤ len ∧ i = .int .i64 (j : Int) ∧ kk = .int .i64 ((K + N j : Nat) : Int) ∧ Hid (MkI w0 w TL K (N j) wr)) (fun _ i _ => len - (intOf i).toNat)
  case atStart => exact ⟨0, by omega, rfl, by have := HM0.out; congr 1; omega, hI⟩
  case round =>
    obtain ⟨j, hj, rfl, rfl, HI⟩ := hrel
    obtain ⟨M, hM⟩ : ∃ M : Nat, M = K + N j := ⟨_, rfl⟩
    rw [← hM]
    have HM : Hid (M = K + N j) := hM
    clear hM
    by_cases hlt : j < len
    · obtain ⟨g, off, rfl, sg⟩ := hs.out.one j hlt
      have HNX : Hid _ := hs.out.nx j hlt
      have hle := hs.out.le (len - (j + 1)) (j + 1) (by omega)
      obtain ⟨u, hu⟩ : ∃ u, us j = u := ⟨_, rfl⟩
      rw [hu] at sg HNX
      have hle2 : N j + (1 + 1 + u.sm.n + 1 + 1 + 1 + 1 + u.sw.n) ≤ N len := by have := HNX.out; unfold EvSeg.len at this; omega
      obtain ⟨n, hn⟩ : ∃ n, n = N j := ⟨_, rfl⟩
      rw [← hn] at sg HM HNX hle2 HI
      have HN : Hid (n = N j) := hn
      obtain ⟨o, ho⟩ : ∃ o, o = off + j * 8 := ⟨_, rfl⟩
      rw [← ho] at sg
      have HO : Hid (o = off + j * 8) := ho
      have SG : Hid (EvSeg w0 TL n g o u) := sg
      clear sg hu hn ho hle
      have hMl : M ≤ 39999990 := by have := HM.out; omega
      have i0 : (0 : Int) ≤ (j : Int) := by omega
      have i1 : (j : Int) < (len : Int) := by omega
      have sp : TL[n]? = some (g, off + j * 8, 0) := by have h := SG.out.p0; rw [HO.out] at h; exact h
      have SP : Hid _ := sp
      clear sp
      go_wp2_with (first | (refine wpList_haltS 3 _ _ rfl ?_))
      refine Stp.go ?_
      refine wpList_stK rfl 3 _ _ rfl rfl _ rfl Try.sizeK3 hT.out HI.out SP.out (vkI (by have := HM.out; omega)) ?_
      intro w1 hi
      have HI : Hid (MkI w0 w TL K (n + 1) w1) := hi
      clear hi SP
      have sp : TL[n + 1]? = some (g, off + j * 8 + 1, 0) := by have h := SG.out.p1; rw [HO.out] at h; exact h
      have SP : Hid _ := sp
      clear sp
      go_wp2_with (first | (refine wpList_haltS 3 _ _ rfl ?_))
      refine Stp.go ?_
      refine wpList_stK rfl 3 _ _ rfl rfl _ rfl Try.sizeK3 hT.out HI.out SP.out (vkI (by have := HM.out; omega)) ?_
      intro w2 hi
      have HI : Hid (MkI w0 w TL K (n + 1 + 1) w2) := hi
      clear hi SP
      have hc : w2.cell? ⟨g, off + j * 8 + 2, none⟩ = some (.slice u.sm.a u.sm.n u.sm.c) := by have h := HI.out.cell SG.out.gl SG.out.q2 SG.out.h2; rw [HO.out] at h; exact h
      go_wp2_with fail
      clear hc
      refine (markI_z w0 TL K (n + 1 + 1) u.sm.a u.sm.n u.sm.c ((M : Int) + 1 + 1) _ hT HI.out.anchor SG.out.s2 (by have := HM.out; omega) (by omega)).mono ?_
      rintro e w3 ⟨M3, rfl, hm, hi⟩
      have HM : Hid (M3 = K + (n + 1 + 1 + u.sm.n)) := hm
      have HI : Hid (MkI w0 w TL K (n + 1 + 1 + u.sm.n) w3) := HI.out.back hi
      have hMl : M3 ≤ 39999990 := by omega
      clear hm hi
      have sp : TL[n + 1 + 1 + u.sm.n]? = some (g, off + j * 8 + 3, 0) := by have h := SG.out.p3; rw [HO.out] at h; exact h
      have SP : Hid _ := sp
      clear sp
      go_wp2_with (first | (refine wpList_haltS 3 _ _ rfl ?_))
      refine Stp.go ?_
      refine wpList_stK rfl 3 _ _ rfl rfl _ rfl Try.sizeK3 hT.out HI.out SP.out (vkI (by have := HM.out; omega)) ?_
      intro w4 hi
      have HI : Hid (MkI w0 w TL K (n + 1 + 1 + u.sm.n + 1) w4) := hi
      clear hi SP
      have sp : TL[n + 1 + 1 + u.sm.n + 1]? = some (g, off + j * 8 + 4, 0) := by have h := SG.out.p4; rw [HO.out] at h; exact h
      have SP : Hid _ := sp
      clear sp
      go_wp2_with (first | (refine wpList_haltS 3 _ _ rfl ?_))
      refine Stp.go ?_
      refine wpList_stK rfl 3 _ _ rfl rfl _ rfl Try.sizeK3 hT.out HI.out SP.out (vkI (by have := HM.out; omega)) ?_
      intro w5 hi
      have HI : Hid (MkI w0 w TL K (n + 1 + 1 + u.sm.n + 1 + 1) w5) := hi
      clear hi SP
      have sp : TL[n + 1 + 1 + u.sm.n + 1 + 1]? = some (g, off + j * 8 + 5, 0) := by have h := SG.out.p5; rw [HO.out] at h; exact h
      have SP : Hid _ := sp
      clear sp
      go_wp2_with (first | (refine wpList_haltS 3 _ _ rfl ?_))
      refine Stp.go ?_
      refine wpList_stK rfl 3 _ _ rfl rfl _ rfl Try.sizeK3 hT.out HI.out SP.out (vkI (by have := HM.out; omega)) ?_
      intro w6 hi
      have HI : Hid (MkI w0 w TL K (n + 1 + 1 + u.sm.n + 1 + 1 + 1) w6) := hi
      clear hi SP
      go_wp2_with fail
      refine (mark_at ((M3 : Int) + 1 + 1 + 1) w6 (by omega) (by omega)).mono ?_
      rintro e w7 ⟨rfl, b⟩
      have HI : Hid (MkI w0 w TL K (n + 1 + 1 + u.sm.n + 1 + 1 + 1) w7) := HI.out.later hT.out b
      clear b
      have sp : TL[n + 1 + 1 + u.sm.n + 1 + 1 + 1]? = some (g, off + j * 8 + 6, 2) := by have h := SG.out.p6; rw [HO.out] at h; exact h
      have SP : Hid _ := sp
      clear sp
      go_wp2_with (first | (refine wpList_haltS 9 _ _ rfl ?_))
      refine Stp.go ?_
      refine wpList_stK rfl 9 _ _ rfl rfl _ rfl Try.sizeK9 hT.out HI.out SP.out (by show Value.string _ = _; rw [vk2]; congr 2; have := HM.out; omega) ?_
      intro x7 hi
      have HI : Hid (MkI w0 w TL K (n + 1 + 1 + u.sm.n + 1 + 1 + 1 + 1) x7) := hi
      clear hi SP
      have hc : x7.cell? ⟨g, off + j * 8 + 7, none⟩ = some (.slice u.sw.a u.sw.n u.sw.c) := by have h := HI.out.cell SG.out.gl SG.out.q7 SG.out.h7; rw [HO.out] at h; exact h
      go_wp2_with fail
      clear hc
      refine (markI_z w0 TL K (n + 1 + 1 + u.sm.n + 1 + 1 + 1 + 1) u.sw.a u.sw.n u.sw.c ((M3 : Int) + 1 + 1 + 1 + 1) _ hT HI.out.anchor SG.out.s7 (by have := HM.out; omega) (by omega)).mono ?_
      rintro e w8 ⟨M8, rfl, hm, hi⟩
      have HM : Hid (M8 = K + (n + 1 + 1 + u.sm.n + 1 + 1 + 1 + 1 + u.sw.n)) := hm
      have HI : Hid (MkI w0 w TL K (n + 1 + 1 + u.sm.n + 1 + 1 + 1 + 1 + u.sw.n) w8) := HI.out.back hi
      have hMl : M8 ≤ 39999990 := by omega
      clear hm hi
      go_wp2_with fail
      go_roundw
      case rel =>
        have e : K + N (j + 1) = K + (n + (1 + 1 + u.sm.n + 1 + 1 + 1 + 1 + u.sw.n)) := by have h1 := HNX.out; unfold EvSeg.len at h1; omega
        refine ⟨j + 1, by omega, by go_num, by have := HM.out; congr 1; omega, ?_⟩
        have h := HI.out
        rw [show N (j + 1) = n + 1 + 1 + u.sm.n + 1 + 1 + 1 + 1 + u.sw.n by omega]
        exact h
      case measure => simp [intOf]; omega
    · obtain rfl : j = len := by omega
      go_wp2_with fail
      go_ret
      exact ⟨M, rfl, HM.out, HI.out⟩
set_option maxRecDepth 100000 in
set_option maxHeartbeats 16000000 in
theorem heldevents_sp (TL : List Spot) (K : Nat) (ao : Option Addr) (len cap : Nat) (us : Nat → Ev) (N : Nat → Nat) (z : Int) (w : World) (hH : Hid (Held w TL K)) (hs : Hid (EvSegL w TL ao len us N)) (hz : Hid (z = ((K + N 0 : Nat) : Int))) (hl : K + N len ≤ 39999990) (hll : len ≤ 39999990) (hK : 0 < K) :
    Calls Try.prog 30 #[.slice ao len cap, .int .i64 z] w fun e w' => ∃ M : Nat, e = .returned (.int .i64 (M : Int)) ∧ M = K + N len ∧ Below w.heap.size w w' := by
  obtain ⟨M0, hM0⟩ : ∃ M : Nat, M = K + N 0 := ⟨_, rfl⟩
  have e0 : z = (M0 : Int) := by have := hz.out; omega
  subst e0
  have HM0 : Hid (M0 = K + N 0) := hM0
  clear hM0 hz
  go_enter Try.func30, Try.ntmps30
  go_wp2_with fail
  go_loopw [1, 5] (fun kk i wr => ∃ (j : Nat), j ≤ len ∧ i = .int .i64 (j : Int) ∧ kk = .int .i64 ((K + N j : Nat) : Int) ∧ Hid (Below w.heap.size w wr)) (fun _ i _ => len - (intOf i).toNat)
  case atStart => exact ⟨0, by omega, rfl, by have := HM0.out; congr 1; omega, Below.refl _ _⟩
  case round =>
    obtain ⟨j, hj, rfl, rfl, HI⟩ := hrel
    obtain ⟨M, hM⟩ : ∃ M : Nat, M = K + N j := ⟨_, rfl⟩
    rw [← hM]
    have HM : Hid (M = K + N j) := hM
    clear hM
    by_cases hlt : j < len
    · obtain ⟨g, off, rfl, sg⟩ := hs.out.one j hlt
      have HNX : Hid _ := hs.out.nx j hlt
      have hle := hs.out.le (len - (j + 1)) (j + 1) (by omega)
      obtain ⟨u, hu⟩ : ∃ u, us j = u := ⟨_, rfl⟩
      rw [hu] at sg HNX
      have hle2 : N j + (1 + 1 + u.sm.n + 1 + 1 + 1 + 1 + u.sw.n) ≤ N len := by have := HNX.out; unfold EvSeg.len at this; omega
      obtain ⟨n, hn⟩ : ∃ n, n = N j := ⟨_, rfl⟩
      rw [← hn] at sg HM HNX hle2
      have HN : Hid (n = N j) := hn
      obtain ⟨o, ho⟩ : ∃ o, o = off + j * 8 := ⟨_, rfl⟩
      rw [← ho] at sg
      have HO : Hid (o = off + j * 8) := ho
      have SG : Hid (EvSeg w TL n g o u) := sg
      have SG : Hid (EvSeg wr TL n g o u) := SG.out.later HI.out
      have HH : Hid (Held wr TL K) := hH.out.later HI.out
      clear sg hu hn ho hle
      have hMl : M ≤ 39999990 := by have := HM.out; omega
      have i0 : (0 : Int) ≤ (j : Int) := by omega
      have i1 : (j : Int) < (len : Int) := by omega
      have hc0 : wr.cell? ⟨g, off + j * 8, none⟩ = some (.int .i64 ((M : Int))) := by have h := HH.out.int SG.out.p0 (z := (M : Int)) (by have := HM.out; omega); rw [HO.out] at h; exact h
      have hc1 : wr.cell? ⟨g, off + j * 8 + 1, none⟩ = some (.int .i64 ((M : Int) + 1)) := by have h := HH.out.int SG.out.p1 (z := (M : Int) + 1) (by have := HM.out; omega); rw [HO.out] at h; exact h
      have hc : wr.cell? ⟨g, off + j * 8 + 2, none⟩ = some (.slice u.sm.a u.sm.n u.sm.c) := by have h := SG.out.h2; rw [HO.out] at h; exact h
      go_wp2_with fail
      clear hc hc0 hc1
      refine (heldI_z TL K (n + 1 + 1) u.sm.a u.sm.n u.sm.c ((M : Int) + 1 + 1) _ HH SG.out.s2 (by have := HM.out; omega) (by omega)).mono ?_
      rintro e w3 ⟨M3, rfl, hm, b⟩
      have HM : Hid (M3 = K + (n + 1 + 1 + u.sm.n)) := hm
      have HH : Hid (Held w3 TL K) := HH.out.later b
      have SG : Hid (EvSeg w3 TL n g o u) := SG.out.later b
      have HI : Hid (Below w.heap.size w w3) := bl_next HI.out b
      have hMl : M3 ≤ 39999990 := by omega
      have hM0 : decide ((M3 : Int) < 0) = false := by simp
      clear hm b
      have hc3 : w3.cell? ⟨g, off + j * 8 + 3, none⟩ = some (.int .i64 ((M3 : Int))) := by have h := HH.out.int SG.out.p3 (z := (M3 : Int)) (by have := HM.out; omega); rw [HO.out] at h; exact h
      have hc4 : w3.cell? ⟨g, off + j * 8 + 4, none⟩ = some (.int .i64 ((M3 : Int) + 1)) := by have h := HH.out.int SG.out.p4 (z := (M3 : Int) + 1) (by have := HM.out; omega); rw [HO.out] at h; exact h
      have hc5 : w3.cell? ⟨g, off + j * 8 + 5, none⟩ = some (.int .i64 ((M3 : Int) + 1 + 1)) := by have h := HH.out.int SG.out.p5 (z := (M3 : Int) + 1 + 1) (by have := HM.out; omega); rw [HO.out] at h; exact h
      have hMk : 0 < (M3 : Int) + 1 + 1 + 1 ∧ (M3 : Int) + 1 + 1 + 1 ≤ 40000000 := by have := HM.out; omega
      have HTX : Hid (w3.cell? ⟨g, off + j * 8 + 6, none⟩ = some (.string (markS ((M3 : Int) + 1 + 1 + 1).toNat))) := (by have h := HH.out.text SG.out.p6 (k := ((M3 : Int) + 1 + 1 + 1).toNat) (by have := HM.out; omega); rw [HO.out] at h; exact h : _ = _)
      have hgl : g < w3.heap.size := SG.out.gl
      go_wp2_with fail
      clear hc3 hc4 hc5
      refine quietC (C := fun w' => Below w3.heap.size w3 w') (by kernel_rfl) (by kernel_rfl) (Below.refl _ _).drew ?_
      go_big_quiet_want
      refine q_val (.slice (some ⟨g, off, none⟩) len cap) (fun w' hw' => by go_simp) ?_
      go_big_quiet_on
      simp only [Act.put, List.setIfInBounds_toArray, List.set_cons_zero, List.set_cons_succ]
      go_big_quiet_want
      refine q_val (.int .i64 ((j : Int))) (fun w' hw' => by go_simp) ?_
      go_big_quiet_on
      simp only [Act.put, List.setIfInBounds_toArray, List.set_cons_zero, List.set_cons_succ]
      go_big_quiet_want
      refine q_val (.pointer (some ⟨g, off + j * 8, none⟩)) (fun w' hw' => by go_simp) ?_
      go_big_quiet_on
      simp only [Act.put, List.setIfInBounds_toArray, List.set_cons_zero, List.set_cons_succ]
      go_big_quiet_want
      refine q_val (.pointer (some ⟨g, off + j * 8 + 3, none⟩)) (fun w' hw' => by go_simp) ?_
      go_big_quiet_on
      simp only [Act.put, List.setIfInBounds_toArray, List.set_cons_zero, List.set_cons_succ]
      go_big_quiet_want
      refine q_val (.pointer (some ⟨g, off + j * 8 + 3 + 3, none⟩)) (fun w' hw' => by go_simp) ?_
      go_big_quiet_on
      simp only [Act.put, List.setIfInBounds_toArray, List.set_cons_zero, List.set_cons_succ]
      go_big_quiet_want
      refine q_val (.string (markS ((M3 : Int) + 1 + 1 + 1).toNat)) (fun w' hw' => by have c0 : w'.cell? ⟨g, off + j * 8 + 3 + 3, none⟩ = some (.string (markS ((M3 : Int) + 1 + 1 + 1).toNat)) := (hw'.cell (p := ⟨g, off + j * 8 + 3 + 3, none⟩) hgl).trans HTX.out; go_simp) ?_
      go_big_quiet_on
      simp only [Act.put, List.setIfInBounds_toArray, List.set_cons_zero, List.set_cons_succ]
      go_big_quiet_want
      refine q_val (.int .i64 ((M3 : Int) + 1 + 1 + 1)) (fun w' hw' => by go_simp) ?_
      go_big_quiet_on
      simp only [Act.put, List.setIfInBounds_toArray, List.set_cons_zero, List.set_cons_succ]
      go_big_quiet_want
      refine q_callB (W := w3) (.string (markS ((M3 : Int) + 1 + 1 + 1).toNat)) 61 #[(.int .i64 ((M3 : Int) + 1 + 1 + 1))] (fun w' hw' => by go_simp) (fun w' hw' => mark_at ((M3 : Int) + 1 + 1 + 1) w' (by omega) (by omega)) ?_
      go_big_quiet_on
      simp only [Act.put, List.setIfInBounds_toArray, List.set_cons_zero, List.set_cons_succ]
      go_big_quiet_want
      refine q_val (.bool false) (fun w' hw' => by go_simp) ?_
      go_big_quiet_on
      simp only [Act.put, List.setIfInBounds_toArray, List.set_cons_zero, List.set_cons_succ]
      refine wpQuiet_nil ?_
      intro w7 b
      have HH : Hid (Held w7 TL K) := HH.out.later b
      have SG : Hid (EvSeg w7 TL n g o u) := SG.out.later b
      have HI : Hid (Below w.heap.size w w7) := bl_next HI.out b
      clear b HTX
      have hc : w7.cell? ⟨g, off + j * 8 + 7, none⟩ = some (.slice u.sw.a u.sw.n u.sw.c) := by have h := SG.out.h7; rw [HO.out] at h; exact h
      go_wp2_with fail
      clear hc 
      refine (heldI_z TL K (n + 1 + 1 + u.sm.n + 1 + 1 + 1 + 1) u.sw.a u.sw.n u.sw.c ((M3 : Int) + 1 + 1 + 1 + 1) _ HH SG.out.s7 (by have := HM.out; omega) (by omega)).mono ?_
      rintro e w8 ⟨M8, rfl, hm, b⟩
      have HM : Hid (M8 = K + (n + 1 + 1 + u.sm.n + 1 + 1 + 1 + 1 + u.sw.n)) := hm
      have HH : Hid (Held w8 TL K) := HH.out.later b
      have SG : Hid (EvSeg w8 TL n g o u) := SG.out.later b
      have HI : Hid (Below w.heap.size w w8) := bl_next HI.out b
      have hMl : M8 ≤ 39999990 := by omega
      have hM0 : decide ((M8 : Int) < 0) = false := by simp
      clear hm b
      go_wp2_with fail
      go_roundw
      case rel =>
        have e : K + N (j + 1) = K + (n + (1 + 1 + u.sm.n + 1 + 1 + 1 + 1 + u.sw.n)) := by have h1 := HNX.out; unfold EvSeg.len at h1; omega
        exact ⟨j + 1, by omega, by go_num, by have := HM.out; congr 1; omega, HI⟩
      case measure => simp [intOf]; omega
    · obtain rfl : j = len := by omega
      go_wp2_with fail
      go_ret
      exact ⟨M, rfl, HM.out, HI.out⟩
end Go.Proofs.Ytbecahikjekccaa


/- Lists of bundles, lists of events: marked, and looked at again. Written by gen_gpl.py. -/
namespace Go.Proofs.Ytbecahikjekccaa
open Go.RowKit Pl
set_option linter.unusedVariables false
set_option linter.unusedSimpArgs false

def zBu : Bu := ⟨0, 0, 0, [], zSv⟩
def fdBu (u : Bu) : List Fd := [⟨0, 0, none, []⟩, ⟨1, 0, none, []⟩, ⟨2, 0, none, []⟩, ⟨3, 0, some u.s, [0, 0, 0, 2]⟩]
def atBu (es : List Bu) (j : Nat) : Bu := (es[j]?).getD zBu
theorem atBu_is {es : List Bu} {j : Nat} (h : j < es.length) : atBu es j = es[j] := by simp [atBu, h]
theorem Bu.lvs {w : World} {B : Nat} {e : Bu} (h : e.O w B) : LvS w e.s 4 := SlI.lv h
theorem Bu.ow {w : World} {B : Nat} {e : Bu} (h : e.O w B) {f : Fd} (hf : f ∈ fdBu e) {x : Nat} (hx : f.ow x) : e.own x := by
  obtain ⟨s, h1, h2, h3⟩ := hx
  simp only [fdBu, List.mem_cons, List.not_mem_nil, or_false] at hf
  have lv := Bu.lvs h
  rcases hf with rfl | rfl | rfl | rfl
  · cases h1
  · cases h1
  · cases h1
  · simp only [Option.some.injEq] at h1
    subst h1
    rw [← h3]
    exact ow_own (fun h0 => (lv h0).1) h2
theorem fdBu_ok {w : World} {B : Nat} {s : Sv} {es : List Bu} (h : BusO w B s es) (a : BusA s es) : FdOk w (svB s) 4 es.length (fun j => fdBu (atBu es j)) := by
  refine ⟨fun j hj f hf hs => ?_, fun j hj f hf hx => ?_, fun j hj => ?_, fun i j hij hj f hf f' hf' x hx hy => ?_, fun j hj f hf s' hs => ?_⟩
  · simp only [fdBu, List.mem_cons, List.not_mem_nil, or_false] at hf
    rcases hf with rfl | rfl | rfl | rfl <;> first | (simp; done) | cases hs
  · have ho := h.2 _ (List.getElem_mem hj)
    try dsimp only at hf
    rw [atBu_is hj] at hf
    obtain ⟨ha, _⟩ := rowCells h.1 (by simpa using (by omega : 0 < es.length))
    exact a.row (svB s) (by simp [Sv.v, Value.ownBlock, ha]) _ (List.getElem_mem hj) (Bu.ow ho hf hx)
  · try dsimp only
    rw [atBu_is hj]
    have lv := Bu.lvs (h.2 _ (List.getElem_mem hj))
    obtain ⟨u, hu⟩ : ∃ u, u = es[j] := ⟨_, rfl⟩
    have hm : u ∈ es := by rw [hu]; exact List.getElem_mem hj
    rw [← hu] at lv ⊢
    simp only [fdBu, List.pairwise_cons, List.mem_cons, List.not_mem_nil, or_false, forall_eq_or_imp, forall_eq, List.Pairwise.nil, and_true, Fd.ow]
    simp
  · have ho := h.2 _ (List.getElem_mem hj)
    have hi : i < es.length := by omega
    have hoi := h.2 _ (List.getElem_mem hi)
    try dsimp only at hf hf'
    rw [atBu_is hi] at hf
    rw [atBu_is hj] at hf'
    exact List.pairwise_iff_getElem.1 a.two i j hi hj hij x (Bu.ow hoi hf hx) (Bu.ow ho hf' hy)
  · have lv := Bu.lvs (h.2 _ (List.getElem_mem hj))
    try dsimp only at hf
    rw [atBu_is hj] at hf
    simp only [fdBu, List.mem_cons, List.not_mem_nil, or_false] at hf
    rcases hf with rfl | rfl | rfl | rfl
    · cases hs
    · cases hs
    · cases hs
    · simp only [Option.some.injEq] at hs
      subst hs
      exact lv
theorem pcBu_len (g o : Nat) (u : Bu) : (pc g o (fdBu u)).length = BuSeg.len u := by
  simp [pc, fdBu, Fd.sp, sps_len, BuSeg.len]
  omega
theorem segBu {w : World} {B : Nat} {s : Sv} {es : List Bu} (h : BusO w B s es) (a : BusA s es) : BuSegL w (tls (svB s) (svO s) 4 (fun j => fdBu (atBu es j)) es.length) s.a s.n (atBu es) (tlN (svB s) (svO s) 4 (fun j => fdBu (atBu es j))) := by
  have hF := fdBu_ok h a
  have hn : s.n = es.length := by have := h.1.slen; simpa using this
  rw [hn]
  refine ⟨fun j hj => ?_, fun j hj => ?_⟩
  · obtain ⟨ha, hlt, hc, hfz⟩ := rowCells h.1 (by simpa using (by omega : 0 < es.length))
    have ho := h.2 _ (List.getElem_mem hj)
    have lv := Bu.lvs ho
    refine ⟨svB s, svO s, ha, ?_⟩
    have hat : ∀ r, r < (pc (svB s) (svO s + j * 4) (fdBu (atBu es j))).length → (tls (svB s) (svO s) 4 (fun j => fdBu (atBu es j)) es.length)[tlN (svB s) (svO s) 4 (fun j => fdBu (atBu es j)) j + r]? = (pc (svB s) (svO s + j * 4) (fdBu (atBu es j)))[r]? := fun r hr => tls_at (F := fun j => fdBu (atBu es j)) hj hr
    have hrow : ∀ r u, (es[j].row)[r]? = some u → w.cell? ⟨svB s, svO s + j * 4 + r, none⟩ = some u := fun r u hu => hc j r u (by simpa using hj) (by simpa [hj] using hu)
    have hnot : ∀ c, c < 4 → (∀ i, i < es.length → ∀ f ∈ fdBu (atBu es i), f.s = none → f.c ≠ c) → ∀ x ∈ tls (svB s) (svO s) 4 (fun j => fdBu (atBu es j)) es.length, ¬ (x.1 = svB s ∧ x.2.1 = svO s + j * 4 + c) := fun c hc1 hc2 => tls_not hF hj hc1 hc2
    rw [atBu_is hj] at hat ⊢
    obtain ⟨u, hu⟩ : ∃ u, u = es[j] := ⟨_, rfl⟩
    rw [← hu] at hat hrow lv ⊢
    generalize tlN (svB s) (svO s) 4 (fun j => fdBu (atBu es j)) j = n at *
    generalize tls (svB s) (svO s) 4 (fun j => fdBu (atBu es j)) es.length = TL at *
    generalize svO s + j * 4 = o at *
    generalize svB s = g at *
    have fat : ∀ (A : List Fd) (f : Fd) (C : List Fd) (r : Nat), fdBu u = A ++ f :: C → r < (f.sp g o).length → TL[n + ((pc g o A).length + r)]? = (f.sp g o)[r]? := fun A f C r e hr => by
      rw [hat _ (by rw [e]; exact pc_len_lt A f C hr), e]
      exact pc_at A f C hr
    exact { gl := hlt, p0 := by have h := fat [] ⟨0, 0, none, []⟩ [⟨1, 0, none, []⟩, ⟨2, 0, none, []⟩, ⟨3, 0, some u.s, [0, 0, 0, 2]⟩] 0 rfl (by simp [Fd.sp]); simp [pc, Fd.sp, sps_len] at h; first | exact h | (rw [← h]; congr 1; omega), p1 := by have h := fat [⟨0, 0, none, []⟩] ⟨1, 0, none, []⟩ [⟨2, 0, none, []⟩, ⟨3, 0, some u.s, [0, 0, 0, 2]⟩] 0 rfl (by simp [Fd.sp]); simp [pc, Fd.sp, sps_len] at h; first | exact h | (rw [← h]; congr 1; omega), p2 := by have h := fat [⟨0, 0, none, []⟩, ⟨1, 0, none, []⟩] ⟨2, 0, none, []⟩ [⟨3, 0, some u.s, [0, 0, 0, 2]⟩] 0 rfl (by simp [Fd.sp]); simp [pc, Fd.sp, sps_len] at h; first | exact h | (rw [← h]; congr 1; omega), h3 := hrow 3 _ rfl, q3 := hnot 3 (by omega) (fun i hi f hf hs => by simp only [fdBu, List.mem_cons, List.not_mem_nil, or_false] at hf; rcases hf with rfl | rfl | rfl | rfl <;> first | (simp; done) | cases hs), s3 := seg_of (fun h0 => (lv h0).1) (fun t ht => by have h := fat [⟨0, 0, none, []⟩, ⟨1, 0, none, []⟩, ⟨2, 0, none, []⟩] ⟨3, 0, some u.s, [0, 0, 0, 2]⟩ [] t rfl (by simpa [Fd.sp, sps_len] using ht); have h2 := sps_at (ds := [0, 0, 0, 2]) (s := u.s) ht; refine (congrArg (fun i => TL[i]?) (?_ : _ = n + ((pc g o [⟨0, 0, none, []⟩, ⟨1, 0, none, []⟩, ⟨2, 0, none, []⟩]).length + t))).trans (h.trans h2); simp [pc, Fd.sp, sps_len]; try omega) }
  · rw [tlN_succ, pcBu_len]
/-- a list that is marked from K up to M. -/
def HeldBu (w : World) (s : Sv) (es : List Bu) (K M : Nat) : Prop := ∃ (TL : List Spot) (us : Nat → Bu) (N : Nat → Nat), Held w TL K ∧ BuSegL w TL s.a s.n us N ∧ N 0 = 0 ∧ M = K + N s.n ∧ s.n ≤ 1048576 ∧ (∀ x ∈ TL, BusOwn s es x.1)
theorem HeldBu.keep {w w' : World} {s : Sv} {es : List Bu} {K M : Nat} (h : HeldBu w s es K M) (hz : w.heap.size ≤ w'.heap.size) (hk : ∀ b, BusOwn s es b → b < w.heap.size → w'.heap[b]? = w.heap[b]?) : HeldBu w' s es K M := by
  obtain ⟨TL, us, N, h1, h2, h3, h4, h6, h5⟩ := h
  refine ⟨TL, us, N, fun i x hx => ?_, ⟨fun j hj => ?_, h2.nx⟩, h3, h4, h6, h5⟩
  · obtain ⟨k1, k2⟩ := h1 i x hx
    exact ⟨by omega, (cell_block (hk x.1 (h5 x (List.mem_of_getElem? hx)) k1)).trans k2⟩
  · obtain ⟨g, off, e, x⟩ := h2.one j hj
    have hb := hk g (.inl (by simp [Sv.v, Value.ownBlock, e])) x.gl
    exact ⟨g, off, e, { x with gl := by have := x.gl; omega, h3 := (cell_block hb).trans x.h3 }⟩
theorem HeldBu.later {w w' : World} {s : Sv} {es : List Bu} {K M : Nat} (h : HeldBu w s es K M) (b : Below w.heap.size w w') : HeldBu w' s es K M := h.keep b.size fun k _ hk => b.block k hk
theorem tlN_Bu {w : World} {B : Nat} {s : Sv} {es : List Bu} (h : BusO w B s es) : ∀ k, k ≤ es.length → tlN (svB s) (svO s) 4 (fun j => fdBu (atBu es j)) k ≤ 3 * k + 4 * Bus.tot (es.take k)
  | 0, _ => by simp [tlN, tls]
  | k + 1, hk => by
    have ih := tlN_Bu h k (by omega)
    have ho := h.2 _ (List.getElem_mem (show k < es.length by omega))
    rw [tlN_succ, pcBu_len, Bus.tot_take es k (by omega), atBu_is (by omega)]
    have := SlI.len ho
    unfold BuSeg.len Bu.sz
    omega
theorem markBus_o (s : Sv) (es : List Bu) (B K : Nat) (w : World) (h : Hid (BusO w B s es)) (a : Hid (BusA s es)) (hK : 0 < K) (hn : es.length ≤ 1048576) (hl : K + (3 * es.length + 4 * Bus.tot es) ≤ 39999990) :
    Calls Try.prog 25 #[.slice s.a s.n s.c, .int .i64 K] w fun e w' => ∃ M : Nat, e = .returned (.int .i64 (M : Int)) ∧ K ≤ M ∧ M ≤ K + (3 * es.length + 4 * Bus.tot es) ∧ HeldBu w' s es K M ∧ Gr (BusOwn s es) w w' := by
  have hN := h.out.1.slen
  rw [List.length_map] at hN
  have tok := tls_ok (F := fun j => fdBu (atBu es j)) h.out.1 (by simpa using fdBu_ok h.out a.out)
  rw [List.length_map] at tok
  have sg := segBu h.out a.out
  have hb := tlN_Bu h.out es.length (Nat.le_refl _)
  rw [List.take_of_length_le (Nat.le_refl _)] at hb
  have hle : K + tlN (svB s) (svO s) 4 (fun j => fdBu (atBu es j)) s.n ≤ 39999990 := by rw [hN]; omega
  have hin : ∀ x ∈ tls (svB s) (svO s) 4 (fun j => fdBu (atBu es j)) es.length, BusOwn s es x.1 := fun x hx => by
    rcases tls_in hx with h1 | ⟨j, hj, f, hf, h1⟩
    · obtain ⟨j, hj, _⟩ := tls_mem hx
      obtain ⟨ha, _⟩ := rowCells h.out.1 (by simpa using (by omega : 0 < es.length))
      rw [h1]
      exact .inl (by simp [Sv.v, Value.ownBlock, ha])
    · rw [atBu_is hj] at hf
      exact .inr ⟨_, List.getElem_mem hj, Bu.ow (h.out.2 _ (List.getElem_mem hj)) hf h1⟩
  have hz0 : tlN (svB s) (svO s) 4 (fun j => fdBu (atBu es j)) 0 = 0 := by simp [tlN, tls]
  have mst : MkI w w (tls (svB s) (svO s) 4 (fun j => fdBu (atBu es j)) es.length) K (tlN (svB s) (svO s) 4 (fun j => fdBu (atBu es j)) 0) w := by rw [hz0]; exact MkI.start w _ K
  refine (markbundles_sp w _ K s.a s.n s.c (atBu es) (tlN (svB s) (svO s) 4 (fun j => fdBu (atBu es j))) (K : Int) w tok mst sg (by rw [hz0]; rfl : (K : Int) = ((K + tlN (svB s) (svO s) 4 (fun j => fdBu (atBu es j)) 0 : Nat) : Int)) hle (by rw [hN]; omega) hK).mono ?_
  rintro e w' ⟨M, rfl, hM, mk⟩
  have hTL : tlN (svB s) (svO s) 4 (fun j => fdBu (atBu es j)) s.n = (tls (svB s) (svO s) 4 (fun j => fdBu (atBu es j)) es.length).length := by rw [hN]; rfl
  have b0 := mk.below 0 (fun _ _ => Nat.zero_le _) (Nat.zero_le _)
  refine ⟨M, rfl, by omega, by rw [hM, hN]; omega, ⟨_, _, _, (show Held w' _ K from (by rw [hTL] at mk; exact mk.held tok)), sg.marked mk, by simp [tlN, tls], hM, by rw [hN]; omega, hin⟩, ⟨b0.os, b0.tape, b0.output, mk.size, fun b hb hn => mk.blk b hb (fun x hx e => hn (e ▸ hin x hx))⟩⟩
theorem heldBus_o (s : Sv) (es : List Bu) (K M : Nat) (w : World) (h : Hid (HeldBu w s es K M)) (hK : 0 < K) (hl : M ≤ 39999990) :
    Calls Try.prog 29 #[.slice s.a s.n s.c, .int .i64 K] w fun e w' => e = .returned (.int .i64 (M : Int)) ∧ Below w.heap.size w w' := by
  obtain ⟨TL, us, N, h1, h2, h3, h4, h6, h5⟩ := h.out
  refine (heldbundles_sp TL K s.a s.n s.c us N (K : Int) w h1 h2 (by rw [h3]; rfl : _ = _) (by omega) (by omega) hK).mono ?_
  rintro e w' ⟨M', rfl, hM, b⟩
  exact ⟨by rw [hM, h4], b⟩
def zEv : Ev := ⟨0, 0, [], 0, 0, 0, ⟨#[]⟩, [], zSv, zSv⟩
def fdEv (u : Ev) : List Fd := [⟨0, 0, none, []⟩, ⟨1, 0, none, []⟩, ⟨2, 0, some u.sm, [0]⟩, ⟨3, 0, none, []⟩, ⟨4, 0, none, []⟩, ⟨5, 0, none, []⟩, ⟨6, 2, none, []⟩, ⟨7, 0, some u.sw, [0]⟩]
def atEv (es : List Ev) (j : Nat) : Ev := (es[j]?).getD zEv
theorem atEv_is {es : List Ev} {j : Nat} (h : j < es.length) : atEv es j = es[j] := by simp [atEv, h]
theorem Ev.lvs {w : World} {B : Nat} {e : Ev} (h : e.O w B) : LvS w e.sm 1 ∧ LvS w e.sw 1 := ⟨OwnI.lv h.1, OwnI.lv h.2⟩
theorem Ev.ow {w : World} {B : Nat} {e : Ev} (h : e.O w B) {f : Fd} (hf : f ∈ fdEv e) {x : Nat} (hx : f.ow x) : e.own x := by
  obtain ⟨s, h1, h2, h3⟩ := hx
  simp only [fdEv, List.mem_cons, List.not_mem_nil, or_false] at hf
  have lv := Ev.lvs h
  rcases hf with rfl | rfl | rfl | rfl | rfl | rfl | rfl | rfl
  · cases h1
  · cases h1
  · simp only [Option.some.injEq] at h1
    subst h1
    rw [← h3]
    exact .inl (ow_own (fun h0 => (lv.1 h0).1) h2)
  · cases h1
  · cases h1
  · cases h1
  · cases h1
  · simp only [Option.some.injEq] at h1
    subst h1
    rw [← h3]
    exact .inr (ow_own (fun h0 => (lv.2 h0).1) h2)
theorem fdEv_ok {w : World} {B : Nat} {s : Sv} {es : List Ev} (h : EvsO w B s es) (a : EvsA s es) : FdOk w (svB s) 8 es.length (fun j => fdEv (atEv es j)) := by
  refine ⟨fun j hj f hf hs => ?_, fun j hj f hf hx => ?_, fun j hj => ?_, fun i j hij hj f hf f' hf' x hx hy => ?_, fun j hj f hf s' hs => ?_⟩
  · simp only [fdEv, List.mem_cons, List.not_mem_nil, or_false] at hf
    rcases hf with rfl | rfl | rfl | rfl | rfl | rfl | rfl | rfl <;> first | (simp; done) | cases hs
  · have ho := h.2 _ (List.getElem_mem hj)
    try dsimp only at hf
    rw [atEv_is hj] at hf
    obtain ⟨ha, _⟩ := rowCells h.1 (by simpa using (by omega : 0 < es.length))
    exact a.row (svB s) (by simp [Sv.v, Value.ownBlock, ha]) _ (List.getElem_mem hj) (Ev.ow ho hf hx)
  · try dsimp only
    rw [atEv_is hj]
    have lv := Ev.lvs (h.2 _ (List.getElem_mem hj))
    obtain ⟨u, hu⟩ : ∃ u, u = es[j] := ⟨_, rfl⟩
    have hm : u ∈ es := by rw [hu]; exact List.getElem_mem hj
    rw [← hu] at lv ⊢
    simp only [fdEv, List.pairwise_cons, List.mem_cons, List.not_mem_nil, or_false, forall_eq_or_imp, forall_eq, List.Pairwise.nil, and_true, Fd.ow]
    simp
    intro k1 k3 k4
    exact a.one u hm (svB u.sm) (ow_own (fun h0 => (lv.1 h0).1) k1) (by rw [← k4]; exact ow_own (fun h0 => (lv.2 h0).1) k3)
  · have ho := h.2 _ (List.getElem_mem hj)
    have hi : i < es.length := by omega
    have hoi := h.2 _ (List.getElem_mem hi)
    try dsimp only at hf hf'
    rw [atEv_is hi] at hf
    rw [atEv_is hj] at hf'
    exact List.pairwise_iff_getElem.1 a.two i j hi hj hij x (Ev.ow hoi hf hx) (Ev.ow ho hf' hy)
  · have lv := Ev.lvs (h.2 _ (List.getElem_mem hj))
    try dsimp only at hf
    rw [atEv_is hj] at hf
    simp only [fdEv, List.mem_cons, List.not_mem_nil, or_false] at hf
    rcases hf with rfl | rfl | rfl | rfl | rfl | rfl | rfl | rfl
    · cases hs
    · cases hs
    · simp only [Option.some.injEq] at hs
      subst hs
      exact lv.1
    · cases hs
    · cases hs
    · cases hs
    · cases hs
    · simp only [Option.some.injEq] at hs
      subst hs
      exact lv.2
theorem pcEv_len (g o : Nat) (u : Ev) : (pc g o (fdEv u)).length = EvSeg.len u := by
  simp [pc, fdEv, Fd.sp, sps_len, EvSeg.len]
  omega
theorem segEv {w : World} {B : Nat} {s : Sv} {es : List Ev} (h : EvsO w B s es) (a : EvsA s es) : EvSegL w (tls (svB s) (svO s) 8 (fun j => fdEv (atEv es j)) es.length) s.a s.n (atEv es) (tlN (svB s) (svO s) 8 (fun j => fdEv (atEv es j))) := by
  have hF := fdEv_ok h a
  have hn : s.n = es.length := by have := h.1.slen; simpa using this
  rw [hn]
  refine ⟨fun j hj => ?_, fun j hj => ?_⟩
  · obtain ⟨ha, hlt, hc, hfz⟩ := rowCells h.1 (by simpa using (by omega : 0 < es.length))
    have ho := h.2 _ (List.getElem_mem hj)
    have lv := Ev.lvs ho
    refine ⟨svB s, svO s, ha, ?_⟩
    have hat : ∀ r, r < (pc (svB s) (svO s + j * 8) (fdEv (atEv es j))).length → (tls (svB s) (svO s) 8 (fun j => fdEv (atEv es j)) es.length)[tlN (svB s) (svO s) 8 (fun j => fdEv (atEv es j)) j + r]? = (pc (svB s) (svO s + j * 8) (fdEv (atEv es j)))[r]? := fun r hr => tls_at (F := fun j => fdEv (atEv es j)) hj hr
    have hrow : ∀ r u, (es[j].row)[r]? = some u → w.cell? ⟨svB s, svO s + j * 8 + r, none⟩ = some u := fun r u hu => hc j r u (by simpa using hj) (by simpa [hj] using hu)
    have hnot : ∀ c, c < 8 → (∀ i, i < es.length → ∀ f ∈ fdEv (atEv es i), f.s = none → f.c ≠ c) → ∀ x ∈ tls (svB s) (svO s) 8 (fun j => fdEv (atEv es j)) es.length, ¬ (x.1 = svB s ∧ x.2.1 = svO s + j * 8 + c) := fun c hc1 hc2 => tls_not hF hj hc1 hc2
    rw [atEv_is hj] at hat ⊢
    obtain ⟨u, hu⟩ : ∃ u, u = es[j] := ⟨_, rfl⟩
    rw [← hu] at hat hrow lv ⊢
    generalize tlN (svB s) (svO s) 8 (fun j => fdEv (atEv es j)) j = n at *
    generalize tls (svB s) (svO s) 8 (fun j => fdEv (atEv es j)) es.length = TL at *
    generalize svO s + j * 8 = o at *
    generalize svB s = g at *
    have fat : ∀ (A : List Fd) (f : Fd) (C : List Fd) (r : Nat), fdEv u = A ++ f :: C → r < (f.sp g o).length → TL[n + ((pc g o A).length + r)]? = (f.sp g o)[r]? := fun A f C r e hr => by
      rw [hat _ (by rw [e]; exact pc_len_lt A f C hr), e]
      exact pc_at A f C hr
    exact { gl := hlt, p0 := by have h := fat [] ⟨0, 0, none, []⟩ [⟨1, 0, none, []⟩, ⟨2, 0, some u.sm, [0]⟩, ⟨3, 0, none, []⟩, ⟨4, 0, none, []⟩, ⟨5, 0, none, []⟩, ⟨6, 2, none, []⟩, ⟨7, 0, some u.sw, [0]⟩] 0 rfl (by simp [Fd.sp]); simp [pc, Fd.sp, sps_len] at h; first | exact h | (rw [← h]; congr 1; omega), p1 := by have h := fat [⟨0, 0, none, []⟩] ⟨1, 0, none, []⟩ [⟨2, 0, some u.sm, [0]⟩, ⟨3, 0, none, []⟩, ⟨4, 0, none, []⟩, ⟨5, 0, none, []⟩, ⟨6, 2, none, []⟩, ⟨7, 0, some u.sw, [0]⟩] 0 rfl (by simp [Fd.sp]); simp [pc, Fd.sp, sps_len] at h; first | exact h | (rw [← h]; congr 1; omega), h2 := hrow 2 _ rfl, q2 := hnot 2 (by omega) (fun i hi f hf hs => by simp only [fdEv, List.mem_cons, List.not_mem_nil, or_false] at hf; rcases hf with rfl | rfl | rfl | rfl | rfl | rfl | rfl | rfl <;> first | (simp; done) | cases hs), s2 := seg_of (fun h0 => (lv.1 h0).1) (fun t ht => by have h := fat [⟨0, 0, none, []⟩, ⟨1, 0, none, []⟩] ⟨2, 0, some u.sm, [0]⟩ [⟨3, 0, none, []⟩, ⟨4, 0, none, []⟩, ⟨5, 0, none, []⟩, ⟨6, 2, none, []⟩, ⟨7, 0, some u.sw, [0]⟩] t rfl (by simpa [Fd.sp, sps_len] using ht); have h2 := sps_at (ds := [0]) (s := u.sm) ht; refine (congrArg (fun i => TL[i]?) (?_ : _ = n + ((pc g o [⟨0, 0, none, []⟩, ⟨1, 0, none, []⟩]).length + t))).trans (h.trans h2); simp [pc, Fd.sp, sps_len]; try omega), p3 := by have h := fat [⟨0, 0, none, []⟩, ⟨1, 0, none, []⟩, ⟨2, 0, some u.sm, [0]⟩] ⟨3, 0, none, []⟩ [⟨4, 0, none, []⟩, ⟨5, 0, none, []⟩, ⟨6, 2, none, []⟩, ⟨7, 0, some u.sw, [0]⟩] 0 rfl (by simp [Fd.sp]); simp [pc, Fd.sp, sps_len] at h; first | exact h | (rw [← h]; congr 1; omega), p4 := by have h := fat [⟨0, 0, none, []⟩, ⟨1, 0, none, []⟩, ⟨2, 0, some u.sm, [0]⟩, ⟨3, 0, none, []⟩] ⟨4, 0, none, []⟩ [⟨5, 0, none, []⟩, ⟨6, 2, none, []⟩, ⟨7, 0, some u.sw, [0]⟩] 0 rfl (by simp [Fd.sp]); simp [pc, Fd.sp, sps_len] at h; first | exact h | (rw [← h]; congr 1; omega), p5 := by have h := fat [⟨0, 0, none, []⟩, ⟨1, 0, none, []⟩, ⟨2, 0, some u.sm, [0]⟩, ⟨3, 0, none, []⟩, ⟨4, 0, none, []⟩] ⟨5, 0, none, []⟩ [⟨6, 2, none, []⟩, ⟨7, 0, some u.sw, [0]⟩] 0 rfl (by simp [Fd.sp]); simp [pc, Fd.sp, sps_len] at h; first | exact h | (rw [← h]; congr 1; omega), p6 := by have h := fat [⟨0, 0, none, []⟩, ⟨1, 0, none, []⟩, ⟨2, 0, some u.sm, [0]⟩, ⟨3, 0, none, []⟩, ⟨4, 0, none, []⟩, ⟨5, 0, none, []⟩] ⟨6, 2, none, []⟩ [⟨7, 0, some u.sw, [0]⟩] 0 rfl (by simp [Fd.sp]); simp [pc, Fd.sp, sps_len] at h; first | exact h | (rw [← h]; congr 1; omega), h7 := hrow 7 _ rfl, q7 := hnot 7 (by omega) (fun i hi f hf hs => by simp only [fdEv, List.mem_cons, List.not_mem_nil, or_false] at hf; rcases hf with rfl | rfl | rfl | rfl | rfl | rfl | rfl | rfl <;> first | (simp; done) | cases hs), s7 := seg_of (fun h0 => (lv.2 h0).1) (fun t ht => by have h := fat [⟨0, 0, none, []⟩, ⟨1, 0, none, []⟩, ⟨2, 0, some u.sm, [0]⟩, ⟨3, 0, none, []⟩, ⟨4, 0, none, []⟩, ⟨5, 0, none, []⟩, ⟨6, 2, none, []⟩] ⟨7, 0, some u.sw, [0]⟩ [] t rfl (by simpa [Fd.sp, sps_len] using ht); have h2 := sps_at (ds := [0]) (s := u.sw) ht; refine (congrArg (fun i => TL[i]?) (?_ : _ = n + ((pc g o [⟨0, 0, none, []⟩, ⟨1, 0, none, []⟩, ⟨2, 0, some u.sm, [0]⟩, ⟨3, 0, none, []⟩, ⟨4, 0, none, []⟩, ⟨5, 0, none, []⟩, ⟨6, 2, none, []⟩]).length + t))).trans (h.trans h2); simp [pc, Fd.sp, sps_len]; try omega) }
  · rw [tlN_succ, pcEv_len]
/-- a list that is marked from K up to M. -/
def HeldEv (w : World) (s : Sv) (es : List Ev) (K M : Nat) : Prop := ∃ (TL : List Spot) (us : Nat → Ev) (N : Nat → Nat), Held w TL K ∧ EvSegL w TL s.a s.n us N ∧ N 0 = 0 ∧ M = K + N s.n ∧ s.n ≤ 1048576 ∧ (∀ x ∈ TL, EvsOwn s es x.1)
theorem HeldEv.keep {w w' : World} {s : Sv} {es : List Ev} {K M : Nat} (h : HeldEv w s es K M) (hz : w.heap.size ≤ w'.heap.size) (hk : ∀ b, EvsOwn s es b → b < w.heap.size → w'.heap[b]? = w.heap[b]?) : HeldEv w' s es K M := by
  obtain ⟨TL, us, N, h1, h2, h3, h4, h6, h5⟩ := h
  refine ⟨TL, us, N, fun i x hx => ?_, ⟨fun j hj => ?_, h2.nx⟩, h3, h4, h6, h5⟩
  · obtain ⟨k1, k2⟩ := h1 i x hx
    exact ⟨by omega, (cell_block (hk x.1 (h5 x (List.mem_of_getElem? hx)) k1)).trans k2⟩
  · obtain ⟨g, off, e, x⟩ := h2.one j hj
    have hb := hk g (.inl (by simp [Sv.v, Value.ownBlock, e])) x.gl
    exact ⟨g, off, e, { x with gl := by have := x.gl; omega, h2 := (cell_block hb).trans x.h2, h7 := (cell_block hb).trans x.h7 }⟩
theorem HeldEv.later {w w' : World} {s : Sv} {es : List Ev} {K M : Nat} (h : HeldEv w s es K M) (b : Below w.heap.size w w') : HeldEv w' s es K M := h.keep b.size fun k _ hk => b.block k hk
theorem tlN_Ev {w : World} {B : Nat} {s : Sv} {es : List Ev} (h : EvsO w B s es) : ∀ k, k ≤ es.length → tlN (svB s) (svO s) 8 (fun j => fdEv (atEv es j)) k ≤ 6 * k + 1 * Evs.tot (es.take k)
  | 0, _ => by simp [tlN, tls]
  | k + 1, hk => by
    have ih := tlN_Ev h k (by omega)
    have ho := h.2 _ (List.getElem_mem (show k < es.length by omega))
    rw [tlN_succ, pcEv_len, Evs.tot_take es k (by omega), atEv_is (by omega)]
    have h1 := ho.1.slen
    have h2 := ho.2.slen
    unfold EvSeg.len Ev.sz
    omega
theorem markEvs_o (s : Sv) (es : List Ev) (B K : Nat) (w : World) (h : Hid (EvsO w B s es)) (a : Hid (EvsA s es)) (hK : 0 < K) (hn : es.length ≤ 1048576) (hl : K + (6 * es.length + 1 * Evs.tot es) ≤ 39999990) :
    Calls Try.prog 26 #[.slice s.a s.n s.c, .int .i64 K] w fun e w' => ∃ M : Nat, e = .returned (.int .i64 (M : Int)) ∧ K ≤ M ∧ M ≤ K + (6 * es.length + 1 * Evs.tot es) ∧ HeldEv w' s es K M ∧ Gr (EvsOwn s es) w w' := by
  have hN := h.out.1.slen
  rw [List.length_map] at hN
  have tok := tls_ok (F := fun j => fdEv (atEv es j)) h.out.1 (by simpa using fdEv_ok h.out a.out)
  rw [List.length_map] at tok
  have sg := segEv h.out a.out
  have hb := tlN_Ev h.out es.length (Nat.le_refl _)
  rw [List.take_of_length_le (Nat.le_refl _)] at hb
  have hle : K + tlN (svB s) (svO s) 8 (fun j => fdEv (atEv es j)) s.n ≤ 39999990 := by rw [hN]; omega
  have hin : ∀ x ∈ tls (svB s) (svO s) 8 (fun j => fdEv (atEv es j)) es.length, EvsOwn s es x.1 := fun x hx => by
    rcases tls_in hx with h1 | ⟨j, hj, f, hf, h1⟩
    · obtain ⟨j, hj, _⟩ := tls_mem hx
      obtain ⟨ha, _⟩ := rowCells h.out.1 (by simpa using (by omega : 0 < es.length))
      rw [h1]
      exact .inl (by simp [Sv.v, Value.ownBlock, ha])
    · rw [atEv_is hj] at hf
      exact .inr ⟨_, List.getElem_mem hj, Ev.ow (h.out.2 _ (List.getElem_mem hj)) hf h1⟩
  have hz0 : tlN (svB s) (svO s) 8 (fun j => fdEv (atEv es j)) 0 = 0 := by simp [tlN, tls]
  have mst : MkI w w (tls (svB s) (svO s) 8 (fun j => fdEv (atEv es j)) es.length) K (tlN (svB s) (svO s) 8 (fun j => fdEv (atEv es j)) 0) w := by rw [hz0]; exact MkI.start w _ K
  refine (markevents_sp w _ K s.a s.n s.c (atEv es) (tlN (svB s) (svO s) 8 (fun j => fdEv (atEv es j))) (K : Int) w tok mst sg (by rw [hz0]; rfl : (K : Int) = ((K + tlN (svB s) (svO s) 8 (fun j => fdEv (atEv es j)) 0 : Nat) : Int)) hle (by rw [hN]; omega) hK).mono ?_
  rintro e w' ⟨M, rfl, hM, mk⟩
  have hTL : tlN (svB s) (svO s) 8 (fun j => fdEv (atEv es j)) s.n = (tls (svB s) (svO s) 8 (fun j => fdEv (atEv es j)) es.length).length := by rw [hN]; rfl
  have b0 := mk.below 0 (fun _ _ => Nat.zero_le _) (Nat.zero_le _)
  refine ⟨M, rfl, by omega, by rw [hM, hN]; omega, ⟨_, _, _, (show Held w' _ K from (by rw [hTL] at mk; exact mk.held tok)), sg.marked mk, by simp [tlN, tls], hM, by rw [hN]; omega, hin⟩, ⟨b0.os, b0.tape, b0.output, mk.size, fun b hb hn => mk.blk b hb (fun x hx e => hn (e ▸ hin x hx))⟩⟩
theorem heldEvs_o (s : Sv) (es : List Ev) (K M : Nat) (w : World) (h : Hid (HeldEv w s es K M)) (hK : 0 < K) (hl : M ≤ 39999990) :
    Calls Try.prog 30 #[.slice s.a s.n s.c, .int .i64 K] w fun e w' => e = .returned (.int .i64 (M : Int)) ∧ Below w.heap.size w w' := by
  obtain ⟨TL, us, N, h1, h2, h3, h4, h6, h5⟩ := h.out
  refine (heldevents_sp TL K s.a s.n s.c us N (K : Int) w h1 h2 (by rw [h3]; rfl : _ = _) (by omega) (by omega) hK).mono ?_
  rintro e w' ⟨M', rfl, hM, b⟩
  exact ⟨by rw [hM, h4], b⟩
end Go.Proofs.Ytbecahikjekccaa


/- A daemon: marked, and looked at again. Written by gen_dmk.py. -/
namespace Go.Proofs.Ytbecahikjekccaa
open Go.RowKit Pl
set_option linter.unusedVariables false
set_option linter.unusedSimpArgs false

/-- the blocks of a daemon's lists. -/
def Dm.own (d : Dm) (x : Nat) : Prop := d.mv.own x ∨ d.js.v.ownBlock = some x ∨ BusOwn d.bs d.bu x ∨ EvsOwn d.ls d.lo x
theorem DmO.olt {w : World} {B : Nat} {d : Dm} (h : DmO w B d) {x : Nat} (hx : d.own x) : B ≤ x ∧ x < w.heap.size := by
  rcases hx with hx | hx | hx | hx
  · exact h.mt.lt hx
  · exact h.jo.lt x hx
  · exact h.bu.olt hx
  · exact h.lo.olt hx
theorem BusO.keepo {w w' : World} {B : Nat} {s : Sv} {es : List Bu} (h : BusO w B s es) (hk : ∀ b, BusOwn s es b → b < w.heap.size → w'.heap[b]? = w.heap[b]?) : BusO w' B s es := ⟨h.1.keep fun b hb hl => hk b (.inl hb) hl, fun e he => Sl.keep (h.2 e he) fun b hb hl => hk b (.inr ⟨e, he, hb⟩) hl⟩
theorem EvsO.keepo {w w' : World} {B : Nat} {s : Sv} {es : List Ev} (h : EvsO w B s es) (hk : ∀ b, EvsOwn s es b → b < w.heap.size → w'.heap[b]? = w.heap[b]?) : EvsO w' B s es := ⟨h.1.keep fun b hb hl => hk b (.inl hb) hl, fun e he => ⟨(h.2 e he).1.keep fun b hb hl => hk b (.inr ⟨e, he, .inl hb⟩) hl, (h.2 e he).2.keep fun b hb hl => hk b (.inr ⟨e, he, .inr hb⟩) hl⟩⟩
theorem DmO.keepo {w w' : World} {B : Nat} {d : Dm} (h : DmO w B d) (hk : ∀ b, d.own b → b < w.heap.size → w'.heap[b]? = w.heap[b]?) : DmO w' B d :=
  ⟨h.mt.keep fun b hb hl => hk b (.inl hb) hl, h.jo.keep fun b hb hl => hk b (.inr (.inl hb)) hl, h.bu.keepo fun b hb hl => hk b (.inr (.inr (.inl hb))) hl, h.lo.keepo fun b hb hl => hk b (.inr (.inr (.inr hb))) hl⟩
theorem Gr.up {S S' : Nat → Prop} {a b : World} (h : Gr S a b) (hs : ∀ k, S k → S' k) : Gr S' a b := ⟨h.os, h.tape, h.output, h.size, fun k hk hn => h.block k hk (fun h1 => hn (hs k h1))⟩
theorem Bx.gr {S : Nat → Prop} {a b : World} {g T : Nat} {cs : List Value} (h : Bx a g T cs) (k : Gr S a b) (hn : ¬ S g) : Bx b g T cs := (k.block g h.lt hn).trans h
/-- a daemon that is marked from K up to M. -/
def HeldD (w : World) (B : Nat) (d : Dm) (K M : Nat) : Prop := ∃ K4 : Nat, MtO w B (markM K d.m) d.mv ∧ OwnI w B d.js.v (marks (endM K d.m) d.jms.length) ∧ HeldBu w d.bs d.bu (endM K d.m + d.jms.length) K4 ∧ HeldEv w d.ls d.lo K4 M ∧ 0 < K ∧ endM K d.m + d.jms.length ≤ K4 ∧ K4 ≤ M ∧ M ≤ 39999990
theorem HeldD.keep {w w' : World} {B : Nat} {d : Dm} {K M : Nat} (h : HeldD w B d K M) (hz : w.heap.size ≤ w'.heap.size) (hk : ∀ b, d.own b → b < w.heap.size → w'.heap[b]? = w.heap[b]?) : HeldD w' B d K M := by
  obtain ⟨K4, h1, h2, h3, h4, h5⟩ := h
  exact ⟨K4, h1.keep fun b hb hl => hk b (.inl hb) hl, h2.keep fun b hb hl => hk b (.inr (.inl hb)) hl, h3.keep hz fun b hb hl => hk b (.inr (.inr (.inl hb))) hl, h4.keep hz fun b hb hl => hk b (.inr (.inr (.inr hb))) hl, h5⟩
theorem HeldD.later {w w' : World} {B : Nat} {d : Dm} {K M : Nat} (h : HeldD w B d K M) (b : Below w.heap.size w w') : HeldD w' B d K M := h.keep b.size fun k _ hk => b.block k hk
set_option maxRecDepth 100000 in
set_option maxHeartbeats 8000000 in
theorem markDaemon_o (d : Dm) (B K : Nat) (w : World) (h : Hid (DmO w B d)) (a : Hid (DmA d)) (hs : Hid (DmS d)) (hK : 0 < K) (hKl : K ≤ 10000000) :
    Calls Try.prog 9 #[.agg #[.int .i64 d.id, .bool d.dead, .int .i64 d.m.id, .int .i64 d.m.rid, .slice d.mv.ms.a d.mv.ms.n d.mv.ms.c, .slice d.mv.its.a d.mv.its.n d.mv.its.c, .slice d.mv.lv.a d.mv.lv.n d.mv.lv.c, .slice d.mv.tx.a d.mv.tx.n d.mv.tx.c, .int .i64 d.m.rd, .int .i64 d.m.se, .int .i64 d.m.li, .int .i64 d.m.he, .int .i64 d.m.la.c, .int .i64 d.m.la.r, .int .i64 d.m.la.q, .int .i64 d.m.la.a, .int .i64 d.m.la.b, .slice d.mv.ws.a d.mv.ws.n d.mv.ws.c, .int .i64 d.most, .int .i64 d.old, .int .i64 d.jid, .slice d.js.a d.js.n d.js.c, .slice d.bs.a d.bs.n d.bs.c, .slice d.ls.a d.ls.n d.ls.c], .int .i64 K] w fun e w' => ∃ M : Nat, e = .returned (.int .i64 (M : Int)) ∧ K ≤ M ∧ M ≤ K + 17000000 ∧ HeldD w' B d K M ∧ Gr d.own w w' := by
  have LA : Hid (Bx (w.alloc (.cells #[.int .i64 d.id, .bool d.dead, .int .i64 d.m.id, .int .i64 d.m.rid, .slice d.mv.ms.a d.mv.ms.n d.mv.ms.c, .slice d.mv.its.a d.mv.its.n d.mv.its.c, .slice d.mv.lv.a d.mv.lv.n d.mv.lv.c, .slice d.mv.tx.a d.mv.tx.n d.mv.tx.c, .int .i64 d.m.rd, .int .i64 d.m.se, .int .i64 d.m.li, .int .i64 d.m.he, .int .i64 d.m.la.c, .int .i64 d.m.la.r, .int .i64 d.m.la.q, .int .i64 d.m.la.a, .int .i64 d.m.la.b, .slice d.mv.ws.a d.mv.ws.n d.mv.ws.c, .int .i64 d.most, .int .i64 d.old, .int .i64 d.jid, .slice d.js.a d.js.n d.js.c, .slice d.bs.a d.bs.n d.bs.c, .slice d.ls.a d.ls.n d.ls.c] 34)) w.heap.size 34 [.int .i64 d.id, .bool d.dead, .int .i64 d.m.id, .int .i64 d.m.rid, .slice d.mv.ms.a d.mv.ms.n d.mv.ms.c, .slice d.mv.its.a d.mv.its.n d.mv.its.c, .slice d.mv.lv.a d.mv.lv.n d.mv.lv.c, .slice d.mv.tx.a d.mv.tx.n d.mv.tx.c, .int .i64 d.m.rd, .int .i64 d.m.se, .int .i64 d.m.li, .int .i64 d.m.he, .int .i64 d.m.la.c, .int .i64 d.m.la.r, .int .i64 d.m.la.q, .int .i64 d.m.la.a, .int .i64 d.m.la.b, .slice d.mv.ws.a d.mv.ws.n d.mv.ws.c, .int .i64 d.most, .int .i64 d.old, .int .i64 d.jid, .slice d.js.a d.js.n d.js.c, .slice d.bs.a d.bs.n d.bs.c, .slice d.ls.a d.ls.n d.ls.c]) := by
    have h := Bx.new w 34 [.int .i64 d.id, .bool d.dead, .int .i64 d.m.id, .int .i64 d.m.rid, .slice d.mv.ms.a d.mv.ms.n d.mv.ms.c, .slice d.mv.its.a d.mv.its.n d.mv.its.c, .slice d.mv.lv.a d.mv.lv.n d.mv.lv.c, .slice d.mv.tx.a d.mv.tx.n d.mv.tx.c, .int .i64 d.m.rd, .int .i64 d.m.se, .int .i64 d.m.li, .int .i64 d.m.he, .int .i64 d.m.la.c, .int .i64 d.m.la.r, .int .i64 d.m.la.q, .int .i64 d.m.la.a, .int .i64 d.m.la.b, .slice d.mv.ws.a d.mv.ws.n d.mv.ws.c, .int .i64 d.most, .int .i64 d.old, .int .i64 d.jid, .slice d.js.a d.js.n d.js.c, .slice d.bs.a d.bs.n d.bs.c, .slice d.ls.a d.ls.n d.ls.c]
    exact h
  have BW : Hid (Below w.heap.size w (w.alloc (.cells #[.int .i64 d.id, .bool d.dead, .int .i64 d.m.id, .int .i64 d.m.rid, .slice d.mv.ms.a d.mv.ms.n d.mv.ms.c, .slice d.mv.its.a d.mv.its.n d.mv.its.c, .slice d.mv.lv.a d.mv.lv.n d.mv.lv.c, .slice d.mv.tx.a d.mv.tx.n d.mv.tx.c, .int .i64 d.m.rd, .int .i64 d.m.se, .int .i64 d.m.li, .int .i64 d.m.he, .int .i64 d.m.la.c, .int .i64 d.m.la.r, .int .i64 d.m.la.q, .int .i64 d.m.la.a, .int .i64 d.m.la.b, .slice d.mv.ws.a d.mv.ws.n d.mv.ws.c, .int .i64 d.most, .int .i64 d.old, .int .i64 d.jid, .slice d.js.a d.js.n d.js.c, .slice d.bs.a d.bs.n d.bs.c, .slice d.ls.a d.ls.n d.ls.c] 34))) := ((Below.refl _ _).alloc (by simp) _)
  have P : Hid (DmO (w.alloc (.cells #[.int .i64 d.id, .bool d.dead, .int .i64 d.m.id, .int .i64 d.m.rid, .slice d.mv.ms.a d.mv.ms.n d.mv.ms.c, .slice d.mv.its.a d.mv.its.n d.mv.its.c, .slice d.mv.lv.a d.mv.lv.n d.mv.lv.c, .slice d.mv.tx.a d.mv.tx.n d.mv.tx.c, .int .i64 d.m.rd, .int .i64 d.m.se, .int .i64 d.m.li, .int .i64 d.m.he, .int .i64 d.m.la.c, .int .i64 d.m.la.r, .int .i64 d.m.la.q, .int .i64 d.m.la.a, .int .i64 d.m.la.b, .slice d.mv.ws.a d.mv.ws.n d.mv.ws.c, .int .i64 d.most, .int .i64 d.old, .int .i64 d.jid, .slice d.js.a d.js.n d.js.c, .slice d.bs.a d.bs.n d.bs.c, .slice d.ls.a d.ls.n d.ls.c] 34)) B d) := h.out.below BW.out
  have NE : Hid (∀ x, d.own x → x < w.heap.size) := fun x hx => (h.out.olt hx).2
  have GG : Hid (Gr d.own w (w.alloc (.cells #[.int .i64 d.id, .bool d.dead, .int .i64 d.m.id, .int .i64 d.m.rid, .slice d.mv.ms.a d.mv.ms.n d.mv.ms.c, .slice d.mv.its.a d.mv.its.n d.mv.its.c, .slice d.mv.lv.a d.mv.lv.n d.mv.lv.c, .slice d.mv.tx.a d.mv.tx.n d.mv.tx.c, .int .i64 d.m.rd, .int .i64 d.m.se, .int .i64 d.m.li, .int .i64 d.m.he, .int .i64 d.m.la.c, .int .i64 d.m.la.r, .int .i64 d.m.la.q, .int .i64 d.m.la.a, .int .i64 d.m.la.b, .slice d.mv.ws.a d.mv.ws.n d.mv.ws.c, .int .i64 d.most, .int .i64 d.old, .int .i64 d.jid, .slice d.js.a d.js.n d.js.c, .slice d.bs.a d.bs.n d.bs.c, .slice d.ls.a d.ls.n d.ls.c] 34))) := gr_below BW.out
  have S1 : Hid (endM K d.m ≤ K + 4194304) := (by have h1 := hs.out.mt.all; unfold endM; omega : _ ≤ _)
  have S1g : K ≤ endM K d.m := by unfold endM; omega
  have S2 := hs.out.jo
  have S3 : 3 * d.bu.length + 4 * Bus.tot d.bu ≤ 4194304 := by have := hs.out.bu; omega
  have S4 : 6 * d.lo.length + 1 * Evs.tot d.lo ≤ 6291456 := by have := hs.out.lo; omega
  have S3b := hs.out.bus.1
  have S4b := hs.out.los.1
  clear h
  go_enter Try.func9, Try.ntmps9
  go_wp2_with (first | (refine wpList_ldG rfl 30 _ rfl w.heap.size 2 rfl 34 _ LA.out [.int .i64 d.m.id, .int .i64 d.m.rid, .slice d.mv.ms.a d.mv.ms.n d.mv.ms.c, .slice d.mv.its.a d.mv.its.n d.mv.its.c, .slice d.mv.lv.a d.mv.lv.n d.mv.lv.c, .slice d.mv.tx.a d.mv.tx.n d.mv.tx.c, .int .i64 d.m.rd, .int .i64 d.m.se, .int .i64 d.m.li, .int .i64 d.m.he, .int .i64 d.m.la.c, .int .i64 d.m.la.r, .int .i64 d.m.la.q, .int .i64 d.m.la.a, .int .i64 d.m.la.b, .slice d.mv.ws.a d.mv.ws.n d.mv.ws.c] rfl _ Try.underlying30 rfl Try.sizeM ?_))
  generalize (w.alloc (.cells #[.int .i64 d.id, .bool d.dead, .int .i64 d.m.id, .int .i64 d.m.rid, .slice d.mv.ms.a d.mv.ms.n d.mv.ms.c, .slice d.mv.its.a d.mv.its.n d.mv.its.c, .slice d.mv.lv.a d.mv.lv.n d.mv.lv.c, .slice d.mv.tx.a d.mv.tx.n d.mv.tx.c, .int .i64 d.m.rd, .int .i64 d.m.se, .int .i64 d.m.li, .int .i64 d.m.he, .int .i64 d.m.la.c, .int .i64 d.m.la.r, .int .i64 d.m.la.q, .int .i64 d.m.la.a, .int .i64 d.m.la.b, .slice d.mv.ws.a d.mv.ws.n d.mv.ws.c, .int .i64 d.most, .int .i64 d.old, .int .i64 d.jid, .slice d.js.a d.js.n d.js.c, .slice d.bs.a d.bs.n d.bs.c, .slice d.ls.a d.ls.n d.ls.c] 34)) = W at *
  have PM : Hid (MtO W B d.m d.mv) := P.out.mt
  have PJ : Hid (OwnI W B d.js.v d.jms) := P.out.jo
  have PB : Hid (BusO W B d.bs d.bu) := P.out.bu
  have PL : Hid (EvsO W B d.ls d.lo) := P.out.lo
  clear P BW
  refine (markMate_any d.m d.mv B K _ PM (by have := S1.out; omega) hK).mono ?_
  rintro e w1 ⟨rfl, o1, G⟩
  have LA : Hid (Bx w1 w.heap.size 34 [.int .i64 d.id, .bool d.dead, .int .i64 d.m.id, .int .i64 d.m.rid, .slice d.mv.ms.a d.mv.ms.n d.mv.ms.c, .slice d.mv.its.a d.mv.its.n d.mv.its.c, .slice d.mv.lv.a d.mv.lv.n d.mv.lv.c, .slice d.mv.tx.a d.mv.tx.n d.mv.tx.c, .int .i64 d.m.rd, .int .i64 d.m.se, .int .i64 d.m.li, .int .i64 d.m.he, .int .i64 d.m.la.c, .int .i64 d.m.la.r, .int .i64 d.m.la.q, .int .i64 d.m.la.a, .int .i64 d.m.la.b, .slice d.mv.ws.a d.mv.ws.n d.mv.ws.c, .int .i64 d.most, .int .i64 d.old, .int .i64 d.jid, .slice d.js.a d.js.n d.js.c, .slice d.bs.a d.bs.n d.bs.c, .slice d.ls.a d.ls.n d.ls.c]) := LA.out.gr G (fun h => by have := NE.out _ (Or.inl h); omega)
  have PJ : Hid (OwnI w1 B d.js.v d.jms) := PJ.out.keep fun b hb hl => G.block b hl (fun h => a.out.mj b h hb)
  have PB : Hid (BusO w1 B d.bs d.bu) := PB.out.keepo fun b hb hl => G.block b hl (fun h => a.out.mb b h hb)
  have PL : Hid (EvsO w1 B d.ls d.lo) := PL.out.keepo fun b hb hl => G.block b hl (fun h => a.out.ml b h hb)
  have HM : Hid (MtO w1 B (markM K d.m) d.mv) := o1
  have GG : Hid (Gr d.own w w1) := GG.out.trans (G.up fun x hx => Or.inl hx)
  clear G o1 PM
  obtain ⟨k2, hk2⟩ : ∃ k2, endM K d.m = k2 := ⟨_, rfl⟩
  rw [hk2] at S1 S1g ⊢
  have HK2 : Hid (endM K d.m = k2) := hk2
  clear hk2
  go_wp2_with (first | (refine wpList_ldG rfl 24 _ rfl w.heap.size 20 rfl 34 _ LA.out [.int .i64 d.jid, .slice d.js.a d.js.n d.js.c] rfl _ Try.underlying24 rfl Try.sizeR ?_))
  refine (markRing_any d.jid d.js.v d.jms B k2 _ PJ (by have := S1.out; omega) (by omega)).mono ?_
  rintro e w2 ⟨rfl, o1, g⟩
  have G : Gr (fun x => d.js.v.ownBlock = some x) w1 w2 := Gr.ofGrown g (fun k hk => hk)
  have LA : Hid (Bx w2 w.heap.size 34 [.int .i64 d.id, .bool d.dead, .int .i64 d.m.id, .int .i64 d.m.rid, .slice d.mv.ms.a d.mv.ms.n d.mv.ms.c, .slice d.mv.its.a d.mv.its.n d.mv.its.c, .slice d.mv.lv.a d.mv.lv.n d.mv.lv.c, .slice d.mv.tx.a d.mv.tx.n d.mv.tx.c, .int .i64 d.m.rd, .int .i64 d.m.se, .int .i64 d.m.li, .int .i64 d.m.he, .int .i64 d.m.la.c, .int .i64 d.m.la.r, .int .i64 d.m.la.q, .int .i64 d.m.la.a, .int .i64 d.m.la.b, .slice d.mv.ws.a d.mv.ws.n d.mv.ws.c, .int .i64 d.most, .int .i64 d.old, .int .i64 d.jid, .slice d.js.a d.js.n d.js.c, .slice d.bs.a d.bs.n d.bs.c, .slice d.ls.a d.ls.n d.ls.c]) := LA.out.gr G (fun h => by have := NE.out _ (Or.inr (Or.inl h)); omega)
  have PB : Hid (BusO w2 B d.bs d.bu) := PB.out.keepo fun b hb hl => G.block b hl (fun h => a.out.jb b h hb)
  have PL : Hid (EvsO w2 B d.ls d.lo) := PL.out.keepo fun b hb hl => G.block b hl (fun h => a.out.jl b h hb)
  have HM : Hid (MtO w2 B (markM K d.m) d.mv) := HM.out.keep fun b hb hl => G.block b hl (fun h => a.out.mj b hb h)
  have HJ : Hid (OwnI w2 B d.js.v (marks k2 d.jms.length)) := o1
  have GG : Hid (Gr d.own w w2) := GG.out.trans (G.up fun x hx => Or.inr (Or.inl hx))
  clear G o1 g PJ
  obtain ⟨k3, hk3⟩ : ∃ k3, k2 + d.jms.length = k3 := ⟨_, rfl⟩
  rw [hk3]
  have HK3 : Hid (k2 + d.jms.length = k3) := hk3
  have k3l : K ≤ k3 ∧ k3 ≤ K + 5242880 := by have := S1.out; omega
  clear hk3
  have c22 := LA.out.cell 22
  simp only [List.getElem?_cons_succ, List.getElem?_cons_zero] at c22
  go_wp2_with fail
  clear c22
  refine (markBus_o d.bs d.bu B k3 _ PB a.out.bu (by omega) S3b (by omega)).mono ?_
  rintro e w3 ⟨k4, rfl, m1, m2, o1, G⟩
  have LA : Hid (Bx w3 w.heap.size 34 [.int .i64 d.id, .bool d.dead, .int .i64 d.m.id, .int .i64 d.m.rid, .slice d.mv.ms.a d.mv.ms.n d.mv.ms.c, .slice d.mv.its.a d.mv.its.n d.mv.its.c, .slice d.mv.lv.a d.mv.lv.n d.mv.lv.c, .slice d.mv.tx.a d.mv.tx.n d.mv.tx.c, .int .i64 d.m.rd, .int .i64 d.m.se, .int .i64 d.m.li, .int .i64 d.m.he, .int .i64 d.m.la.c, .int .i64 d.m.la.r, .int .i64 d.m.la.q, .int .i64 d.m.la.a, .int .i64 d.m.la.b, .slice d.mv.ws.a d.mv.ws.n d.mv.ws.c, .int .i64 d.most, .int .i64 d.old, .int .i64 d.jid, .slice d.js.a d.js.n d.js.c, .slice d.bs.a d.bs.n d.bs.c, .slice d.ls.a d.ls.n d.ls.c]) := LA.out.gr G (fun h => by have := NE.out _ (Or.inr (Or.inr (Or.inl h))); omega)
  have PL : Hid (EvsO w3 B d.ls d.lo) := PL.out.keepo fun b hb hl => G.block b hl (fun h => a.out.bl b h hb)
  have HM : Hid (MtO w3 B (markM K d.m) d.mv) := HM.out.keep fun b hb hl => G.block b hl (fun h => a.out.mb b hb h)
  have HJ : Hid (OwnI w3 B d.js.v (marks k2 d.jms.length)) := HJ.out.keep fun b hb hl => G.block b hl (fun h => a.out.jb b hb h)
  have HB : Hid (HeldBu w3 d.bs d.bu k3 k4) := o1
  have GG : Hid (Gr d.own w w3) := GG.out.trans (G.up fun x hx => Or.inr (Or.inr (Or.inl hx)))
  clear G o1 PB
  have c23 := LA.out.cell 23
  simp only [List.getElem?_cons_succ, List.getElem?_cons_zero] at c23
  go_wp2_with fail
  clear c23
  refine (markEvs_o d.ls d.lo B k4 _ PL a.out.lo (by omega) S4b (by omega)).mono ?_
  rintro e w4 ⟨M, rfl, m3, m4, o1, G⟩
  have LA : Hid (Bx w4 w.heap.size 34 [.int .i64 d.id, .bool d.dead, .int .i64 d.m.id, .int .i64 d.m.rid, .slice d.mv.ms.a d.mv.ms.n d.mv.ms.c, .slice d.mv.its.a d.mv.its.n d.mv.its.c, .slice d.mv.lv.a d.mv.lv.n d.mv.lv.c, .slice d.mv.tx.a d.mv.tx.n d.mv.tx.c, .int .i64 d.m.rd, .int .i64 d.m.se, .int .i64 d.m.li, .int .i64 d.m.he, .int .i64 d.m.la.c, .int .i64 d.m.la.r, .int .i64 d.m.la.q, .int .i64 d.m.la.a, .int .i64 d.m.la.b, .slice d.mv.ws.a d.mv.ws.n d.mv.ws.c, .int .i64 d.most, .int .i64 d.old, .int .i64 d.jid, .slice d.js.a d.js.n d.js.c, .slice d.bs.a d.bs.n d.bs.c, .slice d.ls.a d.ls.n d.ls.c]) := LA.out.gr G (fun h => by have := NE.out _ (Or.inr (Or.inr (Or.inr h))); omega)
  have HM : Hid (MtO w4 B (markM K d.m) d.mv) := HM.out.keep fun b hb hl => G.block b hl (fun h => a.out.ml b hb h)
  have HJ : Hid (OwnI w4 B d.js.v (marks k2 d.jms.length)) := HJ.out.keep fun b hb hl => G.block b hl (fun h => a.out.jl b hb h)
  have HB : Hid (HeldBu w4 d.bs d.bu k3 k4) := HB.out.keep G.size fun b hb hl => G.block b hl (fun h => a.out.bl b hb h)
  have HE : Hid (HeldEv w4 d.ls d.lo k4 M) := o1
  have GG : Hid (Gr d.own w w4) := GG.out.trans (G.up fun x hx => Or.inr (Or.inr (Or.inr hx)))
  clear G o1 PL
  go_wp2_with fail
  go_ret
  refine ⟨M, rfl, by omega, by omega, ⟨k4, HM.out, by rw [HK2.out]; exact HJ.out, by rw [HK2.out, HK3.out]; exact HB.out, HE.out, hK, by rw [HK2.out, HK3.out]; exact m1, m3, by omega⟩, GG.out⟩
set_option maxRecDepth 100000 in
set_option maxHeartbeats 8000000 in
theorem heldDaemon_o (d : Dm) (B K M : Nat) (w : World) (h : Hid (HeldD w B d K M)) :
    Calls Try.prog 10 #[.agg #[.int .i64 d.id, .bool d.dead, .int .i64 d.m.id, .int .i64 d.m.rid, .slice d.mv.ms.a d.mv.ms.n d.mv.ms.c, .slice d.mv.its.a d.mv.its.n d.mv.its.c, .slice d.mv.lv.a d.mv.lv.n d.mv.lv.c, .slice d.mv.tx.a d.mv.tx.n d.mv.tx.c, .int .i64 d.m.rd, .int .i64 d.m.se, .int .i64 d.m.li, .int .i64 d.m.he, .int .i64 d.m.la.c, .int .i64 d.m.la.r, .int .i64 d.m.la.q, .int .i64 d.m.la.a, .int .i64 d.m.la.b, .slice d.mv.ws.a d.mv.ws.n d.mv.ws.c, .int .i64 d.most, .int .i64 d.old, .int .i64 d.jid, .slice d.js.a d.js.n d.js.c, .slice d.bs.a d.bs.n d.bs.c, .slice d.ls.a d.ls.n d.ls.c], .int .i64 K] w fun e w' => e = .returned (.int .i64 (M : Int)) ∧ Below w.heap.size w w' := by
  have LA : Hid (Bx (w.alloc (.cells #[.int .i64 d.id, .bool d.dead, .int .i64 d.m.id, .int .i64 d.m.rid, .slice d.mv.ms.a d.mv.ms.n d.mv.ms.c, .slice d.mv.its.a d.mv.its.n d.mv.its.c, .slice d.mv.lv.a d.mv.lv.n d.mv.lv.c, .slice d.mv.tx.a d.mv.tx.n d.mv.tx.c, .int .i64 d.m.rd, .int .i64 d.m.se, .int .i64 d.m.li, .int .i64 d.m.he, .int .i64 d.m.la.c, .int .i64 d.m.la.r, .int .i64 d.m.la.q, .int .i64 d.m.la.a, .int .i64 d.m.la.b, .slice d.mv.ws.a d.mv.ws.n d.mv.ws.c, .int .i64 d.most, .int .i64 d.old, .int .i64 d.jid, .slice d.js.a d.js.n d.js.c, .slice d.bs.a d.bs.n d.bs.c, .slice d.ls.a d.ls.n d.ls.c] 34)) w.heap.size 34 [.int .i64 d.id, .bool d.dead, .int .i64 d.m.id, .int .i64 d.m.rid, .slice d.mv.ms.a d.mv.ms.n d.mv.ms.c, .slice d.mv.its.a d.mv.its.n d.mv.its.c, .slice d.mv.lv.a d.mv.lv.n d.mv.lv.c, .slice d.mv.tx.a d.mv.tx.n d.mv.tx.c, .int .i64 d.m.rd, .int .i64 d.m.se, .int .i64 d.m.li, .int .i64 d.m.he, .int .i64 d.m.la.c, .int .i64 d.m.la.r, .int .i64 d.m.la.q, .int .i64 d.m.la.a, .int .i64 d.m.la.b, .slice d.mv.ws.a d.mv.ws.n d.mv.ws.c, .int .i64 d.most, .int .i64 d.old, .int .i64 d.jid, .slice d.js.a d.js.n d.js.c, .slice d.bs.a d.bs.n d.bs.c, .slice d.ls.a d.ls.n d.ls.c]) := by
    have h := Bx.new w 34 [.int .i64 d.id, .bool d.dead, .int .i64 d.m.id, .int .i64 d.m.rid, .slice d.mv.ms.a d.mv.ms.n d.mv.ms.c, .slice d.mv.its.a d.mv.its.n d.mv.its.c, .slice d.mv.lv.a d.mv.lv.n d.mv.lv.c, .slice d.mv.tx.a d.mv.tx.n d.mv.tx.c, .int .i64 d.m.rd, .int .i64 d.m.se, .int .i64 d.m.li, .int .i64 d.m.he, .int .i64 d.m.la.c, .int .i64 d.m.la.r, .int .i64 d.m.la.q, .int .i64 d.m.la.a, .int .i64 d.m.la.b, .slice d.mv.ws.a d.mv.ws.n d.mv.ws.c, .int .i64 d.most, .int .i64 d.old, .int .i64 d.jid, .slice d.js.a d.js.n d.js.c, .slice d.bs.a d.bs.n d.bs.c, .slice d.ls.a d.ls.n d.ls.c]
    exact h
  have BW : Hid (Below w.heap.size w (w.alloc (.cells #[.int .i64 d.id, .bool d.dead, .int .i64 d.m.id, .int .i64 d.m.rid, .slice d.mv.ms.a d.mv.ms.n d.mv.ms.c, .slice d.mv.its.a d.mv.its.n d.mv.its.c, .slice d.mv.lv.a d.mv.lv.n d.mv.lv.c, .slice d.mv.tx.a d.mv.tx.n d.mv.tx.c, .int .i64 d.m.rd, .int .i64 d.m.se, .int .i64 d.m.li, .int .i64 d.m.he, .int .i64 d.m.la.c, .int .i64 d.m.la.r, .int .i64 d.m.la.q, .int .i64 d.m.la.a, .int .i64 d.m.la.b, .slice d.mv.ws.a d.mv.ws.n d.mv.ws.c, .int .i64 d.most, .int .i64 d.old, .int .i64 d.jid, .slice d.js.a d.js.n d.js.c, .slice d.bs.a d.bs.n d.bs.c, .slice d.ls.a d.ls.n d.ls.c] 34))) := ((Below.refl _ _).alloc (by simp) _)
  have P : Hid (HeldD (w.alloc (.cells #[.int .i64 d.id, .bool d.dead, .int .i64 d.m.id, .int .i64 d.m.rid, .slice d.mv.ms.a d.mv.ms.n d.mv.ms.c, .slice d.mv.its.a d.mv.its.n d.mv.its.c, .slice d.mv.lv.a d.mv.lv.n d.mv.lv.c, .slice d.mv.tx.a d.mv.tx.n d.mv.tx.c, .int .i64 d.m.rd, .int .i64 d.m.se, .int .i64 d.m.li, .int .i64 d.m.he, .int .i64 d.m.la.c, .int .i64 d.m.la.r, .int .i64 d.m.la.q, .int .i64 d.m.la.a, .int .i64 d.m.la.b, .slice d.mv.ws.a d.mv.ws.n d.mv.ws.c, .int .i64 d.most, .int .i64 d.old, .int .i64 d.jid, .slice d.js.a d.js.n d.js.c, .slice d.bs.a d.bs.n d.bs.c, .slice d.ls.a d.ls.n d.ls.c] 34)) B d K M) := h.out.later BW.out
  clear h
  obtain ⟨k4, p1, p2, p3, p4, hK, l1, l2, l3⟩ := P.out
  have HM : Hid (MtO (w.alloc (.cells #[.int .i64 d.id, .bool d.dead, .int .i64 d.m.id, .int .i64 d.m.rid, .slice d.mv.ms.a d.mv.ms.n d.mv.ms.c, .slice d.mv.its.a d.mv.its.n d.mv.its.c, .slice d.mv.lv.a d.mv.lv.n d.mv.lv.c, .slice d.mv.tx.a d.mv.tx.n d.mv.tx.c, .int .i64 d.m.rd, .int .i64 d.m.se, .int .i64 d.m.li, .int .i64 d.m.he, .int .i64 d.m.la.c, .int .i64 d.m.la.r, .int .i64 d.m.la.q, .int .i64 d.m.la.a, .int .i64 d.m.la.b, .slice d.mv.ws.a d.mv.ws.n d.mv.ws.c, .int .i64 d.most, .int .i64 d.old, .int .i64 d.jid, .slice d.js.a d.js.n d.js.c, .slice d.bs.a d.bs.n d.bs.c, .slice d.ls.a d.ls.n d.ls.c] 34)) B (markM K d.m) d.mv) := p1
  have HJ : Hid (OwnI (w.alloc (.cells #[.int .i64 d.id, .bool d.dead, .int .i64 d.m.id, .int .i64 d.m.rid, .slice d.mv.ms.a d.mv.ms.n d.mv.ms.c, .slice d.mv.its.a d.mv.its.n d.mv.its.c, .slice d.mv.lv.a d.mv.lv.n d.mv.lv.c, .slice d.mv.tx.a d.mv.tx.n d.mv.tx.c, .int .i64 d.m.rd, .int .i64 d.m.se, .int .i64 d.m.li, .int .i64 d.m.he, .int .i64 d.m.la.c, .int .i64 d.m.la.r, .int .i64 d.m.la.q, .int .i64 d.m.la.a, .int .i64 d.m.la.b, .slice d.mv.ws.a d.mv.ws.n d.mv.ws.c, .int .i64 d.most, .int .i64 d.old, .int .i64 d.jid, .slice d.js.a d.js.n d.js.c, .slice d.bs.a d.bs.n d.bs.c, .slice d.ls.a d.ls.n d.ls.c] 34)) B d.js.v (marks (endM K d.m) d.jms.length)) := p2
  have HB : Hid (HeldBu (w.alloc (.cells #[.int .i64 d.id, .bool d.dead, .int .i64 d.m.id, .int .i64 d.m.rid, .slice d.mv.ms.a d.mv.ms.n d.mv.ms.c, .slice d.mv.its.a d.mv.its.n d.mv.its.c, .slice d.mv.lv.a d.mv.lv.n d.mv.lv.c, .slice d.mv.tx.a d.mv.tx.n d.mv.tx.c, .int .i64 d.m.rd, .int .i64 d.m.se, .int .i64 d.m.li, .int .i64 d.m.he, .int .i64 d.m.la.c, .int .i64 d.m.la.r, .int .i64 d.m.la.q, .int .i64 d.m.la.a, .int .i64 d.m.la.b, .slice d.mv.ws.a d.mv.ws.n d.mv.ws.c, .int .i64 d.most, .int .i64 d.old, .int .i64 d.jid, .slice d.js.a d.js.n d.js.c, .slice d.bs.a d.bs.n d.bs.c, .slice d.ls.a d.ls.n d.ls.c] 34)) d.bs d.bu (endM K d.m + d.jms.length) k4) := p3
  have HE : Hid (HeldEv (w.alloc (.cells #[.int .i64 d.id, .bool d.dead, .int .i64 d.m.id, .int .i64 d.m.rid, .slice d.mv.ms.a d.mv.ms.n d.mv.ms.c, .slice d.mv.its.a d.mv.its.n d.mv.its.c, .slice d.mv.lv.a d.mv.lv.n d.mv.lv.c, .slice d.mv.tx.a d.mv.tx.n d.mv.tx.c, .int .i64 d.m.rd, .int .i64 d.m.se, .int .i64 d.m.li, .int .i64 d.m.he, .int .i64 d.m.la.c, .int .i64 d.m.la.r, .int .i64 d.m.la.q, .int .i64 d.m.la.a, .int .i64 d.m.la.b, .slice d.mv.ws.a d.mv.ws.n d.mv.ws.c, .int .i64 d.most, .int .i64 d.old, .int .i64 d.jid, .slice d.js.a d.js.n d.js.c, .slice d.bs.a d.bs.n d.bs.c, .slice d.ls.a d.ls.n d.ls.c] 34)) d.ls d.lo k4 M) := p4
  have S1g : K ≤ endM K d.m := by unfold endM; omega
  clear P p1 p2 p3 p4
  go_enter Try.func10, Try.ntmps10
  go_wp2_with (first | (refine wpList_ldG rfl 30 _ rfl w.heap.size 2 rfl 34 _ LA.out [.int .i64 d.m.id, .int .i64 d.m.rid, .slice d.mv.ms.a d.mv.ms.n d.mv.ms.c, .slice d.mv.its.a d.mv.its.n d.mv.its.c, .slice d.mv.lv.a d.mv.lv.n d.mv.lv.c, .slice d.mv.tx.a d.mv.tx.n d.mv.tx.c, .int .i64 d.m.rd, .int .i64 d.m.se, .int .i64 d.m.li, .int .i64 d.m.he, .int .i64 d.m.la.c, .int .i64 d.m.la.r, .int .i64 d.m.la.q, .int .i64 d.m.la.a, .int .i64 d.m.la.b, .slice d.mv.ws.a d.mv.ws.n d.mv.ws.c] rfl _ Try.underlying30 rfl Try.sizeM ?_))
  generalize (w.alloc (.cells #[.int .i64 d.id, .bool d.dead, .int .i64 d.m.id, .int .i64 d.m.rid, .slice d.mv.ms.a d.mv.ms.n d.mv.ms.c, .slice d.mv.its.a d.mv.its.n d.mv.its.c, .slice d.mv.lv.a d.mv.lv.n d.mv.lv.c, .slice d.mv.tx.a d.mv.tx.n d.mv.tx.c, .int .i64 d.m.rd, .int .i64 d.m.se, .int .i64 d.m.li, .int .i64 d.m.he, .int .i64 d.m.la.c, .int .i64 d.m.la.r, .int .i64 d.m.la.q, .int .i64 d.m.la.a, .int .i64 d.m.la.b, .slice d.mv.ws.a d.mv.ws.n d.mv.ws.c, .int .i64 d.most, .int .i64 d.old, .int .i64 d.jid, .slice d.js.a d.js.n d.js.c, .slice d.bs.a d.bs.n d.bs.c, .slice d.ls.a d.ls.n d.ls.c] 34)) = W at *
  refine (heldMate_any d.m d.mv B K _ HM (by omega) hK).mono ?_
  rintro e w1 ⟨rfl, b⟩
  have z_w1 : W.heap.size ≤ w1.heap.size := b.size
  have LA : Hid (Bx w1 w.heap.size 34 [.int .i64 d.id, .bool d.dead, .int .i64 d.m.id, .int .i64 d.m.rid, .slice d.mv.ms.a d.mv.ms.n d.mv.ms.c, .slice d.mv.its.a d.mv.its.n d.mv.its.c, .slice d.mv.lv.a d.mv.lv.n d.mv.lv.c, .slice d.mv.tx.a d.mv.tx.n d.mv.tx.c, .int .i64 d.m.rd, .int .i64 d.m.se, .int .i64 d.m.li, .int .i64 d.m.he, .int .i64 d.m.la.c, .int .i64 d.m.la.r, .int .i64 d.m.la.q, .int .i64 d.m.la.a, .int .i64 d.m.la.b, .slice d.mv.ws.a d.mv.ws.n d.mv.ws.c, .int .i64 d.most, .int .i64 d.old, .int .i64 d.jid, .slice d.js.a d.js.n d.js.c, .slice d.bs.a d.bs.n d.bs.c, .slice d.ls.a d.ls.n d.ls.c]) := LA.out.later b
  have BW : Hid (Below w.heap.size w w1) := bl_next BW.out b
  have HM : Hid (MtO w1 B (markM K d.m) d.mv) := HM.out.later b
  have HJ : Hid (OwnI w1 B d.js.v (marks (endM K d.m) d.jms.length)) := HJ.out.keep fun _ _ hk => (b).block _ hk
  have HB : Hid (HeldBu w1 d.bs d.bu (endM K d.m + d.jms.length) k4) := HB.out.later b
  have HE : Hid (HeldEv w1 d.ls d.lo k4 M) := HE.out.later b
  clear b
  obtain ⟨k2, hk2⟩ : ∃ k2, endM K d.m = k2 := ⟨_, rfl⟩
  rw [hk2] at HJ HB l1 S1g ⊢
  clear hk2
  have hd1 : decide ((k2 : Int) < 0) = false := by simp
  go_wp2_with (first | (refine wpList_ldG rfl 24 _ rfl w.heap.size 20 rfl 34 _ LA.out [.int .i64 d.jid, .slice d.js.a d.js.n d.js.c] rfl _ Try.underlying24 rfl Try.sizeR ?_))
  refine (heldRing_any d.jid d.js.v d.jms.length B k2 _ HJ (by omega) (by omega)).mono ?_
  rintro e w2 ⟨rfl, b⟩
  have z_w2 : w1.heap.size ≤ w2.heap.size := b.size
  have LA : Hid (Bx w2 w.heap.size 34 [.int .i64 d.id, .bool d.dead, .int .i64 d.m.id, .int .i64 d.m.rid, .slice d.mv.ms.a d.mv.ms.n d.mv.ms.c, .slice d.mv.its.a d.mv.its.n d.mv.its.c, .slice d.mv.lv.a d.mv.lv.n d.mv.lv.c, .slice d.mv.tx.a d.mv.tx.n d.mv.tx.c, .int .i64 d.m.rd, .int .i64 d.m.se, .int .i64 d.m.li, .int .i64 d.m.he, .int .i64 d.m.la.c, .int .i64 d.m.la.r, .int .i64 d.m.la.q, .int .i64 d.m.la.a, .int .i64 d.m.la.b, .slice d.mv.ws.a d.mv.ws.n d.mv.ws.c, .int .i64 d.most, .int .i64 d.old, .int .i64 d.jid, .slice d.js.a d.js.n d.js.c, .slice d.bs.a d.bs.n d.bs.c, .slice d.ls.a d.ls.n d.ls.c]) := LA.out.later b
  have BW : Hid (Below w.heap.size w w2) := bl_next BW.out b
  have HM : Hid (MtO w2 B (markM K d.m) d.mv) := HM.out.later b
  have HJ : Hid (OwnI w2 B d.js.v (marks k2 d.jms.length)) := HJ.out.keep fun _ _ hk => (b).block _ hk
  have HB : Hid (HeldBu w2 d.bs d.bu (k2 + d.jms.length) k4) := HB.out.later b
  have HE : Hid (HeldEv w2 d.ls d.lo k4 M) := HE.out.later b
  clear b
  obtain ⟨k3, hk3⟩ : ∃ k3, k2 + d.jms.length = k3 := ⟨_, rfl⟩
  rw [hk3] at HB l1 ⊢
  have k3p : 0 < k3 := by omega
  clear hk3
  have hd2 : decide ((k3 : Int) < 0) = false := by simp
  have c22 := LA.out.cell 22
  simp only [List.getElem?_cons_succ, List.getElem?_cons_zero] at c22
  go_wp2_with fail
  clear c22
  refine (heldBus_o d.bs d.bu k3 k4 _ HB k3p (by omega)).mono ?_
  rintro e w3 ⟨rfl, b⟩
  have z_w3 : w2.heap.size ≤ w3.heap.size := b.size
  have LA : Hid (Bx w3 w.heap.size 34 [.int .i64 d.id, .bool d.dead, .int .i64 d.m.id, .int .i64 d.m.rid, .slice d.mv.ms.a d.mv.ms.n d.mv.ms.c, .slice d.mv.its.a d.mv.its.n d.mv.its.c, .slice d.mv.lv.a d.mv.lv.n d.mv.lv.c, .slice d.mv.tx.a d.mv.tx.n d.mv.tx.c, .int .i64 d.m.rd, .int .i64 d.m.se, .int .i64 d.m.li, .int .i64 d.m.he, .int .i64 d.m.la.c, .int .i64 d.m.la.r, .int .i64 d.m.la.q, .int .i64 d.m.la.a, .int .i64 d.m.la.b, .slice d.mv.ws.a d.mv.ws.n d.mv.ws.c, .int .i64 d.most, .int .i64 d.old, .int .i64 d.jid, .slice d.js.a d.js.n d.js.c, .slice d.bs.a d.bs.n d.bs.c, .slice d.ls.a d.ls.n d.ls.c]) := LA.out.later b
  have BW : Hid (Below w.heap.size w w3) := bl_next BW.out b
  have HM : Hid (MtO w3 B (markM K d.m) d.mv) := HM.out.later b
  have HJ : Hid (OwnI w3 B d.js.v (marks k2 d.jms.length)) := HJ.out.keep fun _ _ hk => (b).block _ hk
  have HB : Hid (HeldBu w3 d.bs d.bu k3 k4) := HB.out.later b
  have HE : Hid (HeldEv w3 d.ls d.lo k4 M) := HE.out.later b
  clear b
  have hd3 : decide ((k4 : Int) < 0) = false := by simp
  have c23 := LA.out.cell 23
  simp only [List.getElem?_cons_succ, List.getElem?_cons_zero] at c23
  go_wp2_with fail
  clear c23
  refine (heldEvs_o d.ls d.lo k4 M _ HE (by omega) (by omega)).mono ?_
  rintro e w4 ⟨rfl, b⟩
  have z_w4 : w3.heap.size ≤ w4.heap.size := b.size
  have LA : Hid (Bx w4 w.heap.size 34 [.int .i64 d.id, .bool d.dead, .int .i64 d.m.id, .int .i64 d.m.rid, .slice d.mv.ms.a d.mv.ms.n d.mv.ms.c, .slice d.mv.its.a d.mv.its.n d.mv.its.c, .slice d.mv.lv.a d.mv.lv.n d.mv.lv.c, .slice d.mv.tx.a d.mv.tx.n d.mv.tx.c, .int .i64 d.m.rd, .int .i64 d.m.se, .int .i64 d.m.li, .int .i64 d.m.he, .int .i64 d.m.la.c, .int .i64 d.m.la.r, .int .i64 d.m.la.q, .int .i64 d.m.la.a, .int .i64 d.m.la.b, .slice d.mv.ws.a d.mv.ws.n d.mv.ws.c, .int .i64 d.most, .int .i64 d.old, .int .i64 d.jid, .slice d.js.a d.js.n d.js.c, .slice d.bs.a d.bs.n d.bs.c, .slice d.ls.a d.ls.n d.ls.c]) := LA.out.later b
  have BW : Hid (Below w.heap.size w w4) := bl_next BW.out b
  have HM : Hid (MtO w4 B (markM K d.m) d.mv) := HM.out.later b
  have HJ : Hid (OwnI w4 B d.js.v (marks k2 d.jms.length)) := HJ.out.keep fun _ _ hk => (b).block _ hk
  have HB : Hid (HeldBu w4 d.bs d.bu k3 k4) := HB.out.later b
  have HE : Hid (HeldEv w4 d.ls d.lo k4 M) := HE.out.later b
  clear b
  have hd4 : decide ((M : Int) < 0) = false := by simp
  go_wp2_with fail
  go_ret
  exact ⟨rfl, BW.out⟩
end Go.Proofs.Ytbecahikjekccaa


/- A daemon that is copied; both Crash. Written by gen_cdm.py. -/
namespace Go.Proofs.Ytbecahikjekccaa
open Go.RowKit Pl
set_option linter.unusedVariables false
set_option linter.unusedSimpArgs false

section
variable {P : Program} {w : World} {o : Oper} {a : Act} {K : Act → World → Prop} {Q : Exit → Act → World → Prop}
theorem wp_catM {T size : Nat} (s x : Operand) (t : TypeId) (ho : o.op = .call { callee := .builtin .append, args := #[s, x], argTypes := #[t, t] })
    (z : Value) (bytes : Nat) (ht : P.underlying t = some (.slice T)) (hinfo : (P.info? T).map (fun i => (i.zero, i.size, i.bytes)) = some (some z, size, bytes)) (hzs : z.cells.size = size) (hby : bytes ≤ 400)
    (B : Nat) (v : Value) (rs : List (List Value)) (hs : a.eval s = v) (hown : SlN w T size B v rs) (B' : Nat) (u : Value) (qs : List (List Value)) (hx : a.eval x = u) (hu : SlN w T size B' u qs)
    (hn : rs.length + qs.length ≤ 1048577) (hB : B ≤ w.heap.size)
    (h : ∀ v' w', SlN w' T size B v' (rs ++ qs) → w.grownBy w' v.ownBlock → Below B w w' → K (a.put o.dst v') w') :
    o.wp P a w K Q := by
  refine wp_appendS s x t ho z bytes ht hinfo hzs hs hown.1 _ qs.length qs.flatten hx (hu.src ht) (by unfold maxLen; omega) (Nat.le_trans (Nat.mul_le_mul hn hby) (by decide)) hB ?_
  intro v' w' h3 h2 h4
  refine h v' w' ⟨by rw [List.length_append, List.flatten_append]; exact h3, fun r hr => ?_⟩ h2 ((Below.refl B w).grown h2 hB (fun k hk => (Sl.lt hown.1 k hk).1))
  rcases List.mem_append.1 hr with hr | hr
  · exact hown.2 r hr
  · exact hu.2 r hr
end
theorem MtO.keepb2 {w w' : World} {B g T : Nat} {m : Mt} {u : Mv} {cs : List Value} (h : MtO w B m u) (hB : Bx w g T cs) (hk : KeepBut g w w') (h3 : T ≠ 3) (h9 : T ≠ 9) (hi : T ≠ 86) : MtO w' B m u :=
  ⟨h.ms.keepb hB hk h3, SlI.keepb h.its hB hk hi, h.lv.keepb hB hk h3, h.tx.keepb hB hk h9, h.ws.keepb hB hk h3, h.a1, h.a2, h.a3⟩
theorem Ev.O.rowkeep {w w' : World} {B : Nat} {r : Option Nat} (hr : ∀ k, r = some k → ∃ cs, w.heap[k]? = some (.cells cs 88 (0, 0))) (g : w.grownBy w' r) {e : Ev} (h : e.O w B) : e.O w' B :=
  ⟨h.1.kept g (fun k hk e => by obtain ⟨_, e1⟩ := own_is_i h.1 hk; obtain ⟨_, e2⟩ := hr k e.symm; rw [e1] at e2; simp at e2), h.2.kept g (fun k hk e => by obtain ⟨_, e1⟩ := own_is_i h.2 hk; obtain ⟨_, e2⟩ := hr k e.symm; rw [e1] at e2; simp at e2)⟩
/-- but for the box g and what lies from N on all is as it was. -/
structure KeepR (g N : Nat) (w w' : World) : Prop where
  os : w'.os = w.os
  tape : w'.tape = w.tape
  output : w'.output = w.output
  size : w.heap.size ≤ w'.heap.size
  blk : ∀ k, k < N → k ≠ g → w'.heap[k]? = w.heap[k]?
  news : True
section
variable {g N : Nat} {w w' w'' : World}
theorem KeepR.refl (g N : Nat) (w : World) : KeepR g N w w := ⟨rfl, rfl, rfl, Nat.le_refl _, fun _ _ _ => rfl, trivial⟩
theorem KeepR.trans (h : KeepR g N w w') (k : KeepR g N w' w'') : KeepR g N w w'' := ⟨k.os.trans h.os, k.tape.trans h.tape, k.output.trans h.output, Nat.le_trans h.size k.size, fun i hi hn => (k.blk i hi hn).trans (h.blk i hi hn), trivial⟩
theorem KeepR.belowN (h : KeepR g N w w') (b : Below N w' w'') : KeepR g N w w'' := ⟨b.os.trans h.os, b.tape.trans h.tape, b.output.trans h.output, Nat.le_trans h.size b.size, fun i hi hn => (b.block i hi).trans (h.blk i hi hn), trivial⟩
theorem KeepR.below {B : Nat} (h : KeepR g N w w') (h1 : B ≤ g) (h2 : B ≤ N) : Below B w w' := ⟨h.os, h.tape, h.output, h.size, fun k hk => h.blk k (by omega) (by omega)⟩
theorem KeepR.turn (h : KeepR g N w w') (t : TurnAt g w' w'') : KeepR g N w w'' := ⟨t.os.trans h.os, t.tape.trans h.tape, t.output.trans h.output, Nat.le_trans h.size (Nat.le_of_eq t.size.symm), fun i hi hn => (t.block i hn).trans (h.blk i hi hn), trivial⟩
theorem Bx.kr {k T : Nat} {cs : List Value} (h : Bx w k T cs) (r : KeepR g N w w') (h1 : k < N) (h2 : k ≠ g) : Bx w' k T cs := (r.blk k h1 h2).trans h
end
set_option maxRecDepth 100000 in
set_option maxHeartbeats 32000000 in
theorem copyDaemon_none (x : Dm) (w : World) (hm : Hid (MtP w x.m x.mv)) (hj : Hid (RI w x.js.v x.jms)) (hl : Hid (EvsR w x.ls x.lo)) (hb : Hid (x.bs.n = 0 ∧ x.bu = [])) (hs : Hid (DmS x)) :
    Calls Try.prog 50 #[.agg #[.int .i64 x.id, .bool x.dead, .int .i64 x.m.id, .int .i64 x.m.rid, .slice x.mv.ms.a x.mv.ms.n x.mv.ms.c, .slice x.mv.its.a x.mv.its.n x.mv.its.c, .slice x.mv.lv.a x.mv.lv.n x.mv.lv.c, .slice x.mv.tx.a x.mv.tx.n x.mv.tx.c, .int .i64 x.m.rd, .int .i64 x.m.se, .int .i64 x.m.li, .int .i64 x.m.he, .int .i64 x.m.la.c, .int .i64 x.m.la.r, .int .i64 x.m.la.q, .int .i64 x.m.la.a, .int .i64 x.m.la.b, .slice x.mv.ws.a x.mv.ws.n x.mv.ws.c, .int .i64 x.most, .int .i64 x.old, .int .i64 x.jid, .slice x.js.a x.js.n x.js.c, .slice x.bs.a x.bs.n x.bs.c, .slice x.ls.a x.ls.n x.ls.c]] w fun e w' => ∃ y : Dm, e = .returned (.agg #[.int .i64 y.id, .bool y.dead, .int .i64 y.m.id, .int .i64 y.m.rid, .slice y.mv.ms.a y.mv.ms.n y.mv.ms.c, .slice y.mv.its.a y.mv.its.n y.mv.its.c, .slice y.mv.lv.a y.mv.lv.n y.mv.lv.c, .slice y.mv.tx.a y.mv.tx.n y.mv.tx.c, .int .i64 y.m.rd, .int .i64 y.m.se, .int .i64 y.m.li, .int .i64 y.m.he, .int .i64 y.m.la.c, .int .i64 y.m.la.r, .int .i64 y.m.la.q, .int .i64 y.m.la.a, .int .i64 y.m.la.b, .slice y.mv.ws.a y.mv.ws.n y.mv.ws.c, .int .i64 y.most, .int .i64 y.old, .int .i64 y.jid, .slice y.js.a y.js.n y.js.c, .slice y.bs.a y.bs.n y.bs.c, .slice y.ls.a y.ls.n y.ls.c]) ∧ y.Same x ∧ DmO w' w.heap.size y ∧ DmA y ∧ Below w.heap.size w w' := by
  have hn1 : (w.alloc (.cells #[.int .i64 x.id, .bool x.dead, .int .i64 x.m.id, .int .i64 x.m.rid, .slice x.mv.ms.a x.mv.ms.n x.mv.ms.c, .slice x.mv.its.a x.mv.its.n x.mv.its.c, .slice x.mv.lv.a x.mv.lv.n x.mv.lv.c, .slice x.mv.tx.a x.mv.tx.n x.mv.tx.c, .int .i64 x.m.rd, .int .i64 x.m.se, .int .i64 x.m.li, .int .i64 x.m.he, .int .i64 x.m.la.c, .int .i64 x.m.la.r, .int .i64 x.m.la.q, .int .i64 x.m.la.a, .int .i64 x.m.la.b, .slice x.mv.ws.a x.mv.ws.n x.mv.ws.c, .int .i64 x.most, .int .i64 x.old, .int .i64 x.jid, .slice x.js.a x.js.n x.js.c, .slice x.bs.a x.bs.n x.bs.c, .slice x.ls.a x.ls.n x.ls.c] 34)).heap.size = w.heap.size + 1 := by simp
  have LA : Hid (Bx ((w.alloc (.cells #[.int .i64 x.id, .bool x.dead, .int .i64 x.m.id, .int .i64 x.m.rid, .slice x.mv.ms.a x.mv.ms.n x.mv.ms.c, .slice x.mv.its.a x.mv.its.n x.mv.its.c, .slice x.mv.lv.a x.mv.lv.n x.mv.lv.c, .slice x.mv.tx.a x.mv.tx.n x.mv.tx.c, .int .i64 x.m.rd, .int .i64 x.m.se, .int .i64 x.m.li, .int .i64 x.m.he, .int .i64 x.m.la.c, .int .i64 x.m.la.r, .int .i64 x.m.la.q, .int .i64 x.m.la.a, .int .i64 x.m.la.b, .slice x.mv.ws.a x.mv.ws.n x.mv.ws.c, .int .i64 x.most, .int .i64 x.old, .int .i64 x.jid, .slice x.js.a x.js.n x.js.c, .slice x.bs.a x.bs.n x.bs.c, .slice x.ls.a x.ls.n x.ls.c] 34)).alloc (.cells #[.int .i64 0, .bool false, .int .i64 0, .int .i64 0, .slice none 0 0, .slice none 0 0, .slice none 0 0, .slice none 0 0, .int .i64 0, .int .i64 0, .int .i64 0, .int .i64 0, .int .i64 0, .int .i64 0, .int .i64 0, .int .i64 0, .int .i64 0, .slice none 0 0, .int .i64 0, .int .i64 0, .int .i64 0, .slice none 0 0, .slice none 0 0, .slice none 0 0] 34)) w.heap.size 34 [.int .i64 x.id, .bool x.dead, .int .i64 x.m.id, .int .i64 x.m.rid, .slice x.mv.ms.a x.mv.ms.n x.mv.ms.c, .slice x.mv.its.a x.mv.its.n x.mv.its.c, .slice x.mv.lv.a x.mv.lv.n x.mv.lv.c, .slice x.mv.tx.a x.mv.tx.n x.mv.tx.c, .int .i64 x.m.rd, .int .i64 x.m.se, .int .i64 x.m.li, .int .i64 x.m.he, .int .i64 x.m.la.c, .int .i64 x.m.la.r, .int .i64 x.m.la.q, .int .i64 x.m.la.a, .int .i64 x.m.la.b, .slice x.mv.ws.a x.mv.ws.n x.mv.ws.c, .int .i64 x.most, .int .i64 x.old, .int .i64 x.jid, .slice x.js.a x.js.n x.js.c, .slice x.bs.a x.bs.n x.bs.c, .slice x.ls.a x.ls.n x.ls.c]) := by
    have h := Bx.new w 34 [.int .i64 x.id, .bool x.dead, .int .i64 x.m.id, .int .i64 x.m.rid, .slice x.mv.ms.a x.mv.ms.n x.mv.ms.c, .slice x.mv.its.a x.mv.its.n x.mv.its.c, .slice x.mv.lv.a x.mv.lv.n x.mv.lv.c, .slice x.mv.tx.a x.mv.tx.n x.mv.tx.c, .int .i64 x.m.rd, .int .i64 x.m.se, .int .i64 x.m.li, .int .i64 x.m.he, .int .i64 x.m.la.c, .int .i64 x.m.la.r, .int .i64 x.m.la.q, .int .i64 x.m.la.a, .int .i64 x.m.la.b, .slice x.mv.ws.a x.mv.ws.n x.mv.ws.c, .int .i64 x.most, .int .i64 x.old, .int .i64 x.jid, .slice x.js.a x.js.n x.js.c, .slice x.bs.a x.bs.n x.bs.c, .slice x.ls.a x.ls.n x.ls.c]
    exact (h).later ((Below.refl _ _).alloc (Nat.le_refl _) _)
  have EB : Hid (Bx ((w.alloc (.cells #[.int .i64 x.id, .bool x.dead, .int .i64 x.m.id, .int .i64 x.m.rid, .slice x.mv.ms.a x.mv.ms.n x.mv.ms.c, .slice x.mv.its.a x.mv.its.n x.mv.its.c, .slice x.mv.lv.a x.mv.lv.n x.mv.lv.c, .slice x.mv.tx.a x.mv.tx.n x.mv.tx.c, .int .i64 x.m.rd, .int .i64 x.m.se, .int .i64 x.m.li, .int .i64 x.m.he, .int .i64 x.m.la.c, .int .i64 x.m.la.r, .int .i64 x.m.la.q, .int .i64 x.m.la.a, .int .i64 x.m.la.b, .slice x.mv.ws.a x.mv.ws.n x.mv.ws.c, .int .i64 x.most, .int .i64 x.old, .int .i64 x.jid, .slice x.js.a x.js.n x.js.c, .slice x.bs.a x.bs.n x.bs.c, .slice x.ls.a x.ls.n x.ls.c] 34)).alloc (.cells #[.int .i64 0, .bool false, .int .i64 0, .int .i64 0, .slice none 0 0, .slice none 0 0, .slice none 0 0, .slice none 0 0, .int .i64 0, .int .i64 0, .int .i64 0, .int .i64 0, .int .i64 0, .int .i64 0, .int .i64 0, .int .i64 0, .int .i64 0, .slice none 0 0, .int .i64 0, .int .i64 0, .int .i64 0, .slice none 0 0, .slice none 0 0, .slice none 0 0] 34)) (w.heap.size + 1) 34 [.int .i64 0, .bool false, .int .i64 0, .int .i64 0, .slice none 0 0, .slice none 0 0, .slice none 0 0, .slice none 0 0, .int .i64 0, .int .i64 0, .int .i64 0, .int .i64 0, .int .i64 0, .int .i64 0, .int .i64 0, .int .i64 0, .int .i64 0, .slice none 0 0, .int .i64 0, .int .i64 0, .int .i64 0, .slice none 0 0, .slice none 0 0, .slice none 0 0]) := by
    have h := Bx.new (w.alloc (.cells #[.int .i64 x.id, .bool x.dead, .int .i64 x.m.id, .int .i64 x.m.rid, .slice x.mv.ms.a x.mv.ms.n x.mv.ms.c, .slice x.mv.its.a x.mv.its.n x.mv.its.c, .slice x.mv.lv.a x.mv.lv.n x.mv.lv.c, .slice x.mv.tx.a x.mv.tx.n x.mv.tx.c, .int .i64 x.m.rd, .int .i64 x.m.se, .int .i64 x.m.li, .int .i64 x.m.he, .int .i64 x.m.la.c, .int .i64 x.m.la.r, .int .i64 x.m.la.q, .int .i64 x.m.la.a, .int .i64 x.m.la.b, .slice x.mv.ws.a x.mv.ws.n x.mv.ws.c, .int .i64 x.most, .int .i64 x.old, .int .i64 x.jid, .slice x.js.a x.js.n x.js.c, .slice x.bs.a x.bs.n x.bs.c, .slice x.ls.a x.ls.n x.ls.c] 34)) 34 [.int .i64 0, .bool false, .int .i64 0, .int .i64 0, .slice none 0 0, .slice none 0 0, .slice none 0 0, .slice none 0 0, .int .i64 0, .int .i64 0, .int .i64 0, .int .i64 0, .int .i64 0, .int .i64 0, .int .i64 0, .int .i64 0, .int .i64 0, .slice none 0 0, .int .i64 0, .int .i64 0, .int .i64 0, .slice none 0 0, .slice none 0 0, .slice none 0 0]
    rw [hn1] at h
    exact h
  have BW : Hid (Below w.heap.size w ((w.alloc (.cells #[.int .i64 x.id, .bool x.dead, .int .i64 x.m.id, .int .i64 x.m.rid, .slice x.mv.ms.a x.mv.ms.n x.mv.ms.c, .slice x.mv.its.a x.mv.its.n x.mv.its.c, .slice x.mv.lv.a x.mv.lv.n x.mv.lv.c, .slice x.mv.tx.a x.mv.tx.n x.mv.tx.c, .int .i64 x.m.rd, .int .i64 x.m.se, .int .i64 x.m.li, .int .i64 x.m.he, .int .i64 x.m.la.c, .int .i64 x.m.la.r, .int .i64 x.m.la.q, .int .i64 x.m.la.a, .int .i64 x.m.la.b, .slice x.mv.ws.a x.mv.ws.n x.mv.ws.c, .int .i64 x.most, .int .i64 x.old, .int .i64 x.jid, .slice x.js.a x.js.n x.js.c, .slice x.bs.a x.bs.n x.bs.c, .slice x.ls.a x.ls.n x.ls.c] 34)).alloc (.cells #[.int .i64 0, .bool false, .int .i64 0, .int .i64 0, .slice none 0 0, .slice none 0 0, .slice none 0 0, .slice none 0 0, .int .i64 0, .int .i64 0, .int .i64 0, .int .i64 0, .int .i64 0, .int .i64 0, .int .i64 0, .int .i64 0, .int .i64 0, .slice none 0 0, .int .i64 0, .int .i64 0, .int .i64 0, .slice none 0 0, .slice none 0 0, .slice none 0 0] 34))) := (((Below.refl _ _).alloc (by simp) _).alloc (by simp; try omega) _)
  clear hn1
  have hb0 : ¬ 0 < x.bs.n := by have := hb.out.1; omega
  have HLN : Hid (x.ls.n = x.lo.length) := hl.out.1
  have hln : x.ls.n ≤ 1048576 := by have := HLN.out; have := hs.out.los.1; omega
  have hsz : ((w.alloc (.cells #[.int .i64 x.id, .bool x.dead, .int .i64 x.m.id, .int .i64 x.m.rid, .slice x.mv.ms.a x.mv.ms.n x.mv.ms.c, .slice x.mv.its.a x.mv.its.n x.mv.its.c, .slice x.mv.lv.a x.mv.lv.n x.mv.lv.c, .slice x.mv.tx.a x.mv.tx.n x.mv.tx.c, .int .i64 x.m.rd, .int .i64 x.m.se, .int .i64 x.m.li, .int .i64 x.m.he, .int .i64 x.m.la.c, .int .i64 x.m.la.r, .int .i64 x.m.la.q, .int .i64 x.m.la.a, .int .i64 x.m.la.b, .slice x.mv.ws.a x.mv.ws.n x.mv.ws.c, .int .i64 x.most, .int .i64 x.old, .int .i64 x.jid, .slice x.js.a x.js.n x.js.c, .slice x.bs.a x.bs.n x.bs.c, .slice x.ls.a x.ls.n x.ls.c] 34)).alloc (.cells #[.int .i64 0, .bool false, .int .i64 0, .int .i64 0, .slice none 0 0, .slice none 0 0, .slice none 0 0, .slice none 0 0, .int .i64 0, .int .i64 0, .int .i64 0, .int .i64 0, .int .i64 0, .int .i64 0, .int .i64 0, .int .i64 0, .int .i64 0, .slice none 0 0, .int .i64 0, .int .i64 0, .int .i64 0, .slice none 0 0, .slice none 0 0, .slice none 0 0] 34)).heap.size = w.heap.size + 2 := by simp
  obtain ⟨W, hW⟩ : ∃ W, W = ((w.alloc (.cells #[.int .i64 x.id, .bool x.dead, .int .i64 x.m.id, .int .i64 x.m.rid, .slice x.mv.ms.a x.mv.ms.n x.mv.ms.c, .slice x.mv.its.a x.mv.its.n x.mv.its.c, .slice x.mv.lv.a x.mv.lv.n x.mv.lv.c, .slice x.mv.tx.a x.mv.tx.n x.mv.tx.c, .int .i64 x.m.rd, .int .i64 x.m.se, .int .i64 x.m.li, .int .i64 x.m.he, .int .i64 x.m.la.c, .int .i64 x.m.la.r, .int .i64 x.m.la.q, .int .i64 x.m.la.a, .int .i64 x.m.la.b, .slice x.mv.ws.a x.mv.ws.n x.mv.ws.c, .int .i64 x.most, .int .i64 x.old, .int .i64 x.jid, .slice x.js.a x.js.n x.js.c, .slice x.bs.a x.bs.n x.bs.c, .slice x.ls.a x.ls.n x.ls.c] 34)).alloc (.cells #[.int .i64 0, .bool false, .int .i64 0, .int .i64 0, .slice none 0 0, .slice none 0 0, .slice none 0 0, .slice none 0 0, .int .i64 0, .int .i64 0, .int .i64 0, .int .i64 0, .int .i64 0, .int .i64 0, .int .i64 0, .int .i64 0, .int .i64 0, .slice none 0 0, .int .i64 0, .int .i64 0, .int .i64 0, .slice none 0 0, .slice none 0 0, .slice none 0 0] 34)) := ⟨_, rfl⟩
  rw [← hW] at LA EB BW hsz
  have HW : Hid (W = ((w.alloc (.cells #[.int .i64 x.id, .bool x.dead, .int .i64 x.m.id, .int .i64 x.m.rid, .slice x.mv.ms.a x.mv.ms.n x.mv.ms.c, .slice x.mv.its.a x.mv.its.n x.mv.its.c, .slice x.mv.lv.a x.mv.lv.n x.mv.lv.c, .slice x.mv.tx.a x.mv.tx.n x.mv.tx.c, .int .i64 x.m.rd, .int .i64 x.m.se, .int .i64 x.m.li, .int .i64 x.m.he, .int .i64 x.m.la.c, .int .i64 x.m.la.r, .int .i64 x.m.la.q, .int .i64 x.m.la.a, .int .i64 x.m.la.b, .slice x.mv.ws.a x.mv.ws.n x.mv.ws.c, .int .i64 x.most, .int .i64 x.old, .int .i64 x.jid, .slice x.js.a x.js.n x.js.c, .slice x.bs.a x.bs.n x.bs.c, .slice x.ls.a x.ls.n x.ls.c] 34)).alloc (.cells #[.int .i64 0, .bool false, .int .i64 0, .int .i64 0, .slice none 0 0, .slice none 0 0, .slice none 0 0, .slice none 0 0, .int .i64 0, .int .i64 0, .int .i64 0, .int .i64 0, .int .i64 0, .int .i64 0, .int .i64 0, .int .i64 0, .int .i64 0, .slice none 0 0, .int .i64 0, .int .i64 0, .int .i64 0, .slice none 0 0, .slice none 0 0, .slice none 0 0] 34))) := hW
  clear hW
  go_enter Try.func50, Try.ntmps50
  have hz : Hid (Bx (((w.alloc (.cells #[.int .i64 x.id, .bool x.dead, .int .i64 x.m.id, .int .i64 x.m.rid, .slice x.mv.ms.a x.mv.ms.n x.mv.ms.c, .slice x.mv.its.a x.mv.its.n x.mv.its.c, .slice x.mv.lv.a x.mv.lv.n x.mv.lv.c, .slice x.mv.tx.a x.mv.tx.n x.mv.tx.c, .int .i64 x.m.rd, .int .i64 x.m.se, .int .i64 x.m.li, .int .i64 x.m.he, .int .i64 x.m.la.c, .int .i64 x.m.la.r, .int .i64 x.m.la.q, .int .i64 x.m.la.a, .int .i64 x.m.la.b, .slice x.mv.ws.a x.mv.ws.n x.mv.ws.c, .int .i64 x.most, .int .i64 x.old, .int .i64 x.jid, .slice x.js.a x.js.n x.js.c, .slice x.bs.a x.bs.n x.bs.c, .slice x.ls.a x.ls.n x.ls.c] 34)).alloc (.cells #[.int .i64 0, .bool false, .int .i64 0, .int .i64 0, .slice none 0 0, .slice none 0 0, .slice none 0 0, .slice none 0 0, .int .i64 0, .int .i64 0, .int .i64 0, .int .i64 0, .int .i64 0, .int .i64 0, .int .i64 0, .int .i64 0, .int .i64 0, .slice none 0 0, .int .i64 0, .int .i64 0, .int .i64 0, .slice none 0 0, .slice none 0 0, .slice none 0 0] 34)).alloc (.cells #[.int .i64 0, .bool false, .int .i64 0, .int .i64 0, .slice none 0 0, .slice none 0 0, .slice none 0 0, .slice none 0 0, .int .i64 0, .int .i64 0, .int .i64 0, .int .i64 0, .int .i64 0, .int .i64 0, .int .i64 0, .int .i64 0, .int .i64 0, .slice none 0 0, .int .i64 0, .int .i64 0, .int .i64 0, .slice none 0 0, .slice none 0 0, .slice none 0 0] 34)) (w.heap.size + 2) 34 [.int .i64 0, .bool false, .int .i64 0, .int .i64 0, .slice none 0 0, .slice none 0 0, .slice none 0 0, .slice none 0 0, .int .i64 0, .int .i64 0, .int .i64 0, .int .i64 0, .int .i64 0, .int .i64 0, .int .i64 0, .int .i64 0, .int .i64 0, .slice none 0 0, .int .i64 0, .int .i64 0, .int .i64 0, .slice none 0 0, .slice none 0 0, .slice none 0 0]) := by have h := Bx.new W 34 [.int .i64 0, .bool false, .int .i64 0, .int .i64 0, .slice none 0 0, .slice none 0 0, .slice none 0 0, .slice none 0 0, .int .i64 0, .int .i64 0, .int .i64 0, .int .i64 0, .int .i64 0, .int .i64 0, .int .i64 0, .int .i64 0, .int .i64 0, .slice none 0 0, .int .i64 0, .int .i64 0, .int .i64 0, .slice none 0 0, .slice none 0 0, .slice none 0 0]; rw [hsz, HW.out] at h; exact h
  have LA2 : Hid (Bx ((w.alloc (.cells #[.int .i64 x.id, .bool x.dead, .int .i64 x.m.id, .int .i64 x.m.rid, .slice x.mv.ms.a x.mv.ms.n x.mv.ms.c, .slice x.mv.its.a x.mv.its.n x.mv.its.c, .slice x.mv.lv.a x.mv.lv.n x.mv.lv.c, .slice x.mv.tx.a x.mv.tx.n x.mv.tx.c, .int .i64 x.m.rd, .int .i64 x.m.se, .int .i64 x.m.li, .int .i64 x.m.he, .int .i64 x.m.la.c, .int .i64 x.m.la.r, .int .i64 x.m.la.q, .int .i64 x.m.la.a, .int .i64 x.m.la.b, .slice x.mv.ws.a x.mv.ws.n x.mv.ws.c, .int .i64 x.most, .int .i64 x.old, .int .i64 x.jid, .slice x.js.a x.js.n x.js.c, .slice x.bs.a x.bs.n x.bs.c, .slice x.ls.a x.ls.n x.ls.c] 34)).alloc (.cells #[.int .i64 0, .bool false, .int .i64 0, .int .i64 0, .slice none 0 0, .slice none 0 0, .slice none 0 0, .slice none 0 0, .int .i64 0, .int .i64 0, .int .i64 0, .int .i64 0, .int .i64 0, .int .i64 0, .int .i64 0, .int .i64 0, .int .i64 0, .slice none 0 0, .int .i64 0, .int .i64 0, .int .i64 0, .slice none 0 0, .slice none 0 0, .slice none 0 0] 34)) w.heap.size 34 [.int .i64 x.id, .bool x.dead, .int .i64 x.m.id, .int .i64 x.m.rid, .slice x.mv.ms.a x.mv.ms.n x.mv.ms.c, .slice x.mv.its.a x.mv.its.n x.mv.its.c, .slice x.mv.lv.a x.mv.lv.n x.mv.lv.c, .slice x.mv.tx.a x.mv.tx.n x.mv.tx.c, .int .i64 x.m.rd, .int .i64 x.m.se, .int .i64 x.m.li, .int .i64 x.m.he, .int .i64 x.m.la.c, .int .i64 x.m.la.r, .int .i64 x.m.la.q, .int .i64 x.m.la.a, .int .i64 x.m.la.b, .slice x.mv.ws.a x.mv.ws.n x.mv.ws.c, .int .i64 x.most, .int .i64 x.old, .int .i64 x.jid, .slice x.js.a x.js.n x.js.c, .slice x.bs.a x.bs.n x.bs.c, .slice x.ls.a x.ls.n x.ls.c]) := by have h := LA.out; rw [HW.out] at h; exact h
  have LA3 : Hid (Bx (((w.alloc (.cells #[.int .i64 x.id, .bool x.dead, .int .i64 x.m.id, .int .i64 x.m.rid, .slice x.mv.ms.a x.mv.ms.n x.mv.ms.c, .slice x.mv.its.a x.mv.its.n x.mv.its.c, .slice x.mv.lv.a x.mv.lv.n x.mv.lv.c, .slice x.mv.tx.a x.mv.tx.n x.mv.tx.c, .int .i64 x.m.rd, .int .i64 x.m.se, .int .i64 x.m.li, .int .i64 x.m.he, .int .i64 x.m.la.c, .int .i64 x.m.la.r, .int .i64 x.m.la.q, .int .i64 x.m.la.a, .int .i64 x.m.la.b, .slice x.mv.ws.a x.mv.ws.n x.mv.ws.c, .int .i64 x.most, .int .i64 x.old, .int .i64 x.jid, .slice x.js.a x.js.n x.js.c, .slice x.bs.a x.bs.n x.bs.c, .slice x.ls.a x.ls.n x.ls.c] 34)).alloc (.cells #[.int .i64 0, .bool false, .int .i64 0, .int .i64 0, .slice none 0 0, .slice none 0 0, .slice none 0 0, .slice none 0 0, .int .i64 0, .int .i64 0, .int .i64 0, .int .i64 0, .int .i64 0, .int .i64 0, .int .i64 0, .int .i64 0, .int .i64 0, .slice none 0 0, .int .i64 0, .int .i64 0, .int .i64 0, .slice none 0 0, .slice none 0 0, .slice none 0 0] 34)).alloc (.cells #[.int .i64 0, .bool false, .int .i64 0, .int .i64 0, .slice none 0 0, .slice none 0 0, .slice none 0 0, .slice none 0 0, .int .i64 0, .int .i64 0, .int .i64 0, .int .i64 0, .int .i64 0, .int .i64 0, .int .i64 0, .int .i64 0, .int .i64 0, .slice none 0 0, .int .i64 0, .int .i64 0, .int .i64 0, .slice none 0 0, .slice none 0 0, .slice none 0 0] 34)) w.heap.size 34 [.int .i64 x.id, .bool x.dead, .int .i64 x.m.id, .int .i64 x.m.rid, .slice x.mv.ms.a x.mv.ms.n x.mv.ms.c, .slice x.mv.its.a x.mv.its.n x.mv.its.c, .slice x.mv.lv.a x.mv.lv.n x.mv.lv.c, .slice x.mv.tx.a x.mv.tx.n x.mv.tx.c, .int .i64 x.m.rd, .int .i64 x.m.se, .int .i64 x.m.li, .int .i64 x.m.he, .int .i64 x.m.la.c, .int .i64 x.m.la.r, .int .i64 x.m.la.q, .int .i64 x.m.la.a, .int .i64 x.m.la.b, .slice x.mv.ws.a x.mv.ws.n x.mv.ws.c, .int .i64 x.most, .int .i64 x.old, .int .i64 x.jid, .slice x.js.a x.js.n x.js.c, .slice x.bs.a x.bs.n x.bs.c, .slice x.ls.a x.ls.n x.ls.c]) := LA2.out.later ((Below.refl _ _).alloc (Nat.le_refl _) _)
  go_wp2_with (first | (refine wpList_ldG rfl 34 _ rfl w.heap.size 0 rfl 34 _ LA2.out [.int .i64 x.id, .bool x.dead, .int .i64 x.m.id, .int .i64 x.m.rid, .slice x.mv.ms.a x.mv.ms.n x.mv.ms.c, .slice x.mv.its.a x.mv.its.n x.mv.its.c, .slice x.mv.lv.a x.mv.lv.n x.mv.lv.c, .slice x.mv.tx.a x.mv.tx.n x.mv.tx.c, .int .i64 x.m.rd, .int .i64 x.m.se, .int .i64 x.m.li, .int .i64 x.m.he, .int .i64 x.m.la.c, .int .i64 x.m.la.r, .int .i64 x.m.la.q, .int .i64 x.m.la.a, .int .i64 x.m.la.b, .slice x.mv.ws.a x.mv.ws.n x.mv.ws.c, .int .i64 x.most, .int .i64 x.old, .int .i64 x.jid, .slice x.js.a x.js.n x.js.c, .slice x.bs.a x.bs.n x.bs.c, .slice x.ls.a x.ls.n x.ls.c] rfl _ Try.underlying34 rfl Try.sizeDa ?_) | (with_reducible refine wpList_haltS 34 _ _ rfl ?_))
  refine Stp.go ?_
  refine wpList_stB rfl 34 _ _ rfl (w.heap.size + 2) 0 rfl 34 _ hz.out [.int .i64 x.id, .bool x.dead, .int .i64 x.m.id, .int .i64 x.m.rid, .slice x.mv.ms.a x.mv.ms.n x.mv.ms.c, .slice x.mv.its.a x.mv.its.n x.mv.its.c, .slice x.mv.lv.a x.mv.lv.n x.mv.lv.c, .slice x.mv.tx.a x.mv.tx.n x.mv.tx.c, .int .i64 x.m.rd, .int .i64 x.m.se, .int .i64 x.m.li, .int .i64 x.m.he, .int .i64 x.m.la.c, .int .i64 x.m.la.r, .int .i64 x.m.la.q, .int .i64 x.m.la.a, .int .i64 x.m.la.b, .slice x.mv.ws.a x.mv.ws.n x.mv.ws.c, .int .i64 x.most, .int .i64 x.old, .int .i64 x.jid, .slice x.js.a x.js.n x.js.c, .slice x.bs.a x.bs.n x.bs.c, .slice x.ls.a x.ls.n x.ls.c] rfl (by simp) Try.sizeDa rfl [.int .i64 x.id, .bool x.dead, .int .i64 x.m.id, .int .i64 x.m.rid, .slice x.mv.ms.a x.mv.ms.n x.mv.ms.c, .slice x.mv.its.a x.mv.its.n x.mv.its.c, .slice x.mv.lv.a x.mv.lv.n x.mv.lv.c, .slice x.mv.tx.a x.mv.tx.n x.mv.tx.c, .int .i64 x.m.rd, .int .i64 x.m.se, .int .i64 x.m.li, .int .i64 x.m.he, .int .i64 x.m.la.c, .int .i64 x.m.la.r, .int .i64 x.m.la.q, .int .i64 x.m.la.a, .int .i64 x.m.la.b, .slice x.mv.ws.a x.mv.ws.n x.mv.ws.c, .int .i64 x.most, .int .i64 x.old, .int .i64 x.jid, .slice x.js.a x.js.n x.js.c, .slice x.bs.a x.bs.n x.bs.c, .slice x.ls.a x.ls.n x.ls.c] rfl ?_
  intro w1 OB TB
  have OX : Hid (Bx w1 (w.heap.size + 2) 34 [.int .i64 x.id, .bool x.dead, .int .i64 x.m.id, .int .i64 x.m.rid, .slice x.mv.ms.a x.mv.ms.n x.mv.ms.c, .slice x.mv.its.a x.mv.its.n x.mv.its.c, .slice x.mv.lv.a x.mv.lv.n x.mv.lv.c, .slice x.mv.tx.a x.mv.tx.n x.mv.tx.c, .int .i64 x.m.rd, .int .i64 x.m.se, .int .i64 x.m.li, .int .i64 x.m.he, .int .i64 x.m.la.c, .int .i64 x.m.la.r, .int .i64 x.m.la.q, .int .i64 x.m.la.a, .int .i64 x.m.la.b, .slice x.mv.ws.a x.mv.ws.n x.mv.ws.c, .int .i64 x.most, .int .i64 x.old, .int .i64 x.jid, .slice x.js.a x.js.n x.js.c, .slice x.bs.a x.bs.n x.bs.c, .slice x.ls.a x.ls.n x.ls.c]) := OB
  clear OB
  have b : Below W.heap.size W w1 := by rw [HW.out]; exact ((Below.refl _ _).alloc (Nat.le_refl _) _).trans (TB.below (by simp))
  have LA : Hid (Bx w1 w.heap.size 34 [.int .i64 x.id, .bool x.dead, .int .i64 x.m.id, .int .i64 x.m.rid, .slice x.mv.ms.a x.mv.ms.n x.mv.ms.c, .slice x.mv.its.a x.mv.its.n x.mv.its.c, .slice x.mv.lv.a x.mv.lv.n x.mv.lv.c, .slice x.mv.tx.a x.mv.tx.n x.mv.tx.c, .int .i64 x.m.rd, .int .i64 x.m.se, .int .i64 x.m.li, .int .i64 x.m.he, .int .i64 x.m.la.c, .int .i64 x.m.la.r, .int .i64 x.m.la.q, .int .i64 x.m.la.a, .int .i64 x.m.la.b, .slice x.mv.ws.a x.mv.ws.n x.mv.ws.c, .int .i64 x.most, .int .i64 x.old, .int .i64 x.jid, .slice x.js.a x.js.n x.js.c, .slice x.bs.a x.bs.n x.bs.c, .slice x.ls.a x.ls.n x.ls.c]) := LA.out.later b
  have EB : Hid (Bx w1 (w.heap.size + 1) 34 [.int .i64 0, .bool false, .int .i64 0, .int .i64 0, .slice none 0 0, .slice none 0 0, .slice none 0 0, .slice none 0 0, .int .i64 0, .int .i64 0, .int .i64 0, .int .i64 0, .int .i64 0, .int .i64 0, .int .i64 0, .int .i64 0, .int .i64 0, .slice none 0 0, .int .i64 0, .int .i64 0, .int .i64 0, .slice none 0 0, .slice none 0 0, .slice none 0 0]) := EB.out.later b
  have BW : Hid (Below w.heap.size w w1) := bl_next BW.out b
  clear TB b hz LA2 LA3 HW hsz
  have z1 : w.heap.size + 2 < w1.heap.size := OX.out.lt
  have PM : Hid (MtP w1 x.m x.mv) := hm.out.later BW.out
  go_wp2_with (first | (refine wpList_ldG rfl 30 _ rfl w.heap.size 2 rfl 34 _ LA.out [.int .i64 x.m.id, .int .i64 x.m.rid, .slice x.mv.ms.a x.mv.ms.n x.mv.ms.c, .slice x.mv.its.a x.mv.its.n x.mv.its.c, .slice x.mv.lv.a x.mv.lv.n x.mv.lv.c, .slice x.mv.tx.a x.mv.tx.n x.mv.tx.c, .int .i64 x.m.rd, .int .i64 x.m.se, .int .i64 x.m.li, .int .i64 x.m.he, .int .i64 x.m.la.c, .int .i64 x.m.la.r, .int .i64 x.m.la.q, .int .i64 x.m.la.a, .int .i64 x.m.la.b, .slice x.mv.ws.a x.mv.ws.n x.mv.ws.c] rfl _ Try.underlying30 rfl Try.sizeM ?_))
  refine (memberOf_any x.m x.mv _ PM hs.out.mt).mono ?_
  rintro e w2 ⟨gm, u, rfl, mb, ou, zg, b⟩
  have MB : Hid (MbB w2 gm x.m u zSv) := mb
  have MO : Hid (MtO w2 w1.heap.size x.m u) := ou
  have zg2 : gm < w2.heap.size := MB.out.lt
  clear mb ou PM
  have z_w2 : w1.heap.size ≤ w2.heap.size := b.size
  have LA : Hid (Bx w2 w.heap.size 34 [.int .i64 x.id, .bool x.dead, .int .i64 x.m.id, .int .i64 x.m.rid, .slice x.mv.ms.a x.mv.ms.n x.mv.ms.c, .slice x.mv.its.a x.mv.its.n x.mv.its.c, .slice x.mv.lv.a x.mv.lv.n x.mv.lv.c, .slice x.mv.tx.a x.mv.tx.n x.mv.tx.c, .int .i64 x.m.rd, .int .i64 x.m.se, .int .i64 x.m.li, .int .i64 x.m.he, .int .i64 x.m.la.c, .int .i64 x.m.la.r, .int .i64 x.m.la.q, .int .i64 x.m.la.a, .int .i64 x.m.la.b, .slice x.mv.ws.a x.mv.ws.n x.mv.ws.c, .int .i64 x.most, .int .i64 x.old, .int .i64 x.jid, .slice x.js.a x.js.n x.js.c, .slice x.bs.a x.bs.n x.bs.c, .slice x.ls.a x.ls.n x.ls.c]) := LA.out.later b
  have EB : Hid (Bx w2 (w.heap.size + 1) 34 [.int .i64 0, .bool false, .int .i64 0, .int .i64 0, .slice none 0 0, .slice none 0 0, .slice none 0 0, .slice none 0 0, .int .i64 0, .int .i64 0, .int .i64 0, .int .i64 0, .int .i64 0, .int .i64 0, .int .i64 0, .int .i64 0, .int .i64 0, .slice none 0 0, .int .i64 0, .int .i64 0, .int .i64 0, .slice none 0 0, .slice none 0 0, .slice none 0 0]) := EB.out.later b
  have BW : Hid (Below w.heap.size w w2) := bl_next BW.out b
  have OX : Hid (Bx w2 (w.heap.size + 2) 34 [.int .i64 x.id, .bool x.dead, .int .i64 x.m.id, .int .i64 x.m.rid, .slice x.mv.ms.a x.mv.ms.n x.mv.ms.c, .slice x.mv.its.a x.mv.its.n x.mv.its.c, .slice x.mv.lv.a x.mv.lv.n x.mv.lv.c, .slice x.mv.tx.a x.mv.tx.n x.mv.tx.c, .int .i64 x.m.rd, .int .i64 x.m.se, .int .i64 x.m.li, .int .i64 x.m.he, .int .i64 x.m.la.c, .int .i64 x.m.la.r, .int .i64 x.m.la.q, .int .i64 x.m.la.a, .int .i64 x.m.la.b, .slice x.mv.ws.a x.mv.ws.n x.mv.ws.c, .int .i64 x.most, .int .i64 x.old, .int .i64 x.jid, .slice x.js.a x.js.n x.js.c, .slice x.bs.a x.bs.n x.bs.c, .slice x.ls.a x.ls.n x.ls.c]) := OX.out.later b
  clear b
  go_wp2_with fail
  refine (mate_any x.m u zSv gm _ MB).mono ?_
  rintro e w3 ⟨rfl, _, kb⟩
  have z_w3 : w2.heap.size ≤ w3.heap.size := kb.size
  have LA : Hid (Bx w3 w.heap.size 34 [.int .i64 x.id, .bool x.dead, .int .i64 x.m.id, .int .i64 x.m.rid, .slice x.mv.ms.a x.mv.ms.n x.mv.ms.c, .slice x.mv.its.a x.mv.its.n x.mv.its.c, .slice x.mv.lv.a x.mv.lv.n x.mv.lv.c, .slice x.mv.tx.a x.mv.tx.n x.mv.tx.c, .int .i64 x.m.rd, .int .i64 x.m.se, .int .i64 x.m.li, .int .i64 x.m.he, .int .i64 x.m.la.c, .int .i64 x.m.la.r, .int .i64 x.m.la.q, .int .i64 x.m.la.a, .int .i64 x.m.la.b, .slice x.mv.ws.a x.mv.ws.n x.mv.ws.c, .int .i64 x.most, .int .i64 x.old, .int .i64 x.jid, .slice x.js.a x.js.n x.js.c, .slice x.bs.a x.bs.n x.bs.c, .slice x.ls.a x.ls.n x.ls.c]) := LA.out.keepb kb (by omega)
  have EB : Hid (Bx w3 (w.heap.size + 1) 34 [.int .i64 0, .bool false, .int .i64 0, .int .i64 0, .slice none 0 0, .slice none 0 0, .slice none 0 0, .slice none 0 0, .int .i64 0, .int .i64 0, .int .i64 0, .int .i64 0, .int .i64 0, .int .i64 0, .int .i64 0, .int .i64 0, .int .i64 0, .slice none 0 0, .int .i64 0, .int .i64 0, .int .i64 0, .slice none 0 0, .slice none 0 0, .slice none 0 0]) := EB.out.keepb kb (by omega)
  have OX : Hid (Bx w3 (w.heap.size + 2) 34 [.int .i64 x.id, .bool x.dead, .int .i64 x.m.id, .int .i64 x.m.rid, .slice x.mv.ms.a x.mv.ms.n x.mv.ms.c, .slice x.mv.its.a x.mv.its.n x.mv.its.c, .slice x.mv.lv.a x.mv.lv.n x.mv.lv.c, .slice x.mv.tx.a x.mv.tx.n x.mv.tx.c, .int .i64 x.m.rd, .int .i64 x.m.se, .int .i64 x.m.li, .int .i64 x.m.he, .int .i64 x.m.la.c, .int .i64 x.m.la.r, .int .i64 x.m.la.q, .int .i64 x.m.la.a, .int .i64 x.m.la.b, .slice x.mv.ws.a x.mv.ws.n x.mv.ws.c, .int .i64 x.most, .int .i64 x.old, .int .i64 x.jid, .slice x.js.a x.js.n x.js.c, .slice x.bs.a x.bs.n x.bs.c, .slice x.ls.a x.ls.n x.ls.c]) := OX.out.keepb kb (by omega)
  have BW : Hid (Below w.heap.size w w3) := BW.out.trans (kb.below (by omega) (by omega))
  have MO : Hid (MtO w3 w1.heap.size x.m u) := MO.out.keepb2 MB.out kb (by decide) (by decide) (by decide)
  have ML : Hid (∀ y, u.own y → y < w3.heap.size) := fun y hy => (MO.out.lt hy).2
  have z3 : w.heap.size + 2 < w3.heap.size := OX.out.lt
  clear kb MB
  go_wp2_with (first | (with_reducible refine wpList_haltS 30 _ _ rfl ?_))
  refine Stp.go ?_
  refine wpList_stB rfl 30 _ _ rfl (w.heap.size + 2) 2 rfl 34 _ OX.out [.int .i64 x.m.id, .int .i64 x.m.rid, .slice u.ms.a u.ms.n u.ms.c, .slice u.its.a u.its.n u.its.c, .slice u.lv.a u.lv.n u.lv.c, .slice u.tx.a u.tx.n u.tx.c, .int .i64 x.m.rd, .int .i64 x.m.se, .int .i64 x.m.li, .int .i64 x.m.he, .int .i64 x.m.la.c, .int .i64 x.m.la.r, .int .i64 x.m.la.q, .int .i64 x.m.la.a, .int .i64 x.m.la.b, .slice u.ws.a u.ws.n u.ws.c] rfl (by simp) Try.sizeM rfl [.int .i64 x.id, .bool x.dead, .int .i64 x.m.id, .int .i64 x.m.rid, .slice u.ms.a u.ms.n u.ms.c, .slice u.its.a u.its.n u.its.c, .slice u.lv.a u.lv.n u.lv.c, .slice u.tx.a u.tx.n u.tx.c, .int .i64 x.m.rd, .int .i64 x.m.se, .int .i64 x.m.li, .int .i64 x.m.he, .int .i64 x.m.la.c, .int .i64 x.m.la.r, .int .i64 x.m.la.q, .int .i64 x.m.la.a, .int .i64 x.m.la.b, .slice u.ws.a u.ws.n u.ws.c, .int .i64 x.most, .int .i64 x.old, .int .i64 x.jid, .slice x.js.a x.js.n x.js.c, .slice x.bs.a x.bs.n x.bs.c, .slice x.ls.a x.ls.n x.ls.c] rfl ?_
  intro w4 OB TB
  have z_w4 : w3.heap.size ≤ w4.heap.size := Nat.le_of_eq TB.size.symm
  have LA : Hid (Bx w4 w.heap.size 34 [.int .i64 x.id, .bool x.dead, .int .i64 x.m.id, .int .i64 x.m.rid, .slice x.mv.ms.a x.mv.ms.n x.mv.ms.c, .slice x.mv.its.a x.mv.its.n x.mv.its.c, .slice x.mv.lv.a x.mv.lv.n x.mv.lv.c, .slice x.mv.tx.a x.mv.tx.n x.mv.tx.c, .int .i64 x.m.rd, .int .i64 x.m.se, .int .i64 x.m.li, .int .i64 x.m.he, .int .i64 x.m.la.c, .int .i64 x.m.la.r, .int .i64 x.m.la.q, .int .i64 x.m.la.a, .int .i64 x.m.la.b, .slice x.mv.ws.a x.mv.ws.n x.mv.ws.c, .int .i64 x.most, .int .i64 x.old, .int .i64 x.jid, .slice x.js.a x.js.n x.js.c, .slice x.bs.a x.bs.n x.bs.c, .slice x.ls.a x.ls.n x.ls.c]) := LA.out.turn TB (by omega)
  have EB : Hid (Bx w4 (w.heap.size + 1) 34 [.int .i64 0, .bool false, .int .i64 0, .int .i64 0, .slice none 0 0, .slice none 0 0, .slice none 0 0, .slice none 0 0, .int .i64 0, .int .i64 0, .int .i64 0, .int .i64 0, .int .i64 0, .int .i64 0, .int .i64 0, .int .i64 0, .int .i64 0, .slice none 0 0, .int .i64 0, .int .i64 0, .int .i64 0, .slice none 0 0, .slice none 0 0, .slice none 0 0]) := EB.out.turn TB (by omega)
  have BW : Hid (Below w.heap.size w w4) := BW.out.trans (TB.below (by omega))
  have MO : Hid (MtO w4 w1.heap.size x.m u) := MO.out.keep fun b hb _ => TB.block b (by have := (MO.out.lt hb).1; omega)
  have OX : Hid (Bx w4 (w.heap.size + 2) 34 [.int .i64 x.id, .bool x.dead, .int .i64 x.m.id, .int .i64 x.m.rid, .slice u.ms.a u.ms.n u.ms.c, .slice u.its.a u.its.n u.its.c, .slice u.lv.a u.lv.n u.lv.c, .slice u.tx.a u.tx.n u.tx.c, .int .i64 x.m.rd, .int .i64 x.m.se, .int .i64 x.m.li, .int .i64 x.m.he, .int .i64 x.m.la.c, .int .i64 x.m.la.r, .int .i64 x.m.la.q, .int .i64 x.m.la.a, .int .i64 x.m.la.b, .slice u.ws.a u.ws.n u.ws.c, .int .i64 x.most, .int .i64 x.old, .int .i64 x.jid, .slice x.js.a x.js.n x.js.c, .slice x.bs.a x.bs.n x.bs.c, .slice x.ls.a x.ls.n x.ls.c]) := OB
  clear OB TB
  have RJ : Hid (RI w4 x.js.v x.jms) := hj.out.stays BW.out
  go_wp2_with (first | (refine wpList_ldG rfl 24 _ rfl w.heap.size 20 rfl 34 _ LA.out [.int .i64 x.jid, .slice x.js.a x.js.n x.js.c] rfl _ Try.underlying24 rfl Try.sizeR ?_))
  refine (copyRing_s x.jid x.js x.jms _ RJ hs.out.jo).mono ?_
  rintro e w5 ⟨s1, rfl, o1, b⟩
  have JO : Hid (OwnI w5 w1.heap.size s1.v x.jms) := o1.down (by omega)
  have JL : Hid (∀ y, s1.v.ownBlock = some y → w4.heap.size ≤ y ∧ y < w5.heap.size) := fun y hy => o1.lt y hy
  clear o1 RJ
  have z_w5 : w4.heap.size ≤ w5.heap.size := b.size
  have LA : Hid (Bx w5 w.heap.size 34 [.int .i64 x.id, .bool x.dead, .int .i64 x.m.id, .int .i64 x.m.rid, .slice x.mv.ms.a x.mv.ms.n x.mv.ms.c, .slice x.mv.its.a x.mv.its.n x.mv.its.c, .slice x.mv.lv.a x.mv.lv.n x.mv.lv.c, .slice x.mv.tx.a x.mv.tx.n x.mv.tx.c, .int .i64 x.m.rd, .int .i64 x.m.se, .int .i64 x.m.li, .int .i64 x.m.he, .int .i64 x.m.la.c, .int .i64 x.m.la.r, .int .i64 x.m.la.q, .int .i64 x.m.la.a, .int .i64 x.m.la.b, .slice x.mv.ws.a x.mv.ws.n x.mv.ws.c, .int .i64 x.most, .int .i64 x.old, .int .i64 x.jid, .slice x.js.a x.js.n x.js.c, .slice x.bs.a x.bs.n x.bs.c, .slice x.ls.a x.ls.n x.ls.c]) := LA.out.later b
  have EB : Hid (Bx w5 (w.heap.size + 1) 34 [.int .i64 0, .bool false, .int .i64 0, .int .i64 0, .slice none 0 0, .slice none 0 0, .slice none 0 0, .slice none 0 0, .int .i64 0, .int .i64 0, .int .i64 0, .int .i64 0, .int .i64 0, .int .i64 0, .int .i64 0, .int .i64 0, .int .i64 0, .slice none 0 0, .int .i64 0, .int .i64 0, .int .i64 0, .slice none 0 0, .slice none 0 0, .slice none 0 0]) := EB.out.later b
  have BW : Hid (Below w.heap.size w w5) := bl_next BW.out b
  have OX : Hid (Bx w5 (w.heap.size + 2) 34 [.int .i64 x.id, .bool x.dead, .int .i64 x.m.id, .int .i64 x.m.rid, .slice u.ms.a u.ms.n u.ms.c, .slice u.its.a u.its.n u.its.c, .slice u.lv.a u.lv.n u.lv.c, .slice u.tx.a u.tx.n u.tx.c, .int .i64 x.m.rd, .int .i64 x.m.se, .int .i64 x.m.li, .int .i64 x.m.he, .int .i64 x.m.la.c, .int .i64 x.m.la.r, .int .i64 x.m.la.q, .int .i64 x.m.la.a, .int .i64 x.m.la.b, .slice u.ws.a u.ws.n u.ws.c, .int .i64 x.most, .int .i64 x.old, .int .i64 x.jid, .slice x.js.a x.js.n x.js.c, .slice x.bs.a x.bs.n x.bs.c, .slice x.ls.a x.ls.n x.ls.c]) := OX.out.later b
  have MO : Hid (MtO w5 w1.heap.size x.m u) := MO.out.later b
  clear b
  go_wp2_with (first | (with_reducible refine wpList_haltS 24 _ _ rfl ?_))
  refine Stp.go ?_
  refine wpList_stB rfl 24 _ _ rfl (w.heap.size + 2) 20 rfl 34 _ OX.out [.int .i64 x.jid, .slice s1.a s1.n s1.c] rfl (by simp) Try.sizeR rfl [.int .i64 x.id, .bool x.dead, .int .i64 x.m.id, .int .i64 x.m.rid, .slice u.ms.a u.ms.n u.ms.c, .slice u.its.a u.its.n u.its.c, .slice u.lv.a u.lv.n u.lv.c, .slice u.tx.a u.tx.n u.tx.c, .int .i64 x.m.rd, .int .i64 x.m.se, .int .i64 x.m.li, .int .i64 x.m.he, .int .i64 x.m.la.c, .int .i64 x.m.la.r, .int .i64 x.m.la.q, .int .i64 x.m.la.a, .int .i64 x.m.la.b, .slice u.ws.a u.ws.n u.ws.c, .int .i64 x.most, .int .i64 x.old, .int .i64 x.jid, .slice s1.a s1.n s1.c, .slice x.bs.a x.bs.n x.bs.c, .slice x.ls.a x.ls.n x.ls.c] rfl ?_
  intro w6 OB TB
  have z_w6 : w5.heap.size ≤ w6.heap.size := Nat.le_of_eq TB.size.symm
  have LA : Hid (Bx w6 w.heap.size 34 [.int .i64 x.id, .bool x.dead, .int .i64 x.m.id, .int .i64 x.m.rid, .slice x.mv.ms.a x.mv.ms.n x.mv.ms.c, .slice x.mv.its.a x.mv.its.n x.mv.its.c, .slice x.mv.lv.a x.mv.lv.n x.mv.lv.c, .slice x.mv.tx.a x.mv.tx.n x.mv.tx.c, .int .i64 x.m.rd, .int .i64 x.m.se, .int .i64 x.m.li, .int .i64 x.m.he, .int .i64 x.m.la.c, .int .i64 x.m.la.r, .int .i64 x.m.la.q, .int .i64 x.m.la.a, .int .i64 x.m.la.b, .slice x.mv.ws.a x.mv.ws.n x.mv.ws.c, .int .i64 x.most, .int .i64 x.old, .int .i64 x.jid, .slice x.js.a x.js.n x.js.c, .slice x.bs.a x.bs.n x.bs.c, .slice x.ls.a x.ls.n x.ls.c]) := LA.out.turn TB (by omega)
  have EB : Hid (Bx w6 (w.heap.size + 1) 34 [.int .i64 0, .bool false, .int .i64 0, .int .i64 0, .slice none 0 0, .slice none 0 0, .slice none 0 0, .slice none 0 0, .int .i64 0, .int .i64 0, .int .i64 0, .int .i64 0, .int .i64 0, .int .i64 0, .int .i64 0, .int .i64 0, .int .i64 0, .slice none 0 0, .int .i64 0, .int .i64 0, .int .i64 0, .slice none 0 0, .slice none 0 0, .slice none 0 0]) := EB.out.turn TB (by omega)
  have BW : Hid (Below w.heap.size w w6) := BW.out.trans (TB.below (by omega))
  have MO : Hid (MtO w6 w1.heap.size x.m u) := MO.out.keep fun b hb _ => TB.block b (by have := (MO.out.lt hb).1; omega)
  have JO : Hid (OwnI w6 w1.heap.size s1.v x.jms) := JO.out.keep fun b hb _ => TB.block b (by have := (JO.out.lt b hb).1; omega)
  have OX : Hid (Bx w6 (w.heap.size + 2) 34 [.int .i64 x.id, .bool x.dead, .int .i64 x.m.id, .int .i64 x.m.rid, .slice u.ms.a u.ms.n u.ms.c, .slice u.its.a u.its.n u.its.c, .slice u.lv.a u.lv.n u.lv.c, .slice u.tx.a u.tx.n u.tx.c, .int .i64 x.m.rd, .int .i64 x.m.se, .int .i64 x.m.li, .int .i64 x.m.he, .int .i64 x.m.la.c, .int .i64 x.m.la.r, .int .i64 x.m.la.q, .int .i64 x.m.la.a, .int .i64 x.m.la.b, .slice u.ws.a u.ws.n u.ws.c, .int .i64 x.most, .int .i64 x.old, .int .i64 x.jid, .slice s1.a s1.n s1.c, .slice x.bs.a x.bs.n x.bs.c, .slice x.ls.a x.ls.n x.ls.c]) := OB
  clear OB TB
  have bz : Below w6.heap.size w6 (w6.alloc (.cells #[] 72)) := (Below.refl _ _).alloc (Nat.le_refl _) _
  have sbO : Hid (BusO (w6.alloc (.cells #[] 72)) w6.heap.size ⟨some ⟨w6.heap.size, 0, none⟩, 0, 0⟩ []) := ⟨SlN.made w6 72 4 _ (Nat.le_refl _), fun e he => by cases he⟩
  have zz_sb : w6.heap.size ≤ (w6.alloc (.cells #[] 72)).heap.size := bz.size
  have LA : Hid (Bx (w6.alloc (.cells #[] 72)) w.heap.size 34 [.int .i64 x.id, .bool x.dead, .int .i64 x.m.id, .int .i64 x.m.rid, .slice x.mv.ms.a x.mv.ms.n x.mv.ms.c, .slice x.mv.its.a x.mv.its.n x.mv.its.c, .slice x.mv.lv.a x.mv.lv.n x.mv.lv.c, .slice x.mv.tx.a x.mv.tx.n x.mv.tx.c, .int .i64 x.m.rd, .int .i64 x.m.se, .int .i64 x.m.li, .int .i64 x.m.he, .int .i64 x.m.la.c, .int .i64 x.m.la.r, .int .i64 x.m.la.q, .int .i64 x.m.la.a, .int .i64 x.m.la.b, .slice x.mv.ws.a x.mv.ws.n x.mv.ws.c, .int .i64 x.most, .int .i64 x.old, .int .i64 x.jid, .slice x.js.a x.js.n x.js.c, .slice x.bs.a x.bs.n x.bs.c, .slice x.ls.a x.ls.n x.ls.c]) := LA.out.later bz
  have EB : Hid (Bx (w6.alloc (.cells #[] 72)) (w.heap.size + 1) 34 [.int .i64 0, .bool false, .int .i64 0, .int .i64 0, .slice none 0 0, .slice none 0 0, .slice none 0 0, .slice none 0 0, .int .i64 0, .int .i64 0, .int .i64 0, .int .i64 0, .int .i64 0, .int .i64 0, .int .i64 0, .int .i64 0, .int .i64 0, .slice none 0 0, .int .i64 0, .int .i64 0, .int .i64 0, .slice none 0 0, .slice none 0 0, .slice none 0 0]) := EB.out.later bz
  have BW : Hid (Below w.heap.size w (w6.alloc (.cells #[] 72))) := bl_next BW.out bz
  have OX : Hid (Bx (w6.alloc (.cells #[] 72)) (w.heap.size + 2) 34 [.int .i64 x.id, .bool x.dead, .int .i64 x.m.id, .int .i64 x.m.rid, .slice u.ms.a u.ms.n u.ms.c, .slice u.its.a u.its.n u.its.c, .slice u.lv.a u.lv.n u.lv.c, .slice u.tx.a u.tx.n u.tx.c, .int .i64 x.m.rd, .int .i64 x.m.se, .int .i64 x.m.li, .int .i64 x.m.he, .int .i64 x.m.la.c, .int .i64 x.m.la.r, .int .i64 x.m.la.q, .int .i64 x.m.la.a, .int .i64 x.m.la.b, .slice u.ws.a u.ws.n u.ws.c, .int .i64 x.most, .int .i64 x.old, .int .i64 x.jid, .slice s1.a s1.n s1.c, .slice x.bs.a x.bs.n x.bs.c, .slice x.ls.a x.ls.n x.ls.c]) := OX.out.later bz
  have MO : Hid (MtO (w6.alloc (.cells #[] 72)) w1.heap.size x.m u) := MO.out.later bz
  have JO : Hid (OwnI (w6.alloc (.cells #[] 72)) w1.heap.size s1.v x.jms) := JO.out.keep fun _ _ hk => (bz).block _ hk
  clear bz
  go_wp2_with (first | (with_reducible refine wpList_haltS 31 _ _ rfl ?_))
  refine Stp.go ?_
  generalize hwz : (w6.alloc (.cells #[] 72)) = w7 at *
  clear hwz
  obtain ⟨sb, hs_sb⟩ : ∃ s : Sv, s = ⟨some ⟨w6.heap.size, 0, none⟩, 0, 0⟩ := ⟨_, rfl⟩
  have hq : Value.slice (some ⟨w6.heap.size, 0, none⟩) 0 0 = .slice sb.a sb.n sb.c := by rw [hs_sb]
  rw [← hs_sb] at sbO
  rw [hq]
  clear hq hs_sb
  have BL : Hid (∀ y, BusOwn sb [] y → w6.heap.size ≤ y ∧ y < w7.heap.size) := fun y hy => sbO.out.olt hy
  have BO : Hid (BusO w7 w1.heap.size sb []) := sbO.out.down (by omega)
  clear sbO
  refine wpList_st1 rfl 31 _ _ rfl (w.heap.size + 2) 22 rfl 34 _ OX.out (.slice sb.a sb.n sb.c) rfl (by simp) rfl Try.sizeBus [.int .i64 x.id, .bool x.dead, .int .i64 x.m.id, .int .i64 x.m.rid, .slice u.ms.a u.ms.n u.ms.c, .slice u.its.a u.its.n u.its.c, .slice u.lv.a u.lv.n u.lv.c, .slice u.tx.a u.tx.n u.tx.c, .int .i64 x.m.rd, .int .i64 x.m.se, .int .i64 x.m.li, .int .i64 x.m.he, .int .i64 x.m.la.c, .int .i64 x.m.la.r, .int .i64 x.m.la.q, .int .i64 x.m.la.a, .int .i64 x.m.la.b, .slice u.ws.a u.ws.n u.ws.c, .int .i64 x.most, .int .i64 x.old, .int .i64 x.jid, .slice s1.a s1.n s1.c, .slice sb.a sb.n sb.c, .slice x.ls.a x.ls.n x.ls.c] rfl ?_
  intro w8 OB TB
  have z_w8 : w7.heap.size ≤ w8.heap.size := Nat.le_of_eq TB.size.symm
  have LA : Hid (Bx w8 w.heap.size 34 [.int .i64 x.id, .bool x.dead, .int .i64 x.m.id, .int .i64 x.m.rid, .slice x.mv.ms.a x.mv.ms.n x.mv.ms.c, .slice x.mv.its.a x.mv.its.n x.mv.its.c, .slice x.mv.lv.a x.mv.lv.n x.mv.lv.c, .slice x.mv.tx.a x.mv.tx.n x.mv.tx.c, .int .i64 x.m.rd, .int .i64 x.m.se, .int .i64 x.m.li, .int .i64 x.m.he, .int .i64 x.m.la.c, .int .i64 x.m.la.r, .int .i64 x.m.la.q, .int .i64 x.m.la.a, .int .i64 x.m.la.b, .slice x.mv.ws.a x.mv.ws.n x.mv.ws.c, .int .i64 x.most, .int .i64 x.old, .int .i64 x.jid, .slice x.js.a x.js.n x.js.c, .slice x.bs.a x.bs.n x.bs.c, .slice x.ls.a x.ls.n x.ls.c]) := LA.out.turn TB (by omega)
  have EB : Hid (Bx w8 (w.heap.size + 1) 34 [.int .i64 0, .bool false, .int .i64 0, .int .i64 0, .slice none 0 0, .slice none 0 0, .slice none 0 0, .slice none 0 0, .int .i64 0, .int .i64 0, .int .i64 0, .int .i64 0, .int .i64 0, .int .i64 0, .int .i64 0, .int .i64 0, .int .i64 0, .slice none 0 0, .int .i64 0, .int .i64 0, .int .i64 0, .slice none 0 0, .slice none 0 0, .slice none 0 0]) := EB.out.turn TB (by omega)
  have BW : Hid (Below w.heap.size w w8) := BW.out.trans (TB.below (by omega))
  have MO : Hid (MtO w8 w1.heap.size x.m u) := MO.out.keep fun b hb _ => TB.block b (by have := (MO.out.lt hb).1; omega)
  have JO : Hid (OwnI w8 w1.heap.size s1.v x.jms) := JO.out.keep fun b hb _ => TB.block b (by have := (JO.out.lt b hb).1; omega)
  have BO : Hid (BusO w8 w1.heap.size sb []) := BO.out.keep fun b hb _ => TB.block b (by omega)
  have OX : Hid (Bx w8 (w.heap.size + 2) 34 [.int .i64 x.id, .bool x.dead, .int .i64 x.m.id, .int .i64 x.m.rid, .slice u.ms.a u.ms.n u.ms.c, .slice u.its.a u.its.n u.its.c, .slice u.lv.a u.lv.n u.lv.c, .slice u.tx.a u.tx.n u.tx.c, .int .i64 x.m.rd, .int .i64 x.m.se, .int .i64 x.m.li, .int .i64 x.m.he, .int .i64 x.m.la.c, .int .i64 x.m.la.r, .int .i64 x.m.la.q, .int .i64 x.m.la.a, .int .i64 x.m.la.b, .slice u.ws.a u.ws.n u.ws.c, .int .i64 x.most, .int .i64 x.old, .int .i64 x.jid, .slice s1.a s1.n s1.c, .slice sb.a sb.n sb.c, .slice x.ls.a x.ls.n x.ls.c]) := OB
  clear OB TB
  have c22 := LA.out.cell 22
  simp only [List.getElem?_cons_succ, List.getElem?_cons_zero] at c22
  go_wp2_with fail
  clear c22
  go_loopw [23] (fun i wr => i = .int .i64 0 ∧ wr = w8) (fun _ _ => 0)
  case atStart => exact ⟨rfl, rfl⟩
  case round =>
    obtain ⟨rfl, hw8⟩ := hrel
    subst hw8
    generalize wr = w9 at *
    have bz : Below w9.heap.size w9 (w9.alloc (.cells #[] 88)) := (Below.refl _ _).alloc (Nat.le_refl _) _
    have seO : Hid (EvsO (w9.alloc (.cells #[] 88)) w9.heap.size ⟨some ⟨w9.heap.size, 0, none⟩, 0, 0⟩ []) := ⟨SlN.made w9 88 8 _ (Nat.le_refl _), fun e he => by cases he⟩
    have zz_se : w9.heap.size ≤ (w9.alloc (.cells #[] 88)).heap.size := bz.size
    have LA : Hid (Bx (w9.alloc (.cells #[] 88)) w.heap.size 34 [.int .i64 x.id, .bool x.dead, .int .i64 x.m.id, .int .i64 x.m.rid, .slice x.mv.ms.a x.mv.ms.n x.mv.ms.c, .slice x.mv.its.a x.mv.its.n x.mv.its.c, .slice x.mv.lv.a x.mv.lv.n x.mv.lv.c, .slice x.mv.tx.a x.mv.tx.n x.mv.tx.c, .int .i64 x.m.rd, .int .i64 x.m.se, .int .i64 x.m.li, .int .i64 x.m.he, .int .i64 x.m.la.c, .int .i64 x.m.la.r, .int .i64 x.m.la.q, .int .i64 x.m.la.a, .int .i64 x.m.la.b, .slice x.mv.ws.a x.mv.ws.n x.mv.ws.c, .int .i64 x.most, .int .i64 x.old, .int .i64 x.jid, .slice x.js.a x.js.n x.js.c, .slice x.bs.a x.bs.n x.bs.c, .slice x.ls.a x.ls.n x.ls.c]) := LA.out.later bz
    have EB : Hid (Bx (w9.alloc (.cells #[] 88)) (w.heap.size + 1) 34 [.int .i64 0, .bool false, .int .i64 0, .int .i64 0, .slice none 0 0, .slice none 0 0, .slice none 0 0, .slice none 0 0, .int .i64 0, .int .i64 0, .int .i64 0, .int .i64 0, .int .i64 0, .int .i64 0, .int .i64 0, .int .i64 0, .int .i64 0, .slice none 0 0, .int .i64 0, .int .i64 0, .int .i64 0, .slice none 0 0, .slice none 0 0, .slice none 0 0]) := EB.out.later bz
    have BW : Hid (Below w.heap.size w (w9.alloc (.cells #[] 88))) := bl_next BW.out bz
    have OX : Hid (Bx (w9.alloc (.cells #[] 88)) (w.heap.size + 2) 34 [.int .i64 x.id, .bool x.dead, .int .i64 x.m.id, .int .i64 x.m.rid, .slice u.ms.a u.ms.n u.ms.c, .slice u.its.a u.its.n u.its.c, .slice u.lv.a u.lv.n u.lv.c, .slice u.tx.a u.tx.n u.tx.c, .int .i64 x.m.rd, .int .i64 x.m.se, .int .i64 x.m.li, .int .i64 x.m.he, .int .i64 x.m.la.c, .int .i64 x.m.la.r, .int .i64 x.m.la.q, .int .i64 x.m.la.a, .int .i64 x.m.la.b, .slice u.ws.a u.ws.n u.ws.c, .int .i64 x.most, .int .i64 x.old, .int .i64 x.jid, .slice s1.a s1.n s1.c, .slice sb.a sb.n sb.c, .slice x.ls.a x.ls.n x.ls.c]) := OX.out.later bz
    have MO : Hid (MtO (w9.alloc (.cells #[] 88)) w1.heap.size x.m u) := MO.out.later bz
    have JO : Hid (OwnI (w9.alloc (.cells #[] 88)) w1.heap.size s1.v x.jms) := JO.out.keep fun _ _ hk => (bz).block _ hk
    have BO : Hid (BusO (w9.alloc (.cells #[] 88)) w1.heap.size sb []) := BO.out.below bz
    clear bz
    go_wp2_with (first | (with_reducible refine wpList_haltS 32 _ _ rfl ?_))
    refine Stp.go ?_
    generalize hwz : (w9.alloc (.cells #[] 88)) = w10 at *
    clear hwz
    obtain ⟨se, hs_se⟩ : ∃ s : Sv, s = ⟨some ⟨w9.heap.size, 0, none⟩, 0, 0⟩ := ⟨_, rfl⟩
    have hq : Value.slice (some ⟨w9.heap.size, 0, none⟩) 0 0 = .slice se.a se.n se.c := by rw [hs_se]
    rw [← hs_se] at seO
    rw [hq]
    clear hq hs_se
    have BW9 : Hid (Below w.heap.size w w10) := BW.out
    have LO : Hid (EvsO w10 w9.heap.size se []) := seO.out
    clear seO
    have z9 : w7.heap.size ≤ w9.heap.size ∧ w1.heap.size ≤ w9.heap.size ∧ w5.heap.size ≤ w9.heap.size ∧ w3.heap.size ≤ w9.heap.size := by omega
    refine wpList_st1 rfl 32 _ _ rfl (w.heap.size + 2) 23 rfl 34 _ OX.out (.slice se.a se.n se.c) rfl (by simp) rfl Try.sizeEvs [.int .i64 x.id, .bool x.dead, .int .i64 x.m.id, .int .i64 x.m.rid, .slice u.ms.a u.ms.n u.ms.c, .slice u.its.a u.its.n u.its.c, .slice u.lv.a u.lv.n u.lv.c, .slice u.tx.a u.tx.n u.tx.c, .int .i64 x.m.rd, .int .i64 x.m.se, .int .i64 x.m.li, .int .i64 x.m.he, .int .i64 x.m.la.c, .int .i64 x.m.la.r, .int .i64 x.m.la.q, .int .i64 x.m.la.a, .int .i64 x.m.la.b, .slice u.ws.a u.ws.n u.ws.c, .int .i64 x.most, .int .i64 x.old, .int .i64 x.jid, .slice s1.a s1.n s1.c, .slice sb.a sb.n sb.c, .slice se.a se.n se.c] rfl ?_
    intro w11 OB TB
    have z_w11 : w10.heap.size ≤ w11.heap.size := Nat.le_of_eq TB.size.symm
    have LA : Hid (Bx w11 w.heap.size 34 [.int .i64 x.id, .bool x.dead, .int .i64 x.m.id, .int .i64 x.m.rid, .slice x.mv.ms.a x.mv.ms.n x.mv.ms.c, .slice x.mv.its.a x.mv.its.n x.mv.its.c, .slice x.mv.lv.a x.mv.lv.n x.mv.lv.c, .slice x.mv.tx.a x.mv.tx.n x.mv.tx.c, .int .i64 x.m.rd, .int .i64 x.m.se, .int .i64 x.m.li, .int .i64 x.m.he, .int .i64 x.m.la.c, .int .i64 x.m.la.r, .int .i64 x.m.la.q, .int .i64 x.m.la.a, .int .i64 x.m.la.b, .slice x.mv.ws.a x.mv.ws.n x.mv.ws.c, .int .i64 x.most, .int .i64 x.old, .int .i64 x.jid, .slice x.js.a x.js.n x.js.c, .slice x.bs.a x.bs.n x.bs.c, .slice x.ls.a x.ls.n x.ls.c]) := LA.out.turn TB (by omega)
    have EB : Hid (Bx w11 (w.heap.size + 1) 34 [.int .i64 0, .bool false, .int .i64 0, .int .i64 0, .slice none 0 0, .slice none 0 0, .slice none 0 0, .slice none 0 0, .int .i64 0, .int .i64 0, .int .i64 0, .int .i64 0, .int .i64 0, .int .i64 0, .int .i64 0, .int .i64 0, .int .i64 0, .slice none 0 0, .int .i64 0, .int .i64 0, .int .i64 0, .slice none 0 0, .slice none 0 0, .slice none 0 0]) := EB.out.turn TB (by omega)
    have BW : Hid (Below w.heap.size w w11) := BW.out.trans (TB.below (by omega))
    have MO : Hid (MtO w11 w1.heap.size x.m u) := MO.out.keep fun b hb _ => TB.block b (by have := (MO.out.lt hb).1; omega)
    have JO : Hid (OwnI w11 w1.heap.size s1.v x.jms) := JO.out.keep fun b hb _ => TB.block b (by have := (JO.out.lt b hb).1; omega)
    have BO : Hid (BusO w11 w1.heap.size sb []) := BO.out.keep fun b hb _ => TB.block b (by omega)
    have LO : Hid (EvsO w11 w9.heap.size se []) := LO.out.keep fun b hb _ => TB.block b (by omega)
    have OX : Hid (Bx w11 (w.heap.size + 2) 34 [.int .i64 x.id, .bool x.dead, .int .i64 x.m.id, .int .i64 x.m.rid, .slice u.ms.a u.ms.n u.ms.c, .slice u.its.a u.its.n u.its.c, .slice u.lv.a u.lv.n u.lv.c, .slice u.tx.a u.tx.n u.tx.c, .int .i64 x.m.rd, .int .i64 x.m.se, .int .i64 x.m.li, .int .i64 x.m.he, .int .i64 x.m.la.c, .int .i64 x.m.la.r, .int .i64 x.m.la.q, .int .i64 x.m.la.a, .int .i64 x.m.la.b, .slice u.ws.a u.ws.n u.ws.c, .int .i64 x.most, .int .i64 x.old, .int .i64 x.jid, .slice s1.a s1.n s1.c, .slice sb.a sb.n sb.c, .slice se.a se.n se.c]) := OB
    clear OB TB
    have c23 := LA.out.cell 23
    simp only [List.getElem?_cons_succ, List.getElem?_cons_zero] at c23
    have BWB : Hid (Below w.heap.size w w11) := BW.out
    go_wp2_with fail
    clear c23
    go_loopw [40] (fun i wr => ∃ (j : Nat) (s : Sv) (es : List Ev), j ≤ x.ls.n ∧ i = .int .i64 j ∧ Hid (es.length = j) ∧ Hid (es.map Ev.pl = (x.lo.take j).map Ev.pl) ∧ Hid (Bx wr (w.heap.size + 2) 34 [.int .i64 x.id, .bool x.dead, .int .i64 x.m.id, .int .i64 x.m.rid, .slice u.ms.a u.ms.n u.ms.c, .slice u.its.a u.its.n u.its.c, .slice u.lv.a u.lv.n u.lv.c, .slice u.tx.a u.tx.n u.tx.c, .int .i64 x.m.rd, .int .i64 x.m.se, .int .i64 x.m.li, .int .i64 x.m.he, .int .i64 x.m.la.c, .int .i64 x.m.la.r, .int .i64 x.m.la.q, .int .i64 x.m.la.a, .int .i64 x.m.la.b, .slice u.ws.a u.ws.n u.ws.c, .int .i64 x.most, .int .i64 x.old, .int .i64 x.jid, .slice s1.a s1.n s1.c, .slice sb.a sb.n sb.c, .slice s.a s.n s.c]) ∧ Hid (EvsO wr w9.heap.size s es) ∧ Hid (EvsUp es) ∧ Hid (KeepR (w.heap.size + 2) w9.heap.size w11 wr)) (fun i _ => x.ls.n - (intOf i).toNat)
    case atStart => exact ⟨0, se, [], Nat.zero_le _, rfl, rfl, rfl, OX, LO, ⟨fun e he => (by cases he), List.Pairwise.nil⟩, KeepR.refl _ _ _⟩
    case round =>
      obtain ⟨j, s, es, hj, rfl, hcl, hpl, OR, LR, hup, KR⟩ := hrel
      have zz : w9.heap.size ≤ w11.heap.size := by omega
      have zr : w11.heap.size ≤ wr.heap.size := KR.out.size
      have LAr : Hid (Bx wr w.heap.size 34 [.int .i64 x.id, .bool x.dead, .int .i64 x.m.id, .int .i64 x.m.rid, .slice x.mv.ms.a x.mv.ms.n x.mv.ms.c, .slice x.mv.its.a x.mv.its.n x.mv.its.c, .slice x.mv.lv.a x.mv.lv.n x.mv.lv.c, .slice x.mv.tx.a x.mv.tx.n x.mv.tx.c, .int .i64 x.m.rd, .int .i64 x.m.se, .int .i64 x.m.li, .int .i64 x.m.he, .int .i64 x.m.la.c, .int .i64 x.m.la.r, .int .i64 x.m.la.q, .int .i64 x.m.la.a, .int .i64 x.m.la.b, .slice x.mv.ws.a x.mv.ws.n x.mv.ws.c, .int .i64 x.most, .int .i64 x.old, .int .i64 x.jid, .slice x.js.a x.js.n x.js.c, .slice x.bs.a x.bs.n x.bs.c, .slice x.ls.a x.ls.n x.ls.c]) := LA.out.kr KR.out (by omega) (by omega)
      have HLr : Hid (EvsR wr x.ls x.lo) := hl.out.stays (BWB.out.trans (KR.out.below (by omega) (by omega)))
      by_cases hlt : j < x.ls.n
      · skip
        have hlt2 : j < x.lo.length := by have := HLN.out; omega
        obtain ⟨g, off, ha, hg, _, hr⟩ := HLr.out.2.1 j (by simpa using hlt2)
        obtain ⟨e, he⟩ : ∃ e, e = x.lo[j] := ⟨_, rfl⟩
        have hr2 : wr.rangeAt g (off + j * 8) e.row := by rw [he]; simpa using hr
        have HR : Hid (wr.rangeAt g (off + j * 8) [.int .i64 e.k, .int .i64 e.rid, .slice e.sm.a e.sm.n e.sm.c, .int .i64 e.q, .int .i64 e.f, .int .i64 e.l, .string e.t, .slice e.sw.a e.sw.n e.sw.c]) := hr2
        have HE : Hid (e = x.lo[j]) := he
        have RR : Hid (e.R wr) := by rw [he]; exact HLr.out.2.2 _ (List.getElem_mem hlt2)
        have SS : Hid e.S := by rw [he]; exact hs.out.los.2 _ (List.getElem_mem hlt2)
        have HA : Hid (x.ls.a = some ⟨g, off, none⟩) := ha
        have hsl : Value.slice x.ls.a x.ls.n x.ls.c = .slice (some ⟨g, off, none⟩) x.ls.n x.ls.c := by rw [ha]
        have i0 : (0 : Int) ≤ (j : Int) := by omega
        have i1 : (j : Int) < (x.ls.n : Int) := by omega
        have LT : Hid (∀ c ∈ es, ∀ y, c.own y → y < wr.heap.size) := fun c hc y hy => ((LR.out.2 c hc).lt y hy).2
        have RL : Hid (∀ b, s.v.ownBlock = some b → b < wr.heap.size) := fun b hb => (LR.out.1.lt b hb).2
        have HLEN : Hid ((es.map Ev.row).length + 1 ≤ 1048577) := (by have := hcl.out; simp; omega : _ ≤ _)
        have zwr : w.heap.size + 2 < wr.heap.size := by omega
        simp only [ha]
        clear hr hr2 he hg ha
        have hz : Hid (Bx (wr.alloc (.cells #[.int .i64 0, .int .i64 0, .slice none 0 0, .int .i64 0, .int .i64 0, .int .i64 0, .string ⟨#[]⟩, .slice none 0 0] 88)) wr.heap.size 88 [.int .i64 0, .int .i64 0, .slice none 0 0, .int .i64 0, .int .i64 0, .int .i64 0, .string ⟨#[]⟩, .slice none 0 0]) := Bx.new wr 88 _
        go_wp2_with (first | (refine wpList_ldN rfl 88 _ rfl g (off + j * 8) (by rfl) [.int .i64 e.k, .int .i64 e.rid, .slice e.sm.a e.sm.n e.sm.c, .int .i64 e.q, .int .i64 e.f, .int .i64 e.l, .string e.t, .slice e.sw.a e.sw.n e.sw.c] HR.out _ Try.underlying88 rfl Try.sizeEv ?_) | (refine wpList_stB rfl 88 _ _ rfl wr.heap.size 0 rfl 88 _ hz.out [.int .i64 e.k, .int .i64 e.rid, .slice e.sm.a e.sm.n e.sm.c, .int .i64 e.q, .int .i64 e.f, .int .i64 e.l, .string e.t, .slice e.sw.a e.sw.n e.sw.c] rfl (by simp) Try.sizeEv rfl [.int .i64 e.k, .int .i64 e.rid, .slice e.sm.a e.sm.n e.sm.c, .int .i64 e.q, .int .i64 e.f, .int .i64 e.l, .string e.t, .slice e.sw.a e.sw.n e.sw.c] rfl ?_; intro v1 OB TB; have b : Below wr.heap.size wr v1 := ((Below.refl _ _).alloc (Nat.le_refl _) _).trans (TB.below (Nat.le_refl _)); have VB : Hid (Bx v1 wr.heap.size 88 [.int .i64 e.k, .int .i64 e.rid, .slice e.sm.a e.sm.n e.sm.c, .int .i64 e.q, .int .i64 e.f, .int .i64 e.l, .string e.t, .slice e.sw.a e.sw.n e.sw.c]) := OB; have z_v1 : wr.heap.size ≤ v1.heap.size := b.size; have OR : Hid (Bx v1 (w.heap.size + 2) 34 [.int .i64 x.id, .bool x.dead, .int .i64 x.m.id, .int .i64 x.m.rid, .slice u.ms.a u.ms.n u.ms.c, .slice u.its.a u.its.n u.its.c, .slice u.lv.a u.lv.n u.lv.c, .slice u.tx.a u.tx.n u.tx.c, .int .i64 x.m.rd, .int .i64 x.m.se, .int .i64 x.m.li, .int .i64 x.m.he, .int .i64 x.m.la.c, .int .i64 x.m.la.r, .int .i64 x.m.la.q, .int .i64 x.m.la.a, .int .i64 x.m.la.b, .slice u.ws.a u.ws.n u.ws.c, .int .i64 x.most, .int .i64 x.old, .int .i64 x.jid, .slice s1.a s1.n s1.c, .slice sb.a sb.n sb.c, .slice s.a s.n s.c]) := OR.out.later b; have LR : Hid (EvsO v1 w9.heap.size s es) := LR.out.below b; have RR : Hid (e.R v1) := RR.out.stays b; have KR : Hid (KeepR (w.heap.size + 2) w9.heap.size w11 v1) := KR.out.belowN ((b).mono (by omega)); clear OB TB b; refine Stp.here ?_))
        refine Stp.go ?_
        clear hz
        have zl_VB : wr.heap.size < v1.heap.size := VB.out.lt
        generalize hg_VB : wr.heap.size = gVB at *
        clear HR hsl
        go_wp2_with fail
        have c : Below v1.heap.size v1 v1.drew := (Below.refl _ _).drew
        have BD : Hid (Bx v1.drew (w.heap.size + 2) 34 [.int .i64 x.id, .bool x.dead, .int .i64 x.m.id, .int .i64 x.m.rid, .slice u.ms.a u.ms.n u.ms.c, .slice u.its.a u.its.n u.its.c, .slice u.lv.a u.lv.n u.lv.c, .slice u.tx.a u.tx.n u.tx.c, .int .i64 x.m.rd, .int .i64 x.m.se, .int .i64 x.m.li, .int .i64 x.m.he, .int .i64 x.m.la.c, .int .i64 x.m.la.r, .int .i64 x.m.la.q, .int .i64 x.m.la.a, .int .i64 x.m.la.b, .slice u.ws.a u.ws.n u.ws.c, .int .i64 x.most, .int .i64 x.old, .int .i64 x.jid, .slice s1.a s1.n s1.c, .slice sb.a sb.n sb.c, .slice s.a s.n s.c]) := OR.out.later c
        have VD : Hid (Bx v1.drew gVB 88 [.int .i64 e.k, .int .i64 e.rid, .slice e.sm.a e.sm.n e.sm.c, .int .i64 e.q, .int .i64 e.f, .int .i64 e.l, .string e.t, .slice e.sw.a e.sw.n e.sw.c]) := VB.out.later c
        have zVB : gVB < v1.heap.size ∧ w9.heap.size ≤ gVB ∧ w.heap.size + 2 < gVB := by omega
        refine wp_region_heldLast (S := fun w' => Bx w' (w.heap.size + 2) 34 [.int .i64 x.id, .bool x.dead, .int .i64 x.m.id, .int .i64 x.m.rid, .slice u.ms.a u.ms.n u.ms.c, .slice u.its.a u.its.n u.its.c, .slice u.lv.a u.lv.n u.lv.c, .slice u.tx.a u.tx.n u.tx.c, .int .i64 x.m.rd, .int .i64 x.m.se, .int .i64 x.m.li, .int .i64 x.m.he, .int .i64 x.m.la.c, .int .i64 x.m.la.r, .int .i64 x.m.la.q, .int .i64 x.m.la.a, .int .i64 x.m.la.b, .slice u.ws.a u.ws.n u.ws.c, .int .i64 x.most, .int .i64 x.old, .int .i64 x.jid, .slice s1.a s1.n s1.c, .slice sb.a sb.n sb.c, .slice s.a s.n s.c] ∧ Bx w' gVB 88 [.int .i64 e.k, .int .i64 e.rid, .slice e.sm.a e.sm.n e.sm.c, .int .i64 e.q, .int .i64 e.f, .int .i64 e.l, .string e.t, .slice e.sw.a e.sw.n e.sw.c]) _ (by simp) (by kernel_rfl) (by rfl) (by rfl) (by kernel_rfl) (by kernel_rfl) ⟨BD.out, VD.out⟩ (fun hHeld => ?_)
        simp only [List.dropLast_cons_cons, List.dropLast_singleton, List.getLast_cons_cons, List.getLast_singleton, List.cons_append, List.nil_append, List.length_cons, List.length_nil]
        refine wpAnyH_take (i := 0) (v := ?v0b1) rfl (by kernel_rfl) (by kernel_rfl) (by kernel_rfl) (fun _ _ _ h => h) (Or.inl ⟨by rfl, ?hy0b1⟩) (by assumption) ?_
        case hy0b1 => (intro w hSw; (try dsimp only at hSw); simp only [List.getElem_toArray, List.getElem_cons_zero, List.getElem_cons_succ]; go_simp; try with_reducible rfl)
        try simp only [Act.put, List.getElem_toArray, List.getElem_cons_zero, List.getElem_cons_succ, List.setIfInBounds_toArray, List.set_cons_zero, List.set_cons_succ]
        refine wpAnyH_take (i := 1) (v := _) rfl (by kernel_rfl) (by kernel_rfl) (by kernel_rfl) (fun _ _ _ h => h) (ld1_yield (by rfl) 32 _ rfl (w.heap.size + 2) 23 rfl 34 _ (fun w hS => hS.1) (.slice s.a s.n s.c) rfl _ Try.underlying32 rfl) (by assumption) ?_
        try simp only [Act.put, List.getElem_toArray, List.getElem_cons_zero, List.getElem_cons_succ, List.setIfInBounds_toArray, List.set_cons_zero, List.set_cons_succ]
        refine wpAnyH_take (i := 2) (v := _) rfl (by kernel_rfl) (by kernel_rfl) (by kernel_rfl) (fun _ _ _ h => h) (ld_yield (by rfl) 88 _ rfl gVB 0 rfl 88 _ (fun w hS => hS.2) [.int .i64 e.k, .int .i64 e.rid, .slice e.sm.a e.sm.n e.sm.c, .int .i64 e.q, .int .i64 e.f, .int .i64 e.l, .string e.t, .slice e.sw.a e.sw.n e.sw.c] rfl _ Try.underlying88 rfl Try.sizeEv) (by assumption) ?_
        try simp only [Act.put, List.getElem_toArray, List.getElem_cons_zero, List.getElem_cons_succ, List.setIfInBounds_toArray, List.set_cons_zero, List.set_cons_succ]
        refine wpAnyH_ready (rs := [3]) (by kernel_rfl) (by simp) ?_
        refine AllReadyH.cons (i := 3) rfl (fun K hK => ?_) AllReadyH.nil
        rw [if_pos (by rfl)]
        simp only [List.getElem_toArray, List.getElem_cons_zero, List.getElem_cons_succ]
        go_simp
        refine (copyEvent_any e _ (show Hid (e.R v1.drew) from RR.out.stays c) SS).mono ?_
        rintro x_ y1 ⟨u1, u2, rfl, o1, o2, up, b⟩
        have zb : v1.heap.size ≤ v1.drew.heap.size := c.size
        have c : Below v1.heap.size v1 y1 := bl_next c b
        have BD : Hid (Bx y1 (w.heap.size + 2) 34 [.int .i64 x.id, .bool x.dead, .int .i64 x.m.id, .int .i64 x.m.rid, .slice u.ms.a u.ms.n u.ms.c, .slice u.its.a u.its.n u.its.c, .slice u.lv.a u.lv.n u.lv.c, .slice u.tx.a u.tx.n u.tx.c, .int .i64 x.m.rd, .int .i64 x.m.se, .int .i64 x.m.li, .int .i64 x.m.he, .int .i64 x.m.la.c, .int .i64 x.m.la.r, .int .i64 x.m.la.q, .int .i64 x.m.la.a, .int .i64 x.m.la.b, .slice u.ws.a u.ws.n u.ws.c, .int .i64 x.most, .int .i64 x.old, .int .i64 x.jid, .slice s1.a s1.n s1.c, .slice sb.a sb.n sb.c, .slice s.a s.n s.c]) := BD.out.later b
        have LY : Hid (EvsO y1 w9.heap.size s es) := LR.out.below c
        have VD : Hid (Bx y1 gVB 88 [.int .i64 e.k, .int .i64 e.rid, .slice e.sm.a e.sm.n e.sm.c, .int .i64 e.q, .int .i64 e.f, .int .i64 e.l, .string e.t, .slice e.sw.a e.sw.n e.sw.c]) := VD.out.later b
        obtain ⟨c1, hc1⟩ : ∃ c : Ev, c = { e with sm := u1, sw := u2 } := ⟨_, rfl⟩
        have C1 : Hid (c1.O y1 v1.heap.size) := by rw [hc1]; exact ⟨o1.down zb, o2.down zb⟩
        have CU : Hid c1.Up := by rw [hc1]; exact up
        have CP : Hid (c1.pl = e.pl) := by rw [hc1]; exact rfl
        have CR : Hid (([.int .i64 e.k, .int .i64 e.rid, .slice u1.a u1.n u1.c, .int .i64 e.q, .int .i64 e.f, .int .i64 e.l, .string e.t, .slice u2.a u2.n u2.c] : List Value) = c1.row) := by rw [hc1]; rfl
        refine hK.out _ _ (⟨BD.out, VD.out⟩) (fun hHeld => ?_)
        clear hK K
        try simp only [Act.put, List.getElem_toArray, List.getElem_cons_zero, List.getElem_cons_succ, List.setIfInBounds_toArray, List.set_cons_zero, List.set_cons_succ]
        clear b o1 o2 up hc1
        refine wpAnyH_ready (rs := [4]) (by kernel_rfl) (by simp) ?_
        refine AllReadyH.cons (i := 4) rfl (fun K hK => ?_) AllReadyH.nil
        rw [if_pos (by rfl)]
        simp only [List.getElem_toArray, List.getElem_cons_zero, List.getElem_cons_succ]
        go_simp
        have b : Below y1.heap.size y1 (y1.alloc (.cells #[.int .i64 e.k, .int .i64 e.rid, .slice u1.a u1.n u1.c, .int .i64 e.q, .int .i64 e.f, .int .i64 e.l, .string e.t, .slice u2.a u2.n u2.c] 88)) := (Below.refl _ _).alloc (Nat.le_refl _) _
        have SX : Hid (SlN (y1.alloc (.cells #[.int .i64 e.k, .int .i64 e.rid, .slice u1.a u1.n u1.c, .int .i64 e.q, .int .i64 e.f, .int .i64 e.l, .string e.t, .slice u2.a u2.n u2.c] 88)) 88 8 0 (.slice (some ⟨y1.heap.size, 0, none⟩) 1 1) [[.int .i64 e.k, .int .i64 e.rid, .slice u1.a u1.n u1.c, .int .i64 e.q, .int .i64 e.f, .int .i64 e.l, .string e.t, .slice u2.a u2.n u2.c]]) := SlN.one y1 88 8 0 _ rfl rfl (Nat.zero_le _)
        have c : Below v1.heap.size v1 (y1.alloc (.cells #[.int .i64 e.k, .int .i64 e.rid, .slice u1.a u1.n u1.c, .int .i64 e.q, .int .i64 e.f, .int .i64 e.l, .string e.t, .slice u2.a u2.n u2.c] 88)) := bl_next c b
        have BD : Hid (Bx (y1.alloc (.cells #[.int .i64 e.k, .int .i64 e.rid, .slice u1.a u1.n u1.c, .int .i64 e.q, .int .i64 e.f, .int .i64 e.l, .string e.t, .slice u2.a u2.n u2.c] 88)) (w.heap.size + 2) 34 [.int .i64 x.id, .bool x.dead, .int .i64 x.m.id, .int .i64 x.m.rid, .slice u.ms.a u.ms.n u.ms.c, .slice u.its.a u.its.n u.its.c, .slice u.lv.a u.lv.n u.lv.c, .slice u.tx.a u.tx.n u.tx.c, .int .i64 x.m.rd, .int .i64 x.m.se, .int .i64 x.m.li, .int .i64 x.m.he, .int .i64 x.m.la.c, .int .i64 x.m.la.r, .int .i64 x.m.la.q, .int .i64 x.m.la.a, .int .i64 x.m.la.b, .slice u.ws.a u.ws.n u.ws.c, .int .i64 x.most, .int .i64 x.old, .int .i64 x.jid, .slice s1.a s1.n s1.c, .slice sb.a sb.n sb.c, .slice s.a s.n s.c]) := BD.out.later b
        have LY : Hid (EvsO (y1.alloc (.cells #[.int .i64 e.k, .int .i64 e.rid, .slice u1.a u1.n u1.c, .int .i64 e.q, .int .i64 e.f, .int .i64 e.l, .string e.t, .slice u2.a u2.n u2.c] 88)) w9.heap.size s es) := LY.out.below b
        have C1 : Hid (c1.O (y1.alloc (.cells #[.int .i64 e.k, .int .i64 e.rid, .slice u1.a u1.n u1.c, .int .i64 e.q, .int .i64 e.f, .int .i64 e.l, .string e.t, .slice u2.a u2.n u2.c] 88)) v1.heap.size) := C1.out.below b
        have VD : Hid (Bx (y1.alloc (.cells #[.int .i64 e.k, .int .i64 e.rid, .slice u1.a u1.n u1.c, .int .i64 e.q, .int .i64 e.f, .int .i64 e.l, .string e.t, .slice u2.a u2.n u2.c] 88)) gVB 88 [.int .i64 e.k, .int .i64 e.rid, .slice e.sm.a e.sm.n e.sm.c, .int .i64 e.q, .int .i64 e.f, .int .i64 e.l, .string e.t, .slice e.sw.a e.sw.n e.sw.c]) := VD.out.later b
        refine hK.out _ _ (⟨BD.out, VD.out⟩) (fun hHeld => ?_)
        clear hK K
        try simp only [Act.put, List.getElem_toArray, List.getElem_cons_zero, List.getElem_cons_succ, List.setIfInBounds_toArray, List.set_cons_zero, List.set_cons_succ]
        clear b
        refine wpAnyH_ready (rs := [5]) (by kernel_rfl) (by simp) ?_
        refine AllReadyH.cons (i := 5) rfl (fun K hK => ?_) AllReadyH.nil
        rw [if_pos (by rfl)]
        simp only [List.getElem_toArray, List.getElem_cons_zero, List.getElem_cons_succ]
        refine wp_catM _ _ 32 rfl _ 104 Try.underlying32 Try.infoEv rfl (by decide) w9.heap.size (.slice s.a s.n s.c) (es.map Ev.row) (by rfl) LY.out.1 0 _ [[.int .i64 e.k, .int .i64 e.rid, .slice u1.a u1.n u1.c, .int .i64 e.q, .int .i64 e.f, .int .i64 e.l, .string e.t, .slice u2.a u2.n u2.c]] (by rfl) SX.out HLEN.out (by have := c.size; omega) ?_
        intro v2 y2 s2 g2 b2
        obtain ⟨nz, hnz, hnq⟩ := s2.form
        subst hnz
        clear hnq
        rw [CR.out] at s2
        have LN : Hid (EvsO y2 w9.heap.size nz (es ++ [c1])) := ⟨by rw [List.map_append]; exact s2, fun q hq => by
          rcases List.mem_append.1 hq with hq | hq
          · exact Ev.O.rowkeep (fun k hk => LY.out.1.blk hk) g2 (LY.out.2 q hq)
          · rw [List.mem_singleton.1 hq]; exact Ev.O.rowkeep (fun k hk => LY.out.1.blk hk) g2 (C1.out.down (by omega))⟩
        have BD : Hid (Bx y2 (w.heap.size + 2) 34 [.int .i64 x.id, .bool x.dead, .int .i64 x.m.id, .int .i64 x.m.rid, .slice u.ms.a u.ms.n u.ms.c, .slice u.its.a u.its.n u.its.c, .slice u.lv.a u.lv.n u.lv.c, .slice u.tx.a u.tx.n u.tx.c, .int .i64 x.m.rd, .int .i64 x.m.se, .int .i64 x.m.li, .int .i64 x.m.he, .int .i64 x.m.la.c, .int .i64 x.m.la.r, .int .i64 x.m.la.q, .int .i64 x.m.la.a, .int .i64 x.m.la.b, .slice u.ws.a u.ws.n u.ws.c, .int .i64 x.most, .int .i64 x.old, .int .i64 x.jid, .slice s1.a s1.n s1.c, .slice sb.a sb.n sb.c, .slice s.a s.n s.c]) := BD.out.grown g2 (fun e => by obtain ⟨_, h1⟩ := LY.out.1.blk e.symm; have h2 := BD.out; unfold Bx at h2; rw [h1] at h2; simp at h2)
        have VD : Hid (Bx y2 gVB 88 [.int .i64 e.k, .int .i64 e.rid, .slice e.sm.a e.sm.n e.sm.c, .int .i64 e.q, .int .i64 e.f, .int .i64 e.l, .string e.t, .slice e.sw.a e.sw.n e.sw.c]) := VD.out.grown g2 (fun e => by have := RL.out _ e.symm; omega)
        have kr : Below w9.heap.size v1 y2 := (c.mono (by omega)).trans b2
        refine hK.out _ _ (⟨BD.out, VD.out⟩) (fun hHeld => ?_)
        clear hK K
        try simp only [Act.put, List.getElem_toArray, List.getElem_cons_zero, List.getElem_cons_succ, List.setIfInBounds_toArray, List.set_cons_zero, List.set_cons_succ]
        clear s2 g2 SX
        refine wpAnyH_take (i := 6) (v := ?v6b4) rfl (by kernel_rfl) (by kernel_rfl) (by kernel_rfl) (fun _ _ _ h => h) (Or.inl ⟨by rfl, ?hy6b4⟩) (by assumption) ?_
        case hy6b4 => (intro w hSw; (try dsimp only at hSw); simp only [List.getElem_toArray, List.getElem_cons_zero, List.getElem_cons_succ]; go_simp; try with_reducible rfl)
        try simp only [Act.put, List.getElem_toArray, List.getElem_cons_zero, List.getElem_cons_succ, List.setIfInBounds_toArray, List.set_cons_zero, List.set_cons_succ]
        refine wpAnyH_take (i := 7) (v := ?v7b5) rfl (by kernel_rfl) (by kernel_rfl) (by kernel_rfl) (fun _ _ _ h => h) (Or.inl ⟨by rfl, ?hy7b5⟩) (by assumption) ?_
        case hy7b5 => (intro w hSw; (try dsimp only at hSw); simp only [List.getElem_toArray, List.getElem_cons_zero, List.getElem_cons_succ]; go_simp; try with_reducible rfl)
        try simp only [Act.put, List.getElem_toArray, List.getElem_cons_zero, List.getElem_cons_succ, List.setIfInBounds_toArray, List.set_cons_zero, List.set_cons_succ]
        refine wpAnyH_done (by kernel_rfl) ?_ _
        refine lastQ_of rfl rfl ?_
        refine wp_st1 32 _ _ rfl (w.heap.size + 2) 23 rfl 34 _ BD.out (.slice nz.a nz.n nz.c) rfl (by simp) rfl Try.sizeEvs [.int .i64 x.id, .bool x.dead, .int .i64 x.m.id, .int .i64 x.m.rid, .slice u.ms.a u.ms.n u.ms.c, .slice u.its.a u.its.n u.its.c, .slice u.lv.a u.lv.n u.lv.c, .slice u.tx.a u.tx.n u.tx.c, .int .i64 x.m.rd, .int .i64 x.m.se, .int .i64 x.m.li, .int .i64 x.m.he, .int .i64 x.m.la.c, .int .i64 x.m.la.r, .int .i64 x.m.la.q, .int .i64 x.m.la.a, .int .i64 x.m.la.b, .slice u.ws.a u.ws.n u.ws.c, .int .i64 x.most, .int .i64 x.old, .int .i64 x.jid, .slice s1.a s1.n s1.c, .slice sb.a sb.n sb.c, .slice nz.a nz.n nz.c] rfl ?_
        intro v3 ob tb
        have OR : Hid (Bx v3 (w.heap.size + 2) 34 [.int .i64 x.id, .bool x.dead, .int .i64 x.m.id, .int .i64 x.m.rid, .slice u.ms.a u.ms.n u.ms.c, .slice u.its.a u.its.n u.its.c, .slice u.lv.a u.lv.n u.lv.c, .slice u.tx.a u.tx.n u.tx.c, .int .i64 x.m.rd, .int .i64 x.m.se, .int .i64 x.m.li, .int .i64 x.m.he, .int .i64 x.m.la.c, .int .i64 x.m.la.r, .int .i64 x.m.la.q, .int .i64 x.m.la.a, .int .i64 x.m.la.b, .slice u.ws.a u.ws.n u.ws.c, .int .i64 x.most, .int .i64 x.old, .int .i64 x.jid, .slice s1.a s1.n s1.c, .slice sb.a sb.n sb.c, .slice nz.a nz.n nz.c]) := ob
        have KR : Hid (KeepR (w.heap.size + 2) w9.heap.size w11 v3) := (KR.out.belowN kr).turn tb
        have LN : Hid (EvsO v3 w9.heap.size nz (es ++ [c1])) := LN.out.keep fun b hb _ => tb.block b (by omega)
        have UN : Hid (EvsUp (es ++ [c1])) := hup.out.snoc CU.out LT.out (fun y hy => by have := (C1.out.lt y hy).1; omega)
        have PN : Hid ((es ++ [c1]).map Ev.pl = (x.lo.take (j + 1)).map Ev.pl) := (by rw [List.map_append, hpl.out, List.take_succ_eq_append_getElem hlt2, List.map_append, ← HE.out]; simp [CP.out] : _ = _)
        clear ob tb kr c BD VD hHeld C1 CU CR LY b2
        go_wp2_with fail
        go_roundw
        case rel => exact ⟨j + 1, nz, es ++ [c1], by omega, by go_num, (by have := hcl.out; simp; omega : _ = _), PN, OR, LN, UN, KR⟩
        case measure => simp [intOf]; omega
      · skip
        obtain hjn : j = x.ls.n := by omega
        have EP : Hid (es.map Ev.pl = x.lo.map Ev.pl) := (by have e := hpl.out; rw [hjn, HLN.out, List.take_length] at e; exact e : _ = _)
        have MO : Hid (MtO wr w1.heap.size x.m u) := MO.out.keep fun b hb hl => KR.out.blk b (by have := ML.out b hb; omega) (by have := (MO.out.lt hb).1; omega)
        have JO : Hid (OwnI wr w1.heap.size s1.v x.jms) := JO.out.keep fun b hb hl => KR.out.blk b (by have := (JL.out b hb).2; omega) (by have := (JL.out b hb).1; omega)
        have BO : Hid (BusO wr w1.heap.size sb []) := BO.out.keepo fun b hb hl => KR.out.blk b (by have := (BL.out b hb).2; omega) (by have := (BL.out b hb).1; omega)
        have EB : Hid (Bx wr (w.heap.size + 1) 34 [.int .i64 0, .bool false, .int .i64 0, .int .i64 0, .slice none 0 0, .slice none 0 0, .slice none 0 0, .slice none 0 0, .int .i64 0, .int .i64 0, .int .i64 0, .int .i64 0, .int .i64 0, .int .i64 0, .int .i64 0, .int .i64 0, .int .i64 0, .slice none 0 0, .int .i64 0, .int .i64 0, .int .i64 0, .slice none 0 0, .slice none 0 0, .slice none 0 0]) := EB.out.kr KR.out (by omega) (by omega)
        have BW : Hid (Below w.heap.size w wr) := BWB.out.trans (KR.out.below (by omega) (by omega))
        have hd9 : ¬ j < x.ls.n := hlt
        clear hjn KR LAr HLr LA
        go_wp2_with (first | (refine wpList_ldG rfl 34 _ rfl (w.heap.size + 2) 0 rfl 34 _ OR.out [.int .i64 x.id, .bool x.dead, .int .i64 x.m.id, .int .i64 x.m.rid, .slice u.ms.a u.ms.n u.ms.c, .slice u.its.a u.its.n u.its.c, .slice u.lv.a u.lv.n u.lv.c, .slice u.tx.a u.tx.n u.tx.c, .int .i64 x.m.rd, .int .i64 x.m.se, .int .i64 x.m.li, .int .i64 x.m.he, .int .i64 x.m.la.c, .int .i64 x.m.la.r, .int .i64 x.m.la.q, .int .i64 x.m.la.a, .int .i64 x.m.la.b, .slice u.ws.a u.ws.n u.ws.c, .int .i64 x.most, .int .i64 x.old, .int .i64 x.jid, .slice s1.a s1.n s1.c, .slice sb.a sb.n sb.c, .slice s.a s.n s.c] rfl _ Try.underlying34 rfl Try.sizeDa ?_) | (with_reducible refine wpList_haltS 34 _ _ rfl ?_))
        refine Stp.go ?_
        refine wpList_stB rfl 34 _ _ rfl (w.heap.size + 1) 0 rfl 34 _ EB.out [.int .i64 x.id, .bool x.dead, .int .i64 x.m.id, .int .i64 x.m.rid, .slice u.ms.a u.ms.n u.ms.c, .slice u.its.a u.its.n u.its.c, .slice u.lv.a u.lv.n u.lv.c, .slice u.tx.a u.tx.n u.tx.c, .int .i64 x.m.rd, .int .i64 x.m.se, .int .i64 x.m.li, .int .i64 x.m.he, .int .i64 x.m.la.c, .int .i64 x.m.la.r, .int .i64 x.m.la.q, .int .i64 x.m.la.a, .int .i64 x.m.la.b, .slice u.ws.a u.ws.n u.ws.c, .int .i64 x.most, .int .i64 x.old, .int .i64 x.jid, .slice s1.a s1.n s1.c, .slice sb.a sb.n sb.c, .slice s.a s.n s.c] rfl (by simp) Try.sizeDa rfl [.int .i64 x.id, .bool x.dead, .int .i64 x.m.id, .int .i64 x.m.rid, .slice u.ms.a u.ms.n u.ms.c, .slice u.its.a u.its.n u.its.c, .slice u.lv.a u.lv.n u.lv.c, .slice u.tx.a u.tx.n u.tx.c, .int .i64 x.m.rd, .int .i64 x.m.se, .int .i64 x.m.li, .int .i64 x.m.he, .int .i64 x.m.la.c, .int .i64 x.m.la.r, .int .i64 x.m.la.q, .int .i64 x.m.la.a, .int .i64 x.m.la.b, .slice u.ws.a u.ws.n u.ws.c, .int .i64 x.most, .int .i64 x.old, .int .i64 x.jid, .slice s1.a s1.n s1.c, .slice sb.a sb.n sb.c, .slice s.a s.n s.c] rfl ?_
        intro w12 OB TB
        have z_w12 : wr.heap.size ≤ w12.heap.size := Nat.le_of_eq TB.size.symm
        have OR : Hid (Bx w12 (w.heap.size + 2) 34 [.int .i64 x.id, .bool x.dead, .int .i64 x.m.id, .int .i64 x.m.rid, .slice u.ms.a u.ms.n u.ms.c, .slice u.its.a u.its.n u.its.c, .slice u.lv.a u.lv.n u.lv.c, .slice u.tx.a u.tx.n u.tx.c, .int .i64 x.m.rd, .int .i64 x.m.se, .int .i64 x.m.li, .int .i64 x.m.he, .int .i64 x.m.la.c, .int .i64 x.m.la.r, .int .i64 x.m.la.q, .int .i64 x.m.la.a, .int .i64 x.m.la.b, .slice u.ws.a u.ws.n u.ws.c, .int .i64 x.most, .int .i64 x.old, .int .i64 x.jid, .slice s1.a s1.n s1.c, .slice sb.a sb.n sb.c, .slice s.a s.n s.c]) := OR.out.turn TB (by omega)
        have BW : Hid (Below w.heap.size w w12) := BW.out.trans (TB.below (by omega))
        have MO : Hid (MtO w12 w1.heap.size x.m u) := MO.out.keep fun b hb _ => TB.block b (by have := (MO.out.lt hb).1; omega)
        have JO : Hid (OwnI w12 w1.heap.size s1.v x.jms) := JO.out.keep fun b hb _ => TB.block b (by have := (JO.out.lt b hb).1; omega)
        have BO : Hid (BusO w12 w1.heap.size sb []) := BO.out.keep fun b hb _ => TB.block b (by omega)
        have LR : Hid (EvsO w12 w9.heap.size s es) := LR.out.keep fun b hb _ => TB.block b (by omega)
        have EB : Hid (Bx w12 (w.heap.size + 1) 34 [.int .i64 x.id, .bool x.dead, .int .i64 x.m.id, .int .i64 x.m.rid, .slice u.ms.a u.ms.n u.ms.c, .slice u.its.a u.its.n u.its.c, .slice u.lv.a u.lv.n u.lv.c, .slice u.tx.a u.tx.n u.tx.c, .int .i64 x.m.rd, .int .i64 x.m.se, .int .i64 x.m.li, .int .i64 x.m.he, .int .i64 x.m.la.c, .int .i64 x.m.la.r, .int .i64 x.m.la.q, .int .i64 x.m.la.a, .int .i64 x.m.la.b, .slice u.ws.a u.ws.n u.ws.c, .int .i64 x.most, .int .i64 x.old, .int .i64 x.jid, .slice s1.a s1.n s1.c, .slice sb.a sb.n sb.c, .slice s.a s.n s.c]) := OB
        clear OB TB
        go_wp2_with fail
        refine bodyPost_ret (results_b Try.results50 (w.heap.size + 1) 34 [.int .i64 x.id, .bool x.dead, .int .i64 x.m.id, .int .i64 x.m.rid, .slice u.ms.a u.ms.n u.ms.c, .slice u.its.a u.its.n u.its.c, .slice u.lv.a u.lv.n u.lv.c, .slice u.tx.a u.tx.n u.tx.c, .int .i64 x.m.rd, .int .i64 x.m.se, .int .i64 x.m.li, .int .i64 x.m.he, .int .i64 x.m.la.c, .int .i64 x.m.la.r, .int .i64 x.m.la.q, .int .i64 x.m.la.a, .int .i64 x.m.la.b, .slice u.ws.a u.ws.n u.ws.c, .int .i64 x.most, .int .i64 x.old, .int .i64 x.jid, .slice s1.a s1.n s1.c, .slice sb.a sb.n sb.c, .slice s.a s.n s.c] _ rfl EB.out Try.underlying34 rfl Try.sizeDa) rfl ?_
        have LL : ∀ y, EvsOwn s es y → w9.heap.size ≤ y := fun y hy => (LR.out.olt hy).1
        refine ⟨{ x with mv := u, js := s1, bu := [], bs := sb, lo := es, ls := s }, rfl, ⟨rfl, rfl, rfl, rfl, rfl, rfl, rfl, by rw [hb.out.2], EP.out⟩, ⟨MO.out.down (by omega), JO.out.down (by omega), BO.out.down (by omega), LR.out.down (by omega)⟩, ?_, BW.out⟩
        exact ⟨fun y h1 h2 => by have := ML.out y h1; have := (JL.out y h2).1; omega, fun y h1 h2 => by have := ML.out y h1; have := (BL.out y h2).1; omega, fun y h1 h2 => by have := ML.out y h1; have := LL y h2; omega, fun y h1 h2 => by have := (JL.out y h1).2; have := (BL.out y h2).1; omega, fun y h1 h2 => by have := (JL.out y h1).2; have := LL y h2; omega, fun y h1 h2 => by have := (BL.out y h1).2; have := LL y h2; omega, ⟨fun y _ b hb => (by cases hb), List.Pairwise.nil⟩, ⟨LR.out.rowa, fun e he y h1 h2 => by have := hup.out.1 e he y y h1 h2; omega, hup.out.2.imp fun h y hx hy => by have := h y y hx hy; omega⟩⟩
end Go.Proofs.Ytbecahikjekccaa


/- The law on DaemonNew. Written by gen_lawd.py. -/
namespace Go.Proofs.Ytbecahikjekccaa
open Go.RowKit Pl
set_option linter.unusedVariables false
set_option linter.unusedSimpArgs false

/-- a daemon that has nothing but an Id. -/
def zDm (id : Int) : Dm := ⟨id, false, zMt, zMv, 0, 0, 0, [], zSv, [], zSv, [], zSv⟩
end Go.Proofs.Ytbecahikjekccaa


/- Both Crash. Written by gen_crash.py. -/
namespace Go.Proofs.Ytbecahikjekccaa
open Go.RowKit Pl
set_option linter.unusedVariables false
set_option linter.unusedSimpArgs false

/-- what a fall leaves. -/
def crP (d : Dm) : Dm := ⟨d.id, true, zMt, zMv, d.most, 0, 0, [], zSv, [], zSv, d.lo, d.ls⟩
theorem crP_s {d : Dm} (h : DmS d) : DmS (crP d) := ⟨mts_zero, by simp [crP], by simp [crP, Bus.tot], h.lo⟩
theorem crP_same {a b : Dm} (h : a.Same b) : (crP a).Same (crP b) := ⟨h.id, rfl, rfl, h.most, rfl, rfl, rfl, rfl, h.lo⟩
theorem own_none {x : Nat} : ¬ zMv.own x := by rintro (h | h | h | h | h) <;> cases h
theorem busOwn_none {x : Nat} : ¬ BusOwn zSv [] x := by
  rintro (h | ⟨b, hb, _⟩)
  · cases h
  · cases hb
set_option maxRecDepth 100000 in
set_option maxHeartbeats 8000000 in
theorem crash_any (d : Dm) (B : Nat) (w : World) (h : Hid (DmO w B d)) (hs : Hid (DmS d)) :
    Calls Try.prog 16 #[.agg #[.int .i64 d.id, .bool d.dead, .int .i64 d.m.id, .int .i64 d.m.rid, .slice d.mv.ms.a d.mv.ms.n d.mv.ms.c, .slice d.mv.its.a d.mv.its.n d.mv.its.c, .slice d.mv.lv.a d.mv.lv.n d.mv.lv.c, .slice d.mv.tx.a d.mv.tx.n d.mv.tx.c, .int .i64 d.m.rd, .int .i64 d.m.se, .int .i64 d.m.li, .int .i64 d.m.he, .int .i64 d.m.la.c, .int .i64 d.m.la.r, .int .i64 d.m.la.q, .int .i64 d.m.la.a, .int .i64 d.m.la.b, .slice d.mv.ws.a d.mv.ws.n d.mv.ws.c, .int .i64 d.most, .int .i64 d.old, .int .i64 d.jid, .slice d.js.a d.js.n d.js.c, .slice d.bs.a d.bs.n d.bs.c, .slice d.ls.a d.ls.n d.ls.c]] w fun e w' => ∃ y : Dm, e = .returned (.agg #[.int .i64 y.id, .bool y.dead, .int .i64 y.m.id, .int .i64 y.m.rid, .slice y.mv.ms.a y.mv.ms.n y.mv.ms.c, .slice y.mv.its.a y.mv.its.n y.mv.its.c, .slice y.mv.lv.a y.mv.lv.n y.mv.lv.c, .slice y.mv.tx.a y.mv.tx.n y.mv.tx.c, .int .i64 y.m.rd, .int .i64 y.m.se, .int .i64 y.m.li, .int .i64 y.m.he, .int .i64 y.m.la.c, .int .i64 y.m.la.r, .int .i64 y.m.la.q, .int .i64 y.m.la.a, .int .i64 y.m.la.b, .slice y.mv.ws.a y.mv.ws.n y.mv.ws.c, .int .i64 y.most, .int .i64 y.old, .int .i64 y.jid, .slice y.js.a y.js.n y.js.c, .slice y.bs.a y.bs.n y.bs.c, .slice y.ls.a y.ls.n y.ls.c]) ∧ y.Same (crP d) ∧ DmO w' w.heap.size y ∧ DmA y ∧ Below w.heap.size w w' := by
  have hn1 : (w.alloc (.cells #[.int .i64 d.id, .bool d.dead, .int .i64 d.m.id, .int .i64 d.m.rid, .slice d.mv.ms.a d.mv.ms.n d.mv.ms.c, .slice d.mv.its.a d.mv.its.n d.mv.its.c, .slice d.mv.lv.a d.mv.lv.n d.mv.lv.c, .slice d.mv.tx.a d.mv.tx.n d.mv.tx.c, .int .i64 d.m.rd, .int .i64 d.m.se, .int .i64 d.m.li, .int .i64 d.m.he, .int .i64 d.m.la.c, .int .i64 d.m.la.r, .int .i64 d.m.la.q, .int .i64 d.m.la.a, .int .i64 d.m.la.b, .slice d.mv.ws.a d.mv.ws.n d.mv.ws.c, .int .i64 d.most, .int .i64 d.old, .int .i64 d.jid, .slice d.js.a d.js.n d.js.c, .slice d.bs.a d.bs.n d.bs.c, .slice d.ls.a d.ls.n d.ls.c] 34)).heap.size = w.heap.size + 1 := by simp
  have LA : Hid (Bx ((w.alloc (.cells #[.int .i64 d.id, .bool d.dead, .int .i64 d.m.id, .int .i64 d.m.rid, .slice d.mv.ms.a d.mv.ms.n d.mv.ms.c, .slice d.mv.its.a d.mv.its.n d.mv.its.c, .slice d.mv.lv.a d.mv.lv.n d.mv.lv.c, .slice d.mv.tx.a d.mv.tx.n d.mv.tx.c, .int .i64 d.m.rd, .int .i64 d.m.se, .int .i64 d.m.li, .int .i64 d.m.he, .int .i64 d.m.la.c, .int .i64 d.m.la.r, .int .i64 d.m.la.q, .int .i64 d.m.la.a, .int .i64 d.m.la.b, .slice d.mv.ws.a d.mv.ws.n d.mv.ws.c, .int .i64 d.most, .int .i64 d.old, .int .i64 d.jid, .slice d.js.a d.js.n d.js.c, .slice d.bs.a d.bs.n d.bs.c, .slice d.ls.a d.ls.n d.ls.c] 34)).alloc (.cells #[.int .i64 0, .bool false, .int .i64 0, .int .i64 0, .slice none 0 0, .slice none 0 0, .slice none 0 0, .slice none 0 0, .int .i64 0, .int .i64 0, .int .i64 0, .int .i64 0, .int .i64 0, .int .i64 0, .int .i64 0, .int .i64 0, .int .i64 0, .slice none 0 0, .int .i64 0, .int .i64 0, .int .i64 0, .slice none 0 0, .slice none 0 0, .slice none 0 0] 34)) w.heap.size 34 [.int .i64 d.id, .bool d.dead, .int .i64 d.m.id, .int .i64 d.m.rid, .slice d.mv.ms.a d.mv.ms.n d.mv.ms.c, .slice d.mv.its.a d.mv.its.n d.mv.its.c, .slice d.mv.lv.a d.mv.lv.n d.mv.lv.c, .slice d.mv.tx.a d.mv.tx.n d.mv.tx.c, .int .i64 d.m.rd, .int .i64 d.m.se, .int .i64 d.m.li, .int .i64 d.m.he, .int .i64 d.m.la.c, .int .i64 d.m.la.r, .int .i64 d.m.la.q, .int .i64 d.m.la.a, .int .i64 d.m.la.b, .slice d.mv.ws.a d.mv.ws.n d.mv.ws.c, .int .i64 d.most, .int .i64 d.old, .int .i64 d.jid, .slice d.js.a d.js.n d.js.c, .slice d.bs.a d.bs.n d.bs.c, .slice d.ls.a d.ls.n d.ls.c]) := by
    have h := Bx.new w 34 [.int .i64 d.id, .bool d.dead, .int .i64 d.m.id, .int .i64 d.m.rid, .slice d.mv.ms.a d.mv.ms.n d.mv.ms.c, .slice d.mv.its.a d.mv.its.n d.mv.its.c, .slice d.mv.lv.a d.mv.lv.n d.mv.lv.c, .slice d.mv.tx.a d.mv.tx.n d.mv.tx.c, .int .i64 d.m.rd, .int .i64 d.m.se, .int .i64 d.m.li, .int .i64 d.m.he, .int .i64 d.m.la.c, .int .i64 d.m.la.r, .int .i64 d.m.la.q, .int .i64 d.m.la.a, .int .i64 d.m.la.b, .slice d.mv.ws.a d.mv.ws.n d.mv.ws.c, .int .i64 d.most, .int .i64 d.old, .int .i64 d.jid, .slice d.js.a d.js.n d.js.c, .slice d.bs.a d.bs.n d.bs.c, .slice d.ls.a d.ls.n d.ls.c]
    exact (h).later ((Below.refl _ _).alloc (Nat.le_refl _) _)
  have EB : Hid (Bx ((w.alloc (.cells #[.int .i64 d.id, .bool d.dead, .int .i64 d.m.id, .int .i64 d.m.rid, .slice d.mv.ms.a d.mv.ms.n d.mv.ms.c, .slice d.mv.its.a d.mv.its.n d.mv.its.c, .slice d.mv.lv.a d.mv.lv.n d.mv.lv.c, .slice d.mv.tx.a d.mv.tx.n d.mv.tx.c, .int .i64 d.m.rd, .int .i64 d.m.se, .int .i64 d.m.li, .int .i64 d.m.he, .int .i64 d.m.la.c, .int .i64 d.m.la.r, .int .i64 d.m.la.q, .int .i64 d.m.la.a, .int .i64 d.m.la.b, .slice d.mv.ws.a d.mv.ws.n d.mv.ws.c, .int .i64 d.most, .int .i64 d.old, .int .i64 d.jid, .slice d.js.a d.js.n d.js.c, .slice d.bs.a d.bs.n d.bs.c, .slice d.ls.a d.ls.n d.ls.c] 34)).alloc (.cells #[.int .i64 0, .bool false, .int .i64 0, .int .i64 0, .slice none 0 0, .slice none 0 0, .slice none 0 0, .slice none 0 0, .int .i64 0, .int .i64 0, .int .i64 0, .int .i64 0, .int .i64 0, .int .i64 0, .int .i64 0, .int .i64 0, .int .i64 0, .slice none 0 0, .int .i64 0, .int .i64 0, .int .i64 0, .slice none 0 0, .slice none 0 0, .slice none 0 0] 34)) (w.heap.size + 1) 34 [.int .i64 0, .bool false, .int .i64 0, .int .i64 0, .slice none 0 0, .slice none 0 0, .slice none 0 0, .slice none 0 0, .int .i64 0, .int .i64 0, .int .i64 0, .int .i64 0, .int .i64 0, .int .i64 0, .int .i64 0, .int .i64 0, .int .i64 0, .slice none 0 0, .int .i64 0, .int .i64 0, .int .i64 0, .slice none 0 0, .slice none 0 0, .slice none 0 0]) := by
    have h := Bx.new (w.alloc (.cells #[.int .i64 d.id, .bool d.dead, .int .i64 d.m.id, .int .i64 d.m.rid, .slice d.mv.ms.a d.mv.ms.n d.mv.ms.c, .slice d.mv.its.a d.mv.its.n d.mv.its.c, .slice d.mv.lv.a d.mv.lv.n d.mv.lv.c, .slice d.mv.tx.a d.mv.tx.n d.mv.tx.c, .int .i64 d.m.rd, .int .i64 d.m.se, .int .i64 d.m.li, .int .i64 d.m.he, .int .i64 d.m.la.c, .int .i64 d.m.la.r, .int .i64 d.m.la.q, .int .i64 d.m.la.a, .int .i64 d.m.la.b, .slice d.mv.ws.a d.mv.ws.n d.mv.ws.c, .int .i64 d.most, .int .i64 d.old, .int .i64 d.jid, .slice d.js.a d.js.n d.js.c, .slice d.bs.a d.bs.n d.bs.c, .slice d.ls.a d.ls.n d.ls.c] 34)) 34 [.int .i64 0, .bool false, .int .i64 0, .int .i64 0, .slice none 0 0, .slice none 0 0, .slice none 0 0, .slice none 0 0, .int .i64 0, .int .i64 0, .int .i64 0, .int .i64 0, .int .i64 0, .int .i64 0, .int .i64 0, .int .i64 0, .int .i64 0, .slice none 0 0, .int .i64 0, .int .i64 0, .int .i64 0, .slice none 0 0, .slice none 0 0, .slice none 0 0]
    rw [hn1] at h
    exact h
  have BW : Hid (Below w.heap.size w ((w.alloc (.cells #[.int .i64 d.id, .bool d.dead, .int .i64 d.m.id, .int .i64 d.m.rid, .slice d.mv.ms.a d.mv.ms.n d.mv.ms.c, .slice d.mv.its.a d.mv.its.n d.mv.its.c, .slice d.mv.lv.a d.mv.lv.n d.mv.lv.c, .slice d.mv.tx.a d.mv.tx.n d.mv.tx.c, .int .i64 d.m.rd, .int .i64 d.m.se, .int .i64 d.m.li, .int .i64 d.m.he, .int .i64 d.m.la.c, .int .i64 d.m.la.r, .int .i64 d.m.la.q, .int .i64 d.m.la.a, .int .i64 d.m.la.b, .slice d.mv.ws.a d.mv.ws.n d.mv.ws.c, .int .i64 d.most, .int .i64 d.old, .int .i64 d.jid, .slice d.js.a d.js.n d.js.c, .slice d.bs.a d.bs.n d.bs.c, .slice d.ls.a d.ls.n d.ls.c] 34)).alloc (.cells #[.int .i64 0, .bool false, .int .i64 0, .int .i64 0, .slice none 0 0, .slice none 0 0, .slice none 0 0, .slice none 0 0, .int .i64 0, .int .i64 0, .int .i64 0, .int .i64 0, .int .i64 0, .int .i64 0, .int .i64 0, .int .i64 0, .int .i64 0, .slice none 0 0, .int .i64 0, .int .i64 0, .int .i64 0, .slice none 0 0, .slice none 0 0, .slice none 0 0] 34))) := (((Below.refl _ _).alloc (by simp) _).alloc (by simp; try omega) _)
  clear hn1
  have HL : Hid (EvsR ((w.alloc (.cells #[.int .i64 d.id, .bool d.dead, .int .i64 d.m.id, .int .i64 d.m.rid, .slice d.mv.ms.a d.mv.ms.n d.mv.ms.c, .slice d.mv.its.a d.mv.its.n d.mv.its.c, .slice d.mv.lv.a d.mv.lv.n d.mv.lv.c, .slice d.mv.tx.a d.mv.tx.n d.mv.tx.c, .int .i64 d.m.rd, .int .i64 d.m.se, .int .i64 d.m.li, .int .i64 d.m.he, .int .i64 d.m.la.c, .int .i64 d.m.la.r, .int .i64 d.m.la.q, .int .i64 d.m.la.a, .int .i64 d.m.la.b, .slice d.mv.ws.a d.mv.ws.n d.mv.ws.c, .int .i64 d.most, .int .i64 d.old, .int .i64 d.jid, .slice d.js.a d.js.n d.js.c, .slice d.bs.a d.bs.n d.bs.c, .slice d.ls.a d.ls.n d.ls.c] 34)).alloc (.cells #[.int .i64 0, .bool false, .int .i64 0, .int .i64 0, .slice none 0 0, .slice none 0 0, .slice none 0 0, .slice none 0 0, .int .i64 0, .int .i64 0, .int .i64 0, .int .i64 0, .int .i64 0, .int .i64 0, .int .i64 0, .int .i64 0, .int .i64 0, .slice none 0 0, .int .i64 0, .int .i64 0, .int .i64 0, .slice none 0 0, .slice none 0 0, .slice none 0 0] 34)) d.ls d.lo) := h.out.lo.r.stays BW.out
  have c0 := LA.out.cell 0
  have c18 := LA.out.cell 18
  have c23 := LA.out.cell 23
  simp only [List.getElem?_cons_succ, List.getElem?_cons_zero] at c0 c18 c23
  go_enter Try.func16, Try.ntmps16
  go_wp2_with fail
  generalize ((w.alloc (.cells #[.int .i64 d.id, .bool d.dead, .int .i64 d.m.id, .int .i64 d.m.rid, .slice d.mv.ms.a d.mv.ms.n d.mv.ms.c, .slice d.mv.its.a d.mv.its.n d.mv.its.c, .slice d.mv.lv.a d.mv.lv.n d.mv.lv.c, .slice d.mv.tx.a d.mv.tx.n d.mv.tx.c, .int .i64 d.m.rd, .int .i64 d.m.se, .int .i64 d.m.li, .int .i64 d.m.he, .int .i64 d.m.la.c, .int .i64 d.m.la.r, .int .i64 d.m.la.q, .int .i64 d.m.la.a, .int .i64 d.m.la.b, .slice d.mv.ws.a d.mv.ws.n d.mv.ws.c, .int .i64 d.most, .int .i64 d.old, .int .i64 d.jid, .slice d.js.a d.js.n d.js.c, .slice d.bs.a d.bs.n d.bs.c, .slice d.ls.a d.ls.n d.ls.c] 34)).alloc (.cells #[.int .i64 0, .bool false, .int .i64 0, .int .i64 0, .slice none 0 0, .slice none 0 0, .slice none 0 0, .slice none 0 0, .int .i64 0, .int .i64 0, .int .i64 0, .int .i64 0, .int .i64 0, .int .i64 0, .int .i64 0, .int .i64 0, .int .i64 0, .slice none 0 0, .int .i64 0, .int .i64 0, .int .i64 0, .slice none 0 0, .slice none 0 0, .slice none 0 0] 34)) = W at *
  clear c0 c18 c23 LA
  have zW : w.heap.size + 1 < W.heap.size := EB.out.lt
  refine (copyDaemon_none (crP d) _ (show Hid (MtP W zMt zMv) from (mto_zero W 0).p) (show Hid (RI W zSv.v []) from (ownI_nil W 0).ri) (show Hid (EvsR W d.ls d.lo) from HL.out) (⟨rfl, rfl⟩ : (crP d).bs.n = 0 ∧ (crP d).bu = []) (crP_s hs.out)).mono ?_
  rintro e w1 ⟨y, rfl, ey, oy, ay, b⟩
  have OY : Hid (DmO w1 W.heap.size y) := oy
  clear oy
  have z_w1 : W.heap.size ≤ w1.heap.size := b.size
  have EB : Hid (Bx w1 (w.heap.size + 1) 34 [.int .i64 0, .bool false, .int .i64 0, .int .i64 0, .slice none 0 0, .slice none 0 0, .slice none 0 0, .slice none 0 0, .int .i64 0, .int .i64 0, .int .i64 0, .int .i64 0, .int .i64 0, .int .i64 0, .int .i64 0, .int .i64 0, .int .i64 0, .slice none 0 0, .int .i64 0, .int .i64 0, .int .i64 0, .slice none 0 0, .slice none 0 0, .slice none 0 0]) := EB.out.later b
  have BW : Hid (Below w.heap.size w w1) := bl_next BW.out b
  clear b
  go_wp2_with (first | (with_reducible refine wpList_haltS 34 _ _ rfl ?_))
  refine Stp.go ?_
  refine wpList_stB rfl 34 _ _ rfl (w.heap.size + 1) 0 rfl 34 _ EB.out [.int .i64 y.id, .bool y.dead, .int .i64 y.m.id, .int .i64 y.m.rid, .slice y.mv.ms.a y.mv.ms.n y.mv.ms.c, .slice y.mv.its.a y.mv.its.n y.mv.its.c, .slice y.mv.lv.a y.mv.lv.n y.mv.lv.c, .slice y.mv.tx.a y.mv.tx.n y.mv.tx.c, .int .i64 y.m.rd, .int .i64 y.m.se, .int .i64 y.m.li, .int .i64 y.m.he, .int .i64 y.m.la.c, .int .i64 y.m.la.r, .int .i64 y.m.la.q, .int .i64 y.m.la.a, .int .i64 y.m.la.b, .slice y.mv.ws.a y.mv.ws.n y.mv.ws.c, .int .i64 y.most, .int .i64 y.old, .int .i64 y.jid, .slice y.js.a y.js.n y.js.c, .slice y.bs.a y.bs.n y.bs.c, .slice y.ls.a y.ls.n y.ls.c] rfl (by simp) Try.sizeDa rfl [.int .i64 y.id, .bool y.dead, .int .i64 y.m.id, .int .i64 y.m.rid, .slice y.mv.ms.a y.mv.ms.n y.mv.ms.c, .slice y.mv.its.a y.mv.its.n y.mv.its.c, .slice y.mv.lv.a y.mv.lv.n y.mv.lv.c, .slice y.mv.tx.a y.mv.tx.n y.mv.tx.c, .int .i64 y.m.rd, .int .i64 y.m.se, .int .i64 y.m.li, .int .i64 y.m.he, .int .i64 y.m.la.c, .int .i64 y.m.la.r, .int .i64 y.m.la.q, .int .i64 y.m.la.a, .int .i64 y.m.la.b, .slice y.mv.ws.a y.mv.ws.n y.mv.ws.c, .int .i64 y.most, .int .i64 y.old, .int .i64 y.jid, .slice y.js.a y.js.n y.js.c, .slice y.bs.a y.bs.n y.bs.c, .slice y.ls.a y.ls.n y.ls.c] rfl ?_
  intro w2 OB TB
  have z_w2 : w1.heap.size ≤ w2.heap.size := Nat.le_of_eq TB.size.symm
  have BW : Hid (Below w.heap.size w w2) := BW.out.trans (TB.below (by omega))
  have OY : Hid (DmO w2 W.heap.size y) := OY.out.keep fun b hb _ => TB.block b (by omega)
  have EB : Hid (Bx w2 (w.heap.size + 1) 34 [.int .i64 y.id, .bool y.dead, .int .i64 y.m.id, .int .i64 y.m.rid, .slice y.mv.ms.a y.mv.ms.n y.mv.ms.c, .slice y.mv.its.a y.mv.its.n y.mv.its.c, .slice y.mv.lv.a y.mv.lv.n y.mv.lv.c, .slice y.mv.tx.a y.mv.tx.n y.mv.tx.c, .int .i64 y.m.rd, .int .i64 y.m.se, .int .i64 y.m.li, .int .i64 y.m.he, .int .i64 y.m.la.c, .int .i64 y.m.la.r, .int .i64 y.m.la.q, .int .i64 y.m.la.a, .int .i64 y.m.la.b, .slice y.mv.ws.a y.mv.ws.n y.mv.ws.c, .int .i64 y.most, .int .i64 y.old, .int .i64 y.jid, .slice y.js.a y.js.n y.js.c, .slice y.bs.a y.bs.n y.bs.c, .slice y.ls.a y.ls.n y.ls.c]) := OB
  clear OB TB
  go_wp2_with fail
  refine bodyPost_ret (results_b Try.results16 (w.heap.size + 1) 34 [.int .i64 y.id, .bool y.dead, .int .i64 y.m.id, .int .i64 y.m.rid, .slice y.mv.ms.a y.mv.ms.n y.mv.ms.c, .slice y.mv.its.a y.mv.its.n y.mv.its.c, .slice y.mv.lv.a y.mv.lv.n y.mv.lv.c, .slice y.mv.tx.a y.mv.tx.n y.mv.tx.c, .int .i64 y.m.rd, .int .i64 y.m.se, .int .i64 y.m.li, .int .i64 y.m.he, .int .i64 y.m.la.c, .int .i64 y.m.la.r, .int .i64 y.m.la.q, .int .i64 y.m.la.a, .int .i64 y.m.la.b, .slice y.mv.ws.a y.mv.ws.n y.mv.ws.c, .int .i64 y.most, .int .i64 y.old, .int .i64 y.jid, .slice y.js.a y.js.n y.js.c, .slice y.bs.a y.bs.n y.bs.c, .slice y.ls.a y.ls.n y.ls.c] _ rfl EB.out Try.underlying34 rfl Try.sizeDa) rfl ?_
  exact ⟨y, rfl, ey, OY.out.down (by omega), ay, BW.out⟩
set_option maxRecDepth 100000 in
set_option maxHeartbeats 8000000 in
theorem spCrash_any (d : Dm) (B : Nat) (w : World) (h : Hid (DmO w B d)) (hs : Hid (DmS d)) :
    Calls Try.prog 15 #[.agg #[.int .i64 d.id, .bool d.dead, .int .i64 d.m.id, .int .i64 d.m.rid, .slice d.mv.ms.a d.mv.ms.n d.mv.ms.c, .slice d.mv.its.a d.mv.its.n d.mv.its.c, .slice d.mv.lv.a d.mv.lv.n d.mv.lv.c, .slice d.mv.tx.a d.mv.tx.n d.mv.tx.c, .int .i64 d.m.rd, .int .i64 d.m.se, .int .i64 d.m.li, .int .i64 d.m.he, .int .i64 d.m.la.c, .int .i64 d.m.la.r, .int .i64 d.m.la.q, .int .i64 d.m.la.a, .int .i64 d.m.la.b, .slice d.mv.ws.a d.mv.ws.n d.mv.ws.c, .int .i64 d.most, .int .i64 d.old, .int .i64 d.jid, .slice d.js.a d.js.n d.js.c, .slice d.bs.a d.bs.n d.bs.c, .slice d.ls.a d.ls.n d.ls.c]] w fun e w' => ∃ y : Dm, e = .returned (.agg #[.int .i64 y.id, .bool y.dead, .int .i64 y.m.id, .int .i64 y.m.rid, .slice y.mv.ms.a y.mv.ms.n y.mv.ms.c, .slice y.mv.its.a y.mv.its.n y.mv.its.c, .slice y.mv.lv.a y.mv.lv.n y.mv.lv.c, .slice y.mv.tx.a y.mv.tx.n y.mv.tx.c, .int .i64 y.m.rd, .int .i64 y.m.se, .int .i64 y.m.li, .int .i64 y.m.he, .int .i64 y.m.la.c, .int .i64 y.m.la.r, .int .i64 y.m.la.q, .int .i64 y.m.la.a, .int .i64 y.m.la.b, .slice y.mv.ws.a y.mv.ws.n y.mv.ws.c, .int .i64 y.most, .int .i64 y.old, .int .i64 y.jid, .slice y.js.a y.js.n y.js.c, .slice y.bs.a y.bs.n y.bs.c, .slice y.ls.a y.ls.n y.ls.c]) ∧ y.Same (crP d) ∧ DmO w' w.heap.size y ∧ DmA y ∧ Below w.heap.size w w' := by
  have hn1 : (w.alloc (.cells #[.int .i64 d.id, .bool d.dead, .int .i64 d.m.id, .int .i64 d.m.rid, .slice d.mv.ms.a d.mv.ms.n d.mv.ms.c, .slice d.mv.its.a d.mv.its.n d.mv.its.c, .slice d.mv.lv.a d.mv.lv.n d.mv.lv.c, .slice d.mv.tx.a d.mv.tx.n d.mv.tx.c, .int .i64 d.m.rd, .int .i64 d.m.se, .int .i64 d.m.li, .int .i64 d.m.he, .int .i64 d.m.la.c, .int .i64 d.m.la.r, .int .i64 d.m.la.q, .int .i64 d.m.la.a, .int .i64 d.m.la.b, .slice d.mv.ws.a d.mv.ws.n d.mv.ws.c, .int .i64 d.most, .int .i64 d.old, .int .i64 d.jid, .slice d.js.a d.js.n d.js.c, .slice d.bs.a d.bs.n d.bs.c, .slice d.ls.a d.ls.n d.ls.c] 34)).heap.size = w.heap.size + 1 := by simp
  have LA : Hid (Bx ((w.alloc (.cells #[.int .i64 d.id, .bool d.dead, .int .i64 d.m.id, .int .i64 d.m.rid, .slice d.mv.ms.a d.mv.ms.n d.mv.ms.c, .slice d.mv.its.a d.mv.its.n d.mv.its.c, .slice d.mv.lv.a d.mv.lv.n d.mv.lv.c, .slice d.mv.tx.a d.mv.tx.n d.mv.tx.c, .int .i64 d.m.rd, .int .i64 d.m.se, .int .i64 d.m.li, .int .i64 d.m.he, .int .i64 d.m.la.c, .int .i64 d.m.la.r, .int .i64 d.m.la.q, .int .i64 d.m.la.a, .int .i64 d.m.la.b, .slice d.mv.ws.a d.mv.ws.n d.mv.ws.c, .int .i64 d.most, .int .i64 d.old, .int .i64 d.jid, .slice d.js.a d.js.n d.js.c, .slice d.bs.a d.bs.n d.bs.c, .slice d.ls.a d.ls.n d.ls.c] 34)).alloc (.cells #[.int .i64 0, .bool false, .int .i64 0, .int .i64 0, .slice none 0 0, .slice none 0 0, .slice none 0 0, .slice none 0 0, .int .i64 0, .int .i64 0, .int .i64 0, .int .i64 0, .int .i64 0, .int .i64 0, .int .i64 0, .int .i64 0, .int .i64 0, .slice none 0 0, .int .i64 0, .int .i64 0, .int .i64 0, .slice none 0 0, .slice none 0 0, .slice none 0 0] 34)) w.heap.size 34 [.int .i64 d.id, .bool d.dead, .int .i64 d.m.id, .int .i64 d.m.rid, .slice d.mv.ms.a d.mv.ms.n d.mv.ms.c, .slice d.mv.its.a d.mv.its.n d.mv.its.c, .slice d.mv.lv.a d.mv.lv.n d.mv.lv.c, .slice d.mv.tx.a d.mv.tx.n d.mv.tx.c, .int .i64 d.m.rd, .int .i64 d.m.se, .int .i64 d.m.li, .int .i64 d.m.he, .int .i64 d.m.la.c, .int .i64 d.m.la.r, .int .i64 d.m.la.q, .int .i64 d.m.la.a, .int .i64 d.m.la.b, .slice d.mv.ws.a d.mv.ws.n d.mv.ws.c, .int .i64 d.most, .int .i64 d.old, .int .i64 d.jid, .slice d.js.a d.js.n d.js.c, .slice d.bs.a d.bs.n d.bs.c, .slice d.ls.a d.ls.n d.ls.c]) := by
    have h := Bx.new w 34 [.int .i64 d.id, .bool d.dead, .int .i64 d.m.id, .int .i64 d.m.rid, .slice d.mv.ms.a d.mv.ms.n d.mv.ms.c, .slice d.mv.its.a d.mv.its.n d.mv.its.c, .slice d.mv.lv.a d.mv.lv.n d.mv.lv.c, .slice d.mv.tx.a d.mv.tx.n d.mv.tx.c, .int .i64 d.m.rd, .int .i64 d.m.se, .int .i64 d.m.li, .int .i64 d.m.he, .int .i64 d.m.la.c, .int .i64 d.m.la.r, .int .i64 d.m.la.q, .int .i64 d.m.la.a, .int .i64 d.m.la.b, .slice d.mv.ws.a d.mv.ws.n d.mv.ws.c, .int .i64 d.most, .int .i64 d.old, .int .i64 d.jid, .slice d.js.a d.js.n d.js.c, .slice d.bs.a d.bs.n d.bs.c, .slice d.ls.a d.ls.n d.ls.c]
    exact (h).later ((Below.refl _ _).alloc (Nat.le_refl _) _)
  have EB : Hid (Bx ((w.alloc (.cells #[.int .i64 d.id, .bool d.dead, .int .i64 d.m.id, .int .i64 d.m.rid, .slice d.mv.ms.a d.mv.ms.n d.mv.ms.c, .slice d.mv.its.a d.mv.its.n d.mv.its.c, .slice d.mv.lv.a d.mv.lv.n d.mv.lv.c, .slice d.mv.tx.a d.mv.tx.n d.mv.tx.c, .int .i64 d.m.rd, .int .i64 d.m.se, .int .i64 d.m.li, .int .i64 d.m.he, .int .i64 d.m.la.c, .int .i64 d.m.la.r, .int .i64 d.m.la.q, .int .i64 d.m.la.a, .int .i64 d.m.la.b, .slice d.mv.ws.a d.mv.ws.n d.mv.ws.c, .int .i64 d.most, .int .i64 d.old, .int .i64 d.jid, .slice d.js.a d.js.n d.js.c, .slice d.bs.a d.bs.n d.bs.c, .slice d.ls.a d.ls.n d.ls.c] 34)).alloc (.cells #[.int .i64 0, .bool false, .int .i64 0, .int .i64 0, .slice none 0 0, .slice none 0 0, .slice none 0 0, .slice none 0 0, .int .i64 0, .int .i64 0, .int .i64 0, .int .i64 0, .int .i64 0, .int .i64 0, .int .i64 0, .int .i64 0, .int .i64 0, .slice none 0 0, .int .i64 0, .int .i64 0, .int .i64 0, .slice none 0 0, .slice none 0 0, .slice none 0 0] 34)) (w.heap.size + 1) 34 [.int .i64 0, .bool false, .int .i64 0, .int .i64 0, .slice none 0 0, .slice none 0 0, .slice none 0 0, .slice none 0 0, .int .i64 0, .int .i64 0, .int .i64 0, .int .i64 0, .int .i64 0, .int .i64 0, .int .i64 0, .int .i64 0, .int .i64 0, .slice none 0 0, .int .i64 0, .int .i64 0, .int .i64 0, .slice none 0 0, .slice none 0 0, .slice none 0 0]) := by
    have h := Bx.new (w.alloc (.cells #[.int .i64 d.id, .bool d.dead, .int .i64 d.m.id, .int .i64 d.m.rid, .slice d.mv.ms.a d.mv.ms.n d.mv.ms.c, .slice d.mv.its.a d.mv.its.n d.mv.its.c, .slice d.mv.lv.a d.mv.lv.n d.mv.lv.c, .slice d.mv.tx.a d.mv.tx.n d.mv.tx.c, .int .i64 d.m.rd, .int .i64 d.m.se, .int .i64 d.m.li, .int .i64 d.m.he, .int .i64 d.m.la.c, .int .i64 d.m.la.r, .int .i64 d.m.la.q, .int .i64 d.m.la.a, .int .i64 d.m.la.b, .slice d.mv.ws.a d.mv.ws.n d.mv.ws.c, .int .i64 d.most, .int .i64 d.old, .int .i64 d.jid, .slice d.js.a d.js.n d.js.c, .slice d.bs.a d.bs.n d.bs.c, .slice d.ls.a d.ls.n d.ls.c] 34)) 34 [.int .i64 0, .bool false, .int .i64 0, .int .i64 0, .slice none 0 0, .slice none 0 0, .slice none 0 0, .slice none 0 0, .int .i64 0, .int .i64 0, .int .i64 0, .int .i64 0, .int .i64 0, .int .i64 0, .int .i64 0, .int .i64 0, .int .i64 0, .slice none 0 0, .int .i64 0, .int .i64 0, .int .i64 0, .slice none 0 0, .slice none 0 0, .slice none 0 0]
    rw [hn1] at h
    exact h
  have BW : Hid (Below w.heap.size w ((w.alloc (.cells #[.int .i64 d.id, .bool d.dead, .int .i64 d.m.id, .int .i64 d.m.rid, .slice d.mv.ms.a d.mv.ms.n d.mv.ms.c, .slice d.mv.its.a d.mv.its.n d.mv.its.c, .slice d.mv.lv.a d.mv.lv.n d.mv.lv.c, .slice d.mv.tx.a d.mv.tx.n d.mv.tx.c, .int .i64 d.m.rd, .int .i64 d.m.se, .int .i64 d.m.li, .int .i64 d.m.he, .int .i64 d.m.la.c, .int .i64 d.m.la.r, .int .i64 d.m.la.q, .int .i64 d.m.la.a, .int .i64 d.m.la.b, .slice d.mv.ws.a d.mv.ws.n d.mv.ws.c, .int .i64 d.most, .int .i64 d.old, .int .i64 d.jid, .slice d.js.a d.js.n d.js.c, .slice d.bs.a d.bs.n d.bs.c, .slice d.ls.a d.ls.n d.ls.c] 34)).alloc (.cells #[.int .i64 0, .bool false, .int .i64 0, .int .i64 0, .slice none 0 0, .slice none 0 0, .slice none 0 0, .slice none 0 0, .int .i64 0, .int .i64 0, .int .i64 0, .int .i64 0, .int .i64 0, .int .i64 0, .int .i64 0, .int .i64 0, .int .i64 0, .slice none 0 0, .int .i64 0, .int .i64 0, .int .i64 0, .slice none 0 0, .slice none 0 0, .slice none 0 0] 34))) := (((Below.refl _ _).alloc (by simp) _).alloc (by simp; try omega) _)
  clear hn1
  have HL : Hid (EvsR ((w.alloc (.cells #[.int .i64 d.id, .bool d.dead, .int .i64 d.m.id, .int .i64 d.m.rid, .slice d.mv.ms.a d.mv.ms.n d.mv.ms.c, .slice d.mv.its.a d.mv.its.n d.mv.its.c, .slice d.mv.lv.a d.mv.lv.n d.mv.lv.c, .slice d.mv.tx.a d.mv.tx.n d.mv.tx.c, .int .i64 d.m.rd, .int .i64 d.m.se, .int .i64 d.m.li, .int .i64 d.m.he, .int .i64 d.m.la.c, .int .i64 d.m.la.r, .int .i64 d.m.la.q, .int .i64 d.m.la.a, .int .i64 d.m.la.b, .slice d.mv.ws.a d.mv.ws.n d.mv.ws.c, .int .i64 d.most, .int .i64 d.old, .int .i64 d.jid, .slice d.js.a d.js.n d.js.c, .slice d.bs.a d.bs.n d.bs.c, .slice d.ls.a d.ls.n d.ls.c] 34)).alloc (.cells #[.int .i64 0, .bool false, .int .i64 0, .int .i64 0, .slice none 0 0, .slice none 0 0, .slice none 0 0, .slice none 0 0, .int .i64 0, .int .i64 0, .int .i64 0, .int .i64 0, .int .i64 0, .int .i64 0, .int .i64 0, .int .i64 0, .int .i64 0, .slice none 0 0, .int .i64 0, .int .i64 0, .int .i64 0, .slice none 0 0, .slice none 0 0, .slice none 0 0] 34)) d.ls d.lo) := h.out.lo.r.stays BW.out
  go_enter Try.func15, Try.ntmps15
  go_wp2_with fail
  generalize ((w.alloc (.cells #[.int .i64 d.id, .bool d.dead, .int .i64 d.m.id, .int .i64 d.m.rid, .slice d.mv.ms.a d.mv.ms.n d.mv.ms.c, .slice d.mv.its.a d.mv.its.n d.mv.its.c, .slice d.mv.lv.a d.mv.lv.n d.mv.lv.c, .slice d.mv.tx.a d.mv.tx.n d.mv.tx.c, .int .i64 d.m.rd, .int .i64 d.m.se, .int .i64 d.m.li, .int .i64 d.m.he, .int .i64 d.m.la.c, .int .i64 d.m.la.r, .int .i64 d.m.la.q, .int .i64 d.m.la.a, .int .i64 d.m.la.b, .slice d.mv.ws.a d.mv.ws.n d.mv.ws.c, .int .i64 d.most, .int .i64 d.old, .int .i64 d.jid, .slice d.js.a d.js.n d.js.c, .slice d.bs.a d.bs.n d.bs.c, .slice d.ls.a d.ls.n d.ls.c] 34)).alloc (.cells #[.int .i64 0, .bool false, .int .i64 0, .int .i64 0, .slice none 0 0, .slice none 0 0, .slice none 0 0, .slice none 0 0, .int .i64 0, .int .i64 0, .int .i64 0, .int .i64 0, .int .i64 0, .int .i64 0, .int .i64 0, .int .i64 0, .int .i64 0, .slice none 0 0, .int .i64 0, .int .i64 0, .int .i64 0, .slice none 0 0, .slice none 0 0, .slice none 0 0] 34)) = W at *
  have zW : w.heap.size + 1 < W.heap.size := EB.out.lt
  have c : Below W.heap.size W W.drew := (Below.refl _ _).drew
  have LD : Hid (Bx W.drew w.heap.size 34 [.int .i64 d.id, .bool d.dead, .int .i64 d.m.id, .int .i64 d.m.rid, .slice d.mv.ms.a d.mv.ms.n d.mv.ms.c, .slice d.mv.its.a d.mv.its.n d.mv.its.c, .slice d.mv.lv.a d.mv.lv.n d.mv.lv.c, .slice d.mv.tx.a d.mv.tx.n d.mv.tx.c, .int .i64 d.m.rd, .int .i64 d.m.se, .int .i64 d.m.li, .int .i64 d.m.he, .int .i64 d.m.la.c, .int .i64 d.m.la.r, .int .i64 d.m.la.q, .int .i64 d.m.la.a, .int .i64 d.m.la.b, .slice d.mv.ws.a d.mv.ws.n d.mv.ws.c, .int .i64 d.most, .int .i64 d.old, .int .i64 d.jid, .slice d.js.a d.js.n d.js.c, .slice d.bs.a d.bs.n d.bs.c, .slice d.ls.a d.ls.n d.ls.c]) := LA.out.later c
  refine wp_region_held_drew (S := fun w' => Bx w' w.heap.size 34 [.int .i64 d.id, .bool d.dead, .int .i64 d.m.id, .int .i64 d.m.rid, .slice d.mv.ms.a d.mv.ms.n d.mv.ms.c, .slice d.mv.its.a d.mv.its.n d.mv.its.c, .slice d.mv.lv.a d.mv.lv.n d.mv.lv.c, .slice d.mv.tx.a d.mv.tx.n d.mv.tx.c, .int .i64 d.m.rd, .int .i64 d.m.se, .int .i64 d.m.li, .int .i64 d.m.he, .int .i64 d.m.la.c, .int .i64 d.m.la.r, .int .i64 d.m.la.q, .int .i64 d.m.la.a, .int .i64 d.m.la.b, .slice d.mv.ws.a d.mv.ws.n d.mv.ws.c, .int .i64 d.most, .int .i64 d.old, .int .i64 d.jid, .slice d.js.a d.js.n d.js.c, .slice d.bs.a d.bs.n d.bs.c, .slice d.ls.a d.ls.n d.ls.c]) (by kernel_rfl) LD.out (fun hHeld => ?_)
  refine wpAnyH_take (i := 0) (v := ?v0b1) rfl (by kernel_rfl) (by kernel_rfl) (by kernel_rfl) (fun _ _ _ h => h) (Or.inl ⟨by rfl, ?hy0b1⟩) (by assumption) ?_
  case hy0b1 => (intro w hSw; (try dsimp only at hSw); simp only [List.getElem_toArray, List.getElem_cons_zero, List.getElem_cons_succ]; go_simp; try with_reducible rfl)
  try simp only [Act.put, List.getElem_toArray, List.getElem_cons_zero, List.getElem_cons_succ, List.setIfInBounds_toArray, List.set_cons_zero, List.set_cons_succ]
  refine wpAnyH_take (i := 1) (v := _) rfl (by kernel_rfl) (by kernel_rfl) (by kernel_rfl) (fun _ _ _ h => h) (ld1_yield (by rfl) 3 _ rfl w.heap.size 0 rfl 34 _ (fun w hS => hS) (.int .i64 d.id) rfl _ Try.underlying3 rfl) (by assumption) ?_
  try simp only [Act.put, List.getElem_toArray, List.getElem_cons_zero, List.getElem_cons_succ, List.setIfInBounds_toArray, List.set_cons_zero, List.set_cons_succ]
  refine wpAnyH_take (i := 2) (v := ?v2b3) rfl (by kernel_rfl) (by kernel_rfl) (by kernel_rfl) (fun _ _ _ h => h) (Or.inl ⟨by rfl, ?hy2b3⟩) (by assumption) ?_
  case hy2b3 => (intro w hSw; (try dsimp only at hSw); simp only [List.getElem_toArray, List.getElem_cons_zero, List.getElem_cons_succ]; go_simp; try with_reducible rfl)
  try simp only [Act.put, List.getElem_toArray, List.getElem_cons_zero, List.getElem_cons_succ, List.setIfInBounds_toArray, List.set_cons_zero, List.set_cons_succ]
  refine wpAnyH_take (i := 3) (v := _) rfl (by kernel_rfl) (by kernel_rfl) (by kernel_rfl) (fun _ _ _ h => h) (ld1_yield (by rfl) 3 _ rfl w.heap.size 18 rfl 34 _ (fun w hS => hS) (.int .i64 d.most) rfl _ Try.underlying3 rfl) (by assumption) ?_
  try simp only [Act.put, List.getElem_toArray, List.getElem_cons_zero, List.getElem_cons_succ, List.setIfInBounds_toArray, List.set_cons_zero, List.set_cons_succ]
  refine wpAnyH_take (i := 4) (v := ?v4b5) rfl (by kernel_rfl) (by kernel_rfl) (by kernel_rfl) (fun _ _ _ h => h) (Or.inl ⟨by rfl, ?hy4b5⟩) (by assumption) ?_
  case hy4b5 => (intro w hSw; (try dsimp only at hSw); simp only [List.getElem_toArray, List.getElem_cons_zero, List.getElem_cons_succ]; go_simp; try with_reducible rfl)
  try simp only [Act.put, List.getElem_toArray, List.getElem_cons_zero, List.getElem_cons_succ, List.setIfInBounds_toArray, List.set_cons_zero, List.set_cons_succ]
  refine wpAnyH_take (i := 5) (v := _) rfl (by kernel_rfl) (by kernel_rfl) (by kernel_rfl) (fun _ _ _ h => h) (ld1_yield (by rfl) 32 _ rfl w.heap.size 23 rfl 34 _ (fun w hS => hS) (.slice d.ls.a d.ls.n d.ls.c) rfl _ Try.underlying32 rfl) (by assumption) ?_
  try simp only [Act.put, List.getElem_toArray, List.getElem_cons_zero, List.getElem_cons_succ, List.setIfInBounds_toArray, List.set_cons_zero, List.set_cons_succ]
  refine wpAnyH_ready (rs := [6]) (by kernel_rfl) (by simp) ?_
  refine AllReadyH.cons (i := 6) rfl (fun K hK => ?_) AllReadyH.nil
  rw [if_pos (by rfl)]
  simp only [List.getElem_toArray, List.getElem_cons_zero, List.getElem_cons_succ]
  go_simp
  refine (lcopyEvents_any d.ls d.lo _ (show Hid (EvsR W.drew d.ls d.lo) from HL.out.stays c) hs.out.los.1 hs.out.los.2).mono ?_
  rintro e y1 ⟨u, cs, rfl, pl, oo, aa, b⟩
  have zb : W.heap.size ≤ W.drew.heap.size := c.size
  have c : Below W.heap.size W y1 := bl_next c b
  have LD : Hid (Bx y1 w.heap.size 34 [.int .i64 d.id, .bool d.dead, .int .i64 d.m.id, .int .i64 d.m.rid, .slice d.mv.ms.a d.mv.ms.n d.mv.ms.c, .slice d.mv.its.a d.mv.its.n d.mv.its.c, .slice d.mv.lv.a d.mv.lv.n d.mv.lv.c, .slice d.mv.tx.a d.mv.tx.n d.mv.tx.c, .int .i64 d.m.rd, .int .i64 d.m.se, .int .i64 d.m.li, .int .i64 d.m.he, .int .i64 d.m.la.c, .int .i64 d.m.la.r, .int .i64 d.m.la.q, .int .i64 d.m.la.a, .int .i64 d.m.la.b, .slice d.mv.ws.a d.mv.ws.n d.mv.ws.c, .int .i64 d.most, .int .i64 d.old, .int .i64 d.jid, .slice d.js.a d.js.n d.js.c, .slice d.bs.a d.bs.n d.bs.c, .slice d.ls.a d.ls.n d.ls.c]) := LD.out.later b
  have EO : Hid (EvsO y1 W.heap.size u cs) := oo.down zb
  have EL : Hid (∀ y, EvsOwn u cs y → y < y1.heap.size) := fun y hy => (EO.out.olt hy).2
  have ED : Hid (Bx y1 (w.heap.size + 1) 34 [.int .i64 0, .bool false, .int .i64 0, .int .i64 0, .slice none 0 0, .slice none 0 0, .slice none 0 0, .slice none 0 0, .int .i64 0, .int .i64 0, .int .i64 0, .int .i64 0, .int .i64 0, .int .i64 0, .int .i64 0, .int .i64 0, .int .i64 0, .slice none 0 0, .int .i64 0, .int .i64 0, .int .i64 0, .slice none 0 0, .slice none 0 0, .slice none 0 0]) := EB.out.later c
  refine hK.out _ _ (LD.out) (fun hHeld => ?_)
  clear hK K
  try simp only [Act.put, List.getElem_toArray, List.getElem_cons_zero, List.getElem_cons_succ, List.setIfInBounds_toArray, List.set_cons_zero, List.set_cons_succ]
  clear b oo
  refine wpAnyH_take (i := 7) (v := ?v7b7) rfl (by kernel_rfl) (by kernel_rfl) (by kernel_rfl) (fun _ _ _ h => h) (Or.inl ⟨by rfl, ?hy7b7⟩) (by assumption) ?_
  case hy7b7 => (intro w hSw; (try dsimp only at hSw); simp only [List.getElem_toArray, List.getElem_cons_zero, List.getElem_cons_succ]; go_simp; try with_reducible rfl)
  try simp only [Act.put, List.getElem_toArray, List.getElem_cons_zero, List.getElem_cons_succ, List.setIfInBounds_toArray, List.set_cons_zero, List.set_cons_succ]
  refine wpAnyH_ready (rs := [8]) (by kernel_rfl) (by simp) ?_
  refine AllReadyH.cons (i := 8) rfl (fun K hK => ?_) AllReadyH.nil
  rw [if_pos (by rfl)]
  simp only [List.getElem_toArray, List.getElem_cons_zero, List.getElem_cons_succ]
  refine wp_stB 34 _ _ rfl (w.heap.size + 1) 0 (by rfl) 34 _ ED.out [.int .i64 d.id, .bool true, .int .i64 0, .int .i64 0, .slice none 0 0, .slice none 0 0, .slice none 0 0, .slice none 0 0, .int .i64 0, .int .i64 0, .int .i64 0, .int .i64 0, .int .i64 0, .int .i64 0, .int .i64 0, .int .i64 0, .int .i64 0, .slice none 0 0, .int .i64 d.most, .int .i64 0, .int .i64 0, .slice none 0 0, .slice none 0 0, .slice u.a u.n u.c] (by rfl) (by simp) Try.sizeDa rfl [.int .i64 d.id, .bool true, .int .i64 0, .int .i64 0, .slice none 0 0, .slice none 0 0, .slice none 0 0, .slice none 0 0, .int .i64 0, .int .i64 0, .int .i64 0, .int .i64 0, .int .i64 0, .int .i64 0, .int .i64 0, .int .i64 0, .int .i64 0, .slice none 0 0, .int .i64 d.most, .int .i64 0, .int .i64 0, .slice none 0 0, .slice none 0 0, .slice u.a u.n u.c] rfl ?_
  intro y2 ob tb
  have LD : Hid (Bx y2 w.heap.size 34 [.int .i64 d.id, .bool d.dead, .int .i64 d.m.id, .int .i64 d.m.rid, .slice d.mv.ms.a d.mv.ms.n d.mv.ms.c, .slice d.mv.its.a d.mv.its.n d.mv.its.c, .slice d.mv.lv.a d.mv.lv.n d.mv.lv.c, .slice d.mv.tx.a d.mv.tx.n d.mv.tx.c, .int .i64 d.m.rd, .int .i64 d.m.se, .int .i64 d.m.li, .int .i64 d.m.he, .int .i64 d.m.la.c, .int .i64 d.m.la.r, .int .i64 d.m.la.q, .int .i64 d.m.la.a, .int .i64 d.m.la.b, .slice d.mv.ws.a d.mv.ws.n d.mv.ws.c, .int .i64 d.most, .int .i64 d.old, .int .i64 d.jid, .slice d.js.a d.js.n d.js.c, .slice d.bs.a d.bs.n d.bs.c, .slice d.ls.a d.ls.n d.ls.c]) := LD.out.turn tb (by omega)
  have ED : Hid (Bx y2 (w.heap.size + 1) 34 [.int .i64 d.id, .bool true, .int .i64 0, .int .i64 0, .slice none 0 0, .slice none 0 0, .slice none 0 0, .slice none 0 0, .int .i64 0, .int .i64 0, .int .i64 0, .int .i64 0, .int .i64 0, .int .i64 0, .int .i64 0, .int .i64 0, .int .i64 0, .slice none 0 0, .int .i64 d.most, .int .i64 0, .int .i64 0, .slice none 0 0, .slice none 0 0, .slice u.a u.n u.c]) := ob
  have EO : Hid (EvsO y2 W.heap.size u cs) := EO.out.keep fun b hb _ => tb.block b (by omega)
  have BW : Hid (Below w.heap.size w y2) := (bl_next BW.out c).trans (tb.below (by omega))
  refine hK.out _ _ (LD.out) (fun hHeld => ?_)
  clear hK K
  try simp only [Act.put, List.getElem_toArray, List.getElem_cons_zero, List.getElem_cons_succ, List.setIfInBounds_toArray, List.set_cons_zero, List.set_cons_succ]
  clear ob tb c
  refine wpAnyH_done (by kernel_rfl) ?_ _
  go_wp2_with fail
  refine bodyPost_ret (results_b Try.results15 (w.heap.size + 1) 34 [.int .i64 d.id, .bool true, .int .i64 0, .int .i64 0, .slice none 0 0, .slice none 0 0, .slice none 0 0, .slice none 0 0, .int .i64 0, .int .i64 0, .int .i64 0, .int .i64 0, .int .i64 0, .int .i64 0, .int .i64 0, .int .i64 0, .int .i64 0, .slice none 0 0, .int .i64 d.most, .int .i64 0, .int .i64 0, .slice none 0 0, .slice none 0 0, .slice u.a u.n u.c] _ rfl ED.out Try.underlying34 rfl Try.sizeDa) rfl ?_
  refine ⟨{ crP d with lo := cs, ls := u }, rfl, ⟨rfl, rfl, rfl, rfl, rfl, rfl, rfl, rfl, pl⟩, ⟨mto_zero _ _, ownI_nil _ _, BusO.nil _ _, EO.out.down (by omega)⟩, ?_, BW.out⟩
  exact ⟨fun x h => absurd h own_none, fun x h => absurd h own_none, fun x h => absurd h own_none, fun x h => (by cases h), fun x h => (by cases h), fun x h => absurd h busOwn_none, ⟨fun y h => (by cases h), List.Pairwise.nil⟩, aa⟩
end Go.Proofs.Ytbecahikjekccaa


