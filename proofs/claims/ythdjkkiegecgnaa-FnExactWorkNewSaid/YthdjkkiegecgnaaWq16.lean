/- Joined texts: CWn1 CIwn CHr. -/
import Derived.Test.YthdjkkiegecgnaaWq13
import Derived.Test.YthdjkkiegecgnaaWq5
import Derived.Test.YthdjkkiegecgnaaWq11
import Derived.Deep.DeepCutAuto
import Derived.BigQuiet
/- A new ring at work: the specification's WorkNew. Written by gen_wn.py. -/
namespace Go.Proofs.Ythdjkkiegecgnaa
open Go.RowKit Pl
set_option linter.unusedVariables false
set_option linter.unusedSimpArgs false

theorem spFirst_r {w : World} {v : Value} (i : Int) (ws : List Int) (h : Hid (RI w v ws)) (hl : ws.length ≤ 1048576) (hr : Hid (ringB i ws = true)) :
    Calls Try.prog 85 #[.agg #[.int .i64 i, v]] w fun e w' => e = .returned (.agg #[.int .i64 i, .int .i64 1, .int .i64 0, .int .i64 0, .int .i64 0, .slice none 0 0]) ∧ Below w.heap.size w w' := by
  obtain ⟨ao, cap, rfl, hx⟩ := h.out; exact spFirst_yes i ao cap ws w hx hl hr

set_option maxRecDepth 100000 in
set_option maxHeartbeats 1000000 in
theorem spWorkNew_no (i : Int) (s : Sv) (ms : List Int) (w : World) (h : Hid (RI w s.v ms)) (hl : ms.length ≤ 1048576) (hr : Hid (ringB i ms = false)) :
    Calls Try.prog 29 #[.agg #[.int .i64 i, .slice s.a s.n s.c]] w fun e w' => e = .returned (.tuple #[.agg #[.int .i64 0, .slice none 0 0, .slice none 0 0, .slice none 0 0, .slice none 0 0, .slice none 0 0], .bool false]) ∧ Below w.heap.size w w' := by
  have hn1 : (w.alloc (.cells #[.int .i64 i, .slice s.a s.n s.c] 26)).heap.size = w.heap.size + 1 := by simp
  have HR : Hid (Bx ((w.alloc (.cells #[.int .i64 i, .slice s.a s.n s.c] 26)).alloc (.cells #[.int .i64 0, .slice none 0 0, .slice none 0 0, .slice none 0 0, .slice none 0 0, .slice none 0 0] 65)) (w.heap.size + 1) 65 [.int .i64 0, .slice none 0 0, .slice none 0 0, .slice none 0 0, .slice none 0 0, .slice none 0 0]) := by
    have h := Bx.new (w.alloc (.cells #[.int .i64 i, .slice s.a s.n s.c] 26)) 65 [.int .i64 0, .slice none 0 0, .slice none 0 0, .slice none 0 0, .slice none 0 0, .slice none 0 0]
    rw [hn1] at h
    exact h
  have HB : Hid (Below w.heap.size w ((w.alloc (.cells #[.int .i64 i, .slice s.a s.n s.c] 26)).alloc (.cells #[.int .i64 0, .slice none 0 0, .slice none 0 0, .slice none 0 0, .slice none 0 0, .slice none 0 0] 65))) := ((Below.refl _ _).alloc (Nat.le_refl _) _).alloc (by simp) _
  have HX : Hid (RI ((w.alloc (.cells #[.int .i64 i, .slice s.a s.n s.c] 26)).alloc (.cells #[.int .i64 0, .slice none 0 0, .slice none 0 0, .slice none 0 0, .slice none 0 0, .slice none 0 0] 65)) s.v ms) := h.out.stays HB.out
  clear h hn1
  go_enter Try.func29, Try.ntmps29
  go_wp2_with fail
  generalize ((w.alloc (.cells #[.int .i64 i, .slice s.a s.n s.c] 26)).alloc (.cells #[.int .i64 0, .slice none 0 0, .slice none 0 0, .slice none 0 0, .slice none 0 0, .slice none 0 0] 65)) = W at *
  refine (spRingOk_r i ms HX hl).mono ?_
  rintro e w1 ⟨rfl, b1⟩
  rw [hr.out]
  have R1 : Hid (Bx w1 (w.heap.size + 1) 65 [.int .i64 0, .slice none 0 0, .slice none 0 0, .slice none 0 0, .slice none 0 0, .slice none 0 0]) := HR.out.later b1
  have B1 : Hid (Below w.heap.size w w1) := bl_next HB.out b1
  clear HR HB HX b1 hr
  go_wp2_with (first | (refine wpList_stB rfl 65 _ _ rfl (w.heap.size + 1) 0 rfl 65 _ R1.out [.int .i64 0, .slice none 0 0, .slice none 0 0, .slice none 0 0, .slice none 0 0, .slice none 0 0] rfl (by simp) Try.sizeWk rfl [.int .i64 0, .slice none 0 0, .slice none 0 0, .slice none 0 0, .slice none 0 0, .slice none 0 0] rfl ?_; intro w3 R3 T3))
  have B3 := B1.out.trans (T3.below (by omega))
  refine bodyPost_ret (results_bt Try.results29 (w.heap.size + 1) 65 [.int .i64 0, .slice none 0 0, .slice none 0 0, .slice none 0 0, .slice none 0 0, .slice none 0 0] _ rfl R3 Try.underlying65 rfl Try.sizeWk) rfl ?_
  exact ⟨rfl, B3⟩

theorem Pl.IntsAt.at {w : World} {b off : Nat} {xs : List Int} (h : IntsAt w (some ⟨b, off, none⟩) xs) (k : Nat) (hk : k < xs.length) : b < w.heap.size ∧ w.cell? ⟨b, off + k, none⟩ = some (.int .i64 xs[k]) := by
  obtain ⟨b', off', e, h1, h2⟩ := h k hk
  simp at e
  obtain ⟨rfl, rfl⟩ := e
  exact ⟨h1, h2⟩
theorem inB_mem {ms : List Int} {d : Int} (h : d ∈ ms) : inB ms d = true := by unfold inB; simpa using h

theorem msP_push {w w' : World} {B : Nat} {v v' : Value} {ma : List (Mt × Mv)} {d i : Int} {ms : List Int} {um : Sv} {r : List Value} (h : MsP w B v ma) (hs : SlN w' 32 16 B v' (ma.map mcel ++ [r])) (hg : w.grownBy w' v.ownBlock) (hu : OwnI w 0 um.v ms) (hr : r = mcel (newM d i ms, ⟨um, zSv, zSv, zSv, zSv⟩)) : MsP w' B v' (ma ++ [(newM d i ms, ⟨um, zSv, zSv, zSv, zSv⟩)]) := by
  have hk : KeepTy (fun T => T = 32) w w' := .ofPush h.1 hg rfl
  subst hr
  refine ⟨by rw [List.map_append]; exact hs, fun e he => ?_⟩
  rcases List.mem_append.1 he with he | he
  · exact (h.2 e he).kt hk (by decide) (by decide) (by decide)
  · simp at he; subst he; exact (mto_new d i (hu.kt hk (by decide))).p
theorem MsP.kt {S : Nat → Prop} {w w' : World} {B : Nat} {v : Value} {ma : List (Mt × Mv)} (h : MsP w B v ma) (k : KeepTy S w w') (h1 : ¬ S 32) (h3 : ¬ S 3) (h9 : ¬ S 9) (hi : ¬ S 38) : MsP w' B v ma := ⟨h.1.kt k h1, fun e hh => (h.2 e hh).kt k h3 h9 hi⟩
theorem HsP.kt {S : Nat → Prop} {w w' : World} {B : Nat} {v : Value} {he : List (List It × Sv)} (h : HsP w B v he) (k : KeepTy S w w') (h1 : ¬ S 27) (h2 : ¬ S 38) : HsP w' B v he := ⟨h.1.kt k h1, fun e hh => (h.2 e hh).kt k h2⟩

/-- the plain answer: what a new ring at work holds. -/
def newW (i : Int) (ms : List Int) (k : Nat) (ma : List (Mt × Mv)) (he : List (List It × Sv)) : Prop := ma.map (·.1) = (ms.take k).map (fun d => newM d i ms) ∧ he.map (·.1) = List.replicate k []
theorem newW_step {i : Int} {ms : List Int} {k : Nat} {ma : List (Mt × Mv)} {he : List (List It × Sv)} {d : Int} {u : Mv} {z : Sv} (h : newW i ms k ma he) (hk : k < ms.length) (hd : d = ms[k]) : newW i ms (k + 1) (ma ++ [(newM d i ms, u)]) (he ++ [([], z)]) := by
  refine ⟨?_, ?_⟩
  · rw [List.map_append, h.1, List.take_succ_eq_append_getElem hk, List.map_append, hd]; rfl
  · rw [List.map_append, h.2, List.replicate_succ']; rfl

set_option maxRecDepth 100000 in
set_option maxHeartbeats 8000000 in
theorem spWorkNew_at (i : Int) (sb so n sc : Nat) (ms : List Int) (w : World) (h : Hid (IntsAt w (some ⟨sb, so, none⟩) ms)) (hn : Hid (n = ms.length)) (hl : n ≤ 1048576) (hr : Hid (ringB i ms = true)) (h0 : Hid (0 < ms.length)) :
    Calls Try.prog 29 #[.agg #[.int .i64 i, .slice (some ⟨sb, so, none⟩) n sc]] w fun e w' => ∃ k : Wv, e = .returned (.tuple #[.agg k.cells.toArray, .bool true]) ∧ WkP w' k ∧ Below w.heap.size w w' ∧ (k.rid = i ∧ k.ms = ms ∧ newW i ms ms.length k.ma k.he ∧ k.sa = [] ∧ k.fl.map (·.1) = [⟨ms.getD 0 0, true, ⟨i, 1, 0, 0, 0, []⟩, zIt⟩]) := by
  have hn1 : (w.alloc (.cells #[.int .i64 i, .slice (some ⟨sb, so, none⟩) n sc] 26)).heap.size = w.heap.size + 1 := by simp
  have HA : Hid (Bx ((w.alloc (.cells #[.int .i64 i, .slice (some ⟨sb, so, none⟩) n sc] 26)).alloc (.cells #[.int .i64 0, .slice none 0 0, .slice none 0 0, .slice none 0 0, .slice none 0 0, .slice none 0 0] 65)) w.heap.size 26 [.int .i64 i, .slice (some ⟨sb, so, none⟩) n sc]) := by
    have h := Bx.new w 26 [.int .i64 i, .slice (some ⟨sb, so, none⟩) n sc]
    exact h.stays (B := w.heap.size + 1) ((Below.refl _ _).alloc (by rw [hn1]; exact Nat.le_refl _) _) (by omega)
  have HR : Hid (Bx ((w.alloc (.cells #[.int .i64 i, .slice (some ⟨sb, so, none⟩) n sc] 26)).alloc (.cells #[.int .i64 0, .slice none 0 0, .slice none 0 0, .slice none 0 0, .slice none 0 0, .slice none 0 0] 65)) (w.heap.size + 1) 65 [.int .i64 0, .slice none 0 0, .slice none 0 0, .slice none 0 0, .slice none 0 0, .slice none 0 0]) := by
    have h := Bx.new (w.alloc (.cells #[.int .i64 i, .slice (some ⟨sb, so, none⟩) n sc] 26)) 65 [.int .i64 0, .slice none 0 0, .slice none 0 0, .slice none 0 0, .slice none 0 0, .slice none 0 0]
    rw [hn1] at h
    exact h
  have HB : Hid (Below w.heap.size w ((w.alloc (.cells #[.int .i64 i, .slice (some ⟨sb, so, none⟩) n sc] 26)).alloc (.cells #[.int .i64 0, .slice none 0 0, .slice none 0 0, .slice none 0 0, .slice none 0 0, .slice none 0 0] 65))) := ((Below.refl _ _).alloc (Nat.le_refl _) _).alloc (by simp) _
  have HX : Hid (RI ((w.alloc (.cells #[.int .i64 i, .slice (some ⟨sb, so, none⟩) n sc] 26)).alloc (.cells #[.int .i64 0, .slice none 0 0, .slice none 0 0, .slice none 0 0, .slice none 0 0, .slice none 0 0] 65)) (.slice (some ⟨sb, so, none⟩) n sc) ms) := ⟨_, sc, by rw [hn.out], h.out.stays HB.out⟩
  have HI : Hid (IntsAt ((w.alloc (.cells #[.int .i64 i, .slice (some ⟨sb, so, none⟩) n sc] 26)).alloc (.cells #[.int .i64 0, .slice none 0 0, .slice none 0 0, .slice none 0 0, .slice none 0 0, .slice none 0 0] 65)) (some ⟨sb, so, none⟩) ms) := h.out.stays HB.out
  have hl' : ms.length ≤ 1048576 := by rw [← hn.out]; exact hl
  clear h hn1
  go_enter Try.func29, Try.ntmps29
  go_wp2_with fail
  generalize ((w.alloc (.cells #[.int .i64 i, .slice (some ⟨sb, so, none⟩) n sc] 26)).alloc (.cells #[.int .i64 0, .slice none 0 0, .slice none 0 0, .slice none 0 0, .slice none 0 0, .slice none 0 0] 65)) = W at *
  refine (spRingOk_r i ms HX hl').mono ?_
  rintro e w1 ⟨rfl, b1⟩
  rw [hr.out]
  have A1 : Hid (Bx w1 w.heap.size 26 [.int .i64 i, .slice (some ⟨sb, so, none⟩) n sc]) := HA.out.later b1
  have R1 : Hid (Bx w1 (w.heap.size + 1) 65 [.int .i64 0, .slice none 0 0, .slice none 0 0, .slice none 0 0, .slice none 0 0, .slice none 0 0]) := HR.out.later b1
  have B1 : Hid (Below w.heap.size w w1) := bl_next HB.out b1
  have X1 : Hid (RI w1 (.slice (some ⟨sb, so, none⟩) n sc) ms) := HX.out.stays b1
  have I1 : Hid (IntsAt w1 (some ⟨sb, so, none⟩) ms) := HI.out.stays b1
  clear HA HR HB HX HI b1
  go_wp2_with fail
  go_cut [4] (fun u4 wx => ∃ (gq : Nat) (uq : Sv), u4 = .pointer (some ⟨gq, 0, none⟩) ∧ Bx wx gq 65 [.int .i64 i, .slice uq.a uq.n uq.c, .slice none 0 0, .slice none 0 0, .slice none 0 0, .slice none 0 0] ∧ OwnI wx w1.heap.size uq.v ms ∧ w1.heap.size ≤ gq ∧ Below w1.heap.size w1 wx)
  case first =>
    have KEEP : Hid (∀ w', Below w1.heap.size w1 w' → (w'.cell? ⟨w.heap.size, 0, none⟩ = some (.int .i64 i) ∧ w'.cell? ⟨w.heap.size, 1, none⟩ = some (.slice (some ⟨sb, so, none⟩) n sc)) ∧ Hid (Below w1.heap.size w1 w')) := fun w' hb => ⟨⟨(A1.out.later hb).cell 0, (A1.out.later hb).cell 1⟩, hb⟩
    have c : Below w1.heap.size w1 w1.drew := (Below.refl _ _).drew
    refine wp_region_held_drew (S := fun w' => (w'.cell? ⟨w.heap.size, 0, none⟩ = some (.int .i64 i) ∧ w'.cell? ⟨w.heap.size, 1, none⟩ = some (.slice (some ⟨sb, so, none⟩) n sc)) ∧ Hid (Below w1.heap.size w1 w')) (by kernel_rfl) (KEEP.out _ c) (fun hHeld => ?_)
    refine wpAnyH_take (i := 0) (v := ?v0b23) rfl (by kernel_rfl) (by kernel_rfl) (by kernel_rfl) (fun _ _ _ h => h) (Or.inl ⟨by rfl, ?hy0b23⟩) (by assumption) ?_
    case hy0b23 => (intro w hSw; (try dsimp only at hSw); simp only [List.getElem_toArray, List.getElem_cons_zero, List.getElem_cons_succ]; go_simp; try with_reducible rfl)
    try simp only [Act.put, List.getElem_toArray, List.getElem_cons_zero, List.getElem_cons_succ, List.setIfInBounds_toArray, List.set_cons_zero, List.set_cons_succ]
    refine wpAnyH_take (i := 1) (v := ?v1b24) rfl (by kernel_rfl) (by kernel_rfl) (by kernel_rfl) (fun _ _ _ h => h) (Or.inl ⟨by rfl, ?hy1b24⟩) (by assumption) ?_
    case hy1b24 => (intro w hSw; (try dsimp only at hSw); simp only [List.getElem_toArray, List.getElem_cons_zero, List.getElem_cons_succ]; go_simp; try with_reducible rfl)
    try simp only [Act.put, List.getElem_toArray, List.getElem_cons_zero, List.getElem_cons_succ, List.setIfInBounds_toArray, List.set_cons_zero, List.set_cons_succ]
    refine wpAnyH_take (i := 3) (v := ?v3b25) rfl (by kernel_rfl) (by kernel_rfl) (by kernel_rfl) (fun _ _ _ h => h) (Or.inl ⟨by rfl, ?hy3b25⟩) (by assumption) ?_
    case hy3b25 => (intro w hSw; (try dsimp only at hSw); simp only [List.getElem_toArray, List.getElem_cons_zero, List.getElem_cons_succ]; go_simp; try with_reducible rfl)
    try simp only [Act.put, List.getElem_toArray, List.getElem_cons_zero, List.getElem_cons_succ, List.setIfInBounds_toArray, List.set_cons_zero, List.set_cons_succ]
    refine wpAnyH_take (i := 4) (v := ?v4b26) rfl (by kernel_rfl) (by kernel_rfl) (by kernel_rfl) (fun _ _ _ h => h) (Or.inl ⟨by rfl, ?hy4b26⟩) (by assumption) ?_
    case hy4b26 => (intro w hSw; (try dsimp only at hSw); simp only [List.getElem_toArray, List.getElem_cons_zero, List.getElem_cons_succ]; go_simp; try with_reducible rfl)
    try simp only [Act.put, List.getElem_toArray, List.getElem_cons_zero, List.getElem_cons_succ, List.setIfInBounds_toArray, List.set_cons_zero, List.set_cons_succ]
    refine wpAnyH_ready (rs := [2, 8]) (by kernel_rfl) (by simp) ?_
    refine (AllReadyH.cons (i := 2) rfl (fun K hK => ?_) (AllReadyH.cons (i := 8) rfl (fun K hK => ?_) AllReadyH.nil))
    · skip
      rw [if_pos (by rfl)]
      simp only [List.getElem_toArray, List.getElem_cons_zero, List.getElem_cons_succ]
      go_simp
      have OS1 : Hid (OwnI (w1.drew.alloc (.cells #[] 3)) w1.heap.size (.slice (some ⟨w1.heap.size, 0, none⟩) 0 0) []) := by have h := OwnI.made w1.drew w1.heap.size c.size; rw [show w1.drew.heap.size = w1.heap.size by simp] at h; exact h
      have c : Below w1.heap.size w1 (w1.drew.alloc (.cells #[] 3)) := c.alloc c.size _
      refine hK.out _ _ (KEEP.out _ c) (fun hHeld => ?_)
      clear hK K
      try simp only [Act.put, List.getElem_toArray, List.getElem_cons_zero, List.getElem_cons_succ, List.setIfInBounds_toArray, List.set_cons_zero, List.set_cons_succ]
      refine wpAnyH_ready (rs := [5, 8]) (by kernel_rfl) (by simp) ?_
      refine (AllReadyH.cons (i := 5) rfl (fun K hK => ?_) (AllReadyH.cons (i := 8) rfl (fun K hK => ?_) AllReadyH.nil))
      · skip
        rw [if_pos (by rfl)]
        simp only [List.getElem_toArray, List.getElem_cons_zero, List.getElem_cons_succ]
        refine wp_catR _ _ 24 rfl Try.underlying24 Try.info3' w1.heap.size (.slice (some ⟨w1.heap.size, 0, none⟩) 0 0) [] (by rfl) OS1.out (.slice (some ⟨sb, so, none⟩) n sc) ms (by rfl) (X1.out.stays c) (by simp; omega) c.size (fun h => by cases h) ?_
        intro v2 y2 hv2 hg2
        obtain ⟨uq, hf2⟩ := hv2.sv
        subst hf2
        have O2 : Hid (OwnI y2 w1.heap.size (.slice uq.a uq.n uq.c) ms) := hv2
        have c0 := c
        have c : Below w1.heap.size w1 y2 := c.grown hg2 c.size (fun k hk => (OS1.out.lt k hk).1)
        refine hK.out _ _ (KEEP.out _ c) (fun hHeld => ?_)
        clear hK K
        try simp only [Act.put, List.getElem_toArray, List.getElem_cons_zero, List.getElem_cons_succ, List.setIfInBounds_toArray, List.set_cons_zero, List.set_cons_succ]
        clear hv2 hg2 c0
        refine wpAnyH_take (i := 6) (v := ?v6b27) rfl (by kernel_rfl) (by kernel_rfl) (by kernel_rfl) (fun _ _ _ h => h) (Or.inl ⟨by rfl, ?hy6b27⟩) (by assumption) ?_
        case hy6b27 => (intro w hSw; (try dsimp only at hSw); simp only [List.getElem_toArray, List.getElem_cons_zero, List.getElem_cons_succ]; go_simp; try with_reducible rfl)
        try simp only [Act.put, List.getElem_toArray, List.getElem_cons_zero, List.getElem_cons_succ, List.setIfInBounds_toArray, List.set_cons_zero, List.set_cons_succ]
        refine wpAnyH_take (i := 7) (v := ?v7b28) rfl (by kernel_rfl) (by kernel_rfl) (by kernel_rfl) (fun _ _ _ h => h) (Or.inl ⟨by rfl, ?hy7b28⟩) (by assumption) ?_
        case hy7b28 => (intro w hSw; (try dsimp only at hSw); simp only [List.getElem_toArray, List.getElem_cons_zero, List.getElem_cons_succ]; go_simp; try with_reducible rfl)
        try simp only [Act.put, List.getElem_toArray, List.getElem_cons_zero, List.getElem_cons_succ, List.setIfInBounds_toArray, List.set_cons_zero, List.set_cons_succ]
        refine wpAnyH_ready (rs := [8]) (by kernel_rfl) (by simp) ?_
        refine AllReadyH.cons (i := 8) rfl (fun K hK => ?_) AllReadyH.nil
        rw [if_pos (by rfl)]
        simp only [List.getElem_toArray, List.getElem_cons_zero, List.getElem_cons_succ]
        go_simp
        have BX3 : Hid (Bx (y2.alloc (.cells #[.int .i64 0, .slice none 0 0, .slice none 0 0, .slice none 0 0, .slice none 0 0, .slice none 0 0] 65)) y2.heap.size 65 [.int .i64 0, .slice none 0 0, .slice none 0 0, .slice none 0 0, .slice none 0 0, .slice none 0 0]) := by have h := Bx.new y2 65 [.int .i64 0, .slice none 0 0, .slice none 0 0, .slice none 0 0, .slice none 0 0, .slice none 0 0]; rw [show y2.heap.size = y2.heap.size by simp] at h; exact h
        have zq : w1.heap.size ≤ y2.heap.size := by have h := c.size; rw [show y2.heap.size = y2.heap.size by simp] at h; exact h
        have c : Below w1.heap.size w1 (y2.alloc (.cells #[.int .i64 0, .slice none 0 0, .slice none 0 0, .slice none 0 0, .slice none 0 0, .slice none 0 0] 65)) := c.alloc c.size _
        have O2 : Hid (OwnI (y2.alloc (.cells #[.int .i64 0, .slice none 0 0, .slice none 0 0, .slice none 0 0, .slice none 0 0, .slice none 0 0] 65)) w1.heap.size (.slice uq.a uq.n uq.c) ms) := O2.out.alloc _
        refine hK.out _ _ (KEEP.out _ c) (fun hHeld => ?_)
        clear hK K
        try simp only [Act.put, List.getElem_toArray, List.getElem_cons_zero, List.getElem_cons_succ, List.setIfInBounds_toArray, List.set_cons_zero, List.set_cons_succ]
        refine wpAnyH_ready (rs := [9]) (by kernel_rfl) (by simp) ?_
        refine AllReadyH.cons (i := 9) rfl (fun K hK => ?_) AllReadyH.nil
        rw [if_pos (by rfl)]
        simp only [List.getElem_toArray, List.getElem_cons_zero, List.getElem_cons_succ]
        refine wp_stB 65 _ _ rfl (y2.heap.size) 0 (by rfl) 65 _ BX3.out [.int .i64 i, .slice uq.a uq.n uq.c, .slice none 0 0, .slice none 0 0, .slice none 0 0, .slice none 0 0] (by rfl) (by simp) Try.sizeWk rfl [.int .i64 i, .slice uq.a uq.n uq.c, .slice none 0 0, .slice none 0 0, .slice none 0 0, .slice none 0 0] rfl ?_
        intro y4 RB4 TB4
        have O4 := O2.out.past BX3.out TB4 (by decide)
        have c : Below w1.heap.size w1 y4 := c.trans (TB4.below zq)
        refine hK.out _ _ (KEEP.out _ c) (fun hHeld => ?_)
        clear hK K
        try simp only [Act.put, List.getElem_toArray, List.getElem_cons_zero, List.getElem_cons_succ, List.setIfInBounds_toArray, List.set_cons_zero, List.set_cons_succ]
        refine wpAnyH_done (by kernel_rfl) ?_ _
        try go_wp2_with fail
        go_meet
        exact ⟨_, uq, rfl, RB4, O4, zq, c⟩
      · skip
        rw [if_pos (by rfl)]
        simp only [List.getElem_toArray, List.getElem_cons_zero, List.getElem_cons_succ]
        go_simp
        have BX2 : Hid (Bx ((w1.drew.alloc (.cells #[] 3)).alloc (.cells #[.int .i64 0, .slice none 0 0, .slice none 0 0, .slice none 0 0, .slice none 0 0, .slice none 0 0] 65)) (w1.heap.size + 1) 65 [.int .i64 0, .slice none 0 0, .slice none 0 0, .slice none 0 0, .slice none 0 0, .slice none 0 0]) := by have h := Bx.new (w1.drew.alloc (.cells #[] 3)) 65 [.int .i64 0, .slice none 0 0, .slice none 0 0, .slice none 0 0, .slice none 0 0, .slice none 0 0]; rw [show (w1.drew.alloc (.cells #[] 3)).heap.size = (w1.heap.size + 1) by simp] at h; exact h
        have zq : w1.heap.size ≤ (w1.heap.size + 1) := by have h := c.size; rw [show (w1.drew.alloc (.cells #[] 3)).heap.size = (w1.heap.size + 1) by simp] at h; exact h
        have c : Below w1.heap.size w1 ((w1.drew.alloc (.cells #[] 3)).alloc (.cells #[.int .i64 0, .slice none 0 0, .slice none 0 0, .slice none 0 0, .slice none 0 0, .slice none 0 0] 65)) := c.alloc c.size _
        have OS1 : Hid (OwnI ((w1.drew.alloc (.cells #[] 3)).alloc (.cells #[.int .i64 0, .slice none 0 0, .slice none 0 0, .slice none 0 0, .slice none 0 0, .slice none 0 0] 65)) w1.heap.size (.slice (some ⟨w1.heap.size, 0, none⟩) 0 0) []) := OS1.out.alloc _
        refine hK.out _ _ (KEEP.out _ c) (fun hHeld => ?_)
        clear hK K
        try simp only [Act.put, List.getElem_toArray, List.getElem_cons_zero, List.getElem_cons_succ, List.setIfInBounds_toArray, List.set_cons_zero, List.set_cons_succ]
        refine wpAnyH_ready (rs := [5]) (by kernel_rfl) (by simp) ?_
        refine AllReadyH.cons (i := 5) rfl (fun K hK => ?_) AllReadyH.nil
        rw [if_pos (by rfl)]
        simp only [List.getElem_toArray, List.getElem_cons_zero, List.getElem_cons_succ]
        refine wp_catR _ _ 24 rfl Try.underlying24 Try.info3' w1.heap.size (.slice (some ⟨w1.heap.size, 0, none⟩) 0 0) [] (by rfl) OS1.out (.slice (some ⟨sb, so, none⟩) n sc) ms (by rfl) (X1.out.stays c) (by simp; omega) c.size (fun h => by cases h) ?_
        intro v3 y3 hv3 hg3
        obtain ⟨uq, hf3⟩ := hv3.sv
        subst hf3
        have O3 : Hid (OwnI y3 w1.heap.size (.slice uq.a uq.n uq.c) ms) := hv3
        have c0 := c
        have c : Below w1.heap.size w1 y3 := c.grown hg3 c.size (fun k hk => (OS1.out.lt k hk).1)
        have BX2 : Hid (Bx y3 (w1.heap.size + 1) 65 [.int .i64 0, .slice none 0 0, .slice none 0 0, .slice none 0 0, .slice none 0 0, .slice none 0 0]) := BX2.out.grown hg3 (fun e => bx_i_ne OS1.out BX2.out (by decide) e.symm)
        refine hK.out _ _ (KEEP.out _ c) (fun hHeld => ?_)
        clear hK K
        try simp only [Act.put, List.getElem_toArray, List.getElem_cons_zero, List.getElem_cons_succ, List.setIfInBounds_toArray, List.set_cons_zero, List.set_cons_succ]
        clear hv3 hg3 c0
        refine wpAnyH_take (i := 6) (v := ?v6b29) rfl (by kernel_rfl) (by kernel_rfl) (by kernel_rfl) (fun _ _ _ h => h) (Or.inl ⟨by rfl, ?hy6b29⟩) (by assumption) ?_
        case hy6b29 => (intro w hSw; (try dsimp only at hSw); simp only [List.getElem_toArray, List.getElem_cons_zero, List.getElem_cons_succ]; go_simp; try with_reducible rfl)
        try simp only [Act.put, List.getElem_toArray, List.getElem_cons_zero, List.getElem_cons_succ, List.setIfInBounds_toArray, List.set_cons_zero, List.set_cons_succ]
        refine wpAnyH_take (i := 7) (v := ?v7b30) rfl (by kernel_rfl) (by kernel_rfl) (by kernel_rfl) (fun _ _ _ h => h) (Or.inl ⟨by rfl, ?hy7b30⟩) (by assumption) ?_
        case hy7b30 => (intro w hSw; (try dsimp only at hSw); simp only [List.getElem_toArray, List.getElem_cons_zero, List.getElem_cons_succ]; go_simp; try with_reducible rfl)
        try simp only [Act.put, List.getElem_toArray, List.getElem_cons_zero, List.getElem_cons_succ, List.setIfInBounds_toArray, List.set_cons_zero, List.set_cons_succ]
        refine wpAnyH_ready (rs := [9]) (by kernel_rfl) (by simp) ?_
        refine AllReadyH.cons (i := 9) rfl (fun K hK => ?_) AllReadyH.nil
        rw [if_pos (by rfl)]
        simp only [List.getElem_toArray, List.getElem_cons_zero, List.getElem_cons_succ]
        refine wp_stB 65 _ _ rfl ((w1.heap.size + 1)) 0 (by rfl) 65 _ BX2.out [.int .i64 i, .slice uq.a uq.n uq.c, .slice none 0 0, .slice none 0 0, .slice none 0 0, .slice none 0 0] (by rfl) (by simp) Try.sizeWk rfl [.int .i64 i, .slice uq.a uq.n uq.c, .slice none 0 0, .slice none 0 0, .slice none 0 0, .slice none 0 0] rfl ?_
        intro y4 RB4 TB4
        have O4 := O3.out.past BX2.out TB4 (by decide)
        have c : Below w1.heap.size w1 y4 := c.trans (TB4.below zq)
        refine hK.out _ _ (KEEP.out _ c) (fun hHeld => ?_)
        clear hK K
        try simp only [Act.put, List.getElem_toArray, List.getElem_cons_zero, List.getElem_cons_succ, List.setIfInBounds_toArray, List.set_cons_zero, List.set_cons_succ]
        refine wpAnyH_done (by kernel_rfl) ?_ _
        try go_wp2_with fail
        go_meet
        exact ⟨_, uq, rfl, RB4, O4, zq, c⟩
    · skip
      rw [if_pos (by rfl)]
      simp only [List.getElem_toArray, List.getElem_cons_zero, List.getElem_cons_succ]
      go_simp
      have BX1 : Hid (Bx (w1.drew.alloc (.cells #[.int .i64 0, .slice none 0 0, .slice none 0 0, .slice none 0 0, .slice none 0 0, .slice none 0 0] 65)) w1.heap.size 65 [.int .i64 0, .slice none 0 0, .slice none 0 0, .slice none 0 0, .slice none 0 0, .slice none 0 0]) := by have h := Bx.new w1.drew 65 [.int .i64 0, .slice none 0 0, .slice none 0 0, .slice none 0 0, .slice none 0 0, .slice none 0 0]; rw [show w1.drew.heap.size = w1.heap.size by simp] at h; exact h
      have zq : w1.heap.size ≤ w1.heap.size := by have h := c.size; rw [show w1.drew.heap.size = w1.heap.size by simp] at h; exact h
      have c : Below w1.heap.size w1 (w1.drew.alloc (.cells #[.int .i64 0, .slice none 0 0, .slice none 0 0, .slice none 0 0, .slice none 0 0, .slice none 0 0] 65)) := c.alloc c.size _
      refine hK.out _ _ (KEEP.out _ c) (fun hHeld => ?_)
      clear hK K
      try simp only [Act.put, List.getElem_toArray, List.getElem_cons_zero, List.getElem_cons_succ, List.setIfInBounds_toArray, List.set_cons_zero, List.set_cons_succ]
      refine wpAnyH_ready (rs := [2]) (by kernel_rfl) (by simp) ?_
      refine AllReadyH.cons (i := 2) rfl (fun K hK => ?_) AllReadyH.nil
      rw [if_pos (by rfl)]
      simp only [List.getElem_toArray, List.getElem_cons_zero, List.getElem_cons_succ]
      go_simp
      have OS2 : Hid (OwnI ((w1.drew.alloc (.cells #[.int .i64 0, .slice none 0 0, .slice none 0 0, .slice none 0 0, .slice none 0 0, .slice none 0 0] 65)).alloc (.cells #[] 3)) w1.heap.size (.slice (some ⟨(w1.heap.size + 1), 0, none⟩) 0 0) []) := by have h := OwnI.made (w1.drew.alloc (.cells #[.int .i64 0, .slice none 0 0, .slice none 0 0, .slice none 0 0, .slice none 0 0, .slice none 0 0] 65)) w1.heap.size c.size; rw [show (w1.drew.alloc (.cells #[.int .i64 0, .slice none 0 0, .slice none 0 0, .slice none 0 0, .slice none 0 0, .slice none 0 0] 65)).heap.size = (w1.heap.size + 1) by simp] at h; exact h
      have c : Below w1.heap.size w1 ((w1.drew.alloc (.cells #[.int .i64 0, .slice none 0 0, .slice none 0 0, .slice none 0 0, .slice none 0 0, .slice none 0 0] 65)).alloc (.cells #[] 3)) := c.alloc c.size _
      have BX1 : Hid (Bx ((w1.drew.alloc (.cells #[.int .i64 0, .slice none 0 0, .slice none 0 0, .slice none 0 0, .slice none 0 0, .slice none 0 0] 65)).alloc (.cells #[] 3)) w1.heap.size 65 [.int .i64 0, .slice none 0 0, .slice none 0 0, .slice none 0 0, .slice none 0 0, .slice none 0 0]) := BX1.out.later ((Below.refl _ _).alloc (Nat.le_refl _) _)
      refine hK.out _ _ (KEEP.out _ c) (fun hHeld => ?_)
      clear hK K
      try simp only [Act.put, List.getElem_toArray, List.getElem_cons_zero, List.getElem_cons_succ, List.setIfInBounds_toArray, List.set_cons_zero, List.set_cons_succ]
      refine wpAnyH_ready (rs := [5]) (by kernel_rfl) (by simp) ?_
      refine AllReadyH.cons (i := 5) rfl (fun K hK => ?_) AllReadyH.nil
      rw [if_pos (by rfl)]
      simp only [List.getElem_toArray, List.getElem_cons_zero, List.getElem_cons_succ]
      refine wp_catR _ _ 24 rfl Try.underlying24 Try.info3' w1.heap.size (.slice (some ⟨(w1.heap.size + 1), 0, none⟩) 0 0) [] (by rfl) OS2.out (.slice (some ⟨sb, so, none⟩) n sc) ms (by rfl) (X1.out.stays c) (by simp; omega) c.size (fun h => by cases h) ?_
      intro v3 y3 hv3 hg3
      obtain ⟨uq, hf3⟩ := hv3.sv
      subst hf3
      have O3 : Hid (OwnI y3 w1.heap.size (.slice uq.a uq.n uq.c) ms) := hv3
      have c0 := c
      have c : Below w1.heap.size w1 y3 := c.grown hg3 c.size (fun k hk => (OS2.out.lt k hk).1)
      have BX1 : Hid (Bx y3 w1.heap.size 65 [.int .i64 0, .slice none 0 0, .slice none 0 0, .slice none 0 0, .slice none 0 0, .slice none 0 0]) := BX1.out.grown hg3 (fun e => bx_i_ne OS2.out BX1.out (by decide) e.symm)
      refine hK.out _ _ (KEEP.out _ c) (fun hHeld => ?_)
      clear hK K
      try simp only [Act.put, List.getElem_toArray, List.getElem_cons_zero, List.getElem_cons_succ, List.setIfInBounds_toArray, List.set_cons_zero, List.set_cons_succ]
      clear hv3 hg3 c0
      refine wpAnyH_take (i := 6) (v := ?v6b31) rfl (by kernel_rfl) (by kernel_rfl) (by kernel_rfl) (fun _ _ _ h => h) (Or.inl ⟨by rfl, ?hy6b31⟩) (by assumption) ?_
      case hy6b31 => (intro w hSw; (try dsimp only at hSw); simp only [List.getElem_toArray, List.getElem_cons_zero, List.getElem_cons_succ]; go_simp; try with_reducible rfl)
      try simp only [Act.put, List.getElem_toArray, List.getElem_cons_zero, List.getElem_cons_succ, List.setIfInBounds_toArray, List.set_cons_zero, List.set_cons_succ]
      refine wpAnyH_take (i := 7) (v := ?v7b32) rfl (by kernel_rfl) (by kernel_rfl) (by kernel_rfl) (fun _ _ _ h => h) (Or.inl ⟨by rfl, ?hy7b32⟩) (by assumption) ?_
      case hy7b32 => (intro w hSw; (try dsimp only at hSw); simp only [List.getElem_toArray, List.getElem_cons_zero, List.getElem_cons_succ]; go_simp; try with_reducible rfl)
      try simp only [Act.put, List.getElem_toArray, List.getElem_cons_zero, List.getElem_cons_succ, List.setIfInBounds_toArray, List.set_cons_zero, List.set_cons_succ]
      refine wpAnyH_ready (rs := [9]) (by kernel_rfl) (by simp) ?_
      refine AllReadyH.cons (i := 9) rfl (fun K hK => ?_) AllReadyH.nil
      rw [if_pos (by rfl)]
      simp only [List.getElem_toArray, List.getElem_cons_zero, List.getElem_cons_succ]
      refine wp_stB 65 _ _ rfl (w1.heap.size) 0 (by rfl) 65 _ BX1.out [.int .i64 i, .slice uq.a uq.n uq.c, .slice none 0 0, .slice none 0 0, .slice none 0 0, .slice none 0 0] (by rfl) (by simp) Try.sizeWk rfl [.int .i64 i, .slice uq.a uq.n uq.c, .slice none 0 0, .slice none 0 0, .slice none 0 0, .slice none 0 0] rfl ?_
      intro y4 RB4 TB4
      have O4 := O3.out.past BX1.out TB4 (by decide)
      have c : Below w1.heap.size w1 y4 := c.trans (TB4.below zq)
      refine hK.out _ _ (KEEP.out _ c) (fun hHeld => ?_)
      clear hK K
      try simp only [Act.put, List.getElem_toArray, List.getElem_cons_zero, List.getElem_cons_succ, List.setIfInBounds_toArray, List.set_cons_zero, List.set_cons_succ]
      refine wpAnyH_done (by kernel_rfl) ?_ _
      try go_wp2_with fail
      go_meet
      exact ⟨_, uq, rfl, RB4, O4, zq, c⟩
  case rest =>
  obtain ⟨gq, uq, rfl, hbx, hoq, zgq, b2⟩ := hcut
  generalize wc = W3 at *
  have GB3 : Hid (Bx W3 gq 65 [.int .i64 i, .slice uq.a uq.n uq.c, .slice none 0 0, .slice none 0 0, .slice none 0 0, .slice none 0 0]) := hbx
  have O3 : Hid (OwnI W3 w1.heap.size uq.v ms) := hoq
  have B3 : Hid (Below w1.heap.size w1 W3) := b2
  have ZGQ : Hid (w1.heap.size ≤ gq) := zgq
  clear hbx hoq b2 zgq
  have hr5 : Hid (Bx W3 w.heap.size 26 [.int .i64 i, .slice (some ⟨sb, so, none⟩) n sc]) := A1.out.later B3.out
  have r51 := hr5.out.cell 1
  go_wp2_with fail
  go_loopw [5] (fun v5 wr => ∃ (k : Nat) (mav hev : Sv) (ma : List (Mt × Mv)) (he : List (List It × Sv)), k ≤ n ∧ v5 = .int .i64 k ∧ Hid (Bx wr gq 65 [.int .i64 i, .slice uq.a uq.n uq.c, .slice mav.a mav.n mav.c, .slice none 0 0, .slice hev.a hev.n hev.c, .slice none 0 0]) ∧ Hid (OwnI wr w1.heap.size uq.v ms) ∧ Hid (MsP wr w1.heap.size mav.v ma) ∧ Hid (HsP wr w1.heap.size hev.v he) ∧ Hid (newW i ms k ma he) ∧ Hid (Below w1.heap.size w1 wr)) (fun v5 _ => n - (intOf v5).toNat)
  case atStart => exact ⟨0, zSv, zSv, [], [], by omega, rfl, GB3, O3, ⟨SlN.nil _ _ _ _, fun e he => by cases he⟩, ⟨SlN.nil _ _ _ _, fun e he => by cases he⟩, ⟨rfl, rfl⟩, B3⟩
  case round =>
    clear GB3 O3 B3 hr5 r51
    obtain ⟨k, mav, hev, ma, he, hk, rfl, GB, OQ, MA, HE, NW, BL⟩ := hrel
    have hr5 : Hid (Bx wr w.heap.size 26 [.int .i64 i, .slice (some ⟨sb, so, none⟩) n sc]) := A1.out.later BL.out
    have r51 := hr5.out.cell 1
    by_cases hlt : k < n
    · have hkm : k < ms.length := by rw [← hn.out]; exact hlt
      obtain ⟨hsb, hcl⟩ := (I1.out.stays BL.out).at k hkm
      have X7 : Hid (RI wr (.slice (some ⟨sb, so, none⟩) n sc) ms) := X1.out.stays BL.out
      have hin : Hid (inB ms ms[k] = true) := (inB_mem (List.getElem_mem hkm) : inB ms ms[k] = true)
      obtain ⟨d, hd⟩ : ∃ d, d = ms[k] := ⟨_, rfl⟩
      rw [← hd] at hcl hin
      have HD : Hid (d = ms[k]) := hd
      have i0 : (0 : Int) ≤ (k : Int) := by omega
      have i1 : (k : Int) < (n : Int) := by omega
      clear hd
      go_wp2_with fail
      go_cut [6, 7] (fun u6 u7 wx => ∃ (gm : Nat) (um : Sv), u6 = .pointer (some ⟨gm, 0, none⟩) ∧ u7 = .bool true ∧ Bx wx gm 32 [.int .i64 d, .int .i64 i, .slice um.a um.n um.c, .slice none 0 0, .slice none 0 0, .slice none 0 0, .int .i64 0, .int .i64 0, .int .i64 0, .int .i64 0, .int .i64 0, .int .i64 0, .int .i64 0, .int .i64 0, .int .i64 0, .slice none 0 0] ∧ OwnI wx wr.heap.size um.v ms ∧ wr.heap.size ≤ gm ∧ Below wr.heap.size wr wx)
      case first =>
        have KEEP : Hid (∀ w', Below wr.heap.size wr w' → (w'.cell? ⟨w.heap.size, 1, none⟩ = some (.slice (some ⟨sb, so, none⟩) n sc) ∧ w'.cell? ⟨sb, so + k, none⟩ = some (.int .i64 d)) ∧ Hid (Below wr.heap.size wr w')) := fun w' hb => ⟨⟨(hr5.out.later hb).cell 1, (hb.cell (p := ⟨sb, so + k, none⟩) hsb).trans hcl⟩, hb⟩
        have c : Below wr.heap.size wr wr.drew := (Below.refl _ _).drew
        refine wp_region_held_drew (S := fun w' => (w'.cell? ⟨w.heap.size, 1, none⟩ = some (.slice (some ⟨sb, so, none⟩) n sc) ∧ w'.cell? ⟨sb, so + k, none⟩ = some (.int .i64 d)) ∧ Hid (Below wr.heap.size wr w')) (by kernel_rfl) (KEEP.out _ c) (fun hHeld => ?_)
        refine wpAnyH_take (i := 0) (v := ?v0b9) rfl (by kernel_rfl) (by kernel_rfl) (by kernel_rfl) (fun _ _ _ h => h) (Or.inl ⟨by rfl, ?hy0b9⟩) (by assumption) ?_
        case hy0b9 => (intro w hSw; (try dsimp only at hSw); simp only [List.getElem_toArray, List.getElem_cons_zero, List.getElem_cons_succ]; go_simp; try with_reducible rfl)
        try simp only [Act.put, List.getElem_toArray, List.getElem_cons_zero, List.getElem_cons_succ, List.setIfInBounds_toArray, List.set_cons_zero, List.set_cons_succ]
        refine wpAnyH_take (i := 1) (v := ?v1b10) rfl (by kernel_rfl) (by kernel_rfl) (by kernel_rfl) (fun _ _ _ h => h) (Or.inl ⟨by rfl, ?hy1b10⟩) (by assumption) ?_
        case hy1b10 => (intro w hSw; (try dsimp only at hSw); simp only [List.getElem_toArray, List.getElem_cons_zero, List.getElem_cons_succ]; go_simp; try with_reducible rfl)
        try simp only [Act.put, List.getElem_toArray, List.getElem_cons_zero, List.getElem_cons_succ, List.setIfInBounds_toArray, List.set_cons_zero, List.set_cons_succ]
        refine wpAnyH_take (i := 2) (v := ?v2b11) rfl (by kernel_rfl) (by kernel_rfl) (by kernel_rfl) (fun _ _ _ h => h) (Or.inl ⟨by rfl, ?hy2b11⟩) (by assumption) ?_
        case hy2b11 => (intro w hSw; (try dsimp only at hSw); simp only [List.getElem_toArray, List.getElem_cons_zero, List.getElem_cons_succ]; go_simp; try with_reducible rfl)
        try simp only [Act.put, List.getElem_toArray, List.getElem_cons_zero, List.getElem_cons_succ, List.setIfInBounds_toArray, List.set_cons_zero, List.set_cons_succ]
        refine wpAnyH_take (i := 3) (v := ?v3b12) rfl (by kernel_rfl) (by kernel_rfl) (by kernel_rfl) (fun _ _ _ h => h) (Or.inl ⟨by rfl, ?hy3b12⟩) (by assumption) ?_
        case hy3b12 => (intro w hSw; (try dsimp only at hSw); simp only [List.getElem_toArray, List.getElem_cons_zero, List.getElem_cons_succ]; go_simp; try with_reducible rfl)
        try simp only [Act.put, List.getElem_toArray, List.getElem_cons_zero, List.getElem_cons_succ, List.setIfInBounds_toArray, List.set_cons_zero, List.set_cons_succ]
        refine wpAnyH_take (i := 4) (v := ?v4b13) rfl (by kernel_rfl) (by kernel_rfl) (by kernel_rfl) (fun _ _ _ h => h) (Or.inl ⟨by rfl, ?hy4b13⟩) (by assumption) ?_
        case hy4b13 => (intro w hSw; (try dsimp only at hSw); simp only [List.getElem_toArray, List.getElem_cons_zero, List.getElem_cons_succ]; go_simp; try with_reducible rfl)
        try simp only [Act.put, List.getElem_toArray, List.getElem_cons_zero, List.getElem_cons_succ, List.setIfInBounds_toArray, List.set_cons_zero, List.set_cons_succ]
        refine wpAnyH_take (i := 5) (v := _) rfl (by kernel_rfl) (by kernel_rfl) (by kernel_rfl) (fun _ _ _ h => h) (ld_yield (by rfl) 26 _ rfl w.heap.size 0 rfl 26 _ (fun w hS => hr5.out.later hS.2.out) [.int .i64 i, .slice (some ⟨sb, so, none⟩) n sc] rfl _ Try.underlying26 rfl Try.sizeR) (by assumption) ?_
        try simp only [Act.put, List.getElem_toArray, List.getElem_cons_zero, List.getElem_cons_succ, List.setIfInBounds_toArray, List.set_cons_zero, List.set_cons_succ]
        refine wpAnyH_ready (rs := [6, 10]) (by kernel_rfl) (by simp) ?_
        refine (AllReadyH.cons (i := 6) rfl (fun K hK => ?_) (AllReadyH.cons (i := 10) rfl (fun K hK => ?_) AllReadyH.nil))
        · skip
          rw [if_pos (by rfl)]
          simp only [List.getElem_toArray, List.getElem_cons_zero, List.getElem_cons_succ]
          go_simp
          refine (spMateNew_yes d i ⟨some ⟨sb, so, none⟩, n, sc⟩ ms _ (show Hid (RI wr.drew (.slice (some ⟨sb, so, none⟩) n sc) ms) from X7.out.stays c) hl' hr hin).mono ?_
          rintro e y1 ⟨um, rfl, om1, b⟩
          have zc : wr.heap.size ≤ wr.drew.heap.size := c.size
          have O1 : Hid (OwnI y1 wr.heap.size (.slice um.a um.n um.c) ms) := om1.down zc
          have c : Below wr.heap.size wr y1 := bl_next c b
          refine hK.out _ _ (KEEP.out _ c) (fun hHeld => ?_)
          clear hK K
          try simp only [Act.put, List.getElem_toArray, List.getElem_cons_zero, List.getElem_cons_succ, List.setIfInBounds_toArray, List.set_cons_zero, List.set_cons_succ]
          clear b om1 zc
          refine wpAnyH_take (i := 7) (v := ?v7b15) rfl (by kernel_rfl) (by kernel_rfl) (by kernel_rfl) (fun _ _ _ h => h) (Or.inl ⟨by rfl, ?hy7b15⟩) (by assumption) ?_
          case hy7b15 => (intro w hSw; (try dsimp only at hSw); simp only [List.getElem_toArray, List.getElem_cons_zero, List.getElem_cons_succ]; go_simp; try with_reducible rfl)
          try simp only [Act.put, List.getElem_toArray, List.getElem_cons_zero, List.getElem_cons_succ, List.setIfInBounds_toArray, List.set_cons_zero, List.set_cons_succ]
          refine wpAnyH_take (i := 8) (v := ?v8b16) rfl (by kernel_rfl) (by kernel_rfl) (by kernel_rfl) (fun _ _ _ h => h) (Or.inl ⟨by rfl, ?hy8b16⟩) (by assumption) ?_
          case hy8b16 => (intro w hSw; (try dsimp only at hSw); simp only [List.getElem_toArray, List.getElem_cons_zero, List.getElem_cons_succ]; go_simp; try with_reducible rfl)
          try simp only [Act.put, List.getElem_toArray, List.getElem_cons_zero, List.getElem_cons_succ, List.setIfInBounds_toArray, List.set_cons_zero, List.set_cons_succ]
          refine wpAnyH_take (i := 9) (v := ?v9b17) rfl (by kernel_rfl) (by kernel_rfl) (by kernel_rfl) (fun _ _ _ h => h) (Or.inl ⟨by rfl, ?hy9b17⟩) (by assumption) ?_
          case hy9b17 => (intro w hSw; (try dsimp only at hSw); simp only [List.getElem_toArray, List.getElem_cons_zero, List.getElem_cons_succ]; go_simp; try with_reducible rfl)
          try simp only [Act.put, List.getElem_toArray, List.getElem_cons_zero, List.getElem_cons_succ, List.setIfInBounds_toArray, List.set_cons_zero, List.set_cons_succ]
          refine wpAnyH_ready (rs := [10]) (by kernel_rfl) (by simp) ?_
          refine AllReadyH.cons (i := 10) rfl (fun K hK => ?_) AllReadyH.nil
          rw [if_pos (by rfl)]
          simp only [List.getElem_toArray, List.getElem_cons_zero, List.getElem_cons_succ]
          go_simp
          have BX2 : Hid (Bx (y1.alloc (.cells #[.int .i64 0, .int .i64 0, .slice none 0 0, .slice none 0 0, .slice none 0 0, .slice none 0 0, .int .i64 0, .int .i64 0, .int .i64 0, .int .i64 0, .int .i64 0, .int .i64 0, .int .i64 0, .int .i64 0, .int .i64 0, .slice none 0 0] 32)) y1.heap.size 32 [.int .i64 0, .int .i64 0, .slice none 0 0, .slice none 0 0, .slice none 0 0, .slice none 0 0, .int .i64 0, .int .i64 0, .int .i64 0, .int .i64 0, .int .i64 0, .int .i64 0, .int .i64 0, .int .i64 0, .int .i64 0, .slice none 0 0]) := by have h := Bx.new y1 32 [.int .i64 0, .int .i64 0, .slice none 0 0, .slice none 0 0, .slice none 0 0, .slice none 0 0, .int .i64 0, .int .i64 0, .int .i64 0, .int .i64 0, .int .i64 0, .int .i64 0, .int .i64 0, .int .i64 0, .int .i64 0, .slice none 0 0]; rw [show y1.heap.size = y1.heap.size by simp] at h; exact h
          have zq : wr.heap.size ≤ y1.heap.size := by have h := c.size; rw [show y1.heap.size = y1.heap.size by simp] at h; exact h
          have c : Below wr.heap.size wr (y1.alloc (.cells #[.int .i64 0, .int .i64 0, .slice none 0 0, .slice none 0 0, .slice none 0 0, .slice none 0 0, .int .i64 0, .int .i64 0, .int .i64 0, .int .i64 0, .int .i64 0, .int .i64 0, .int .i64 0, .int .i64 0, .int .i64 0, .slice none 0 0] 32)) := c.alloc c.size _
          have O1 : Hid (OwnI (y1.alloc (.cells #[.int .i64 0, .int .i64 0, .slice none 0 0, .slice none 0 0, .slice none 0 0, .slice none 0 0, .int .i64 0, .int .i64 0, .int .i64 0, .int .i64 0, .int .i64 0, .int .i64 0, .int .i64 0, .int .i64 0, .int .i64 0, .slice none 0 0] 32)) wr.heap.size (.slice um.a um.n um.c) ms) := O1.out.alloc _
          refine hK.out _ _ (KEEP.out _ c) (fun hHeld => ?_)
          clear hK K
          try simp only [Act.put, List.getElem_toArray, List.getElem_cons_zero, List.getElem_cons_succ, List.setIfInBounds_toArray, List.set_cons_zero, List.set_cons_succ]
          refine wpAnyH_ready (rs := [11]) (by kernel_rfl) (by simp) ?_
          refine AllReadyH.cons (i := 11) rfl (fun K hK => ?_) AllReadyH.nil
          rw [if_pos (by rfl)]
          simp only [List.getElem_toArray, List.getElem_cons_zero, List.getElem_cons_succ]
          refine wp_stB 32 _ _ rfl (y1.heap.size) 0 (by rfl) 32 _ BX2.out [.int .i64 d, .int .i64 i, .slice um.a um.n um.c, .slice none 0 0, .slice none 0 0, .slice none 0 0, .int .i64 0, .int .i64 0, .int .i64 0, .int .i64 0, .int .i64 0, .int .i64 0, .int .i64 0, .int .i64 0, .int .i64 0, .slice none 0 0] (by rfl) (by simp) Try.sizeM rfl [.int .i64 d, .int .i64 i, .slice um.a um.n um.c, .slice none 0 0, .slice none 0 0, .slice none 0 0, .int .i64 0, .int .i64 0, .int .i64 0, .int .i64 0, .int .i64 0, .int .i64 0, .int .i64 0, .int .i64 0, .int .i64 0, .slice none 0 0] rfl ?_
          intro y3 RB3 TB3
          have O3 := O1.out.past BX2.out TB3 (by decide)
          have c : Below wr.heap.size wr y3 := c.trans (TB3.below zq)
          refine hK.out _ _ (KEEP.out _ c) (fun hHeld => ?_)
          clear hK K
          try simp only [Act.put, List.getElem_toArray, List.getElem_cons_zero, List.getElem_cons_succ, List.setIfInBounds_toArray, List.set_cons_zero, List.set_cons_succ]
          refine wpAnyH_take (i := 12) (v := ?v12b18) rfl (by kernel_rfl) (by kernel_rfl) (by kernel_rfl) (fun _ _ _ h => h) (Or.inl ⟨by rfl, ?hy12b18⟩) (by assumption) ?_
          case hy12b18 => (intro w hSw; (try dsimp only at hSw); simp only [List.getElem_toArray, List.getElem_cons_zero, List.getElem_cons_succ]; go_simp; try with_reducible rfl)
          try simp only [Act.put, List.getElem_toArray, List.getElem_cons_zero, List.getElem_cons_succ, List.setIfInBounds_toArray, List.set_cons_zero, List.set_cons_succ]
          refine wpAnyH_done (by kernel_rfl) ?_ _
          try go_wp2_with fail
          go_meet
          exact ⟨_, um, rfl, rfl, RB3, O3, zq, c⟩
        · skip
          rw [if_pos (by rfl)]
          simp only [List.getElem_toArray, List.getElem_cons_zero, List.getElem_cons_succ]
          go_simp
          have BX1 : Hid (Bx (wr.drew.alloc (.cells #[.int .i64 0, .int .i64 0, .slice none 0 0, .slice none 0 0, .slice none 0 0, .slice none 0 0, .int .i64 0, .int .i64 0, .int .i64 0, .int .i64 0, .int .i64 0, .int .i64 0, .int .i64 0, .int .i64 0, .int .i64 0, .slice none 0 0] 32)) wr.heap.size 32 [.int .i64 0, .int .i64 0, .slice none 0 0, .slice none 0 0, .slice none 0 0, .slice none 0 0, .int .i64 0, .int .i64 0, .int .i64 0, .int .i64 0, .int .i64 0, .int .i64 0, .int .i64 0, .int .i64 0, .int .i64 0, .slice none 0 0]) := by have h := Bx.new wr.drew 32 [.int .i64 0, .int .i64 0, .slice none 0 0, .slice none 0 0, .slice none 0 0, .slice none 0 0, .int .i64 0, .int .i64 0, .int .i64 0, .int .i64 0, .int .i64 0, .int .i64 0, .int .i64 0, .int .i64 0, .int .i64 0, .slice none 0 0]; rw [show wr.drew.heap.size = wr.heap.size by simp] at h; exact h
          have zq : wr.heap.size ≤ wr.heap.size := by have h := c.size; rw [show wr.drew.heap.size = wr.heap.size by simp] at h; exact h
          have c : Below wr.heap.size wr (wr.drew.alloc (.cells #[.int .i64 0, .int .i64 0, .slice none 0 0, .slice none 0 0, .slice none 0 0, .slice none 0 0, .int .i64 0, .int .i64 0, .int .i64 0, .int .i64 0, .int .i64 0, .int .i64 0, .int .i64 0, .int .i64 0, .int .i64 0, .slice none 0 0] 32)) := c.alloc c.size _
          refine hK.out _ _ (KEEP.out _ c) (fun hHeld => ?_)
          clear hK K
          try simp only [Act.put, List.getElem_toArray, List.getElem_cons_zero, List.getElem_cons_succ, List.setIfInBounds_toArray, List.set_cons_zero, List.set_cons_succ]
          refine wpAnyH_ready (rs := [6]) (by kernel_rfl) (by simp) ?_
          refine AllReadyH.cons (i := 6) rfl (fun K hK => ?_) AllReadyH.nil
          rw [if_pos (by rfl)]
          simp only [List.getElem_toArray, List.getElem_cons_zero, List.getElem_cons_succ]
          go_simp
          refine (spMateNew_yes d i ⟨some ⟨sb, so, none⟩, n, sc⟩ ms _ (show Hid (RI (wr.drew.alloc (.cells #[.int .i64 0, .int .i64 0, .slice none 0 0, .slice none 0 0, .slice none 0 0, .slice none 0 0, .int .i64 0, .int .i64 0, .int .i64 0, .int .i64 0, .int .i64 0, .int .i64 0, .int .i64 0, .int .i64 0, .int .i64 0, .slice none 0 0] 32)) (.slice (some ⟨sb, so, none⟩) n sc) ms) from X7.out.stays c) hl' hr hin).mono ?_
          rintro e y2 ⟨um, rfl, om2, b⟩
          have zc : wr.heap.size ≤ (wr.drew.alloc (.cells #[.int .i64 0, .int .i64 0, .slice none 0 0, .slice none 0 0, .slice none 0 0, .slice none 0 0, .int .i64 0, .int .i64 0, .int .i64 0, .int .i64 0, .int .i64 0, .int .i64 0, .int .i64 0, .int .i64 0, .int .i64 0, .slice none 0 0] 32)).heap.size := c.size
          have BX1 : Hid (Bx y2 wr.heap.size 32 [.int .i64 0, .int .i64 0, .slice none 0 0, .slice none 0 0, .slice none 0 0, .slice none 0 0, .int .i64 0, .int .i64 0, .int .i64 0, .int .i64 0, .int .i64 0, .int .i64 0, .int .i64 0, .int .i64 0, .int .i64 0, .slice none 0 0]) := BX1.out.later b
          have O2 : Hid (OwnI y2 wr.heap.size (.slice um.a um.n um.c) ms) := om2.down zc
          have c : Below wr.heap.size wr y2 := bl_next c b
          refine hK.out _ _ (KEEP.out _ c) (fun hHeld => ?_)
          clear hK K
          try simp only [Act.put, List.getElem_toArray, List.getElem_cons_zero, List.getElem_cons_succ, List.setIfInBounds_toArray, List.set_cons_zero, List.set_cons_succ]
          clear b om2 zc
          refine wpAnyH_take (i := 7) (v := ?v7b19) rfl (by kernel_rfl) (by kernel_rfl) (by kernel_rfl) (fun _ _ _ h => h) (Or.inl ⟨by rfl, ?hy7b19⟩) (by assumption) ?_
          case hy7b19 => (intro w hSw; (try dsimp only at hSw); simp only [List.getElem_toArray, List.getElem_cons_zero, List.getElem_cons_succ]; go_simp; try with_reducible rfl)
          try simp only [Act.put, List.getElem_toArray, List.getElem_cons_zero, List.getElem_cons_succ, List.setIfInBounds_toArray, List.set_cons_zero, List.set_cons_succ]
          refine wpAnyH_take (i := 8) (v := ?v8b20) rfl (by kernel_rfl) (by kernel_rfl) (by kernel_rfl) (fun _ _ _ h => h) (Or.inl ⟨by rfl, ?hy8b20⟩) (by assumption) ?_
          case hy8b20 => (intro w hSw; (try dsimp only at hSw); simp only [List.getElem_toArray, List.getElem_cons_zero, List.getElem_cons_succ]; go_simp; try with_reducible rfl)
          try simp only [Act.put, List.getElem_toArray, List.getElem_cons_zero, List.getElem_cons_succ, List.setIfInBounds_toArray, List.set_cons_zero, List.set_cons_succ]
          refine wpAnyH_take (i := 9) (v := ?v9b21) rfl (by kernel_rfl) (by kernel_rfl) (by kernel_rfl) (fun _ _ _ h => h) (Or.inl ⟨by rfl, ?hy9b21⟩) (by assumption) ?_
          case hy9b21 => (intro w hSw; (try dsimp only at hSw); simp only [List.getElem_toArray, List.getElem_cons_zero, List.getElem_cons_succ]; go_simp; try with_reducible rfl)
          try simp only [Act.put, List.getElem_toArray, List.getElem_cons_zero, List.getElem_cons_succ, List.setIfInBounds_toArray, List.set_cons_zero, List.set_cons_succ]
          refine wpAnyH_ready (rs := [11]) (by kernel_rfl) (by simp) ?_
          refine AllReadyH.cons (i := 11) rfl (fun K hK => ?_) AllReadyH.nil
          rw [if_pos (by rfl)]
          simp only [List.getElem_toArray, List.getElem_cons_zero, List.getElem_cons_succ]
          refine wp_stB 32 _ _ rfl (wr.heap.size) 0 (by rfl) 32 _ BX1.out [.int .i64 d, .int .i64 i, .slice um.a um.n um.c, .slice none 0 0, .slice none 0 0, .slice none 0 0, .int .i64 0, .int .i64 0, .int .i64 0, .int .i64 0, .int .i64 0, .int .i64 0, .int .i64 0, .int .i64 0, .int .i64 0, .slice none 0 0] (by rfl) (by simp) Try.sizeM rfl [.int .i64 d, .int .i64 i, .slice um.a um.n um.c, .slice none 0 0, .slice none 0 0, .slice none 0 0, .int .i64 0, .int .i64 0, .int .i64 0, .int .i64 0, .int .i64 0, .int .i64 0, .int .i64 0, .int .i64 0, .int .i64 0, .slice none 0 0] rfl ?_
          intro y3 RB3 TB3
          have O3 := O2.out.past BX1.out TB3 (by decide)
          have c : Below wr.heap.size wr y3 := c.trans (TB3.below zq)
          refine hK.out _ _ (KEEP.out _ c) (fun hHeld => ?_)
          clear hK K
          try simp only [Act.put, List.getElem_toArray, List.getElem_cons_zero, List.getElem_cons_succ, List.setIfInBounds_toArray, List.set_cons_zero, List.set_cons_succ]
          refine wpAnyH_take (i := 12) (v := ?v12b22) rfl (by kernel_rfl) (by kernel_rfl) (by kernel_rfl) (fun _ _ _ h => h) (Or.inl ⟨by rfl, ?hy12b22⟩) (by assumption) ?_
          case hy12b22 => (intro w hSw; (try dsimp only at hSw); simp only [List.getElem_toArray, List.getElem_cons_zero, List.getElem_cons_succ]; go_simp; try with_reducible rfl)
          try simp only [Act.put, List.getElem_toArray, List.getElem_cons_zero, List.getElem_cons_succ, List.setIfInBounds_toArray, List.set_cons_zero, List.set_cons_succ]
          refine wpAnyH_done (by kernel_rfl) ?_ _
          try go_wp2_with fail
          go_meet
          exact ⟨_, um, rfl, rfl, RB3, O3, zq, c⟩
      case rest =>
      obtain ⟨gm, um, rfl, rfl, hbm, hom, zgm, b7⟩ := hcut
      generalize wc = W7 at *
      have GM : Hid (Bx W7 gm 32 [.int .i64 d, .int .i64 i, .slice um.a um.n um.c, .slice none 0 0, .slice none 0 0, .slice none 0 0, .int .i64 0, .int .i64 0, .int .i64 0, .int .i64 0, .int .i64 0, .int .i64 0, .int .i64 0, .int .i64 0, .int .i64 0, .slice none 0 0]) := hbm
      have OM : Hid (OwnI W7 0 um.v ms) := hom.down (Nat.zero_le _)
      have GB7 : Hid (Bx W7 gq 65 [.int .i64 i, .slice uq.a uq.n uq.c, .slice mav.a mav.n mav.c, .slice none 0 0, .slice hev.a hev.n hev.c, .slice none 0 0]) := GB.out.later b7
      have OQ7 : Hid (OwnI W7 w1.heap.size uq.v ms) := OQ.out.keep fun k _ hk => b7.block k hk
      have MA7 : Hid (MsP W7 w1.heap.size mav.v ma) := MA.out.below b7
      have HE7 : Hid (HsP W7 w1.heap.size hev.v he) := HE.out.below b7
      have BL7 : Hid (Below w1.heap.size w1 W7) := bl_next BL.out b7
      have zB : w1.heap.size ≤ W7.heap.size := BL7.out.size
      have hml : (ma.map mcel).length ≤ 1048576 := by rw [List.length_map, ← List.length_map (f := (·.1)), NW.out.1]; simp; omega
      have hhl : (he.map hcel).length ≤ 1048576 := by rw [List.length_map, ← List.length_map (f := (·.1)), NW.out.2]; simp; omega
      clear hbm hom b7 GB OQ MA HE BL hr5 r51 hcl X7 hin i0 i1 hsb
      have q2 := GB7.out.cell 2
      go_wp2_with (first | (refine wpList_ldG rfl 32 _ rfl gm 0 rfl 32 _ GM.out [.int .i64 d, .int .i64 i, .slice um.a um.n um.c, .slice none 0 0, .slice none 0 0, .slice none 0 0, .int .i64 0, .int .i64 0, .int .i64 0, .int .i64 0, .int .i64 0, .int .i64 0, .int .i64 0, .int .i64 0, .int .i64 0, .slice none 0 0] rfl _ Try.underlying32 rfl Try.sizeM ?_) | (at_builtin; refine Stp.here ?_))
      refine Stp.go ?_
      refine wpList_pushN rfl _ _ 61 rfl _ 208 Try.underlying61 Try.infoMt rfl (by decide) w1.heap.size (.slice mav.a mav.n mav.c) (ma.map mcel) rfl MA7.out.1 [.int .i64 d, .int .i64 i, .slice um.a um.n um.c, .slice none 0 0, .slice none 0 0, .slice none 0 0, .int .i64 0, .int .i64 0, .int .i64 0, .int .i64 0, .int .i64 0, .int .i64 0, .int .i64 0, .int .i64 0, .int .i64 0, .slice none 0 0] rfl rfl rfl hml zB ?_
      intro v8 w8 hs8 hg8 hb8 ho8
      obtain ⟨s8, hf8, hn8⟩ := hs8.form
      subst hf8
      have P8 : Hid (MsP w8 w1.heap.size s8.v (ma ++ [(newM d i ms, ⟨um, zSv, zSv, zSv, zSv⟩)])) := msP_push MA7.out hs8 hg8 OM.out rfl
      have GB8 : Hid (Bx w8 gq 65 [.int .i64 i, .slice uq.a uq.n uq.c, .slice mav.a mav.n mav.c, .slice none 0 0, .slice hev.a hev.n hev.c, .slice none 0 0]) := GB7.out.kt (KeepTy.ofPush (S := fun T => T = 32) MA7.out.1 hg8 rfl) (by decide)
      have OQ8 : Hid (OwnI w8 w1.heap.size uq.v ms) := OQ7.out.kt (KeepTy.ofPush (S := fun T => T = 32) MA7.out.1 hg8 rfl) (by decide)
      have HE8 : Hid (HsP w8 w1.heap.size hev.v he) := HE7.out.kt (KeepTy.ofPush (S := fun T => T = 32) MA7.out.1 hg8 rfl) (by decide) (by decide)
      have BL8 : Hid (Below w1.heap.size w1 w8) := BL7.out.trans hb8
      clear hs8 hg8 hb8 ho8 hn8 q2
      go_wp2_with (first | (refine wpList_st1 rfl 61 _ _ rfl gq 2 rfl 65 _ GB8.out (.slice s8.a s8.n s8.c) rfl (by simp) rfl Try.sizeMts [.int .i64 i, .slice uq.a uq.n uq.c, .slice s8.a s8.n s8.c, .slice none 0 0, .slice hev.a hev.n hev.c, .slice none 0 0] rfl ?_; intro w9 GB9 T9; have q4 := GB9.cell 4) | (refine wpList_haltB 63 1 _ rfl ?_))
      have K9 : Hid (KeepTy (fun T => T = 65) w8 w9) := KeepTy.ofTurn GB8.out T9 rfl
      have GB9 : Hid (Bx w9 gq 65 [.int .i64 i, .slice uq.a uq.n uq.c, .slice s8.a s8.n s8.c, .slice none 0 0, .slice hev.a hev.n hev.c, .slice none 0 0]) := GB9
      have P9 : Hid (MsP w9 w1.heap.size s8.v (ma ++ [(newM d i ms, ⟨um, zSv, zSv, zSv, zSv⟩)])) := P8.out.kt K9.out (by decide) (by decide) (by decide) (by decide)
      have OQ9 : Hid (OwnI w9 w1.heap.size uq.v ms) := OQ8.out.kt K9.out (by decide)
      have HE9 : Hid (HsP w9 w1.heap.size hev.v he) := HE8.out.kt K9.out (by decide) (by decide)
      have BL9 : Hid (Below w1.heap.size w1 w9) := BL8.out.trans (T9.below (by have := ZGQ.out; omega))
      clear P8 OQ8 HE8 BL8 T9 K9 GB8 GB7 OQ7 MA7 HE7 BL7 GM OM
      have b10 : Below w9.heap.size w9 (w9.alloc (.cells #[] 38)) := (Below.refl _ _).alloc (Nat.le_refl _) _
      have Z10 : Hid (SlI (w9.alloc (.cells #[] 38)) 0 (.slice (some ⟨w9.heap.size, 0, none⟩) 0 0) []) := SlI.made w9 0 (Nat.zero_le _)
      have GB10 : Hid (Bx (w9.alloc (.cells #[] 38)) gq 65 [.int .i64 i, .slice uq.a uq.n uq.c, .slice s8.a s8.n s8.c, .slice none 0 0, .slice hev.a hev.n hev.c, .slice none 0 0]) := GB9.out.later b10
      have P10 : Hid (MsP (w9.alloc (.cells #[] 38)) w1.heap.size s8.v (ma ++ [(newM d i ms, ⟨um, zSv, zSv, zSv, zSv⟩)])) := P9.out.below b10
      have OQ10 : Hid (OwnI (w9.alloc (.cells #[] 38)) w1.heap.size uq.v ms) := OQ9.out.keep fun k _ hk => b10.block k hk
      have HE10 : Hid (HsP (w9.alloc (.cells #[] 38)) w1.heap.size hev.v he) := HE9.out.below b10
      have BL10 : Hid (Below w1.heap.size w1 (w9.alloc (.cells #[] 38))) := bl_next BL9.out b10
      clear P9 OQ9 HE9 BL9 GB9 q4 b10
      refine Stp.go ?_
      generalize w9.alloc (.cells #[] 38) = Wx at *
      generalize w9.heap.size = g9 at *
      have zB10 : w1.heap.size ≤ Wx.heap.size := BL10.out.size
      go_wp2_with (first | (at_builtin; refine Stp.here ?_))
      refine Stp.go ?_
      refine wpList_pushN rfl _ _ 63 rfl _ 24 Try.underlying63 Try.infoIt rfl (by decide) w1.heap.size (.slice hev.a hev.n hev.c) (he.map hcel) rfl HE10.out.1 [.slice (some ⟨g9, 0, none⟩) 0 0] rfl rfl rfl hhl zB10 ?_
      intro vb wb hsb2 hgb hbb hob
      obtain ⟨sh, hfb, hnb⟩ := hsb2.form
      subst hfb
      have Kb : Hid (KeepTy (fun T => T = 27) Wx wb) := KeepTy.ofPush HE10.out.1 hgb rfl
      have HEb : Hid (HsP wb w1.heap.size sh.v (he ++ [([], ⟨some ⟨g9, 0, none⟩, 0, 0⟩)])) := ⟨by rw [List.map_append]; exact hsb2, fun e hh => by
        rcases List.mem_append.1 hh with hh | hh
        · exact (HE10.out.2 e hh).kt Kb.out (by decide)
        · simp at hh; subst hh; exact Z10.out.kt Kb.out (by decide)⟩
      have GBb : Hid (Bx wb gq 65 [.int .i64 i, .slice uq.a uq.n uq.c, .slice s8.a s8.n s8.c, .slice none 0 0, .slice hev.a hev.n hev.c, .slice none 0 0]) := GB10.out.kt Kb.out (by decide)
      have Pb : Hid (MsP wb w1.heap.size s8.v (ma ++ [(newM d i ms, ⟨um, zSv, zSv, zSv, zSv⟩)])) := P10.out.kt Kb.out (by decide) (by decide) (by decide) (by decide)
      have OQb : Hid (OwnI wb w1.heap.size uq.v ms) := OQ10.out.kt Kb.out (by decide)
      have BLb : Hid (Below w1.heap.size w1 wb) := BL10.out.trans hbb
      clear hsb2 hgb hbb hob hnb Z10 GB10 P10 OQ10 HE10 BL10 Kb
      go_wp2_with (first | (refine wpList_st1 rfl 63 _ _ rfl gq 4 rfl 65 _ GBb.out (.slice sh.a sh.n sh.c) rfl (by simp) rfl Try.sizeIss [.int .i64 i, .slice uq.a uq.n uq.c, .slice s8.a s8.n s8.c, .slice none 0 0, .slice sh.a sh.n sh.c, .slice none 0 0] rfl ?_; intro wd GBd Td))
      have Kd : Hid (KeepTy (fun T => T = 65) wb wd) := KeepTy.ofTurn GBb.out Td rfl
      go_roundw
      case rel => exact ⟨k + 1, s8, sh, _, _, by omega, by go_num, GBd, OQb.out.kt Kd.out (by decide), Pb.out.kt Kd.out (by decide) (by decide) (by decide) (by decide), HEb.out.kt Kd.out (by decide) (by decide), newW_step NW.out hkm HD.out, BLb.out.trans (Td.below (by have := ZGQ.out; omega))⟩
      case measure => simp [intOf]; omega
    · have hkn : k = ms.length := by rw [← hn.out]; omega
      have hm0 : 0 < ms.length := h0.out
      obtain ⟨hsb, hcl⟩ := (I1.out.stays BL.out).at 0 hm0
      rw [Nat.add_zero] at hcl
      have XR : Hid (RI wr (.slice (some ⟨sb, so, none⟩) n sc) ms) := X1.out.stays BL.out
      obtain ⟨d0, hd0⟩ : ∃ d, d = ms[0] := ⟨_, rfl⟩
      rw [← hd0] at hcl
      have HD0 : Hid (d0 = ms.getD 0 0) := (by rw [hd0]; simp [List.getD, hm0] : d0 = ms.getD 0 0)
      have NWx : Hid (newW i ms ms.length ma he) := (by rw [← hkn]; exact NW.out : newW i ms ms.length ma he)
      have n0 : 0 < n := by have := hn.out; omega
      clear hd0 NW hkn hm0
      go_wp2_with fail
      have KEEP : Hid (∀ w', Below wr.heap.size wr w' → (w'.cell? ⟨w.heap.size, 1, none⟩ = some (.slice (some ⟨sb, so, none⟩) n sc) ∧ w'.cell? ⟨sb, so, none⟩ = some (.int .i64 d0)) ∧ Hid (Below wr.heap.size wr w')) := fun w' hb => ⟨⟨(hr5.out.later hb).cell 1, (hb.cell (p := ⟨sb, so, none⟩) hsb).trans hcl⟩, hb⟩
      have c : Below wr.heap.size wr wr.drew := (Below.refl _ _).drew
      refine wp_region_heldLast (S := fun w' => (w'.cell? ⟨w.heap.size, 1, none⟩ = some (.slice (some ⟨sb, so, none⟩) n sc) ∧ w'.cell? ⟨sb, so, none⟩ = some (.int .i64 d0)) ∧ Hid (Below wr.heap.size wr w')) _ (by simp) (by kernel_rfl) (by rfl) (by rfl) (by kernel_rfl) (by kernel_rfl) (KEEP.out _ c) (fun hHeld => ?_)
      simp only [List.dropLast_cons_cons, List.dropLast_singleton, List.getLast_cons_cons, List.getLast_singleton, List.cons_append, List.nil_append, List.length_cons, List.length_nil]
      refine wpAnyH_take (i := 0) (v := ?v0b1) rfl (by kernel_rfl) (by kernel_rfl) (by kernel_rfl) (fun _ _ _ h => h) (Or.inl ⟨by rfl, ?hy0b1⟩) (by assumption) ?_
      case hy0b1 => (intro w hSw; (try dsimp only at hSw); simp only [List.getElem_toArray, List.getElem_cons_zero, List.getElem_cons_succ]; go_simp; try with_reducible rfl)
      try simp only [Act.put, List.getElem_toArray, List.getElem_cons_zero, List.getElem_cons_succ, List.setIfInBounds_toArray, List.set_cons_zero, List.set_cons_succ]
      refine wpAnyH_take (i := 1) (v := ?v1b2) rfl (by kernel_rfl) (by kernel_rfl) (by kernel_rfl) (fun _ _ _ h => h) (Or.inl ⟨by rfl, ?hy1b2⟩) (by assumption) ?_
      case hy1b2 => (intro w hSw; (try dsimp only at hSw); simp only [List.getElem_toArray, List.getElem_cons_zero, List.getElem_cons_succ]; go_simp; try with_reducible rfl)
      try simp only [Act.put, List.getElem_toArray, List.getElem_cons_zero, List.getElem_cons_succ, List.setIfInBounds_toArray, List.set_cons_zero, List.set_cons_succ]
      refine wpAnyH_take (i := 2) (v := ?v2b3) rfl (by kernel_rfl) (by kernel_rfl) (by kernel_rfl) (fun _ _ _ h => h) (Or.inl ⟨by rfl, ?hy2b3⟩) (by assumption) ?_
      case hy2b3 => (intro w hSw; (try dsimp only at hSw); simp only [List.getElem_toArray, List.getElem_cons_zero, List.getElem_cons_succ]; go_simp; try with_reducible rfl)
      try simp only [Act.put, List.getElem_toArray, List.getElem_cons_zero, List.getElem_cons_succ, List.setIfInBounds_toArray, List.set_cons_zero, List.set_cons_succ]
      refine wpAnyH_take (i := 3) (v := ?v3b4) rfl (by kernel_rfl) (by kernel_rfl) (by kernel_rfl) (fun _ _ _ h => h) (Or.inl ⟨by rfl, ?hy3b4⟩) (by assumption) ?_
      case hy3b4 => (intro w hSw; (try dsimp only at hSw); simp only [List.getElem_toArray, List.getElem_cons_zero, List.getElem_cons_succ]; go_simp; try with_reducible rfl)
      try simp only [Act.put, List.getElem_toArray, List.getElem_cons_zero, List.getElem_cons_succ, List.setIfInBounds_toArray, List.set_cons_zero, List.set_cons_succ]
      refine wpAnyH_take (i := 4) (v := _) rfl (by kernel_rfl) (by kernel_rfl) (by kernel_rfl) (fun _ _ _ h => h) (ld_yield (by rfl) 26 _ rfl w.heap.size 0 rfl 26 _ (fun w hS => hr5.out.later hS.2.out) [.int .i64 i, .slice (some ⟨sb, so, none⟩) n sc] rfl _ Try.underlying26 rfl Try.sizeR) (by assumption) ?_
      try simp only [Act.put, List.getElem_toArray, List.getElem_cons_zero, List.getElem_cons_succ, List.setIfInBounds_toArray, List.set_cons_zero, List.set_cons_succ]
      refine wpAnyH_ready (rs := [5]) (by kernel_rfl) (by simp) ?_
      refine AllReadyH.cons (i := 5) rfl (fun K hK => ?_) AllReadyH.nil
      rw [if_pos (by rfl)]
      simp only [List.getElem_toArray, List.getElem_cons_zero, List.getElem_cons_succ]
      go_simp
      refine (spFirst_r i ms (show Hid (RI wr.drew (.slice (some ⟨sb, so, none⟩) n sc) ms) from XR.out.stays c) hl' hr).mono ?_
      rintro e y1 ⟨rfl, b⟩
      have c : Below wr.heap.size wr y1 := bl_next c b
      refine hK.out _ _ (KEEP.out _ c) (fun hHeld => ?_)
      clear hK K
      try simp only [Act.put, List.getElem_toArray, List.getElem_cons_zero, List.getElem_cons_succ, List.setIfInBounds_toArray, List.set_cons_zero, List.set_cons_succ]
      clear b
      refine wpAnyH_take (i := 6) (v := ?v6b6) rfl (by kernel_rfl) (by kernel_rfl) (by kernel_rfl) (fun _ _ _ h => h) (Or.inl ⟨by rfl, ?hy6b6⟩) (by assumption) ?_
      case hy6b6 => (intro w hSw; (try dsimp only at hSw); simp only [List.getElem_toArray, List.getElem_cons_zero, List.getElem_cons_succ]; go_simp; try with_reducible rfl)
      try simp only [Act.put, List.getElem_toArray, List.getElem_cons_zero, List.getElem_cons_succ, List.setIfInBounds_toArray, List.set_cons_zero, List.set_cons_succ]
      refine wpAnyH_ready (rs := [7]) (by kernel_rfl) (by simp) ?_
      refine AllReadyH.cons (i := 7) rfl (fun K hK => ?_) AllReadyH.nil
      rw [if_pos (by rfl)]
      simp only [List.getElem_toArray, List.getElem_cons_zero, List.getElem_cons_succ]
      go_simp
      have FL : Hid (SlN (y1.alloc (.cells #[.int .i64 d0, .bool true, .int .i64 i, .int .i64 1, .int .i64 0, .int .i64 0, .int .i64 0, .slice none 0 0, .int .i64 0, .int .i64 0, .int .i64 0, .string ⟨#[]⟩] 91)) 91 12 0 (.slice (some ⟨y1.heap.size, 0, none⟩) 1 1) [[.int .i64 d0, .bool true, .int .i64 i, .int .i64 1, .int .i64 0, .int .i64 0, .int .i64 0, .slice none 0 0, .int .i64 0, .int .i64 0, .int .i64 0, .string ⟨#[]⟩]]) := SlN.one y1 91 12 0 _ rfl rfl (Nat.zero_le _)
      have c : Below wr.heap.size wr (y1.alloc (.cells #[.int .i64 d0, .bool true, .int .i64 i, .int .i64 1, .int .i64 0, .int .i64 0, .int .i64 0, .slice none 0 0, .int .i64 0, .int .i64 0, .int .i64 0, .string ⟨#[]⟩] 91)) := c.alloc c.size _
      refine hK.out _ _ (KEEP.out _ c) (fun hHeld => ?_)
      clear hK K
      try simp only [Act.put, List.getElem_toArray, List.getElem_cons_zero, List.getElem_cons_succ, List.setIfInBounds_toArray, List.set_cons_zero, List.set_cons_succ]
      refine wpAnyH_take (i := 8) (v := ?v8b7) rfl (by kernel_rfl) (by kernel_rfl) (by kernel_rfl) (fun _ _ _ h => h) (Or.inl ⟨by rfl, ?hy8b7⟩) (by assumption) ?_
      case hy8b7 => (intro w hSw; (try dsimp only at hSw); simp only [List.getElem_toArray, List.getElem_cons_zero, List.getElem_cons_succ]; go_simp; try with_reducible rfl)
      try simp only [Act.put, List.getElem_toArray, List.getElem_cons_zero, List.getElem_cons_succ, List.setIfInBounds_toArray, List.set_cons_zero, List.set_cons_succ]
      refine wpAnyH_take (i := 9) (v := ?v9b8) rfl (by kernel_rfl) (by kernel_rfl) (by kernel_rfl) (fun _ _ _ h => h) (Or.inl ⟨by rfl, ?hy9b8⟩) (by assumption) ?_
      case hy9b8 => (intro w hSw; (try dsimp only at hSw); simp only [List.getElem_toArray, List.getElem_cons_zero, List.getElem_cons_succ]; go_simp; try with_reducible rfl)
      try simp only [Act.put, List.getElem_toArray, List.getElem_cons_zero, List.getElem_cons_succ, List.setIfInBounds_toArray, List.set_cons_zero, List.set_cons_succ]
      refine wpAnyH_done (by kernel_rfl) ?_ _
      have GBy : Hid (Bx (y1.alloc (.cells #[.int .i64 d0, .bool true, .int .i64 i, .int .i64 1, .int .i64 0, .int .i64 0, .int .i64 0, .slice none 0 0, .int .i64 0, .int .i64 0, .int .i64 0, .string ⟨#[]⟩] 91)) gq 65 [.int .i64 i, .slice uq.a uq.n uq.c, .slice mav.a mav.n mav.c, .slice none 0 0, .slice hev.a hev.n hev.c, .slice none 0 0]) := GB.out.later c
      refine lastQ_of rfl rfl ?_
      refine wp_st1 62 _ _ rfl gq 3 rfl 65 _ GBy.out (.slice (some ⟨y1.heap.size, 0, none⟩) 1 1) rfl (by simp) rfl Try.sizeFls [.int .i64 i, .slice uq.a uq.n uq.c, .slice mav.a mav.n mav.c, .slice (some ⟨y1.heap.size, 0, none⟩) 1 1, .slice hev.a hev.n hev.c, .slice none 0 0] rfl ?_
      intro we GBe Te
      have WP : Hid (WkP we ⟨i, ms, uq, ma, mav, [(⟨d0, true, ⟨i, 1, 0, 0, 0, []⟩, zIt⟩, zSv)], ⟨some ⟨y1.heap.size, 0, none⟩, 1, 1⟩, he, hev, [], zSv⟩) := by
        have Ke : KeepTy (fun T => T = 65) (y1.alloc (.cells #[.int .i64 d0, .bool true, .int .i64 i, .int .i64 1, .int .i64 0, .int .i64 0, .int .i64 0, .slice none 0 0, .int .i64 0, .int .i64 0, .int .i64 0, .string ⟨#[]⟩] 91)) we := KeepTy.ofTurn GBy.out Te rfl
        refine ⟨((OQ.out.down (Nat.zero_le _)).keep fun k _ hk => c.block k hk).kt Ke (by decide), ((MA.out.down (Nat.zero_le _)).below c).kt Ke (by decide) (by decide) (by decide) (by decide), ⟨FL.out.kt Ke (by decide), fun e hh => ?_⟩, ((HE.out.down (Nat.zero_le _)).below c).kt Ke (by decide) (by decide), own_nilIt _ _⟩
        simp at hh; subst hh; exact ownI_nil _ _
      have Re : Hid (Bx we (w.heap.size + 1) 65 [.int .i64 0, .slice none 0 0, .slice none 0 0, .slice none 0 0, .slice none 0 0, .slice none 0 0]) := ((R1.out.later BL.out).later c).turn Te (by have h1 := ZGQ.out; have h2 := R1.out.lt; omega)
      have Be : Hid (Below w.heap.size w we) := (B1.out.trans ((bl_next BL.out c).mono B1.out.size)).trans (Te.below (by have h1 := ZGQ.out; have h2 := B1.out.size; omega))
      clear GBy Te c KEEP FL GB OQ MA HE BL hr5 r51 hcl XR n0 hsb
      go_wp2_with (first | (refine wpList_ldG rfl 65 _ rfl gq 0 rfl 65 _ GBe [.int .i64 i, .slice uq.a uq.n uq.c, .slice mav.a mav.n mav.c, .slice (some ⟨y1.heap.size, 0, none⟩) 1 1, .slice hev.a hev.n hev.c, .slice none 0 0] rfl _ Try.underlying65 rfl Try.sizeWk ?_) | (refine wpList_stB rfl 65 _ _ rfl (w.heap.size + 1) 0 rfl 65 _ Re.out [.int .i64 i, .slice uq.a uq.n uq.c, .slice mav.a mav.n mav.c, .slice (some ⟨y1.heap.size, 0, none⟩) 1 1, .slice hev.a hev.n hev.c, .slice none 0 0] rfl (by simp) Try.sizeWk rfl [.int .i64 i, .slice uq.a uq.n uq.c, .slice mav.a mav.n mav.c, .slice (some ⟨y1.heap.size, 0, none⟩) 1 1, .slice hev.a hev.n hev.c, .slice none 0 0] rfl ?_; intro wz RZ TZ))
      refine bodyPost_ret (results_bt Try.results29 (w.heap.size + 1) 65 [.int .i64 i, .slice uq.a uq.n uq.c, .slice mav.a mav.n mav.c, .slice (some ⟨y1.heap.size, 0, none⟩) 1 1, .slice hev.a hev.n hev.c, .slice none 0 0] _ rfl RZ Try.underlying65 rfl Try.sizeWk) rfl ?_
      exact ⟨_, rfl, WP.out.keepb Re.out TZ.keep, Be.out.trans (TZ.below (by omega)), rfl, rfl, NWx.out, rfl, by rw [← HD0.out]; rfl⟩
theorem spWorkNew_yes (i : Int) (s : Sv) (ms : List Int) (w : World) (h : Hid (RI w s.v ms)) (hl : ms.length ≤ 1048576) (hr : Hid (ringB i ms = true)) :
    Calls Try.prog 29 #[.agg #[.int .i64 i, .slice s.a s.n s.c]] w fun e w' => ∃ k : Wv, e = .returned (.tuple #[.agg k.cells.toArray, .bool true]) ∧ WkP w' k ∧ Below w.heap.size w w' ∧ (k.rid = i ∧ k.ms = ms ∧ newW i ms ms.length k.ma k.he ∧ k.sa = [] ∧ k.fl.map (·.1) = [⟨ms.getD 0 0, true, ⟨i, 1, 0, 0, 0, []⟩, zIt⟩]) := by
  have h0 : 0 < ms.length := by
    have := hr.out
    unfold ringB at this
    simp at this
    exact this.2.1
  obtain ⟨ao, cap, hv, hx⟩ := h.out
  obtain ⟨b, off, e, _, _⟩ := hx 0 h0
  subst e
  cases s
  simp [Sv.v] at hv
  obtain ⟨rfl, rfl, rfl⟩ := hv
  exact spWorkNew_at i b off ms.length _ ms w hx (rfl : ms.length = ms.length) hl hr h0
end Go.Proofs.Ythdjkkiegecgnaa


/- A new ring at work: the program's WorkNew; each list lies in a block of its own. Written by gen_iwn.py. -/
namespace Go.Proofs.Ythdjkkiegecgnaa
open Go.RowKit Pl
set_option linter.unusedVariables false
set_option linter.unusedSimpArgs false

theorem firstI_r {w : World} {v : Value} (i : Int) (ws : List Int) (h : Hid (RI w v ws)) (hl : ws.length ≤ 1048576) (hr : Hid (ringB i ws = true)) :
    Calls Try.prog 19 #[.agg #[.int .i64 i, v]] w fun e w' => e = .returned (.agg #[.int .i64 i, .int .i64 1, .int .i64 0, .int .i64 0, .int .i64 0, .slice none 0 0]) ∧ Below w.heap.size w w' := by
  obtain ⟨ao, cap, rfl, hx⟩ := h.out; exact first_yes i ao cap ws w hx hl hr
/-- the members' lists lie in blocks of their own, one behind the other; nothing was heard. -/
def UB (lo hi : Nat) (ma : List (Mt × Mv)) (he : List (List It × Sv)) : Prop := (∀ e ∈ ma, e.2 = ⟨e.2.ms, zSv, zSv, zSv, zSv⟩ ∧ ∀ x, e.2.ms.v.ownBlock = some x → lo ≤ x ∧ x < hi) ∧ (ma.Pairwise fun a b => ∀ x y, a.2.ms.v.ownBlock = some x → b.2.ms.v.ownBlock = some y → x < y) ∧ ∀ e ∈ he, e.2.n = 0 ∧ ∀ x, e.2.v.ownBlock = some x → lo ≤ x ∧ x < hi
theorem UB.nil (lo hi : Nat) : UB lo hi [] [] := ⟨fun e h => (by cases h), List.Pairwise.nil, fun e h => (by cases h)⟩
theorem UB.up {lo hi hi2 : Nat} {ma : List (Mt × Mv)} {he : List (List It × Sv)} (h : UB lo hi ma he) (h2 : hi ≤ hi2) : UB lo hi2 ma he := ⟨fun e he => ⟨(h.1 e he).1, fun x hx => by have := (h.1 e he).2 x hx; omega⟩, h.2.1, fun e hh => ⟨(h.2.2 e hh).1, fun x hx => by have := (h.2.2 e hh).2 x hx; omega⟩⟩
theorem UB.push {lo hi h1 h2 : Nat} {ma : List (Mt × Mv)} {he : List (List It × Sv)} {m : Mt} {um : Sv} {g9 c : Nat} {xs : List It} (hg : lo ≤ g9) (hg2 : g9 < h2) (h : UB lo hi ma he) (hu : ∀ x, um.v.ownBlock = some x → hi ≤ x ∧ x < h1) (hlo : lo ≤ hi) (h12 : hi ≤ h1) (h22 : h1 ≤ h2) : UB lo h2 (ma ++ [(m, ⟨um, zSv, zSv, zSv, zSv⟩)]) (he ++ [(xs, ⟨some ⟨g9, 0, none⟩, 0, c⟩)]) := by
  refine ⟨fun e hh => ?_, List.pairwise_append.2 ⟨h.2.1, List.pairwise_singleton _ _, fun p hp q hq x y hx hy => ?_⟩, fun e hh => ?_⟩
  · rcases List.mem_append.1 hh with hh | hh
    · exact ⟨(h.1 e hh).1, fun x hx => by have := (h.1 e hh).2 x hx; omega⟩
    · simp at hh; subst hh; exact ⟨rfl, fun x hx => by have := hu x hx; omega⟩
  · simp at hq; subst hq
    have h3 := (h.1 p hp).2 x hx
    have h4 := hu y hy
    omega
  · rcases List.mem_append.1 hh with hh | hh
    · exact ⟨(h.2.2 e hh).1, fun x hx => by have := (h.2.2 e hh).2 x hx; omega⟩
    · simp at hh; subst hh; exact ⟨rfl, fun x hx => by simp [Sv.v, Value.ownBlock] at hx; omega⟩
structure IWk (w w' : World) (i : Int) (ms : List Int) (k : Wv) : Prop where
  p : WkP w' k
  ring : OwnI w' w.heap.size k.mv.v ms
  ma : SlN w' 32 16 w.heap.size k.mav.v (k.ma.map mcel)
  fl : SlN w' 91 12 w.heap.size k.flv.v (k.fl.map fcel)
  he : SlN w' 27 1 w.heap.size k.hev.v (k.he.map hcel)
  lo : ∃ lo, w.heap.size ≤ lo ∧ UB lo w'.heap.size k.ma k.he ∧ ∀ x, k.mv.v.ownBlock = some x → x < lo
  fz : k.fl.map (·.2) = [zSv]
  sz : k.sav = zSv
  nw : k.rid = i ∧ k.ms = ms ∧ newW i ms ms.length k.ma k.he ∧ k.sa = [] ∧ k.fl.map (·.1) = [⟨ms.getD 0 0, true, ⟨i, 1, 0, 0, 0, []⟩, zIt⟩]

set_option maxRecDepth 100000 in
set_option maxHeartbeats 16000000 in
theorem workNew_at (i : Int) (sb so n sc : Nat) (ms : List Int) (w : World) (h : Hid (IntsAt w (some ⟨sb, so, none⟩) ms)) (hn : Hid (n = ms.length)) (hl : n ≤ 1048576) (hr : Hid (ringB i ms = true)) (h0 : Hid (0 < ms.length)) :
    Calls Try.prog 30 #[.agg #[.int .i64 i, .slice (some ⟨sb, so, none⟩) n sc]] w fun e w' => ∃ k : Wv, e = .returned (.tuple #[.agg k.cells.toArray, .bool true]) ∧ IWk w w' i ms k ∧ Below w.heap.size w w' := by
  have hn1 : (w.alloc (.cells #[.int .i64 i, .slice (some ⟨sb, so, none⟩) n sc] 26)).heap.size = w.heap.size + 1 := by simp
  have HA : Hid (Bx ((w.alloc (.cells #[.int .i64 i, .slice (some ⟨sb, so, none⟩) n sc] 26)).alloc (.cells #[.int .i64 0, .slice none 0 0, .slice none 0 0, .slice none 0 0, .slice none 0 0, .slice none 0 0] 65)) w.heap.size 26 [.int .i64 i, .slice (some ⟨sb, so, none⟩) n sc]) := by
    have h := Bx.new w 26 [.int .i64 i, .slice (some ⟨sb, so, none⟩) n sc]
    exact h.stays (B := w.heap.size + 1) ((Below.refl _ _).alloc (by rw [hn1]; exact Nat.le_refl _) _) (by omega)
  have HR : Hid (Bx ((w.alloc (.cells #[.int .i64 i, .slice (some ⟨sb, so, none⟩) n sc] 26)).alloc (.cells #[.int .i64 0, .slice none 0 0, .slice none 0 0, .slice none 0 0, .slice none 0 0, .slice none 0 0] 65)) (w.heap.size + 1) 65 [.int .i64 0, .slice none 0 0, .slice none 0 0, .slice none 0 0, .slice none 0 0, .slice none 0 0]) := by
    have h := Bx.new (w.alloc (.cells #[.int .i64 i, .slice (some ⟨sb, so, none⟩) n sc] 26)) 65 [.int .i64 0, .slice none 0 0, .slice none 0 0, .slice none 0 0, .slice none 0 0, .slice none 0 0]
    rw [hn1] at h
    exact h
  have HB : Hid (Below w.heap.size w ((w.alloc (.cells #[.int .i64 i, .slice (some ⟨sb, so, none⟩) n sc] 26)).alloc (.cells #[.int .i64 0, .slice none 0 0, .slice none 0 0, .slice none 0 0, .slice none 0 0, .slice none 0 0] 65))) := ((Below.refl _ _).alloc (Nat.le_refl _) _).alloc (by simp) _
  have HX : Hid (RI ((w.alloc (.cells #[.int .i64 i, .slice (some ⟨sb, so, none⟩) n sc] 26)).alloc (.cells #[.int .i64 0, .slice none 0 0, .slice none 0 0, .slice none 0 0, .slice none 0 0, .slice none 0 0] 65)) (.slice (some ⟨sb, so, none⟩) n sc) ms) := ⟨_, sc, by rw [hn.out], h.out.stays HB.out⟩
  have HI : Hid (IntsAt ((w.alloc (.cells #[.int .i64 i, .slice (some ⟨sb, so, none⟩) n sc] 26)).alloc (.cells #[.int .i64 0, .slice none 0 0, .slice none 0 0, .slice none 0 0, .slice none 0 0, .slice none 0 0] 65)) (some ⟨sb, so, none⟩) ms) := h.out.stays HB.out
  have hl' : ms.length ≤ 1048576 := by rw [← hn.out]; exact hl
  clear h hn1
  go_enter Try.func30, Try.ntmps30
  go_wp2_with fail
  generalize ((w.alloc (.cells #[.int .i64 i, .slice (some ⟨sb, so, none⟩) n sc] 26)).alloc (.cells #[.int .i64 0, .slice none 0 0, .slice none 0 0, .slice none 0 0, .slice none 0 0, .slice none 0 0] 65)) = W at *
  refine (ringOk_r i ms HX hl').mono ?_
  rintro e w1 ⟨rfl, b1⟩
  rw [hr.out]
  have A1 : Hid (Bx w1 w.heap.size 26 [.int .i64 i, .slice (some ⟨sb, so, none⟩) n sc]) := HA.out.later b1
  have R1 : Hid (Bx w1 (w.heap.size + 1) 65 [.int .i64 0, .slice none 0 0, .slice none 0 0, .slice none 0 0, .slice none 0 0, .slice none 0 0]) := HR.out.later b1
  have B1 : Hid (Below w.heap.size w w1) := bl_next HB.out b1
  have X1 : Hid (RI w1 (.slice (some ⟨sb, so, none⟩) n sc) ms) := HX.out.stays b1
  have I1 : Hid (IntsAt w1 (some ⟨sb, so, none⟩) ms) := HI.out.stays b1
  clear HA HR HB HX HI b1
  go_wp2_with (first | (refine wpList_ldG rfl 26 _ rfl w.heap.size 0 rfl 26 _ A1.out [.int .i64 i, .slice (some ⟨sb, so, none⟩) n sc] rfl _ Try.underlying26 rfl Try.sizeR ?_))
  refine (copyRing_s i ⟨some ⟨sb, so, none⟩, n, sc⟩ ms _ X1 hl').mono ?_
  rintro e w2 ⟨uq, rfl, oq, b2⟩
  have O2 : Hid (OwnI w2 w1.heap.size uq.v ms) := oq
  have B2 : Hid (Below w1.heap.size w1 w2) := b2
  have zq2 : w1.heap.size ≤ w2.heap.size := b2.size
  clear oq b2
  have hz : Hid (Bx (w2.alloc (.cells #[.int .i64 0, .slice none 0 0, .slice none 0 0, .slice none 0 0, .slice none 0 0, .slice none 0 0] 65)) w2.heap.size 65 [.int .i64 0, .slice none 0 0, .slice none 0 0, .slice none 0 0, .slice none 0 0, .slice none 0 0]) := Bx.new w2 65 _
  go_wp2_with (first | (refine wpList_stB rfl 65 _ _ rfl w2.heap.size 0 rfl 65 _ hz.out [.int .i64 i, .slice uq.a uq.n uq.c, .slice none 0 0, .slice none 0 0, .slice none 0 0, .slice none 0 0] rfl (by simp) Try.sizeWk rfl [.int .i64 i, .slice uq.a uq.n uq.c, .slice none 0 0, .slice none 0 0, .slice none 0 0, .slice none 0 0] rfl ?_; intro W3 OB TB; have b : Below w2.heap.size w2 W3 := ((Below.refl _ _).alloc (Nat.le_refl _) _).trans (TB.below (Nat.le_refl _)); have GB3 : Hid (Bx W3 w2.heap.size 65 [.int .i64 i, .slice uq.a uq.n uq.c, .slice none 0 0, .slice none 0 0, .slice none 0 0, .slice none 0 0]) := OB; have O3 : Hid (OwnI W3 w1.heap.size uq.v ms) := O2.out.keep fun _ _ hk => b.block _ hk; have B3 : Hid (Below w1.heap.size w1 W3) := bl_next B2.out b; have RB3 : Hid (∀ x, uq.v.ownBlock = some x → x < W3.heap.size) := (fun x hx => by have := (O3.out.lt x hx).2; omega); have A3 : Hid (Bx W3 w.heap.size 26 [.int .i64 i, .slice (some ⟨sb, so, none⟩) n sc]) := A1.out.later B3.out; have a31 := A3.out.cell 1; clear OB TB b; refine Stp.here ?_))
  refine Stp.go ?_
  have ZGQ : Hid (w1.heap.size ≤ w2.heap.size) := zq2
  have ZW13 : Hid (w.heap.size ≤ W3.heap.size) := (by have := B1.out.size; have := B3.out.size; omega : _ ≤ _)
  clear hz O2 B2 zq2
  generalize w2.heap.size = gq at *
  go_wp2_with fail
  clear a31
  go_loopw [19] (fun v5 wr => ∃ (k : Nat) (mav hev : Sv) (ma : List (Mt × Mv)) (he : List (List It × Sv)), k ≤ n ∧ v5 = .int .i64 k ∧ Hid (Bx wr gq 65 [.int .i64 i, .slice uq.a uq.n uq.c, .slice mav.a mav.n mav.c, .slice none 0 0, .slice hev.a hev.n hev.c, .slice none 0 0]) ∧ Hid (OwnI wr w1.heap.size uq.v ms) ∧ Hid (MsP wr w1.heap.size mav.v ma) ∧ Hid (HsP wr w1.heap.size hev.v he) ∧ Hid (newW i ms k ma he) ∧ Hid (UB W3.heap.size wr.heap.size ma he) ∧ Hid (Below w1.heap.size w1 wr) ∧ Hid (W3.heap.size ≤ wr.heap.size)) (fun v5 _ => n - (intOf v5).toNat)
  case atStart => exact ⟨0, zSv, zSv, [], [], by omega, rfl, GB3, O3, ⟨SlN.nil _ _ _ _, fun e he => by cases he⟩, ⟨SlN.nil _ _ _ _, fun e he => by cases he⟩, ⟨rfl, rfl⟩, UB.nil _ _, B3, Nat.le_refl _⟩
  case round =>
    clear GB3 O3 B3 A3
    obtain ⟨k, mav, hev, ma, he, hk, rfl, GB, OQ, MA, HE, NW, UU, BL, ZW3⟩ := hrel
    have hr5 : Hid (Bx wr w.heap.size 26 [.int .i64 i, .slice (some ⟨sb, so, none⟩) n sc]) := A1.out.later BL.out
    have r51 := hr5.out.cell 1
    by_cases hlt : k < n
    · have hkm : k < ms.length := by rw [← hn.out]; exact hlt
      obtain ⟨hsb, hcl⟩ := (I1.out.stays BL.out).at k hkm
      have X7 : Hid (RI wr (.slice (some ⟨sb, so, none⟩) n sc) ms) := X1.out.stays BL.out
      have hin : Hid (inB ms ms[k] = true) := (inB_mem (List.getElem_mem hkm) : inB ms ms[k] = true)
      obtain ⟨d, hd⟩ : ∃ d, d = ms[k] := ⟨_, rfl⟩
      rw [← hd] at hcl hin
      have HD : Hid (d = ms[k]) := hd
      have i0 : (0 : Int) ≤ (k : Int) := by omega
      have i1 : (k : Int) < (n : Int) := by omega
      clear hd
      go_wp2_with (first | (refine wpList_ldG rfl 26 _ rfl w.heap.size 0 rfl 26 _ hr5.out [.int .i64 i, .slice (some ⟨sb, so, none⟩) n sc] rfl _ Try.underlying26 rfl Try.sizeR ?_))
      refine (mateNew_yes d i ⟨some ⟨sb, so, none⟩, n, sc⟩ ms _ X7 hl' (by have h1 := hr.out; have h2 := hin.out; rw [h1, h2]; rfl)).mono ?_
      rintro e x6 ⟨um, rfl, om, b6⟩
      have z6 : wr.heap.size ≤ x6.heap.size := b6.size
      have OM6 : Hid (OwnI x6 wr.heap.size um.v ms) := om
      have BB6 : Hid (Below wr.heap.size wr x6) := b6
      clear om b6
      have hz : Hid (Bx (x6.alloc (.cells #[.int .i64 0, .int .i64 0, .slice none 0 0, .slice none 0 0, .slice none 0 0, .slice none 0 0, .int .i64 0, .int .i64 0, .int .i64 0, .int .i64 0, .int .i64 0, .int .i64 0, .int .i64 0, .int .i64 0, .int .i64 0, .slice none 0 0] 32)) x6.heap.size 32 [.int .i64 0, .int .i64 0, .slice none 0 0, .slice none 0 0, .slice none 0 0, .slice none 0 0, .int .i64 0, .int .i64 0, .int .i64 0, .int .i64 0, .int .i64 0, .int .i64 0, .int .i64 0, .int .i64 0, .int .i64 0, .slice none 0 0]) := Bx.new x6 32 _
      go_wp2_with (first | (refine wpList_stB rfl 32 _ _ rfl x6.heap.size 0 rfl 32 _ hz.out [.int .i64 d, .int .i64 i, .slice um.a um.n um.c, .slice none 0 0, .slice none 0 0, .slice none 0 0, .int .i64 0, .int .i64 0, .int .i64 0, .int .i64 0, .int .i64 0, .int .i64 0, .int .i64 0, .int .i64 0, .int .i64 0, .slice none 0 0] rfl (by simp) Try.sizeM rfl [.int .i64 d, .int .i64 i, .slice um.a um.n um.c, .slice none 0 0, .slice none 0 0, .slice none 0 0, .int .i64 0, .int .i64 0, .int .i64 0, .int .i64 0, .int .i64 0, .int .i64 0, .int .i64 0, .int .i64 0, .int .i64 0, .slice none 0 0] rfl ?_; intro W7 OB TB; have bq : Below x6.heap.size x6 W7 := ((Below.refl _ _).alloc (Nat.le_refl _) _).trans (TB.below (Nat.le_refl _)); have GM : Hid (Bx W7 x6.heap.size 32 [.int .i64 d, .int .i64 i, .slice um.a um.n um.c, .slice none 0 0, .slice none 0 0, .slice none 0 0, .int .i64 0, .int .i64 0, .int .i64 0, .int .i64 0, .int .i64 0, .int .i64 0, .int .i64 0, .int .i64 0, .int .i64 0, .slice none 0 0]) := OB; have OM7 : Hid (OwnI W7 wr.heap.size um.v ms) := OM6.out.keep fun _ _ hk => bq.block _ hk; have B7 : Hid (Below wr.heap.size wr W7) := bl_next BB6.out bq; clear OB TB bq; refine Stp.here ?_))
      refine Stp.go ?_
      clear hz OM6 BB6
      generalize x6.heap.size = gm at *
      have b7 := B7.out
      have z7 : wr.heap.size ≤ W7.heap.size := b7.size
      have OM : Hid (OwnI W7 0 um.v ms) := OM7.out.down (Nat.zero_le _)
      have UM : Hid (∀ x, um.v.ownBlock = some x → wr.heap.size ≤ x ∧ x < W7.heap.size) := fun x hx => OM7.out.lt x hx
      clear OM7 B7
      have GB7 : Hid (Bx W7 gq 65 [.int .i64 i, .slice uq.a uq.n uq.c, .slice mav.a mav.n mav.c, .slice none 0 0, .slice hev.a hev.n hev.c, .slice none 0 0]) := GB.out.later b7
      have OQ7 : Hid (OwnI W7 w1.heap.size uq.v ms) := OQ.out.keep fun k _ hk => b7.block k hk
      have MA7 : Hid (MsP W7 w1.heap.size mav.v ma) := MA.out.below b7
      have HE7 : Hid (HsP W7 w1.heap.size hev.v he) := HE.out.below b7
      have BL7 : Hid (Below w1.heap.size w1 W7) := bl_next BL.out b7
      have zB : w1.heap.size ≤ W7.heap.size := BL7.out.size
      have hml : (ma.map mcel).length ≤ 1048576 := by rw [List.length_map, ← List.length_map (f := (·.1)), NW.out.1]; simp; omega
      have hhl : (he.map hcel).length ≤ 1048576 := by rw [List.length_map, ← List.length_map (f := (·.1)), NW.out.2]; simp; omega
      clear b7 GB OQ MA HE BL hr5 r51 hcl X7 hin i0 i1 hsb
      have q2 := GB7.out.cell 2
      go_wp2_with (first | (refine wpList_ldG rfl 32 _ rfl gm 0 rfl 32 _ GM.out [.int .i64 d, .int .i64 i, .slice um.a um.n um.c, .slice none 0 0, .slice none 0 0, .slice none 0 0, .int .i64 0, .int .i64 0, .int .i64 0, .int .i64 0, .int .i64 0, .int .i64 0, .int .i64 0, .int .i64 0, .int .i64 0, .slice none 0 0] rfl _ Try.underlying32 rfl Try.sizeM ?_) | (at_builtin; refine Stp.here ?_))
      refine Stp.go ?_
      refine wpList_pushN rfl _ _ 61 rfl _ 208 Try.underlying61 Try.infoMt rfl (by decide) w1.heap.size (.slice mav.a mav.n mav.c) (ma.map mcel) rfl MA7.out.1 [.int .i64 d, .int .i64 i, .slice um.a um.n um.c, .slice none 0 0, .slice none 0 0, .slice none 0 0, .int .i64 0, .int .i64 0, .int .i64 0, .int .i64 0, .int .i64 0, .int .i64 0, .int .i64 0, .int .i64 0, .int .i64 0, .slice none 0 0] rfl rfl rfl hml zB ?_
      intro v8 w8 hs8 hg8 hb8 ho8
      obtain ⟨s8, hf8, hn8⟩ := hs8.form
      subst hf8
      have P8 : Hid (MsP w8 w1.heap.size s8.v (ma ++ [(newM d i ms, ⟨um, zSv, zSv, zSv, zSv⟩)])) := msP_push MA7.out hs8 hg8 OM.out rfl
      have GB8 : Hid (Bx w8 gq 65 [.int .i64 i, .slice uq.a uq.n uq.c, .slice mav.a mav.n mav.c, .slice none 0 0, .slice hev.a hev.n hev.c, .slice none 0 0]) := GB7.out.kt (KeepTy.ofPush (S := fun T => T = 32) MA7.out.1 hg8 rfl) (by decide)
      have OQ8 : Hid (OwnI w8 w1.heap.size uq.v ms) := OQ7.out.kt (KeepTy.ofPush (S := fun T => T = 32) MA7.out.1 hg8 rfl) (by decide)
      have HE8 : Hid (HsP w8 w1.heap.size hev.v he) := HE7.out.kt (KeepTy.ofPush (S := fun T => T = 32) MA7.out.1 hg8 rfl) (by decide) (by decide)
      have BL8 : Hid (Below w1.heap.size w1 w8) := BL7.out.trans hb8
      have y8 : W7.heap.size ≤ w8.heap.size := hg8.size
      clear hs8 hg8 hb8 ho8 hn8 q2
      go_wp2_with (first | (refine wpList_st1 rfl 61 _ _ rfl gq 2 rfl 65 _ GB8.out (.slice s8.a s8.n s8.c) rfl (by simp) rfl Try.sizeMts [.int .i64 i, .slice uq.a uq.n uq.c, .slice s8.a s8.n s8.c, .slice none 0 0, .slice hev.a hev.n hev.c, .slice none 0 0] rfl ?_; intro w9 GB9 T9; have q4 := GB9.cell 4) | (refine wpList_haltB 63 1 _ rfl ?_))
      have K9 : Hid (KeepTy (fun T => T = 65) w8 w9) := KeepTy.ofTurn GB8.out T9 rfl
      have y9 : w8.heap.size ≤ w9.heap.size := Nat.le_of_eq T9.size.symm
      have GB9 : Hid (Bx w9 gq 65 [.int .i64 i, .slice uq.a uq.n uq.c, .slice s8.a s8.n s8.c, .slice none 0 0, .slice hev.a hev.n hev.c, .slice none 0 0]) := GB9
      have P9 : Hid (MsP w9 w1.heap.size s8.v (ma ++ [(newM d i ms, ⟨um, zSv, zSv, zSv, zSv⟩)])) := P8.out.kt K9.out (by decide) (by decide) (by decide) (by decide)
      have OQ9 : Hid (OwnI w9 w1.heap.size uq.v ms) := OQ8.out.kt K9.out (by decide)
      have HE9 : Hid (HsP w9 w1.heap.size hev.v he) := HE8.out.kt K9.out (by decide) (by decide)
      have BL9 : Hid (Below w1.heap.size w1 w9) := BL8.out.trans (T9.below (by have := ZGQ.out; omega))
      clear P8 OQ8 HE8 BL8 T9 K9 GB8 GB7 OQ7 MA7 HE7 BL7 GM OM
      have b10 : Below w9.heap.size w9 (w9.alloc (.cells #[] 38)) := (Below.refl _ _).alloc (Nat.le_refl _) _
      have Z10 : Hid (SlI (w9.alloc (.cells #[] 38)) 0 (.slice (some ⟨w9.heap.size, 0, none⟩) 0 0) []) := SlI.made w9 0 (Nat.zero_le _)
      have GB10 : Hid (Bx (w9.alloc (.cells #[] 38)) gq 65 [.int .i64 i, .slice uq.a uq.n uq.c, .slice s8.a s8.n s8.c, .slice none 0 0, .slice hev.a hev.n hev.c, .slice none 0 0]) := GB9.out.later b10
      have P10 : Hid (MsP (w9.alloc (.cells #[] 38)) w1.heap.size s8.v (ma ++ [(newM d i ms, ⟨um, zSv, zSv, zSv, zSv⟩)])) := P9.out.below b10
      have OQ10 : Hid (OwnI (w9.alloc (.cells #[] 38)) w1.heap.size uq.v ms) := OQ9.out.keep fun k _ hk => b10.block k hk
      have HE10 : Hid (HsP (w9.alloc (.cells #[] 38)) w1.heap.size hev.v he) := HE9.out.below b10
      have BL10 : Hid (Below w1.heap.size w1 (w9.alloc (.cells #[] 38))) := bl_next BL9.out b10
      clear P9 OQ9 HE9 BL9 GB9 q4 b10
      have YG9 : w9.heap.size < (w9.alloc (.cells #[] 38)).heap.size := by simp
      have yx : w9.heap.size ≤ (w9.alloc (.cells #[] 38)).heap.size := by simp
      refine Stp.go ?_
      generalize w9.alloc (.cells #[] 38) = Wx at *
      have yg : w9.heap.size < Wx.heap.size := YG9
      generalize w9.heap.size = g9 at *
      have zB10 : w1.heap.size ≤ Wx.heap.size := BL10.out.size
      go_wp2_with (first | (at_builtin; refine Stp.here ?_))
      refine Stp.go ?_
      refine wpList_pushN rfl _ _ 63 rfl _ 24 Try.underlying63 Try.infoIt rfl (by decide) w1.heap.size (.slice hev.a hev.n hev.c) (he.map hcel) rfl HE10.out.1 [.slice (some ⟨g9, 0, none⟩) 0 0] rfl rfl rfl hhl zB10 ?_
      intro vb wb hsb2 hgb hbb hob
      obtain ⟨sh, hfb, hnb⟩ := hsb2.form
      subst hfb
      have yb : Wx.heap.size ≤ wb.heap.size := hgb.size
      have Kb : Hid (KeepTy (fun T => T = 27) Wx wb) := KeepTy.ofPush HE10.out.1 hgb rfl
      have HEb : Hid (HsP wb w1.heap.size sh.v (he ++ [([], ⟨some ⟨g9, 0, none⟩, 0, 0⟩)])) := ⟨by rw [List.map_append]; exact hsb2, fun e hh => by
        rcases List.mem_append.1 hh with hh | hh
        · exact (HE10.out.2 e hh).kt Kb.out (by decide)
        · simp at hh; subst hh; exact Z10.out.kt Kb.out (by decide)⟩
      have GBb : Hid (Bx wb gq 65 [.int .i64 i, .slice uq.a uq.n uq.c, .slice s8.a s8.n s8.c, .slice none 0 0, .slice hev.a hev.n hev.c, .slice none 0 0]) := GB10.out.kt Kb.out (by decide)
      have Pb : Hid (MsP wb w1.heap.size s8.v (ma ++ [(newM d i ms, ⟨um, zSv, zSv, zSv, zSv⟩)])) := P10.out.kt Kb.out (by decide) (by decide) (by decide) (by decide)
      have OQb : Hid (OwnI wb w1.heap.size uq.v ms) := OQ10.out.kt Kb.out (by decide)
      have BLb : Hid (Below w1.heap.size w1 wb) := BL10.out.trans hbb
      clear hsb2 hgb hbb hob hnb Z10 GB10 P10 OQ10 HE10 BL10 Kb
      go_wp2_with (first | (refine wpList_st1 rfl 63 _ _ rfl gq 4 rfl 65 _ GBb.out (.slice sh.a sh.n sh.c) rfl (by simp) rfl Try.sizeIss [.int .i64 i, .slice uq.a uq.n uq.c, .slice s8.a s8.n s8.c, .slice none 0 0, .slice sh.a sh.n sh.c, .slice none 0 0] rfl ?_; intro wd GBd Td))
      have Kd : Hid (KeepTy (fun T => T = 65) wb wd) := KeepTy.ofTurn GBb.out Td rfl
      go_roundw
      case rel =>
        have zz : W7.heap.size ≤ wd.heap.size := by have := Td.size; omega
        exact ⟨k + 1, s8, sh, _, _, by omega, by go_num, GBd, OQb.out.kt Kd.out (by decide), Pb.out.kt Kd.out (by decide) (by decide) (by decide) (by decide), HEb.out.kt Kd.out (by decide) (by decide), newW_step NW.out hkm HD.out, UB.push (by have := ZW3.out; omega) (by have := Td.size; omega) UU.out UM.out ZW3.out z7 zz, BLb.out.trans (Td.below (by have := ZGQ.out; omega)), (by have := ZW3.out; omega : _ ≤ _)⟩
      case measure => simp [intOf]; omega
    · have hkn : k = ms.length := by rw [← hn.out]; omega
      have hm0 : 0 < ms.length := h0.out
      obtain ⟨hsb, hcl⟩ := (I1.out.stays BL.out).at 0 hm0
      rw [Nat.add_zero] at hcl
      have XR : Hid (RI wr (.slice (some ⟨sb, so, none⟩) n sc) ms) := X1.out.stays BL.out
      obtain ⟨d0, hd0⟩ : ∃ d, d = ms[0] := ⟨_, rfl⟩
      rw [← hd0] at hcl
      have HD0 : Hid (d0 = ms.getD 0 0) := (by rw [hd0]; simp [List.getD, hm0] : d0 = ms.getD 0 0)
      have NWx : Hid (newW i ms ms.length ma he) := (by rw [← hkn]; exact NW.out : newW i ms ms.length ma he)
      have n0 : 0 < n := by have := hn.out; omega
      clear hd0 NW hkn hm0
      go_wp2_with fail
      have KEEP : Hid (∀ w', Below wr.heap.size wr w' → (w'.cell? ⟨w.heap.size, 1, none⟩ = some (.slice (some ⟨sb, so, none⟩) n sc) ∧ w'.cell? ⟨sb, so, none⟩ = some (.int .i64 d0)) ∧ Hid (Below wr.heap.size wr w')) := fun w' hb => ⟨⟨(hr5.out.later hb).cell 1, (hb.cell (p := ⟨sb, so, none⟩) hsb).trans hcl⟩, hb⟩
      have c : Below wr.heap.size wr wr.drew := (Below.refl _ _).drew
      refine wp_region_heldLast (S := fun w' => (w'.cell? ⟨w.heap.size, 1, none⟩ = some (.slice (some ⟨sb, so, none⟩) n sc) ∧ w'.cell? ⟨sb, so, none⟩ = some (.int .i64 d0)) ∧ Hid (Below wr.heap.size wr w')) _ (by simp) (by kernel_rfl) (by rfl) (by rfl) (by kernel_rfl) (by kernel_rfl) (KEEP.out _ c) (fun hHeld => ?_)
      simp only [List.dropLast_cons_cons, List.dropLast_singleton, List.getLast_cons_cons, List.getLast_singleton, List.cons_append, List.nil_append, List.length_cons, List.length_nil]
      refine wpAnyH_take (i := 0) (v := ?v0b1) rfl (by kernel_rfl) (by kernel_rfl) (by kernel_rfl) (fun _ _ _ h => h) (Or.inl ⟨by rfl, ?hy0b1⟩) (by assumption) ?_
      case hy0b1 => (intro w hSw; (try dsimp only at hSw); simp only [List.getElem_toArray, List.getElem_cons_zero, List.getElem_cons_succ]; go_simp; try with_reducible rfl)
      try simp only [Act.put, List.getElem_toArray, List.getElem_cons_zero, List.getElem_cons_succ, List.setIfInBounds_toArray, List.set_cons_zero, List.set_cons_succ]
      refine wpAnyH_take (i := 1) (v := ?v1b2) rfl (by kernel_rfl) (by kernel_rfl) (by kernel_rfl) (fun _ _ _ h => h) (Or.inl ⟨by rfl, ?hy1b2⟩) (by assumption) ?_
      case hy1b2 => (intro w hSw; (try dsimp only at hSw); simp only [List.getElem_toArray, List.getElem_cons_zero, List.getElem_cons_succ]; go_simp; try with_reducible rfl)
      try simp only [Act.put, List.getElem_toArray, List.getElem_cons_zero, List.getElem_cons_succ, List.setIfInBounds_toArray, List.set_cons_zero, List.set_cons_succ]
      refine wpAnyH_take (i := 2) (v := ?v2b3) rfl (by kernel_rfl) (by kernel_rfl) (by kernel_rfl) (fun _ _ _ h => h) (Or.inl ⟨by rfl, ?hy2b3⟩) (by assumption) ?_
      case hy2b3 => (intro w hSw; (try dsimp only at hSw); simp only [List.getElem_toArray, List.getElem_cons_zero, List.getElem_cons_succ]; go_simp; try with_reducible rfl)
      try simp only [Act.put, List.getElem_toArray, List.getElem_cons_zero, List.getElem_cons_succ, List.setIfInBounds_toArray, List.set_cons_zero, List.set_cons_succ]
      refine wpAnyH_take (i := 3) (v := ?v3b4) rfl (by kernel_rfl) (by kernel_rfl) (by kernel_rfl) (fun _ _ _ h => h) (Or.inl ⟨by rfl, ?hy3b4⟩) (by assumption) ?_
      case hy3b4 => (intro w hSw; (try dsimp only at hSw); simp only [List.getElem_toArray, List.getElem_cons_zero, List.getElem_cons_succ]; go_simp; try with_reducible rfl)
      try simp only [Act.put, List.getElem_toArray, List.getElem_cons_zero, List.getElem_cons_succ, List.setIfInBounds_toArray, List.set_cons_zero, List.set_cons_succ]
      refine wpAnyH_take (i := 4) (v := _) rfl (by kernel_rfl) (by kernel_rfl) (by kernel_rfl) (fun _ _ _ h => h) (ld_yield (by rfl) 26 _ rfl w.heap.size 0 rfl 26 _ (fun w hS => hr5.out.later hS.2.out) [.int .i64 i, .slice (some ⟨sb, so, none⟩) n sc] rfl _ Try.underlying26 rfl Try.sizeR) (by assumption) ?_
      try simp only [Act.put, List.getElem_toArray, List.getElem_cons_zero, List.getElem_cons_succ, List.setIfInBounds_toArray, List.set_cons_zero, List.set_cons_succ]
      refine wpAnyH_ready (rs := [5]) (by kernel_rfl) (by simp) ?_
      refine AllReadyH.cons (i := 5) rfl (fun K hK => ?_) AllReadyH.nil
      rw [if_pos (by rfl)]
      simp only [List.getElem_toArray, List.getElem_cons_zero, List.getElem_cons_succ]
      go_simp
      refine (firstI_r i ms (show Hid (RI wr.drew (.slice (some ⟨sb, so, none⟩) n sc) ms) from XR.out.stays c) hl' hr).mono ?_
      rintro e y1 ⟨rfl, b⟩
      have c : Below wr.heap.size wr y1 := bl_next c b
      refine hK.out _ _ (KEEP.out _ c) (fun hHeld => ?_)
      clear hK K
      try simp only [Act.put, List.getElem_toArray, List.getElem_cons_zero, List.getElem_cons_succ, List.setIfInBounds_toArray, List.set_cons_zero, List.set_cons_succ]
      clear b
      refine wpAnyH_take (i := 6) (v := ?v6b6) rfl (by kernel_rfl) (by kernel_rfl) (by kernel_rfl) (fun _ _ _ h => h) (Or.inl ⟨by rfl, ?hy6b6⟩) (by assumption) ?_
      case hy6b6 => (intro w hSw; (try dsimp only at hSw); simp only [List.getElem_toArray, List.getElem_cons_zero, List.getElem_cons_succ]; go_simp; try with_reducible rfl)
      try simp only [Act.put, List.getElem_toArray, List.getElem_cons_zero, List.getElem_cons_succ, List.setIfInBounds_toArray, List.set_cons_zero, List.set_cons_succ]
      refine wpAnyH_ready (rs := [7]) (by kernel_rfl) (by simp) ?_
      refine AllReadyH.cons (i := 7) rfl (fun K hK => ?_) AllReadyH.nil
      rw [if_pos (by rfl)]
      simp only [List.getElem_toArray, List.getElem_cons_zero, List.getElem_cons_succ]
      go_simp
      have FL : Hid (SlN (y1.alloc (.cells #[.int .i64 d0, .bool true, .int .i64 i, .int .i64 1, .int .i64 0, .int .i64 0, .int .i64 0, .slice none 0 0, .int .i64 0, .int .i64 0, .int .i64 0, .string ⟨#[]⟩] 91)) 91 12 wr.heap.size (.slice (some ⟨y1.heap.size, 0, none⟩) 1 1) [[.int .i64 d0, .bool true, .int .i64 i, .int .i64 1, .int .i64 0, .int .i64 0, .int .i64 0, .slice none 0 0, .int .i64 0, .int .i64 0, .int .i64 0, .string ⟨#[]⟩]]) := SlN.one y1 91 12 wr.heap.size _ rfl rfl c.size
      have c : Below wr.heap.size wr (y1.alloc (.cells #[.int .i64 d0, .bool true, .int .i64 i, .int .i64 1, .int .i64 0, .int .i64 0, .int .i64 0, .slice none 0 0, .int .i64 0, .int .i64 0, .int .i64 0, .string ⟨#[]⟩] 91)) := c.alloc c.size _
      refine hK.out _ _ (KEEP.out _ c) (fun hHeld => ?_)
      clear hK K
      try simp only [Act.put, List.getElem_toArray, List.getElem_cons_zero, List.getElem_cons_succ, List.setIfInBounds_toArray, List.set_cons_zero, List.set_cons_succ]
      refine wpAnyH_take (i := 8) (v := ?v8b7) rfl (by kernel_rfl) (by kernel_rfl) (by kernel_rfl) (fun _ _ _ h => h) (Or.inl ⟨by rfl, ?hy8b7⟩) (by assumption) ?_
      case hy8b7 => (intro w hSw; (try dsimp only at hSw); simp only [List.getElem_toArray, List.getElem_cons_zero, List.getElem_cons_succ]; go_simp; try with_reducible rfl)
      try simp only [Act.put, List.getElem_toArray, List.getElem_cons_zero, List.getElem_cons_succ, List.setIfInBounds_toArray, List.set_cons_zero, List.set_cons_succ]
      refine wpAnyH_take (i := 9) (v := ?v9b8) rfl (by kernel_rfl) (by kernel_rfl) (by kernel_rfl) (fun _ _ _ h => h) (Or.inl ⟨by rfl, ?hy9b8⟩) (by assumption) ?_
      case hy9b8 => (intro w hSw; (try dsimp only at hSw); simp only [List.getElem_toArray, List.getElem_cons_zero, List.getElem_cons_succ]; go_simp; try with_reducible rfl)
      try simp only [Act.put, List.getElem_toArray, List.getElem_cons_zero, List.getElem_cons_succ, List.setIfInBounds_toArray, List.set_cons_zero, List.set_cons_succ]
      refine wpAnyH_done (by kernel_rfl) ?_ _
      have GBy : Hid (Bx (y1.alloc (.cells #[.int .i64 d0, .bool true, .int .i64 i, .int .i64 1, .int .i64 0, .int .i64 0, .int .i64 0, .slice none 0 0, .int .i64 0, .int .i64 0, .int .i64 0, .string ⟨#[]⟩] 91)) gq 65 [.int .i64 i, .slice uq.a uq.n uq.c, .slice mav.a mav.n mav.c, .slice none 0 0, .slice hev.a hev.n hev.c, .slice none 0 0]) := GB.out.later c
      refine lastQ_of rfl rfl ?_
      refine wp_st1 62 _ _ rfl gq 3 rfl 65 _ GBy.out (.slice (some ⟨y1.heap.size, 0, none⟩) 1 1) rfl (by simp) rfl Try.sizeFls [.int .i64 i, .slice uq.a uq.n uq.c, .slice mav.a mav.n mav.c, .slice (some ⟨y1.heap.size, 0, none⟩) 1 1, .slice hev.a hev.n hev.c, .slice none 0 0] rfl ?_
      intro we GBe Te
      have Ke : Hid (KeepTy (fun T => T = 65) (y1.alloc (.cells #[.int .i64 d0, .bool true, .int .i64 i, .int .i64 1, .int .i64 0, .int .i64 0, .int .i64 0, .slice none 0 0, .int .i64 0, .int .i64 0, .int .i64 0, .string ⟨#[]⟩] 91)) we) := KeepTy.ofTurn GBy.out Te rfl
      have zs1 : w.heap.size ≤ w1.heap.size := B1.out.size
      have zs2 : w1.heap.size ≤ wr.heap.size := BL.out.size
      have zs3 : wr.heap.size ≤ we.heap.size := by have := c.size; have := Te.size; omega
      have cb := c.block
      have OQe : Hid (OwnI we w.heap.size uq.v ms) := ((OQ.out.keep fun k _ hk => cb k hk).kt Ke.out (by decide)).down zs1
      have MAe : Hid (MsP we w.heap.size mav.v ma) := ((MA.out.below c).kt Ke.out (by decide) (by decide) (by decide) (by decide)).down zs1
      have HEe : Hid (HsP we w.heap.size hev.v he) := ((HE.out.below c).kt Ke.out (by decide) (by decide)).down zs1
      have FLe : Hid (SlN we 91 12 w.heap.size (.slice (some ⟨y1.heap.size, 0, none⟩) 1 1) [[.int .i64 d0, .bool true, .int .i64 i, .int .i64 1, .int .i64 0, .int .i64 0, .int .i64 0, .slice none 0 0, .int .i64 0, .int .i64 0, .int .i64 0, .string ⟨#[]⟩]]) := (FL.out.kt Ke.out (by decide)).down (by omega)
      have Re : Hid (Bx we (w.heap.size + 1) 65 [.int .i64 0, .slice none 0 0, .slice none 0 0, .slice none 0 0, .slice none 0 0, .slice none 0 0]) := ((R1.out.later BL.out).later c).turn Te (by have h1 := ZGQ.out; have h2 := R1.out.lt; omega)
      have Be : Hid (Below w.heap.size w we) := (B1.out.trans ((bl_next BL.out c).mono B1.out.size)).trans (Te.below (by have h1 := ZGQ.out; have h2 := B1.out.size; omega))
      clear GBy Te c cb KEEP FL GB OQ MA HE BL hr5 r51 hcl XR n0 hsb Ke
      go_wp2_with (first | (refine wpList_ldG rfl 65 _ rfl gq 0 rfl 65 _ GBe [.int .i64 i, .slice uq.a uq.n uq.c, .slice mav.a mav.n mav.c, .slice (some ⟨y1.heap.size, 0, none⟩) 1 1, .slice hev.a hev.n hev.c, .slice none 0 0] rfl _ Try.underlying65 rfl Try.sizeWk ?_) | (refine wpList_stB rfl 65 _ _ rfl (w.heap.size + 1) 0 rfl 65 _ Re.out [.int .i64 i, .slice uq.a uq.n uq.c, .slice mav.a mav.n mav.c, .slice (some ⟨y1.heap.size, 0, none⟩) 1 1, .slice hev.a hev.n hev.c, .slice none 0 0] rfl (by simp) Try.sizeWk rfl [.int .i64 i, .slice uq.a uq.n uq.c, .slice mav.a mav.n mav.c, .slice (some ⟨y1.heap.size, 0, none⟩) 1 1, .slice hev.a hev.n hev.c, .slice none 0 0] rfl ?_; intro wz RZ TZ))
      refine bodyPost_ret (results_bt Try.results30 (w.heap.size + 1) 65 [.int .i64 i, .slice uq.a uq.n uq.c, .slice mav.a mav.n mav.c, .slice (some ⟨y1.heap.size, 0, none⟩) 1 1, .slice hev.a hev.n hev.c, .slice none 0 0] _ rfl RZ Try.underlying65 rfl Try.sizeWk) rfl ?_
      have Kz : KeepTy (fun T => T = 65) we wz := KeepTy.ofTurn Re.out TZ rfl
      have q1 := OQe.out.kt Kz (by decide)
      have q2 := MAe.out.kt Kz (by decide) (by decide) (by decide) (by decide)
      have q3 := HEe.out.kt Kz (by decide) (by decide)
      have q4 := FLe.out.kt Kz (by decide)
      have zs4 : wr.heap.size ≤ wz.heap.size := by have := TZ.size; omega
      refine ⟨⟨i, ms, uq, ma, mav, [(⟨d0, true, ⟨i, 1, 0, 0, 0, []⟩, zIt⟩, zSv)], ⟨some ⟨y1.heap.size, 0, none⟩, 1, 1⟩, he, hev, [], zSv⟩, rfl, ⟨⟨q1.down (Nat.zero_le _), q2.down (Nat.zero_le _), ⟨q4.down (Nat.zero_le _), fun e hh => ?_⟩, q3.down (Nat.zero_le _), own_nilIt _ _⟩, q1, q2.1, q4, q3.1, ⟨W3.heap.size, ?_, UB.up UU.out zs4, RB3.out⟩, rfl, rfl, ⟨rfl, rfl, NWx.out, rfl, by rw [← HD0.out]; rfl⟩⟩, Be.out.trans (TZ.below (by omega))⟩
      · simp at hh; subst hh; exact ownI_nil _ _
      · have := ZW13.out; omega
end Go.Proofs.Ythdjkkiegecgnaa


/- A member hears: mustWait, hear. -/
namespace Go.Proofs.Ythdjkkiegecgnaa
open Go.RowKit Pl
set_option linter.unusedVariables false
set_option linter.unusedSimpArgs false

/-- whether an item must wait. -/
def waitB (li q l : Int) : Bool := decide (l = 2) && decide (li < q)
/-- what is heard in n rounds, from h on. -/
def hears (ts : List It) (li : Int) : Nat → Int → List It
  | 0, _ => []
  | n + 1, h => match atP ts (h + 1) with
    | none => []
    | some x => if waitB li x.1 x.2.2.1 = true then [] else x :: hears ts li n (h + 1)
def Mt.hear (m : Mt) : List It := hears m.its m.li ((aruP m.its : Int) - m.he).toNat m.he
def Mt.setH (m : Mt) (h : Int) : Mt := ⟨m.id, m.rid, m.ms, m.its, m.lv, m.tx, m.rd, m.se, m.li, h, m.la⟩
def lenV : Value → Nat
  | .slice _ n _ => n
  | _ => 0
end Go.Proofs.Ythdjkkiegecgnaa


