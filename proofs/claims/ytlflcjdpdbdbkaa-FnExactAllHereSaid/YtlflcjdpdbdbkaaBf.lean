/- Lists of bundles compared; the first bundle of a member for a ring, as the specification finds it. Written by gen_bf.py. -/
import Derived.Test.YtlflcjdpdbdbkaaBm
import Derived.BigQuiet
import Derived.Deep.RegionHeld
namespace Go.Proofs.Ytlflcjdpdbdbkaa
open Go.RowKit Pl
set_option linter.unusedVariables false
set_option linter.unusedSimpArgs false

set_option maxRecDepth 100000 in
set_option maxHeartbeats 2000000 in
theorem eqBundle_r (f n o : Int) (s s' : Sv) (ts : List It) (w : World) (h1 : Hid (RIt w s ts)) (h2 : Hid (RIt w s' ts)) (hl : ts.length ≤ 1048576) :
    Calls Try.prog 10 #[.agg #[.int .i64 f, .int .i64 n, .int .i64 o, .slice s.a s.n s.c], .agg #[.int .i64 f, .int .i64 n, .int .i64 o, .slice s'.a s'.n s'.c]] w fun e w' => e = .returned (.bool true) ∧ Below w.heap.size w w' := by
  have d0 : (f != f) = false := by simp
  have d1 : (n != n) = false := by simp
  have d2 : (o != o) = false := by simp
  have BB : Hid (Below w.heap.size w ((w.alloc (.cells #[.int .i64 f, .int .i64 n, .int .i64 o, .slice s.a s.n s.c] 29)).alloc (.cells #[.int .i64 f, .int .i64 n, .int .i64 o, .slice s'.a s'.n s'.c] 29))) := ((Below.refl _ _).alloc (Nat.le_refl _) _).alloc (by simp) _
  have P1 : Hid (Bx ((w.alloc (.cells #[.int .i64 f, .int .i64 n, .int .i64 o, .slice s.a s.n s.c] 29)).alloc (.cells #[.int .i64 f, .int .i64 n, .int .i64 o, .slice s'.a s'.n s'.c] 29)) w.heap.size 29 [.int .i64 f, .int .i64 n, .int .i64 o, .slice s.a s.n s.c]) := (Bx.new w 29 [.int .i64 f, .int .i64 n, .int .i64 o, .slice s.a s.n s.c]).stays ((Below.refl (w.heap.size + 1) _).alloc (by simp) _) (by omega)
  have P2 : Hid (Bx ((w.alloc (.cells #[.int .i64 f, .int .i64 n, .int .i64 o, .slice s.a s.n s.c] 29)).alloc (.cells #[.int .i64 f, .int .i64 n, .int .i64 o, .slice s'.a s'.n s'.c] 29)) (w.heap.size + 1) 29 [.int .i64 f, .int .i64 n, .int .i64 o, .slice s'.a s'.n s'.c]) := bx_next w (.cells #[.int .i64 f, .int .i64 n, .int .i64 o, .slice s.a s.n s.c] 29) 29 [.int .i64 f, .int .i64 n, .int .i64 o, .slice s'.a s'.n s'.c]
  have O1 : Hid (RIt ((w.alloc (.cells #[.int .i64 f, .int .i64 n, .int .i64 o, .slice s.a s.n s.c] 29)).alloc (.cells #[.int .i64 f, .int .i64 n, .int .i64 o, .slice s'.a s'.n s'.c] 29)) s ts) := h1.out.stays BB.out
  have O2 : Hid (RIt ((w.alloc (.cells #[.int .i64 f, .int .i64 n, .int .i64 o, .slice s.a s.n s.c] 29)).alloc (.cells #[.int .i64 f, .int .i64 n, .int .i64 o, .slice s'.a s'.n s'.c] 29)) s' ts) := h2.out.stays BB.out
  have a0 := P1.out.cell 0
  have a1 := P1.out.cell 1
  have a2 := P1.out.cell 2
  have a3 := P1.out.cell 3
  have b0 := P2.out.cell 0
  have b1 := P2.out.cell 1
  have b2 := P2.out.cell 2
  have b3 := P2.out.cell 3
  simp only [List.getElem?_cons_succ, List.getElem?_cons_zero] at a0 a1 a2 a3 b0 b1 b2 b3
  go_enter Try.func10, Try.ntmps10
  go_wp2_with fail
  generalize (w.alloc (.cells #[.int .i64 f, .int .i64 n, .int .i64 o, .slice s.a s.n s.c] 29)).alloc (.cells #[.int .i64 f, .int .i64 n, .int .i64 o, .slice s'.a s'.n s'.c] 29) = W at *
  have hc := eqItems_same s.a s'.a s.c s'.c ts W O1.out.2 O2.out.2 hl
  rw [← O1.out.1] at hc
  have e2 : s.n = s'.n := O1.out.1.trans O2.out.1.symm
  rw (occs := .pos [2]) [e2] at hc
  refine hc.mono ?_
  clear hc e2
  rintro e w1 ⟨rfl, hb1⟩
  go_wp2
  go_ret
  exact ⟨rfl, BB.out.trans (hb1.mono BB.out.size)⟩

set_option maxRecDepth 100000 in
set_option maxHeartbeats 4000000 in
theorem eqBundles_same (ao1 ao2 : Option Addr) (cap1 cap2 : Nat) (cs ds : List Bu) (w : World) (h1 : Hid (BnsAt w ao1 cs)) (h2 : Hid (BnsAt w ao2 ds)) (hpl : Hid (cs.map Bu.pl = ds.map Bu.pl)) (hl : cs.length ≤ 1048576) (hs : Hid (∀ b ∈ cs, b.ts.length ≤ 1048576)) :
    Calls Try.prog 18 #[.slice ao1 cs.length cap1, .slice ao2 cs.length cap2] w fun e w' => e = .returned (.bool true) ∧ Below w.heap.size w w' := by
  have hdl : cs.length = ds.length := by
    have := congrArg List.length hpl.out
    simpa using this
  have HDL : Hid (cs.length = ds.length) := hdl
  clear hdl
  go_enter Try.func18, Try.ntmps18
  go_wp2_with fail
  go_loopw [5] (fun i wr => ∃ (k : Nat), k ≤ cs.length ∧ i = .int .i64 k ∧ Hid (Below w.heap.size w wr)) (fun i _ => cs.length - (intOf i).toNat)
  case atStart => exact ⟨0, by omega, rfl, Below.refl _ _⟩
  case round =>
    obtain ⟨k, hk, rfl, hb⟩ := hrel
    by_cases hlt : k < cs.length
    · have hlt2 : k < ds.length := by have := HDL.out; omega
      obtain ⟨b1, off1, rfl, hbb1, p0, p1, p2, p3, hr1⟩ := h1.out.stays hb.out k hlt
      obtain ⟨b2, off2, rfl, hbb2, q0, q1, q2, q3, hr2⟩ := h2.out.stays hb.out k hlt2
      have hq1 := hs.out _ (List.getElem_mem hlt)
      have heq : cs[k].pl = ds[k].pl := by
        have := congrArg (fun l => l[k]?) hpl.out
        simpa [hlt, hlt2] using this
      have HP : Hid (∃ x : Bu, x = cs[k]) := ⟨_, rfl⟩
      obtain ⟨⟨f, n, o, ts, s1⟩, hp⟩ := HP.out
      have HP2 : Hid (∃ x : Bu, x = ds[k]) := ⟨_, rfl⟩
      obtain ⟨⟨f2, n2, o2, ts2, s2⟩, hp2⟩ := HP2.out
      rw [← hp] at p0 p1 p2 p3 hr1 hq1
      rw [← hp2] at q0 q1 q2 q3 hr2
      rw [← hp, ← hp2] at heq
      simp only [Bu.pl, Prod.mk.injEq] at heq
      obtain ⟨rfl, rfl, rfl, rfl⟩ := heq
      have HR1 : Hid (RIt wr s1 ts) := hr1
      have HR2 : Hid (RIt wr s2 ts) := hr2
      clear hp hp2 HP HP2 hr1 hr2
      dsimp only at p0 p1 p2 p3 q0 q1 q2 q3 hq1
      have KEEP : Hid (∀ w', Below wr.heap.size wr w' → ((w'.cell? ⟨b1, off1 + k * 4, none⟩ = some (.int .i64 f) ∧ w'.cell? ⟨b1, off1 + k * 4 + 1, none⟩ = some (.int .i64 n) ∧ w'.cell? ⟨b1, off1 + k * 4 + 2, none⟩ = some (.int .i64 o) ∧ w'.cell? ⟨b1, off1 + k * 4 + 3, none⟩ = some (.slice s1.a s1.n s1.c)) ∧ (w'.cell? ⟨b2, off2 + k * 4, none⟩ = some (.int .i64 f) ∧ w'.cell? ⟨b2, off2 + k * 4 + 1, none⟩ = some (.int .i64 n) ∧ w'.cell? ⟨b2, off2 + k * 4 + 2, none⟩ = some (.int .i64 o) ∧ w'.cell? ⟨b2, off2 + k * 4 + 3, none⟩ = some (.slice s2.a s2.n s2.c))) ∧ Hid (Below wr.heap.size wr w')) := fun w' hw => ⟨⟨⟨(hw.cell (p := ⟨b1, off1 + k * 4, none⟩) hbb1).trans p0, (hw.cell (p := ⟨b1, off1 + k * 4 + 1, none⟩) hbb1).trans p1, (hw.cell (p := ⟨b1, off1 + k * 4 + 2, none⟩) hbb1).trans p2, (hw.cell (p := ⟨b1, off1 + k * 4 + 3, none⟩) hbb1).trans p3⟩, (hw.cell (p := ⟨b2, off2 + k * 4, none⟩) hbb2).trans q0, (hw.cell (p := ⟨b2, off2 + k * 4 + 1, none⟩) hbb2).trans q1, (hw.cell (p := ⟨b2, off2 + k * 4 + 2, none⟩) hbb2).trans q2, (hw.cell (p := ⟨b2, off2 + k * 4 + 3, none⟩) hbb2).trans q3⟩, hw⟩
      go_wp2_with fail
      clear p0 p1 p2 p3 q0 q1 q2 q3
      have c : Below wr.heap.size wr wr.drew := (Below.refl _ _).drew
      refine wp_region_held_drew (S := fun w' => ((w'.cell? ⟨b1, off1 + k * 4, none⟩ = some (.int .i64 f) ∧ w'.cell? ⟨b1, off1 + k * 4 + 1, none⟩ = some (.int .i64 n) ∧ w'.cell? ⟨b1, off1 + k * 4 + 2, none⟩ = some (.int .i64 o) ∧ w'.cell? ⟨b1, off1 + k * 4 + 3, none⟩ = some (.slice s1.a s1.n s1.c)) ∧ (w'.cell? ⟨b2, off2 + k * 4, none⟩ = some (.int .i64 f) ∧ w'.cell? ⟨b2, off2 + k * 4 + 1, none⟩ = some (.int .i64 n) ∧ w'.cell? ⟨b2, off2 + k * 4 + 2, none⟩ = some (.int .i64 o) ∧ w'.cell? ⟨b2, off2 + k * 4 + 3, none⟩ = some (.slice s2.a s2.n s2.c))) ∧ Hid (Below wr.heap.size wr w')) (by kernel_rfl) (KEEP.out _ c) (fun hHeld => ?_)
      refine wpAnyH_take (i := 0) (v := ?v0) rfl (by kernel_rfl) (by kernel_rfl) (by kernel_rfl) (fun _ _ _ h => h) (Or.inl ⟨by rfl, ?hy0⟩) (by assumption) ?_
      case hy0 => (intro w hSw; (try dsimp only at hSw); simp only [List.getElem_toArray, List.getElem_cons_zero, List.getElem_cons_succ]; go_simp; try with_reducible rfl)
      try simp only [Act.put, List.getElem_toArray, List.getElem_cons_zero, List.getElem_cons_succ, List.setIfInBounds_toArray, List.set_cons_zero, List.set_cons_succ]
      refine wpAnyH_take (i := 1) (v := ?v1) rfl (by kernel_rfl) (by kernel_rfl) (by kernel_rfl) (fun _ _ _ h => h) (Or.inl ⟨by rfl, ?hy1⟩) (by assumption) ?_
      case hy1 => (intro w hSw; (try dsimp only at hSw); simp only [List.getElem_toArray, List.getElem_cons_zero, List.getElem_cons_succ]; go_simp; try with_reducible rfl)
      try simp only [Act.put, List.getElem_toArray, List.getElem_cons_zero, List.getElem_cons_succ, List.setIfInBounds_toArray, List.set_cons_zero, List.set_cons_succ]
      refine wpAnyH_take (i := 2) (v := ?v2) rfl (by kernel_rfl) (by kernel_rfl) (by kernel_rfl) (fun _ _ _ h => h) (Or.inl ⟨by rfl, ?hy2⟩) (by assumption) ?_
      case hy2 => (intro w hSw; (try dsimp only at hSw); simp only [List.getElem_toArray, List.getElem_cons_zero, List.getElem_cons_succ]; go_simp; try with_reducible rfl)
      try simp only [Act.put, List.getElem_toArray, List.getElem_cons_zero, List.getElem_cons_succ, List.setIfInBounds_toArray, List.set_cons_zero, List.set_cons_succ]
      refine wpAnyH_take (i := 3) (v := ?v3) rfl (by kernel_rfl) (by kernel_rfl) (by kernel_rfl) (fun _ _ _ h => h) (Or.inl ⟨by rfl, ?hy3⟩) (by assumption) ?_
      case hy3 => (intro w hSw; (try dsimp only at hSw); simp only [List.getElem_toArray, List.getElem_cons_zero, List.getElem_cons_succ]; go_simp; try with_reducible rfl)
      try simp only [Act.put, List.getElem_toArray, List.getElem_cons_zero, List.getElem_cons_succ, List.setIfInBounds_toArray, List.set_cons_zero, List.set_cons_succ]
      refine wpAnyH_take (i := 4) (v := ?v4) rfl (by kernel_rfl) (by kernel_rfl) (by kernel_rfl) (fun _ _ _ h => h) (Or.inl ⟨by rfl, ?hy4⟩) (by assumption) ?_
      case hy4 => (intro w hSw; (try dsimp only at hSw); simp only [List.getElem_toArray, List.getElem_cons_zero, List.getElem_cons_succ]; go_simp; try with_reducible rfl)
      try simp only [Act.put, List.getElem_toArray, List.getElem_cons_zero, List.getElem_cons_succ, List.setIfInBounds_toArray, List.set_cons_zero, List.set_cons_succ]
      refine wpAnyH_take (i := 5) (v := ?v5) rfl (by kernel_rfl) (by kernel_rfl) (by kernel_rfl) (fun _ _ _ h => h) (Or.inl ⟨by rfl, ?hy5⟩) (by assumption) ?_
      case hy5 => (intro w hSw; (try dsimp only at hSw); simp only [List.getElem_toArray, List.getElem_cons_zero, List.getElem_cons_succ]; go_simp; try with_reducible rfl)
      try simp only [Act.put, List.getElem_toArray, List.getElem_cons_zero, List.getElem_cons_succ, List.setIfInBounds_toArray, List.set_cons_zero, List.set_cons_succ]
      refine wpAnyH_take (i := 6) (v := ?v6) rfl (by kernel_rfl) (by kernel_rfl) (by kernel_rfl) (fun _ _ _ h => h) (Or.inl ⟨by rfl, ?hy6⟩) (by assumption) ?_
      case hy6 => (intro w hSw; (try dsimp only at hSw); simp only [List.getElem_toArray, List.getElem_cons_zero, List.getElem_cons_succ]; go_simp; try with_reducible rfl)
      try simp only [Act.put, List.getElem_toArray, List.getElem_cons_zero, List.getElem_cons_succ, List.setIfInBounds_toArray, List.set_cons_zero, List.set_cons_succ]
      refine wpAnyH_take (i := 7) (v := ?v7) rfl (by kernel_rfl) (by kernel_rfl) (by kernel_rfl) (fun _ _ _ h => h) (Or.inl ⟨by rfl, ?hy7⟩) (by assumption) ?_
      case hy7 => (intro w hSw; (try dsimp only at hSw); simp only [List.getElem_toArray, List.getElem_cons_zero, List.getElem_cons_succ]; go_simp; try with_reducible rfl)
      try simp only [Act.put, List.getElem_toArray, List.getElem_cons_zero, List.getElem_cons_succ, List.setIfInBounds_toArray, List.set_cons_zero, List.set_cons_succ]
      refine wpAnyH_ready (rs := [8]) (by kernel_rfl) (by simp) ?_
      refine AllReadyH.cons (i := 8) rfl (fun K hK => ?_) AllReadyH.nil
      rw [if_pos (by rfl)]
      simp only [List.getElem_toArray, List.getElem_cons_zero, List.getElem_cons_succ]
      go_simp
      refine (eqBundle_r f n o s1 s2 ts _ (show Hid (RIt wr.drew s1 ts) from HR1.out.stays c) (show Hid (RIt wr.drew s2 ts) from HR2.out.stays c) hq1).mono ?_
      rintro e w1 ⟨rfl, b8⟩
      have c : Below wr.heap.size wr w1 := bl_nxt c b8
      refine hK.out _ _ (KEEP.out _ c) (fun hHeld => ?_)
      clear hK K
      try simp only [Act.put, List.getElem_toArray, List.getElem_cons_zero, List.getElem_cons_succ, List.setIfInBounds_toArray, List.set_cons_zero, List.set_cons_succ]
      refine wpAnyH_take (i := 9) (v := ?v9) rfl (by kernel_rfl) (by kernel_rfl) (by kernel_rfl) (fun _ _ _ h => h) (Or.inl ⟨by rfl, ?hy9⟩) (by assumption) ?_
      case hy9 => (intro w hSw; (try dsimp only at hSw); simp only [List.getElem_toArray, List.getElem_cons_zero, List.getElem_cons_succ]; go_simp; try with_reducible rfl)
      try simp only [Act.put, List.getElem_toArray, List.getElem_cons_zero, List.getElem_cons_succ, List.setIfInBounds_toArray, List.set_cons_zero, List.set_cons_succ]
      refine wpAnyH_done (by kernel_rfl) ?_ _
      have B1 : Hid (Below w.heap.size w w1) := bl_nxt hb.out c
      clear c b8 hHeld KEEP HR1 HR2
      go_wp2_with fail
      go_roundw
      case rel => exact ⟨k + 1, by omega, by go_num, B1.out⟩
      case measure => simp [intOf]; omega
    · go_wp2_with fail
      go_ret
      exact ⟨rfl, hb.out⟩

/-- whether a right bundle of this member for this ring is among them. -/
def hitB (rid d : Int) (bs : List Bu) : Bool := bs.any fun b => decide (b.f = d) && (decide (b.n = rid) && b.ok)
theorem hitB_next {rid d : Int} {bs : List Bu} {k : Nat} (hk : k < bs.length) (h : hitB rid d (bs.take k) = false) (hx : (decide (bs[k].f = d) && (decide (bs[k].n = rid) && bs[k].ok)) = false) : hitB rid d (bs.take (k + 1)) = false := by
  unfold hitB at h ⊢
  rw [List.take_succ_eq_append_getElem hk, List.any_append, h, List.any_cons, hx]
  rfl
theorem hitB_yes {rid d : Int} {bs : List Bu} {k : Nat} (hk : k < bs.length) (hx : (decide (bs[k].f = d) && (decide (bs[k].n = rid) && bs[k].ok)) = true) : hitB rid d bs = true := by
  unfold hitB
  rw [List.any_eq_true]
  exact ⟨bs[k], List.getElem_mem hk, hx⟩

set_option maxRecDepth 100000 in
set_option maxHeartbeats 8000000 in
theorem lfirst_any (rid d : Int) (v : Value) (ao : Option Addr) (cap : Nat) (bs : List Bu) (w : World) (hx : Hid (BnsAt w ao bs)) (hl : bs.length ≤ 1048576) (hs : Hid (∀ b ∈ bs, b.ts.length ≤ 1048576)) (hv : v.oneCell' = true) :
    Calls Try.prog 33 #[.agg #[.int .i64 rid, v], .slice ao bs.length cap, .int .i64 d] w fun e w' => ∃ (f n o : Int) (s : Sv), e = .returned (.tuple #[.agg #[.int .i64 f, .int .i64 n, .int .i64 o, .slice s.a s.n s.c], .bool (hitB rid d bs)]) ∧ Below w.heap.size w w' := by
  have B0 : Hid (Below w.heap.size w ((w.alloc (.cells #[.int .i64 rid, v] 40)).alloc (.cells #[.int .i64 0, .int .i64 0, .int .i64 0, .slice none 0 0] 29))) := ((Below.refl _ _).alloc (Nat.le_refl _) _).alloc (by simp) _
  have R0 : Hid (Bx ((w.alloc (.cells #[.int .i64 rid, v] 40)).alloc (.cells #[.int .i64 0, .int .i64 0, .int .i64 0, .slice none 0 0] 29)) w.heap.size 40 [.int .i64 rid, v]) := (Bx.new w 40 [.int .i64 rid, v]).stays ((Below.refl (w.heap.size + 1) _).alloc (by simp) _) (by omega)
  have U0 : Hid (Bx ((w.alloc (.cells #[.int .i64 rid, v] 40)).alloc (.cells #[.int .i64 0, .int .i64 0, .int .i64 0, .slice none 0 0] 29)) (w.heap.size + 1) 29 [.int .i64 0, .int .i64 0, .int .i64 0, .slice none 0 0]) := bx_next w _ 29 [.int .i64 0, .int .i64 0, .int .i64 0, .slice none 0 0]
  go_enter Try.func33, Try.ntmps33
  go_wp2_with fail
  generalize ((w.alloc (.cells #[.int .i64 rid, v] 40)).alloc (.cells #[.int .i64 0, .int .i64 0, .int .i64 0, .slice none 0 0] 29)) = W0 at *
  generalize hg1 : w.heap.size + 1 = g1 at *
  have HG1 : Hid (w.heap.size + 1 = g1) := hg1
  clear hg1
  go_loopw [8] (fun i wr => ∃ (k : Nat), k ≤ bs.length ∧ i = .int .i64 k ∧ Hid (hitB rid d (bs.take k) = false) ∧ Hid (Bx wr w.heap.size 40 [.int .i64 rid, v]) ∧ Hid (Bx wr g1 29 [.int .i64 0, .int .i64 0, .int .i64 0, .slice none 0 0]) ∧ Hid (Below w.heap.size w wr)) (fun i _ => bs.length - (intOf i).toNat)
  case atStart => exact ⟨0, by omega, rfl, rfl, R0.out, U0.out, B0.out⟩
  case round =>
    clear R0 U0 B0
    obtain ⟨k, hk, rfl, hno, HRg, HU, hb⟩ := hrel
    by_cases hlt : k < bs.length
    · obtain ⟨b, off, rfl, hbb, c0, c1, c2, c3, hrit⟩ := hx.out.stays hb.out k hlt
      have hq1 := hs.out _ (List.getElem_mem hlt)
      have HP : Hid (∃ x : Bu, x = bs[k]) := ⟨_, rfl⟩
      obtain ⟨⟨f, n, o, ts, s⟩, hp⟩ := HP.out
      rw [← hp] at c0 c1 c2 c3 hq1 hrit
      have HQ : Hid (Bu.mk f n o ts s = bs[k]) := hp
      have HRI : Hid (RIt wr s ts) := hrit
      clear hp HP hrit
      dsimp only at c0 c1 c2 c3 hq1
      obtain ⟨OK, hOK⟩ : ∃ OK, bunB f n o ts = OK := ⟨_, rfl⟩
      have HOK : Hid (bunB f n o ts = OK) := hOK
      clear hOK
      by_cases hf : f = d
      · have ef : (f == d) = true := by simp [hf]
        by_cases hn : n = rid
        · have en : (n == rid) = true := by simp [hn]
          have HF : Hid (f = d) := hf
          have HN : Hid (n = rid) := hn
          clear hf hn
          cases OK with
          | true =>
            have HY : Hid (hitB rid d bs = true) := hitB_yes hlt (by rw [← HQ.out]; show (decide (f = d) && (decide (n = rid) && bunB f n o ts)) = true; rw [HF.out, HN.out, ← HF.out, ← HN.out, HOK.out]; simp [HF.out, HN.out])
            go_wp2_with fail
            refine quietC (C := fun w' => Below wr.heap.size wr w') (by kernel_rfl) (by kernel_rfl) (Below.refl _ _).drew ?_
            go_big_quiet_want
            refine q_val (.slice (some ⟨b, off, none⟩) bs.length cap) (fun w' hw' => by go_simp) ?_
            go_big_quiet_on
            simp only [Act.put, List.setIfInBounds_toArray, List.set_cons_zero, List.set_cons_succ]
            go_big_quiet_want
            refine q_val (.int .i64 ((k : Int))) (fun w' hw' => by go_simp) ?_
            go_big_quiet_on
            simp only [Act.put, List.setIfInBounds_toArray, List.set_cons_zero, List.set_cons_succ]
            go_big_quiet_want
            refine q_val (.pointer (some ⟨b, off + k * 4, none⟩)) (fun w' hw' => by go_simp) ?_
            go_big_quiet_on
            simp only [Act.put, List.setIfInBounds_toArray, List.set_cons_zero, List.set_cons_succ]
            go_big_quiet_want
            refine q_val (.pointer (some ⟨b, off + k * 4, none⟩)) (fun w' hw' => by go_simp) ?_
            go_big_quiet_on
            simp only [Act.put, List.setIfInBounds_toArray, List.set_cons_zero, List.set_cons_succ]
            go_big_quiet_want
            refine q_val (.int .i64 f) (fun w' hw' => by have r0 : w'.cell? ⟨b, off + k * 4, none⟩ = some (.int .i64 f) := (hw'.cell (p := ⟨b, off + k * 4, none⟩) hbb).trans c0; go_simp) ?_
            go_big_quiet_on
            simp only [Act.put, List.setIfInBounds_toArray, List.set_cons_zero, List.set_cons_succ]
            go_big_quiet_want
            refine q_val (.int .i64 d) (fun w' hw' => by go_simp) ?_
            go_big_quiet_on
            simp only [Act.put, List.setIfInBounds_toArray, List.set_cons_zero, List.set_cons_succ]
            go_big_quiet_want
            refine q_val (.bool true) (fun w' hw' => by go_simp) ?_
            go_big_quiet_on
            simp only [Act.put, List.setIfInBounds_toArray, List.set_cons_zero, List.set_cons_succ]
            go_big_quiet_want
            refine q_val (.bool true) (fun w' hw' => by go_simp) ?_
            go_big_quiet_on
            simp only [Act.put, List.setIfInBounds_toArray, List.set_cons_zero, List.set_cons_succ]
            go_big_quiet_want
            refine q_val (.slice (some ⟨b, off, none⟩) bs.length cap) (fun w' hw' => by go_simp) ?_
            go_big_quiet_on
            simp only [Act.put, List.setIfInBounds_toArray, List.set_cons_zero, List.set_cons_succ]
            go_big_quiet_want
            refine q_val (.int .i64 ((k : Int))) (fun w' hw' => by go_simp) ?_
            go_big_quiet_on
            simp only [Act.put, List.setIfInBounds_toArray, List.set_cons_zero, List.set_cons_succ]
            go_big_quiet_want
            refine q_val (.pointer (some ⟨b, off + k * 4, none⟩)) (fun w' hw' => by go_simp) ?_
            go_big_quiet_on
            simp only [Act.put, List.setIfInBounds_toArray, List.set_cons_zero, List.set_cons_succ]
            go_big_quiet_want
            refine q_val (.pointer (some ⟨b, off + k * 4 + 1, none⟩)) (fun w' hw' => by go_simp) ?_
            go_big_quiet_on
            simp only [Act.put, List.setIfInBounds_toArray, List.set_cons_zero, List.set_cons_succ]
            go_big_quiet_want
            refine q_val (.int .i64 n) (fun w' hw' => by have r1 : w'.cell? ⟨b, off + k * 4 + 1, none⟩ = some (.int .i64 n) := (hw'.cell (p := ⟨b, off + k * 4 + 1, none⟩) hbb).trans c1; go_simp) ?_
            go_big_quiet_on
            simp only [Act.put, List.setIfInBounds_toArray, List.set_cons_zero, List.set_cons_succ]
            go_big_quiet_want
            refine q_val (.pointer (some ⟨w.heap.size, 0, none⟩)) (fun w' hw' => by go_simp) ?_
            go_big_quiet_on
            simp only [Act.put, List.setIfInBounds_toArray, List.set_cons_zero, List.set_cons_succ]
            go_big_quiet_want
            refine q_val (.int .i64 rid) (fun w' hw' => by have rr : w'.cell? ⟨w.heap.size, 0, none⟩ = some (.int .i64 rid) := (HRg.out.later hw').cell 0; go_simp) ?_
            go_big_quiet_on
            simp only [Act.put, List.setIfInBounds_toArray, List.set_cons_zero, List.set_cons_succ]
            go_big_quiet_want
            refine q_val (.bool true) (fun w' hw' => by go_simp) ?_
            go_big_quiet_on
            simp only [Act.put, List.setIfInBounds_toArray, List.set_cons_zero, List.set_cons_succ]
            go_big_quiet_want
            refine q_val (.bool true) (fun w' hw' => by go_simp) ?_
            go_big_quiet_on
            simp only [Act.put, List.setIfInBounds_toArray, List.set_cons_zero, List.set_cons_succ]
            go_big_quiet_want
            refine q_val (.bool true) (fun w' hw' => by go_simp) ?_
            go_big_quiet_on
            simp only [Act.put, List.setIfInBounds_toArray, List.set_cons_zero, List.set_cons_succ]
            go_big_quiet_want
            refine q_val (.slice (some ⟨b, off, none⟩) bs.length cap) (fun w' hw' => by go_simp) ?_
            go_big_quiet_on
            simp only [Act.put, List.setIfInBounds_toArray, List.set_cons_zero, List.set_cons_succ]
            go_big_quiet_want
            refine q_val (.int .i64 ((k : Int))) (fun w' hw' => by go_simp) ?_
            go_big_quiet_on
            simp only [Act.put, List.setIfInBounds_toArray, List.set_cons_zero, List.set_cons_succ]
            go_big_quiet_want
            refine q_val (.pointer (some ⟨b, off + k * 4, none⟩)) (fun w' hw' => by go_simp) ?_
            go_big_quiet_on
            simp only [Act.put, List.setIfInBounds_toArray, List.set_cons_zero, List.set_cons_succ]
            go_big_quiet_want
            refine q_val (.agg #[.int .i64 f, .int .i64 n, .int .i64 o, .slice s.a s.n s.c]) (fun w' hw' => by have r0 : w'.cell? ⟨b, off + k * 4, none⟩ = some (.int .i64 f) := (hw'.cell (p := ⟨b, off + k * 4, none⟩) hbb).trans c0; have r1 : w'.cell? ⟨b, off + k * 4 + 1, none⟩ = some (.int .i64 n) := (hw'.cell (p := ⟨b, off + k * 4 + 1, none⟩) hbb).trans c1; have r2 : w'.cell? ⟨b, off + k * 4 + 2, none⟩ = some (.int .i64 o) := (hw'.cell (p := ⟨b, off + k * 4 + 2, none⟩) hbb).trans c2; have r3 : w'.cell? ⟨b, off + k * 4 + 3, none⟩ = some (.slice s.a s.n s.c) := (hw'.cell (p := ⟨b, off + k * 4 + 3, none⟩) hbb).trans c3; go_simp) ?_
            go_big_quiet_on
            simp only [Act.put, List.setIfInBounds_toArray, List.set_cons_zero, List.set_cons_succ]
            go_big_quiet_want
            refine q_callB (W := wr) (.bool true) 7 #[(.agg #[.int .i64 f, .int .i64 n, .int .i64 o, .slice s.a s.n s.c])] (fun w' hw' => by go_simp) (fun w' hw' => (spBundleOk_r f n o s ts w' (show Hid (RIt w' s ts) from HRI.out.stays hw') hq1).mono fun e w1 ⟨he, hb⟩ => ⟨by rw [he, HOK.out], hb⟩) ?_
            go_big_quiet_on
            simp only [Act.put, List.setIfInBounds_toArray, List.set_cons_zero, List.set_cons_succ]
            go_big_quiet_want
            refine q_val (.bool true) (fun w' hw' => by go_simp) ?_
            go_big_quiet_on
            simp only [Act.put, List.setIfInBounds_toArray, List.set_cons_zero, List.set_cons_succ]
            refine wpQuiet_nil ?_
            intro w1 hcw
            have B1 : Hid (Below w.heap.size w w1) := bl_nxt hb.out hcw
            have U1 : Hid (Bx w1 g1 29 [.int .i64 0, .int .i64 0, .int .i64 0, .slice none 0 0]) := HU.out.later hcw
            have d0 := (hcw.cell (p := ⟨b, off + k * 4, none⟩) hbb).trans c0
            have d1 := (hcw.cell (p := ⟨b, off + k * 4 + 1, none⟩) hbb).trans c1
            have d2 := (hcw.cell (p := ⟨b, off + k * 4 + 2, none⟩) hbb).trans c2
            have d3 := (hcw.cell (p := ⟨b, off + k * 4 + 3, none⟩) hbb).trans c3
            clear c0 c1 c2 c3 hcw ef en
            go_wp2_with (first | (with_reducible refine wpList_haltS 29 _ _ rfl ?_))
            refine Stp.go ?_
            refine wpList_stB rfl 29 _ _ rfl g1 0 rfl 29 _ U1.out [.int .i64 f, .int .i64 n, .int .i64 o, .slice s.a s.n s.c] rfl (by simp) Try.sizeBu rfl [.int .i64 f, .int .i64 n, .int .i64 o, .slice s.a s.n s.c] rfl ?_
            intro w2 U2 T2
            have B2 : Hid (Below w.heap.size w w2) := B1.out.trans (T2.below (by have := HG1.out; omega))
            clear T2
            go_wp2_with fail
            refine bodyPost_ret (results_bt Try.results33 g1 29 [.int .i64 f, .int .i64 n, .int .i64 o, .slice s.a s.n s.c] _ rfl U2 Try.underlying29 rfl Try.sizeBu) rfl ?_
            exact ⟨f, n, o, s, by rw [HY.out]; rfl, B2.out⟩
          | false =>
            have HY : Hid (hitB rid d (bs.take (k + 1)) = false) := hitB_next hlt hno.out (by rw [← HQ.out]; show (decide (f = d) && (decide (n = rid) && bunB f n o ts)) = false; rw [HOK.out]; simp)
            go_wp2_with fail
            refine quietC (C := fun w' => Below wr.heap.size wr w') (by kernel_rfl) (by kernel_rfl) (Below.refl _ _).drew ?_
            go_big_quiet_want
            refine q_val (.slice (some ⟨b, off, none⟩) bs.length cap) (fun w' hw' => by go_simp) ?_
            go_big_quiet_on
            simp only [Act.put, List.setIfInBounds_toArray, List.set_cons_zero, List.set_cons_succ]
            go_big_quiet_want
            refine q_val (.int .i64 ((k : Int))) (fun w' hw' => by go_simp) ?_
            go_big_quiet_on
            simp only [Act.put, List.setIfInBounds_toArray, List.set_cons_zero, List.set_cons_succ]
            go_big_quiet_want
            refine q_val (.pointer (some ⟨b, off + k * 4, none⟩)) (fun w' hw' => by go_simp) ?_
            go_big_quiet_on
            simp only [Act.put, List.setIfInBounds_toArray, List.set_cons_zero, List.set_cons_succ]
            go_big_quiet_want
            refine q_val (.pointer (some ⟨b, off + k * 4, none⟩)) (fun w' hw' => by go_simp) ?_
            go_big_quiet_on
            simp only [Act.put, List.setIfInBounds_toArray, List.set_cons_zero, List.set_cons_succ]
            go_big_quiet_want
            refine q_val (.int .i64 f) (fun w' hw' => by have r0 : w'.cell? ⟨b, off + k * 4, none⟩ = some (.int .i64 f) := (hw'.cell (p := ⟨b, off + k * 4, none⟩) hbb).trans c0; go_simp) ?_
            go_big_quiet_on
            simp only [Act.put, List.setIfInBounds_toArray, List.set_cons_zero, List.set_cons_succ]
            go_big_quiet_want
            refine q_val (.int .i64 d) (fun w' hw' => by go_simp) ?_
            go_big_quiet_on
            simp only [Act.put, List.setIfInBounds_toArray, List.set_cons_zero, List.set_cons_succ]
            go_big_quiet_want
            refine q_val (.bool true) (fun w' hw' => by go_simp) ?_
            go_big_quiet_on
            simp only [Act.put, List.setIfInBounds_toArray, List.set_cons_zero, List.set_cons_succ]
            go_big_quiet_want
            refine q_val (.bool true) (fun w' hw' => by go_simp) ?_
            go_big_quiet_on
            simp only [Act.put, List.setIfInBounds_toArray, List.set_cons_zero, List.set_cons_succ]
            go_big_quiet_want
            refine q_val (.slice (some ⟨b, off, none⟩) bs.length cap) (fun w' hw' => by go_simp) ?_
            go_big_quiet_on
            simp only [Act.put, List.setIfInBounds_toArray, List.set_cons_zero, List.set_cons_succ]
            go_big_quiet_want
            refine q_val (.int .i64 ((k : Int))) (fun w' hw' => by go_simp) ?_
            go_big_quiet_on
            simp only [Act.put, List.setIfInBounds_toArray, List.set_cons_zero, List.set_cons_succ]
            go_big_quiet_want
            refine q_val (.pointer (some ⟨b, off + k * 4, none⟩)) (fun w' hw' => by go_simp) ?_
            go_big_quiet_on
            simp only [Act.put, List.setIfInBounds_toArray, List.set_cons_zero, List.set_cons_succ]
            go_big_quiet_want
            refine q_val (.pointer (some ⟨b, off + k * 4 + 1, none⟩)) (fun w' hw' => by go_simp) ?_
            go_big_quiet_on
            simp only [Act.put, List.setIfInBounds_toArray, List.set_cons_zero, List.set_cons_succ]
            go_big_quiet_want
            refine q_val (.int .i64 n) (fun w' hw' => by have r1 : w'.cell? ⟨b, off + k * 4 + 1, none⟩ = some (.int .i64 n) := (hw'.cell (p := ⟨b, off + k * 4 + 1, none⟩) hbb).trans c1; go_simp) ?_
            go_big_quiet_on
            simp only [Act.put, List.setIfInBounds_toArray, List.set_cons_zero, List.set_cons_succ]
            go_big_quiet_want
            refine q_val (.pointer (some ⟨w.heap.size, 0, none⟩)) (fun w' hw' => by go_simp) ?_
            go_big_quiet_on
            simp only [Act.put, List.setIfInBounds_toArray, List.set_cons_zero, List.set_cons_succ]
            go_big_quiet_want
            refine q_val (.int .i64 rid) (fun w' hw' => by have rr : w'.cell? ⟨w.heap.size, 0, none⟩ = some (.int .i64 rid) := (HRg.out.later hw').cell 0; go_simp) ?_
            go_big_quiet_on
            simp only [Act.put, List.setIfInBounds_toArray, List.set_cons_zero, List.set_cons_succ]
            go_big_quiet_want
            refine q_val (.bool true) (fun w' hw' => by go_simp) ?_
            go_big_quiet_on
            simp only [Act.put, List.setIfInBounds_toArray, List.set_cons_zero, List.set_cons_succ]
            go_big_quiet_want
            refine q_val (.bool true) (fun w' hw' => by go_simp) ?_
            go_big_quiet_on
            simp only [Act.put, List.setIfInBounds_toArray, List.set_cons_zero, List.set_cons_succ]
            go_big_quiet_want
            refine q_val (.bool true) (fun w' hw' => by go_simp) ?_
            go_big_quiet_on
            simp only [Act.put, List.setIfInBounds_toArray, List.set_cons_zero, List.set_cons_succ]
            go_big_quiet_want
            refine q_val (.slice (some ⟨b, off, none⟩) bs.length cap) (fun w' hw' => by go_simp) ?_
            go_big_quiet_on
            simp only [Act.put, List.setIfInBounds_toArray, List.set_cons_zero, List.set_cons_succ]
            go_big_quiet_want
            refine q_val (.int .i64 ((k : Int))) (fun w' hw' => by go_simp) ?_
            go_big_quiet_on
            simp only [Act.put, List.setIfInBounds_toArray, List.set_cons_zero, List.set_cons_succ]
            go_big_quiet_want
            refine q_val (.pointer (some ⟨b, off + k * 4, none⟩)) (fun w' hw' => by go_simp) ?_
            go_big_quiet_on
            simp only [Act.put, List.setIfInBounds_toArray, List.set_cons_zero, List.set_cons_succ]
            go_big_quiet_want
            refine q_val (.agg #[.int .i64 f, .int .i64 n, .int .i64 o, .slice s.a s.n s.c]) (fun w' hw' => by have r0 : w'.cell? ⟨b, off + k * 4, none⟩ = some (.int .i64 f) := (hw'.cell (p := ⟨b, off + k * 4, none⟩) hbb).trans c0; have r1 : w'.cell? ⟨b, off + k * 4 + 1, none⟩ = some (.int .i64 n) := (hw'.cell (p := ⟨b, off + k * 4 + 1, none⟩) hbb).trans c1; have r2 : w'.cell? ⟨b, off + k * 4 + 2, none⟩ = some (.int .i64 o) := (hw'.cell (p := ⟨b, off + k * 4 + 2, none⟩) hbb).trans c2; have r3 : w'.cell? ⟨b, off + k * 4 + 3, none⟩ = some (.slice s.a s.n s.c) := (hw'.cell (p := ⟨b, off + k * 4 + 3, none⟩) hbb).trans c3; go_simp) ?_
            go_big_quiet_on
            simp only [Act.put, List.setIfInBounds_toArray, List.set_cons_zero, List.set_cons_succ]
            go_big_quiet_want
            refine q_callB (W := wr) (.bool false) 7 #[(.agg #[.int .i64 f, .int .i64 n, .int .i64 o, .slice s.a s.n s.c])] (fun w' hw' => by go_simp) (fun w' hw' => (spBundleOk_r f n o s ts w' (show Hid (RIt w' s ts) from HRI.out.stays hw') hq1).mono fun e w1 ⟨he, hb⟩ => ⟨by rw [he, HOK.out], hb⟩) ?_
            go_big_quiet_on
            simp only [Act.put, List.setIfInBounds_toArray, List.set_cons_zero, List.set_cons_succ]
            go_big_quiet_want
            refine q_val (.bool false) (fun w' hw' => by go_simp) ?_
            go_big_quiet_on
            simp only [Act.put, List.setIfInBounds_toArray, List.set_cons_zero, List.set_cons_succ]
            refine wpQuiet_nil ?_
            intro w1 hcw
            have B1 : Hid (Below w.heap.size w w1) := bl_nxt hb.out hcw
            have U1 : Hid (Bx w1 g1 29 [.int .i64 0, .int .i64 0, .int .i64 0, .slice none 0 0]) := HU.out.later hcw
            have R1 : Hid (Bx w1 w.heap.size 40 [.int .i64 rid, v]) := HRg.out.later hcw
            clear c0 c1 c2 c3 hcw ef en
            go_wp2_with fail
            go_roundw
            case rel => exact ⟨k + 1, by omega, by go_num, HY.out, R1.out, U1.out, B1.out⟩
            case measure => simp [intOf]; omega
        · have en : (n == rid) = false := by simp [hn]
          have HY : Hid (hitB rid d (bs.take (k + 1)) = false) := hitB_next hlt hno.out (by rw [← HQ.out]; show (decide (f = d) && (decide (n = rid) && bunB f n o ts)) = false; simp [hn])
          clear hf hn
          go_wp2_with fail
          refine quietC (C := fun w' => Below wr.heap.size wr w') (by kernel_rfl) (by kernel_rfl) (Below.refl _ _).drew ?_
          go_big_quiet_want
          refine q_val (.slice (some ⟨b, off, none⟩) bs.length cap) (fun w' hw' => by go_simp) ?_
          go_big_quiet_on
          simp only [Act.put, List.setIfInBounds_toArray, List.set_cons_zero, List.set_cons_succ]
          go_big_quiet_want
          refine q_val (.int .i64 ((k : Int))) (fun w' hw' => by go_simp) ?_
          go_big_quiet_on
          simp only [Act.put, List.setIfInBounds_toArray, List.set_cons_zero, List.set_cons_succ]
          go_big_quiet_want
          refine q_val (.pointer (some ⟨b, off + k * 4, none⟩)) (fun w' hw' => by go_simp) ?_
          go_big_quiet_on
          simp only [Act.put, List.setIfInBounds_toArray, List.set_cons_zero, List.set_cons_succ]
          go_big_quiet_want
          refine q_val (.pointer (some ⟨b, off + k * 4, none⟩)) (fun w' hw' => by go_simp) ?_
          go_big_quiet_on
          simp only [Act.put, List.setIfInBounds_toArray, List.set_cons_zero, List.set_cons_succ]
          go_big_quiet_want
          refine q_val (.int .i64 f) (fun w' hw' => by have r0 : w'.cell? ⟨b, off + k * 4, none⟩ = some (.int .i64 f) := (hw'.cell (p := ⟨b, off + k * 4, none⟩) hbb).trans c0; go_simp) ?_
          go_big_quiet_on
          simp only [Act.put, List.setIfInBounds_toArray, List.set_cons_zero, List.set_cons_succ]
          go_big_quiet_want
          refine q_val (.int .i64 d) (fun w' hw' => by go_simp) ?_
          go_big_quiet_on
          simp only [Act.put, List.setIfInBounds_toArray, List.set_cons_zero, List.set_cons_succ]
          go_big_quiet_want
          refine q_val (.bool true) (fun w' hw' => by go_simp) ?_
          go_big_quiet_on
          simp only [Act.put, List.setIfInBounds_toArray, List.set_cons_zero, List.set_cons_succ]
          go_big_quiet_want
          refine q_val (.bool true) (fun w' hw' => by go_simp) ?_
          go_big_quiet_on
          simp only [Act.put, List.setIfInBounds_toArray, List.set_cons_zero, List.set_cons_succ]
          go_big_quiet_want
          refine q_val (.slice (some ⟨b, off, none⟩) bs.length cap) (fun w' hw' => by go_simp) ?_
          go_big_quiet_on
          simp only [Act.put, List.setIfInBounds_toArray, List.set_cons_zero, List.set_cons_succ]
          go_big_quiet_want
          refine q_val (.int .i64 ((k : Int))) (fun w' hw' => by go_simp) ?_
          go_big_quiet_on
          simp only [Act.put, List.setIfInBounds_toArray, List.set_cons_zero, List.set_cons_succ]
          go_big_quiet_want
          refine q_val (.pointer (some ⟨b, off + k * 4, none⟩)) (fun w' hw' => by go_simp) ?_
          go_big_quiet_on
          simp only [Act.put, List.setIfInBounds_toArray, List.set_cons_zero, List.set_cons_succ]
          go_big_quiet_want
          refine q_val (.pointer (some ⟨b, off + k * 4 + 1, none⟩)) (fun w' hw' => by go_simp) ?_
          go_big_quiet_on
          simp only [Act.put, List.setIfInBounds_toArray, List.set_cons_zero, List.set_cons_succ]
          go_big_quiet_want
          refine q_val (.int .i64 n) (fun w' hw' => by have r1 : w'.cell? ⟨b, off + k * 4 + 1, none⟩ = some (.int .i64 n) := (hw'.cell (p := ⟨b, off + k * 4 + 1, none⟩) hbb).trans c1; go_simp) ?_
          go_big_quiet_on
          simp only [Act.put, List.setIfInBounds_toArray, List.set_cons_zero, List.set_cons_succ]
          go_big_quiet_want
          refine q_val (.pointer (some ⟨w.heap.size, 0, none⟩)) (fun w' hw' => by go_simp) ?_
          go_big_quiet_on
          simp only [Act.put, List.setIfInBounds_toArray, List.set_cons_zero, List.set_cons_succ]
          go_big_quiet_want
          refine q_val (.int .i64 rid) (fun w' hw' => by have rr : w'.cell? ⟨w.heap.size, 0, none⟩ = some (.int .i64 rid) := (HRg.out.later hw').cell 0; go_simp) ?_
          go_big_quiet_on
          simp only [Act.put, List.setIfInBounds_toArray, List.set_cons_zero, List.set_cons_succ]
          go_big_quiet_want
          refine q_val (.bool false) (fun w' hw' => by go_simp) ?_
          go_big_quiet_on
          simp only [Act.put, List.setIfInBounds_toArray, List.set_cons_zero, List.set_cons_succ]
          go_big_quiet_want
          refine q_val (.bool false) (fun w' hw' => by go_simp) ?_
          go_big_quiet_on
          simp only [Act.put, List.setIfInBounds_toArray, List.set_cons_zero, List.set_cons_succ]
          go_big_quiet_want
          refine q_val (.bool false) (fun w' hw' => by go_simp) ?_
          go_big_quiet_on
          simp only [Act.put, List.setIfInBounds_toArray, List.set_cons_zero, List.set_cons_succ]
          go_big_quiet_skip
          go_big_quiet_skip
          go_big_quiet_skip
          go_big_quiet_skip
          go_big_quiet_skip
          go_big_quiet_want
          refine q_val (.bool false) (fun w' hw' => by go_simp) ?_
          go_big_quiet_on
          simp only [Act.put, List.setIfInBounds_toArray, List.set_cons_zero, List.set_cons_succ]
          refine wpQuiet_nil ?_
          intro w1 hcw
          have B1 : Hid (Below w.heap.size w w1) := bl_nxt hb.out hcw
          have U1 : Hid (Bx w1 g1 29 [.int .i64 0, .int .i64 0, .int .i64 0, .slice none 0 0]) := HU.out.later hcw
          have R1 : Hid (Bx w1 w.heap.size 40 [.int .i64 rid, v]) := HRg.out.later hcw
          clear c0 c1 c2 c3 hcw ef en
          go_wp2_with fail
          go_roundw
          case rel => exact ⟨k + 1, by omega, by go_num, HY.out, R1.out, U1.out, B1.out⟩
          case measure => simp [intOf]; omega
      · have ef : (f == d) = false := by simp [hf]
        have HY : Hid (hitB rid d (bs.take (k + 1)) = false) := hitB_next hlt hno.out (by rw [← HQ.out]; show (decide (f = d) && (decide (n = rid) && bunB f n o ts)) = false; simp [hf])
        clear hf
        go_wp2_with fail
        refine quietC (C := fun w' => Below wr.heap.size wr w') (by kernel_rfl) (by kernel_rfl) (Below.refl _ _).drew ?_
        go_big_quiet_want
        refine q_val (.slice (some ⟨b, off, none⟩) bs.length cap) (fun w' hw' => by go_simp) ?_
        go_big_quiet_on
        simp only [Act.put, List.setIfInBounds_toArray, List.set_cons_zero, List.set_cons_succ]
        go_big_quiet_want
        refine q_val (.int .i64 ((k : Int))) (fun w' hw' => by go_simp) ?_
        go_big_quiet_on
        simp only [Act.put, List.setIfInBounds_toArray, List.set_cons_zero, List.set_cons_succ]
        go_big_quiet_want
        refine q_val (.pointer (some ⟨b, off + k * 4, none⟩)) (fun w' hw' => by go_simp) ?_
        go_big_quiet_on
        simp only [Act.put, List.setIfInBounds_toArray, List.set_cons_zero, List.set_cons_succ]
        go_big_quiet_want
        refine q_val (.pointer (some ⟨b, off + k * 4, none⟩)) (fun w' hw' => by go_simp) ?_
        go_big_quiet_on
        simp only [Act.put, List.setIfInBounds_toArray, List.set_cons_zero, List.set_cons_succ]
        go_big_quiet_want
        refine q_val (.int .i64 f) (fun w' hw' => by have r0 : w'.cell? ⟨b, off + k * 4, none⟩ = some (.int .i64 f) := (hw'.cell (p := ⟨b, off + k * 4, none⟩) hbb).trans c0; go_simp) ?_
        go_big_quiet_on
        simp only [Act.put, List.setIfInBounds_toArray, List.set_cons_zero, List.set_cons_succ]
        go_big_quiet_want
        refine q_val (.int .i64 d) (fun w' hw' => by go_simp) ?_
        go_big_quiet_on
        simp only [Act.put, List.setIfInBounds_toArray, List.set_cons_zero, List.set_cons_succ]
        go_big_quiet_want
        refine q_val (.bool false) (fun w' hw' => by go_simp) ?_
        go_big_quiet_on
        simp only [Act.put, List.setIfInBounds_toArray, List.set_cons_zero, List.set_cons_succ]
        go_big_quiet_want
        refine q_val (.bool false) (fun w' hw' => by go_simp) ?_
        go_big_quiet_on
        simp only [Act.put, List.setIfInBounds_toArray, List.set_cons_zero, List.set_cons_succ]
        go_big_quiet_skip
        go_big_quiet_skip
        go_big_quiet_skip
        go_big_quiet_skip
        go_big_quiet_skip
        go_big_quiet_skip
        go_big_quiet_skip
        go_big_quiet_skip
        go_big_quiet_want
        refine q_val (.bool false) (fun w' hw' => by go_simp) ?_
        go_big_quiet_on
        simp only [Act.put, List.setIfInBounds_toArray, List.set_cons_zero, List.set_cons_succ]
        go_big_quiet_want
        refine q_val (.bool false) (fun w' hw' => by go_simp) ?_
        go_big_quiet_on
        simp only [Act.put, List.setIfInBounds_toArray, List.set_cons_zero, List.set_cons_succ]
        go_big_quiet_skip
        go_big_quiet_skip
        go_big_quiet_skip
        go_big_quiet_skip
        go_big_quiet_skip
        go_big_quiet_want
        refine q_val (.bool false) (fun w' hw' => by go_simp) ?_
        go_big_quiet_on
        simp only [Act.put, List.setIfInBounds_toArray, List.set_cons_zero, List.set_cons_succ]
        refine wpQuiet_nil ?_
        intro w1 hcw
        have B1 : Hid (Below w.heap.size w w1) := bl_nxt hb.out hcw
        have U1 : Hid (Bx w1 g1 29 [.int .i64 0, .int .i64 0, .int .i64 0, .slice none 0 0]) := HU.out.later hcw
        have R1 : Hid (Bx w1 w.heap.size 40 [.int .i64 rid, v]) := HRg.out.later hcw
        clear c0 c1 c2 c3 hcw ef
        go_wp2_with fail
        go_roundw
        case rel => exact ⟨k + 1, by omega, by go_num, HY.out, R1.out, U1.out, B1.out⟩
        case measure => simp [intOf]; omega
    · have HN : Hid (hitB rid d bs = false) := by
        have := hno.out
        rwa [List.take_of_length_le (by omega)] at this
      go_wp2_with (first | (with_reducible refine wpList_haltS 29 _ _ rfl ?_))
      refine Stp.go ?_
      refine wpList_stB rfl 29 _ _ rfl g1 0 rfl 29 _ HU.out [.int .i64 0, .int .i64 0, .int .i64 0, .slice none 0 0] rfl (by simp) Try.sizeBu rfl [.int .i64 0, .int .i64 0, .int .i64 0, .slice none 0 0] rfl ?_
      intro w2 U2 T2
      have B2 : Hid (Below w.heap.size w w2) := hb.out.trans (T2.below (by have := HG1.out; omega))
      clear T2
      go_wp2_with fail
      refine bodyPost_ret (results_bt Try.results33 g1 29 [.int .i64 0, .int .i64 0, .int .i64 0, .slice none 0 0] _ rfl U2 Try.underlying29 rfl Try.sizeBu) rfl ?_
      exact ⟨0, 0, 0, ⟨none, 0, 0⟩, by rw [HN.out]; rfl, B2.out⟩
end Go.Proofs.Ytlflcjdpdbdbkaa
