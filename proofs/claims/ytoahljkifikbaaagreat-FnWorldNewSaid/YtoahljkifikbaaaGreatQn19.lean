/- Joined texts: CCwn CRwn CDrr CArr CDrk CLfw. -/
import Derived.Test.YtoahljkifikbaaaGreatQn17
import Derived.Test.YtoahljkifikbaaaGreatQn18
import Derived.Test.YtoahljkifikbaaaGreatQn8
/- A new world copied, deeds that are none. Written by gen_cw15.py. -/
namespace Go.Proofs.YtoahljkifikbaaaGreat
open Go.RowKit Pl
set_option linter.unusedVariables false
set_option linter.unusedSimpArgs false

theorem Tryz.infoEv9 : (Tryz.prog.info? 41).map (fun i => (i.zero, i.size, i.bytes)) = some (some (.agg #[.int .i64 0, .int .i64 0, .slice none 0 0, .int .i64 0, .int .i64 0, .int .i64 0, .string ⟨#[]⟩, .slice none 0 0]), 8, 104) := by kernel_rfl
set_option maxRecDepth 100000 in
set_option maxHeartbeats 2000000 in
theorem copyEvents_nil (w : World) : Calls Tryz.prog 43 #[.slice none 0 0] w fun e w' => ∃ s : Sv, e = .returned (.slice s.a s.n s.c) ∧ Below w.heap.size w w' := by
  obtain ⟨i0, hi, hz0, hz1, hz2⟩ := info_parts Tryz.infoEv9
  obtain ⟨A, hA⟩ : ∃ A : Array Value, A = madeCells (Value.agg #[.int .i64 0, .int .i64 0, .slice none 0 0, .int .i64 0, .int .i64 0, .int .i64 0, .string ⟨#[]⟩, .slice none 0 0]).cells (0 * 8) := ⟨_, rfl⟩
  have hmk : ∀ W : World, (Instr.makeSlice 30 (.int .i64 0) (.int .i64 0)).run Tryz.prog W = .ok (.slice (some ⟨W.heap.size, 0, none⟩) 0 0) (W.alloc (.cells A 41)) := fun W => by
    have h := run_make (P := Tryz.prog) W 30 41 i0 _ Tryz.underlying30 hi hz0 .i64 .i64 (0 : Int) (0 : Int) (by omega) (by omega) (by rw [hz2]; omega) (by omega)
    rw [hz1, Int.toNat_zero, ← hA] at h
    simpa using h
  clear hA hi hz0 hz1 hz2
  go_enter Tryz.func43, Tryz.ntmps43
  go_wp2_with fail
  go_loopw [3, 11] (fun v i wr => v = .slice (some ⟨w.heap.size, 0, none⟩) 0 0 ∧ i = .int .i64 0 ∧ Hid (Below w.heap.size w wr)) (fun _ _ _ => 0)
  case atStart => exact ⟨rfl, rfl, (Below.refl _ _).alloc (Nat.le_refl _) _⟩
  case round =>
    obtain ⟨rfl, rfl, HB⟩ := hrel
    go_wp2_with fail
    go_ret
    exact ⟨⟨some ⟨w.heap.size, 0, none⟩, 0, 0⟩, rfl, HB.out⟩
set_option maxRecDepth 100000 in
set_option maxHeartbeats 2000000 in
theorem deedsOk_nil (ao : Option Addr) (c : Nat) (w : World) : Calls Tryz.prog 34 #[.slice ao 0 c] w fun e w' => e = .returned (.bool true) ∧ Below w.heap.size w w' := by
  go_enter Tryz.func34, Tryz.ntmps34
  go_wp2_with fail
  go_loopw [10] (fun i wr => i = .int .i64 0 ∧ Hid (Below w.heap.size w wr)) (fun _ _ => 0)
  case atStart => exact ⟨rfl, Below.refl _ _⟩
  case round =>
    obtain ⟨rfl, HB⟩ := hrel
    go_wp2_with fail
    go_ret
    exact ⟨rfl, HB.out⟩
set_option maxRecDepth 100000 in
set_option maxHeartbeats 8000000 in
theorem copyWorld_any (x : Wn) (B : Nat) (w : World) (h : Hid (WnO w B x)) (hsr : x.rl.length ≤ 1048576) (hS : Hid (∀ e ∈ x.rl, e.S)) (hsd : x.dl.length ≤ 1048576) :
    Calls Tryz.prog 36 #[.agg #[.slice x.rs.a x.rs.n x.rs.c, .slice x.ds.a x.ds.n x.ds.c, .slice none 0 0, .slice none 0 0]] w fun e w' => ∃ (r d ev : Sv), e = .returned (.agg #[.slice r.a r.n r.c, .slice d.a d.n d.c, .slice none 0 0, .slice ev.a ev.n ev.c]) ∧ Below w.heap.size w w' := by
  have hn1 : (w.alloc (.cells #[.slice x.rs.a x.rs.n x.rs.c, .slice x.ds.a x.ds.n x.ds.c, .slice none 0 0, .slice none 0 0] 32)).heap.size = w.heap.size + 1 := by simp
  have LA : Hid (Bx ((w.alloc (.cells #[.slice x.rs.a x.rs.n x.rs.c, .slice x.ds.a x.ds.n x.ds.c, .slice none 0 0, .slice none 0 0] 32)).alloc (.cells #[.slice none 0 0, .slice none 0 0, .slice none 0 0, .slice none 0 0] 32)) w.heap.size 32 [.slice x.rs.a x.rs.n x.rs.c, .slice x.ds.a x.ds.n x.ds.c, .slice none 0 0, .slice none 0 0]) := by
    have h := Bx.new w 32 [.slice x.rs.a x.rs.n x.rs.c, .slice x.ds.a x.ds.n x.ds.c, .slice none 0 0, .slice none 0 0]
    exact (h).later ((Below.refl _ _).alloc (Nat.le_refl _) _)
  have EB : Hid (Bx ((w.alloc (.cells #[.slice x.rs.a x.rs.n x.rs.c, .slice x.ds.a x.ds.n x.ds.c, .slice none 0 0, .slice none 0 0] 32)).alloc (.cells #[.slice none 0 0, .slice none 0 0, .slice none 0 0, .slice none 0 0] 32)) (w.heap.size + 1) 32 [.slice none 0 0, .slice none 0 0, .slice none 0 0, .slice none 0 0]) := by
    have h := Bx.new (w.alloc (.cells #[.slice x.rs.a x.rs.n x.rs.c, .slice x.ds.a x.ds.n x.ds.c, .slice none 0 0, .slice none 0 0] 32)) 32 [.slice none 0 0, .slice none 0 0, .slice none 0 0, .slice none 0 0]
    rw [hn1] at h
    exact h
  have BW : Hid (Below w.heap.size w ((w.alloc (.cells #[.slice x.rs.a x.rs.n x.rs.c, .slice x.ds.a x.ds.n x.ds.c, .slice none 0 0, .slice none 0 0] 32)).alloc (.cells #[.slice none 0 0, .slice none 0 0, .slice none 0 0, .slice none 0 0] 32))) := (((Below.refl _ _).alloc (by simp) _).alloc (by simp; try omega) _)
  clear hn1
  have HRN : Hid (x.rs.n = x.rl.length) := h.out.r.r.1
  have HDN : Hid (x.ds.n = x.dl.length) := (by have := SlN.slen h.out.d; simpa using this : _ = _)
  have ca := LA.out.cell 3
  simp only [List.getElem?_cons_succ, List.getElem?_cons_zero] at ca
  go_enter Tryz.func36, Tryz.ntmps36
  go_wp2_with fail
  clear ca
  generalize ((w.alloc (.cells #[.slice x.rs.a x.rs.n x.rs.c, .slice x.ds.a x.ds.n x.ds.c, .slice none 0 0, .slice none 0 0] 32)).alloc (.cells #[.slice none 0 0, .slice none 0 0, .slice none 0 0, .slice none 0 0] 32)) = W at *
  have zW : w.heap.size + 1 < W.heap.size := EB.out.lt
  refine (copyEvents_nil _).mono ?_
  rintro e w2 ⟨ev, rfl, b⟩
  have z_w2 : W.heap.size ≤ w2.heap.size := b.size
  have LA : Hid (Bx w2 w.heap.size 32 [.slice x.rs.a x.rs.n x.rs.c, .slice x.ds.a x.ds.n x.ds.c, .slice none 0 0, .slice none 0 0]) := LA.out.later b
  have EB : Hid (Bx w2 (w.heap.size + 1) 32 [.slice none 0 0, .slice none 0 0, .slice none 0 0, .slice none 0 0]) := EB.out.later b
  have BW : Hid (Below w.heap.size w w2) := bl_next BW.out b
  clear b
  have b : Below w2.heap.size w2 (w2.alloc (.cells #[.slice none 0 0, .slice none 0 0, .slice none 0 0, .slice ev.a ev.n ev.c] 32)) := (Below.refl _ _).alloc (Nat.le_refl _) _
  have OR : Hid (Bx (w2.alloc (.cells #[.slice none 0 0, .slice none 0 0, .slice none 0 0, .slice ev.a ev.n ev.c] 32)) w2.heap.size 32 [.slice none 0 0, .slice none 0 0, .slice none 0 0, .slice ev.a ev.n ev.c]) := Bx.new w2 32 _
  have LA : Hid (Bx (w2.alloc (.cells #[.slice none 0 0, .slice none 0 0, .slice none 0 0, .slice ev.a ev.n ev.c] 32)) w.heap.size 32 [.slice x.rs.a x.rs.n x.rs.c, .slice x.ds.a x.ds.n x.ds.c, .slice none 0 0, .slice none 0 0]) := LA.out.later b
  have EB : Hid (Bx (w2.alloc (.cells #[.slice none 0 0, .slice none 0 0, .slice none 0 0, .slice ev.a ev.n ev.c] 32)) (w.heap.size + 1) 32 [.slice none 0 0, .slice none 0 0, .slice none 0 0, .slice none 0 0]) := EB.out.later b
  have BW : Hid (Below w.heap.size w (w2.alloc (.cells #[.slice none 0 0, .slice none 0 0, .slice none 0 0, .slice ev.a ev.n ev.c] 32))) := bl_next BW.out b
  clear b
  have ca := LA.out.cell 0
  simp only [List.getElem?_cons_succ, List.getElem?_cons_zero] at ca
  go_wp2_with fail
  clear ca
  generalize (w2.alloc (.cells #[.slice none 0 0, .slice none 0 0, .slice none 0 0, .slice ev.a ev.n ev.c] 32)) = w3 at *
  have zO : w2.heap.size < w3.heap.size := OR.out.lt
  generalize hgO : w2.heap.size = gO at *
  clear hgO
  go_loopw [17] (fun i wr => ∃ (j : Nat) (s : Sv) (rws : List (List Value)), j ≤ x.rs.n ∧ i = .int .i64 j ∧ Hid (rws.length = j) ∧ Hid (Bx wr gO 32 [.slice s.a s.n s.c, .slice none 0 0, .slice none 0 0, .slice ev.a ev.n ev.c]) ∧ Hid (SlN wr 37 2 w3.heap.size s.v rws) ∧ Hid (KeepR gO w3.heap.size w3 wr)) (fun i _ => x.rs.n - (intOf i).toNat)
  case atStart => exact ⟨0, zSv, [], Nat.zero_le _, rfl, rfl, OR, SlN.nil _ _ _ _, KeepR.refl _ _ _⟩
  case round =>
    obtain ⟨j, s, rws, hj, rfl, hcl, OR, LR, KR⟩ := hrel
    have zr : w3.heap.size ≤ wr.heap.size := KR.out.size
    have HXr : Hid (RnsR wr x.rs x.rl) := h.out.r.r.stays (BW.out.trans (KR.out.below (by omega) (by omega)))
    by_cases hlt : j < x.rs.n
    · skip
      have hlt2 : j < x.rl.length := by have := HRN.out; omega
      obtain ⟨g, off, ha, hg, _, hr⟩ := HXr.out.2.1 j (by simpa using hlt2)
      obtain ⟨e, he⟩ : ∃ e, e = x.rl[j] := ⟨_, rfl⟩
      have hr2 : wr.rangeAt g (off + j * 2) (Rn.row e) := by rw [he]; simpa using hr
      have HR : Hid (wr.rangeAt g (off + j * 2) [.int .i64 e.id, .slice e.s.a e.s.n e.s.c]) := hr2
      have RR : Hid (RI wr e.s.v e.ms) := by rw [he]; exact HXr.out.2.2 _ (List.getElem_mem hlt2)
      have SS : Hid (e.ms.length ≤ 1048576) := by rw [he]; exact hS.out _ (List.getElem_mem hlt2)
      have HA : Hid (x.rs.a = some ⟨g, off, none⟩) := ha
      have i0 : (0 : Int) ≤ (j : Int) := by omega
      have i1 : (j : Int) < (x.rs.n : Int) := by omega
      have RL : Hid (∀ b, s.v.ownBlock = some b → b < wr.heap.size) := fun b hb => (SlN.lt LR.out b hb).2
      have HLEN : Hid (rws.length + 1 ≤ 1048577) := (by have := hcl.out; omega : _ ≤ _)
      simp only [ha]
      clear hr hr2 he hg ha
      have hz : Hid (Bx (wr.alloc (.cells #[.int .i64 0, .slice none 0 0] 37)) wr.heap.size 37 [.int .i64 0, .slice none 0 0]) := Bx.new wr 37 _
      go_wp2_with (first | (refine wpList_ldN rfl 37 _ rfl g (off + j * 2) (by rfl) [.int .i64 e.id, .slice e.s.a e.s.n e.s.c] HR.out _ Tryz.underlying37 rfl Tryz.sizeRn ?_) | (refine wpList_stB rfl 37 _ _ rfl wr.heap.size 0 rfl 37 _ hz.out [.int .i64 e.id, .slice e.s.a e.s.n e.s.c] rfl (by simp) Tryz.sizeRn rfl [.int .i64 e.id, .slice e.s.a e.s.n e.s.c] rfl ?_; intro v1 OB TB; have b : Below wr.heap.size wr v1 := ((Below.refl _ _).alloc (Nat.le_refl _) _).trans (TB.below (Nat.le_refl _)); have VB : Hid (Bx v1 wr.heap.size 37 [.int .i64 e.id, .slice e.s.a e.s.n e.s.c]) := OB; have z_v1 : wr.heap.size ≤ v1.heap.size := b.size; have OR : Hid (Bx v1 gO 32 [.slice s.a s.n s.c, .slice none 0 0, .slice none 0 0, .slice ev.a ev.n ev.c]) := OR.out.later b; have LR : Hid (SlN v1 37 2 w3.heap.size s.v rws) := SlN.below LR.out b; have KR : Hid (KeepR gO w3.heap.size w3 v1) := KR.out.belowN ((b).mono (by omega)); have RR : Hid (RI v1 e.s.v e.ms) := RR.out.stays b; clear OB TB b; refine Stp.here ?_))
      refine Stp.go ?_
      clear hz
      have zl_VB : wr.heap.size < v1.heap.size := VB.out.lt
      generalize hg_VB : wr.heap.size = gVB at *
      clear HR
      go_wp2_with fail
      have c : Below v1.heap.size v1 v1.drew := (Below.refl _ _).drew
      have BD : Hid (Bx v1.drew gO 32 [.slice s.a s.n s.c, .slice none 0 0, .slice none 0 0, .slice ev.a ev.n ev.c]) := OR.out.later c
      have VD : Hid (Bx v1.drew gVB 37 [.int .i64 e.id, .slice e.s.a e.s.n e.s.c]) := VB.out.later c
      have zVB : gVB < v1.heap.size ∧ w3.heap.size ≤ gVB := by omega
      refine wp_region_heldLast (S := fun w' => Bx w' gO 32 [.slice s.a s.n s.c, .slice none 0 0, .slice none 0 0, .slice ev.a ev.n ev.c] ∧ Bx w' gVB 37 [.int .i64 e.id, .slice e.s.a e.s.n e.s.c]) _ (by simp) (by kernel_rfl) (by rfl) (by rfl) (by kernel_rfl) (by kernel_rfl) ⟨BD.out, VD.out⟩ (fun hHeld => ?_)
      simp only [List.dropLast_cons_cons, List.dropLast_singleton, List.getLast_cons_cons, List.getLast_singleton, List.cons_append, List.nil_append, List.length_cons, List.length_nil]
      refine wpAnyH_take (i := 0) (v := ?v0b1) rfl (by kernel_rfl) (by kernel_rfl) (by kernel_rfl) (fun _ _ _ h => h) (Or.inl ⟨by rfl, ?hy0b1⟩) (by assumption) ?_
      case hy0b1 => (intro w hSw; (try dsimp only at hSw); simp only [List.getElem_toArray, List.getElem_cons_zero, List.getElem_cons_succ]; go_simp; try with_reducible rfl)
      try simp only [Act.put, List.getElem_toArray, List.getElem_cons_zero, List.getElem_cons_succ, List.setIfInBounds_toArray, List.set_cons_zero, List.set_cons_succ]
      refine wpAnyH_take (i := 1) (v := _) rfl (by kernel_rfl) (by kernel_rfl) (by kernel_rfl) (fun _ _ _ h => h) (ld1_yield (by rfl) 24 _ rfl gO 0 rfl 32 _ (fun w hS => hS.1) (.slice s.a s.n s.c) rfl _ Tryz.underlying24 rfl) (by assumption) ?_
      try simp only [Act.put, List.getElem_toArray, List.getElem_cons_zero, List.getElem_cons_succ, List.setIfInBounds_toArray, List.set_cons_zero, List.set_cons_succ]
      refine wpAnyH_take (i := 2) (v := _) rfl (by kernel_rfl) (by kernel_rfl) (by kernel_rfl) (fun _ _ _ h => h) (ld_yield (by rfl) 37 _ rfl gVB 0 rfl 37 _ (fun w hS => hS.2) [.int .i64 e.id, .slice e.s.a e.s.n e.s.c] rfl _ Tryz.underlying37 rfl Tryz.sizeRn) (by assumption) ?_
      try simp only [Act.put, List.getElem_toArray, List.getElem_cons_zero, List.getElem_cons_succ, List.setIfInBounds_toArray, List.set_cons_zero, List.set_cons_succ]
      refine wpAnyH_ready (rs := [3]) (by kernel_rfl) (by simp) ?_
      refine AllReadyH.cons (i := 3) rfl (fun K hK => ?_) AllReadyH.nil
      rw [if_pos (by rfl)]
      simp only [List.getElem_toArray, List.getElem_cons_zero, List.getElem_cons_succ]
      go_simp
      refine (copyRing_s e.id e.s e.ms _ (show Hid (RI v1.drew e.s.v e.ms) from RR.out.stays c) SS.out).mono ?_
      rintro x_ y1 ⟨u1, rfl, o1, b⟩
      have c : Below v1.heap.size v1 y1 := bl_next c b
      have BD : Hid (Bx y1 gO 32 [.slice s.a s.n s.c, .slice none 0 0, .slice none 0 0, .slice ev.a ev.n ev.c]) := BD.out.later b
      have LY : Hid (SlN y1 37 2 w3.heap.size s.v rws) := SlN.below LR.out c
      have VD : Hid (Bx y1 gVB 37 [.int .i64 e.id, .slice e.s.a e.s.n e.s.c]) := VD.out.later b
      refine hK.out _ _ (⟨BD.out, VD.out⟩) (fun hHeld => ?_)
      clear hK K
      try simp only [Act.put, List.getElem_toArray, List.getElem_cons_zero, List.getElem_cons_succ, List.setIfInBounds_toArray, List.set_cons_zero, List.set_cons_succ]
      clear b
      refine wpAnyH_ready (rs := [4]) (by kernel_rfl) (by simp) ?_
      refine AllReadyH.cons (i := 4) rfl (fun K hK => ?_) AllReadyH.nil
      rw [if_pos (by rfl)]
      simp only [List.getElem_toArray, List.getElem_cons_zero, List.getElem_cons_succ]
      go_simp
      have b : Below y1.heap.size y1 (y1.alloc (.cells #[.int .i64 e.id, .slice u1.a u1.n u1.c] 37)) := (Below.refl _ _).alloc (Nat.le_refl _) _
      have SX : Hid (SlN (y1.alloc (.cells #[.int .i64 e.id, .slice u1.a u1.n u1.c] 37)) 37 2 0 (.slice (some ⟨y1.heap.size, 0, none⟩) 1 1) [[.int .i64 e.id, .slice u1.a u1.n u1.c]]) := SlN.one y1 37 2 0 _ rfl rfl (Nat.zero_le _)
      have c : Below v1.heap.size v1 (y1.alloc (.cells #[.int .i64 e.id, .slice u1.a u1.n u1.c] 37)) := bl_next c b
      have BD : Hid (Bx (y1.alloc (.cells #[.int .i64 e.id, .slice u1.a u1.n u1.c] 37)) gO 32 [.slice s.a s.n s.c, .slice none 0 0, .slice none 0 0, .slice ev.a ev.n ev.c]) := BD.out.later b
      have LY : Hid (SlN (y1.alloc (.cells #[.int .i64 e.id, .slice u1.a u1.n u1.c] 37)) 37 2 w3.heap.size s.v rws) := SlN.below LY.out b
      have VD : Hid (Bx (y1.alloc (.cells #[.int .i64 e.id, .slice u1.a u1.n u1.c] 37)) gVB 37 [.int .i64 e.id, .slice e.s.a e.s.n e.s.c]) := VD.out.later b
      refine hK.out _ _ (⟨BD.out, VD.out⟩) (fun hHeld => ?_)
      clear hK K
      try simp only [Act.put, List.getElem_toArray, List.getElem_cons_zero, List.getElem_cons_succ, List.setIfInBounds_toArray, List.set_cons_zero, List.set_cons_succ]
      clear b
      refine wpAnyH_ready (rs := [5]) (by kernel_rfl) (by simp) ?_
      refine AllReadyH.cons (i := 5) rfl (fun K hK => ?_) AllReadyH.nil
      rw [if_pos (by rfl)]
      simp only [List.getElem_toArray, List.getElem_cons_zero, List.getElem_cons_succ]
      refine wp_catM _ _ 24 rfl _ 32 Tryz.underlying24 Tryz.infoRn rfl (by decide) w3.heap.size (.slice s.a s.n s.c) rws (by rfl) LY.out 0 _ [[.int .i64 e.id, .slice u1.a u1.n u1.c]] (by rfl) SX.out HLEN.out (by have := c.size; omega) ?_
      intro v2 y2 s2 g2 b2
      obtain ⟨nz, hnz, hnq⟩ := s2.form
      subst hnz
      clear hnq
      have LN : Hid (SlN y2 37 2 w3.heap.size nz.v (rws ++ [([.int .i64 e.id, .slice u1.a u1.n u1.c] : List Value)])) := s2
      have BD : Hid (Bx y2 gO 32 [.slice s.a s.n s.c, .slice none 0 0, .slice none 0 0, .slice ev.a ev.n ev.c]) := BD.out.grown g2 (fun e => by obtain ⟨_, h1⟩ := LY.out.blk e.symm; have h2 := BD.out; unfold Bx at h2; rw [h1] at h2; simp at h2)
      have VD : Hid (Bx y2 gVB 37 [.int .i64 e.id, .slice e.s.a e.s.n e.s.c]) := VD.out.grown g2 (fun e => by have := RL.out _ e.symm; omega)
      have kr : Below w3.heap.size v1 y2 := (c.mono (by omega)).trans b2
      refine hK.out _ _ (⟨BD.out, VD.out⟩) (fun hHeld => ?_)
      clear hK K
      try simp only [Act.put, List.getElem_toArray, List.getElem_cons_zero, List.getElem_cons_succ, List.setIfInBounds_toArray, List.set_cons_zero, List.set_cons_succ]
      clear s2 g2 SX
      refine wpAnyH_take (i := 6) (v := ?v6b4) rfl (by kernel_rfl) (by kernel_rfl) (by kernel_rfl) (fun _ _ _ h => h) (Or.inl ⟨by rfl, ?hy6b4⟩) (by assumption) ?_
      case hy6b4 => (intro w hSw; (try dsimp only at hSw); simp only [List.getElem_toArray, List.getElem_cons_zero, List.getElem_cons_succ]; go_simp; try with_reducible rfl)
      try simp only [Act.put, List.getElem_toArray, List.getElem_cons_zero, List.getElem_cons_succ, List.setIfInBounds_toArray, List.set_cons_zero, List.set_cons_succ]
      refine wpAnyH_take (i := 7) (v := ?v7b5) rfl (by kernel_rfl) (by kernel_rfl) (by kernel_rfl) (fun _ _ _ h => h) (Or.inl ⟨by rfl, ?hy7b5⟩) (by assumption) ?_
      case hy7b5 => (intro w hSw; (try dsimp only at hSw); simp only [List.getElem_toArray, List.getElem_cons_zero, List.getElem_cons_succ]; go_simp; try with_reducible rfl)
      try simp only [Act.put, List.getElem_toArray, List.getElem_cons_zero, List.getElem_cons_succ, List.setIfInBounds_toArray, List.set_cons_zero, List.set_cons_succ]
      refine wpAnyH_done (by kernel_rfl) ?_ _
      refine lastQ_of rfl rfl ?_
      refine wp_st1 24 _ _ rfl gO 0 rfl 32 _ BD.out (.slice nz.a nz.n nz.c) rfl (by simp) rfl Tryz.sizeRs [.slice nz.a nz.n nz.c, .slice none 0 0, .slice none 0 0, .slice ev.a ev.n ev.c] rfl ?_
      intro v3 ob tb
      have OR : Hid (Bx v3 gO 32 [.slice nz.a nz.n nz.c, .slice none 0 0, .slice none 0 0, .slice ev.a ev.n ev.c]) := ob
      have KR : Hid (KeepR gO w3.heap.size w3 v3) := (KR.out.belowN kr).turn tb
      have LN : Hid (SlN v3 37 2 w3.heap.size nz.v (rws ++ [([.int .i64 e.id, .slice u1.a u1.n u1.c] : List Value)])) := SlN.keep LN.out fun b hb _ => tb.block b (by have := (SlN.lt LN.out b hb).1; omega)
      have HC : Hid ((rws ++ [([.int .i64 e.id, .slice u1.a u1.n u1.c] : List Value)]).length = j + 1) := (by have := hcl.out; simp; omega : _ = _)
      clear ob tb kr c BD VD hHeld LY b2
      go_wp2_with fail
      go_roundw
      case rel => exact ⟨j + 1, nz, _, by omega, by go_num, HC, OR, LN, KR⟩
      case measure => simp [intOf]; omega
    · skip
      obtain hjn : j = x.rs.n := by omega
      have LA : Hid (Bx wr w.heap.size 32 [.slice x.rs.a x.rs.n x.rs.c, .slice x.ds.a x.ds.n x.ds.c, .slice none 0 0, .slice none 0 0]) := LA.out.kr KR.out (by omega) (by omega)
      have EB : Hid (Bx wr (w.heap.size + 1) 32 [.slice none 0 0, .slice none 0 0, .slice none 0 0, .slice none 0 0]) := EB.out.kr KR.out (by omega) (by omega)
      have BW : Hid (Below w.heap.size w wr) := BW.out.trans (KR.out.below (by omega) (by omega))
      have hlt9 : ¬ (j : Int) < (x.rs.n : Int) := by omega
      clear KR HXr LR hjn hcl
      have ca := LA.out.cell 1
      simp only [List.getElem?_cons_succ, List.getElem?_cons_zero] at ca
      go_wp2_with fail
      clear ca
      generalize hwa : wr = wa at *
      clear hwa
      go_loopw [32] (fun i wr => ∃ (j : Nat) (t : Sv) (rws : List (List Value)), j ≤ x.ds.n ∧ i = .int .i64 j ∧ Hid (rws.length = j) ∧ Hid (Bx wr gO 32 [.slice s.a s.n s.c, .slice t.a t.n t.c, .slice none 0 0, .slice ev.a ev.n ev.c]) ∧ Hid (SlN wr 54 24 wa.heap.size t.v rws) ∧ Hid (KeepR gO wa.heap.size wa wr)) (fun i _ => x.ds.n - (intOf i).toNat)
      case atStart => exact ⟨0, zSv, [], Nat.zero_le _, rfl, rfl, OR, SlN.nil _ _ _ _, KeepR.refl _ _ _⟩
      case round =>
        clear hlt9 hlt hj
        obtain ⟨j2, t, rws, hj, rfl, hcl, OR, LR, KR⟩ := hrel
        have zr2 : wa.heap.size ≤ wr.heap.size := KR.out.size
        have HXr : Hid (BdsO wr B x.ds x.dl) := h.out.d.below (show Below w.heap.size w wr from BW.out.trans (KR.out.below (by omega) (by omega)))
        by_cases hlt : j2 < x.ds.n
        · skip
          have hlt2 : j2 < x.dl.length := by have := HDN.out; omega
          obtain ⟨g, off, ha, hg, _, hr⟩ := HXr.out.rwa j2 (by simpa using hlt2)
          obtain ⟨e, he⟩ : ∃ e, e = x.dl[j2] := ⟨_, rfl⟩
          have hr2 : wr.rangeAt g (off + j2 * 24) (Bd.row e) := by rw [he]; simpa using hr
          have HR : Hid (wr.rangeAt g (off + j2 * 24) [.int .i64 e.id, .bool false, .int .i64 0, .int .i64 0, .slice none 0 0, .slice none 0 0, .slice none 0 0, .slice none 0 0, .int .i64 0, .int .i64 0, .int .i64 0, .int .i64 0, .int .i64 0, .int .i64 0, .int .i64 0, .int .i64 0, .int .i64 0, .slice none 0 0, .int .i64 0, .int .i64 0, .int .i64 0, .slice none 0 0, .slice none 0 0, .slice none 0 0]) := hr2
          have HA : Hid (x.ds.a = some ⟨g, off, none⟩) := ha
          have i0 : (0 : Int) ≤ (j2 : Int) := by omega
          have i1 : (j2 : Int) < (x.ds.n : Int) := by omega
          have RL : Hid (∀ b, t.v.ownBlock = some b → b < wr.heap.size) := fun b hb => (SlN.lt LR.out b hb).2
          have HLEN : Hid (rws.length + 1 ≤ 1048577) := (by have := hcl.out; omega : _ ≤ _)
          simp only [ha]
          clear hr hr2 he hg ha
          have hz : Hid (Bx (wr.alloc (.cells #[.int .i64 0, .bool false, .int .i64 0, .int .i64 0, .slice none 0 0, .slice none 0 0, .slice none 0 0, .slice none 0 0, .int .i64 0, .int .i64 0, .int .i64 0, .int .i64 0, .int .i64 0, .int .i64 0, .int .i64 0, .int .i64 0, .int .i64 0, .slice none 0 0, .int .i64 0, .int .i64 0, .int .i64 0, .slice none 0 0, .slice none 0 0, .slice none 0 0] 54)) wr.heap.size 54 [.int .i64 0, .bool false, .int .i64 0, .int .i64 0, .slice none 0 0, .slice none 0 0, .slice none 0 0, .slice none 0 0, .int .i64 0, .int .i64 0, .int .i64 0, .int .i64 0, .int .i64 0, .int .i64 0, .int .i64 0, .int .i64 0, .int .i64 0, .slice none 0 0, .int .i64 0, .int .i64 0, .int .i64 0, .slice none 0 0, .slice none 0 0, .slice none 0 0]) := Bx.new wr 54 _
          go_wp2_with (first | (refine wpList_ldN rfl 54 _ rfl g (off + j2 * 24) (by rfl) [.int .i64 e.id, .bool false, .int .i64 0, .int .i64 0, .slice none 0 0, .slice none 0 0, .slice none 0 0, .slice none 0 0, .int .i64 0, .int .i64 0, .int .i64 0, .int .i64 0, .int .i64 0, .int .i64 0, .int .i64 0, .int .i64 0, .int .i64 0, .slice none 0 0, .int .i64 0, .int .i64 0, .int .i64 0, .slice none 0 0, .slice none 0 0, .slice none 0 0] HR.out _ Tryz.underlying54 rfl Tryz.sizeDa ?_) | (refine wpList_stB rfl 54 _ _ rfl wr.heap.size 0 rfl 54 _ hz.out [.int .i64 e.id, .bool false, .int .i64 0, .int .i64 0, .slice none 0 0, .slice none 0 0, .slice none 0 0, .slice none 0 0, .int .i64 0, .int .i64 0, .int .i64 0, .int .i64 0, .int .i64 0, .int .i64 0, .int .i64 0, .int .i64 0, .int .i64 0, .slice none 0 0, .int .i64 0, .int .i64 0, .int .i64 0, .slice none 0 0, .slice none 0 0, .slice none 0 0] rfl (by simp) Tryz.sizeDa rfl [.int .i64 e.id, .bool false, .int .i64 0, .int .i64 0, .slice none 0 0, .slice none 0 0, .slice none 0 0, .slice none 0 0, .int .i64 0, .int .i64 0, .int .i64 0, .int .i64 0, .int .i64 0, .int .i64 0, .int .i64 0, .int .i64 0, .int .i64 0, .slice none 0 0, .int .i64 0, .int .i64 0, .int .i64 0, .slice none 0 0, .slice none 0 0, .slice none 0 0] rfl ?_; intro v1 OB TB; have b : Below wr.heap.size wr v1 := ((Below.refl _ _).alloc (Nat.le_refl _) _).trans (TB.below (Nat.le_refl _)); have VB : Hid (Bx v1 wr.heap.size 54 [.int .i64 e.id, .bool false, .int .i64 0, .int .i64 0, .slice none 0 0, .slice none 0 0, .slice none 0 0, .slice none 0 0, .int .i64 0, .int .i64 0, .int .i64 0, .int .i64 0, .int .i64 0, .int .i64 0, .int .i64 0, .int .i64 0, .int .i64 0, .slice none 0 0, .int .i64 0, .int .i64 0, .int .i64 0, .slice none 0 0, .slice none 0 0, .slice none 0 0]) := OB; have z_v1 : wr.heap.size ≤ v1.heap.size := b.size; have OR : Hid (Bx v1 gO 32 [.slice s.a s.n s.c, .slice t.a t.n t.c, .slice none 0 0, .slice ev.a ev.n ev.c]) := OR.out.later b; have LR : Hid (SlN v1 54 24 wa.heap.size t.v rws) := SlN.below LR.out b; have KR : Hid (KeepR gO wa.heap.size wa v1) := KR.out.belowN ((b).mono (by omega)); clear OB TB b; refine Stp.here ?_))
          refine Stp.go ?_
          clear hz
          have zl_VB : wr.heap.size < v1.heap.size := VB.out.lt
          generalize hg_VB : wr.heap.size = gVB at *
          clear HR
          go_wp2_with fail
          have c : Below v1.heap.size v1 v1.drew := (Below.refl _ _).drew
          have BD : Hid (Bx v1.drew gO 32 [.slice s.a s.n s.c, .slice t.a t.n t.c, .slice none 0 0, .slice ev.a ev.n ev.c]) := OR.out.later c
          have VD : Hid (Bx v1.drew gVB 54 [.int .i64 e.id, .bool false, .int .i64 0, .int .i64 0, .slice none 0 0, .slice none 0 0, .slice none 0 0, .slice none 0 0, .int .i64 0, .int .i64 0, .int .i64 0, .int .i64 0, .int .i64 0, .int .i64 0, .int .i64 0, .int .i64 0, .int .i64 0, .slice none 0 0, .int .i64 0, .int .i64 0, .int .i64 0, .slice none 0 0, .slice none 0 0, .slice none 0 0]) := VB.out.later c
          have zVB : gVB < v1.heap.size ∧ wa.heap.size ≤ gVB := by omega
          refine wp_region_heldLast (S := fun w' => Bx w' gO 32 [.slice s.a s.n s.c, .slice t.a t.n t.c, .slice none 0 0, .slice ev.a ev.n ev.c] ∧ Bx w' gVB 54 [.int .i64 e.id, .bool false, .int .i64 0, .int .i64 0, .slice none 0 0, .slice none 0 0, .slice none 0 0, .slice none 0 0, .int .i64 0, .int .i64 0, .int .i64 0, .int .i64 0, .int .i64 0, .int .i64 0, .int .i64 0, .int .i64 0, .int .i64 0, .slice none 0 0, .int .i64 0, .int .i64 0, .int .i64 0, .slice none 0 0, .slice none 0 0, .slice none 0 0]) _ (by simp) (by kernel_rfl) (by rfl) (by rfl) (by kernel_rfl) (by kernel_rfl) ⟨BD.out, VD.out⟩ (fun hHeld => ?_)
          simp only [List.dropLast_cons_cons, List.dropLast_singleton, List.getLast_cons_cons, List.getLast_singleton, List.cons_append, List.nil_append, List.length_cons, List.length_nil]
          refine wpAnyH_take (i := 0) (v := ?v0b6) rfl (by kernel_rfl) (by kernel_rfl) (by kernel_rfl) (fun _ _ _ h => h) (Or.inl ⟨by rfl, ?hy0b6⟩) (by assumption) ?_
          case hy0b6 => (intro w hSw; (try dsimp only at hSw); simp only [List.getElem_toArray, List.getElem_cons_zero, List.getElem_cons_succ]; go_simp; try with_reducible rfl)
          try simp only [Act.put, List.getElem_toArray, List.getElem_cons_zero, List.getElem_cons_succ, List.setIfInBounds_toArray, List.set_cons_zero, List.set_cons_succ]
          refine wpAnyH_take (i := 1) (v := _) rfl (by kernel_rfl) (by kernel_rfl) (by kernel_rfl) (fun _ _ _ h => h) (ld1_yield (by rfl) 28 _ rfl gO 1 rfl 32 _ (fun w hS => hS.1) (.slice t.a t.n t.c) rfl _ Tryz.underlying28 rfl) (by assumption) ?_
          try simp only [Act.put, List.getElem_toArray, List.getElem_cons_zero, List.getElem_cons_succ, List.setIfInBounds_toArray, List.set_cons_zero, List.set_cons_succ]
          refine wpAnyH_take (i := 2) (v := _) rfl (by kernel_rfl) (by kernel_rfl) (by kernel_rfl) (fun _ _ _ h => h) (ld_yield (by rfl) 54 _ rfl gVB 0 rfl 54 _ (fun w hS => hS.2) [.int .i64 e.id, .bool false, .int .i64 0, .int .i64 0, .slice none 0 0, .slice none 0 0, .slice none 0 0, .slice none 0 0, .int .i64 0, .int .i64 0, .int .i64 0, .int .i64 0, .int .i64 0, .int .i64 0, .int .i64 0, .int .i64 0, .int .i64 0, .slice none 0 0, .int .i64 0, .int .i64 0, .int .i64 0, .slice none 0 0, .slice none 0 0, .slice none 0 0] rfl _ Tryz.underlying54 rfl Tryz.sizeDa) (by assumption) ?_
          try simp only [Act.put, List.getElem_toArray, List.getElem_cons_zero, List.getElem_cons_succ, List.setIfInBounds_toArray, List.set_cons_zero, List.set_cons_succ]
          refine wpAnyH_ready (rs := [3]) (by kernel_rfl) (by simp) ?_
          refine AllReadyH.cons (i := 3) rfl (fun K hK => ?_) AllReadyH.nil
          rw [if_pos (by rfl)]
          simp only [List.getElem_toArray, List.getElem_cons_zero, List.getElem_cons_succ]
          go_simp
          refine (copyDaemon_none (zDm e.id) _ (mto_zero _ 0).p (ownI_nil _ 0).ri (EvsO.nil _ 0).r ⟨rfl, rfl⟩ (zDm_s _)).mono ?_
          rintro x_ y1 ⟨y, rfl, _, _, _, b⟩
          have c : Below v1.heap.size v1 y1 := bl_next c b
          have BD : Hid (Bx y1 gO 32 [.slice s.a s.n s.c, .slice t.a t.n t.c, .slice none 0 0, .slice ev.a ev.n ev.c]) := BD.out.later b
          have LY : Hid (SlN y1 54 24 wa.heap.size t.v rws) := SlN.below LR.out c
          have VD : Hid (Bx y1 gVB 54 [.int .i64 e.id, .bool false, .int .i64 0, .int .i64 0, .slice none 0 0, .slice none 0 0, .slice none 0 0, .slice none 0 0, .int .i64 0, .int .i64 0, .int .i64 0, .int .i64 0, .int .i64 0, .int .i64 0, .int .i64 0, .int .i64 0, .int .i64 0, .slice none 0 0, .int .i64 0, .int .i64 0, .int .i64 0, .slice none 0 0, .slice none 0 0, .slice none 0 0]) := VD.out.later b
          refine hK.out _ _ (⟨BD.out, VD.out⟩) (fun hHeld => ?_)
          clear hK K
          try simp only [Act.put, List.getElem_toArray, List.getElem_cons_zero, List.getElem_cons_succ, List.setIfInBounds_toArray, List.set_cons_zero, List.set_cons_succ]
          clear b
          refine wpAnyH_ready (rs := [4]) (by kernel_rfl) (by simp) ?_
          refine AllReadyH.cons (i := 4) rfl (fun K hK => ?_) AllReadyH.nil
          rw [if_pos (by rfl)]
          simp only [List.getElem_toArray, List.getElem_cons_zero, List.getElem_cons_succ]
          go_simp
          have b : Below y1.heap.size y1 (y1.alloc (.cells #[.int .i64 y.id, .bool y.dead, .int .i64 y.m.id, .int .i64 y.m.rid, .slice y.mv.ms.a y.mv.ms.n y.mv.ms.c, .slice y.mv.its.a y.mv.its.n y.mv.its.c, .slice y.mv.lv.a y.mv.lv.n y.mv.lv.c, .slice y.mv.tx.a y.mv.tx.n y.mv.tx.c, .int .i64 y.m.rd, .int .i64 y.m.se, .int .i64 y.m.li, .int .i64 y.m.he, .int .i64 y.m.la.c, .int .i64 y.m.la.r, .int .i64 y.m.la.q, .int .i64 y.m.la.a, .int .i64 y.m.la.b, .slice y.mv.ws.a y.mv.ws.n y.mv.ws.c, .int .i64 y.most, .int .i64 y.old, .int .i64 y.jid, .slice y.js.a y.js.n y.js.c, .slice y.bs.a y.bs.n y.bs.c, .slice y.ls.a y.ls.n y.ls.c] 54)) := (Below.refl _ _).alloc (Nat.le_refl _) _
          have SX : Hid (SlN (y1.alloc (.cells #[.int .i64 y.id, .bool y.dead, .int .i64 y.m.id, .int .i64 y.m.rid, .slice y.mv.ms.a y.mv.ms.n y.mv.ms.c, .slice y.mv.its.a y.mv.its.n y.mv.its.c, .slice y.mv.lv.a y.mv.lv.n y.mv.lv.c, .slice y.mv.tx.a y.mv.tx.n y.mv.tx.c, .int .i64 y.m.rd, .int .i64 y.m.se, .int .i64 y.m.li, .int .i64 y.m.he, .int .i64 y.m.la.c, .int .i64 y.m.la.r, .int .i64 y.m.la.q, .int .i64 y.m.la.a, .int .i64 y.m.la.b, .slice y.mv.ws.a y.mv.ws.n y.mv.ws.c, .int .i64 y.most, .int .i64 y.old, .int .i64 y.jid, .slice y.js.a y.js.n y.js.c, .slice y.bs.a y.bs.n y.bs.c, .slice y.ls.a y.ls.n y.ls.c] 54)) 54 24 0 (.slice (some ⟨y1.heap.size, 0, none⟩) 1 1) [[.int .i64 y.id, .bool y.dead, .int .i64 y.m.id, .int .i64 y.m.rid, .slice y.mv.ms.a y.mv.ms.n y.mv.ms.c, .slice y.mv.its.a y.mv.its.n y.mv.its.c, .slice y.mv.lv.a y.mv.lv.n y.mv.lv.c, .slice y.mv.tx.a y.mv.tx.n y.mv.tx.c, .int .i64 y.m.rd, .int .i64 y.m.se, .int .i64 y.m.li, .int .i64 y.m.he, .int .i64 y.m.la.c, .int .i64 y.m.la.r, .int .i64 y.m.la.q, .int .i64 y.m.la.a, .int .i64 y.m.la.b, .slice y.mv.ws.a y.mv.ws.n y.mv.ws.c, .int .i64 y.most, .int .i64 y.old, .int .i64 y.jid, .slice y.js.a y.js.n y.js.c, .slice y.bs.a y.bs.n y.bs.c, .slice y.ls.a y.ls.n y.ls.c]]) := SlN.one y1 54 24 0 _ rfl rfl (Nat.zero_le _)
          have c : Below v1.heap.size v1 (y1.alloc (.cells #[.int .i64 y.id, .bool y.dead, .int .i64 y.m.id, .int .i64 y.m.rid, .slice y.mv.ms.a y.mv.ms.n y.mv.ms.c, .slice y.mv.its.a y.mv.its.n y.mv.its.c, .slice y.mv.lv.a y.mv.lv.n y.mv.lv.c, .slice y.mv.tx.a y.mv.tx.n y.mv.tx.c, .int .i64 y.m.rd, .int .i64 y.m.se, .int .i64 y.m.li, .int .i64 y.m.he, .int .i64 y.m.la.c, .int .i64 y.m.la.r, .int .i64 y.m.la.q, .int .i64 y.m.la.a, .int .i64 y.m.la.b, .slice y.mv.ws.a y.mv.ws.n y.mv.ws.c, .int .i64 y.most, .int .i64 y.old, .int .i64 y.jid, .slice y.js.a y.js.n y.js.c, .slice y.bs.a y.bs.n y.bs.c, .slice y.ls.a y.ls.n y.ls.c] 54)) := bl_next c b
          have BD : Hid (Bx (y1.alloc (.cells #[.int .i64 y.id, .bool y.dead, .int .i64 y.m.id, .int .i64 y.m.rid, .slice y.mv.ms.a y.mv.ms.n y.mv.ms.c, .slice y.mv.its.a y.mv.its.n y.mv.its.c, .slice y.mv.lv.a y.mv.lv.n y.mv.lv.c, .slice y.mv.tx.a y.mv.tx.n y.mv.tx.c, .int .i64 y.m.rd, .int .i64 y.m.se, .int .i64 y.m.li, .int .i64 y.m.he, .int .i64 y.m.la.c, .int .i64 y.m.la.r, .int .i64 y.m.la.q, .int .i64 y.m.la.a, .int .i64 y.m.la.b, .slice y.mv.ws.a y.mv.ws.n y.mv.ws.c, .int .i64 y.most, .int .i64 y.old, .int .i64 y.jid, .slice y.js.a y.js.n y.js.c, .slice y.bs.a y.bs.n y.bs.c, .slice y.ls.a y.ls.n y.ls.c] 54)) gO 32 [.slice s.a s.n s.c, .slice t.a t.n t.c, .slice none 0 0, .slice ev.a ev.n ev.c]) := BD.out.later b
          have LY : Hid (SlN (y1.alloc (.cells #[.int .i64 y.id, .bool y.dead, .int .i64 y.m.id, .int .i64 y.m.rid, .slice y.mv.ms.a y.mv.ms.n y.mv.ms.c, .slice y.mv.its.a y.mv.its.n y.mv.its.c, .slice y.mv.lv.a y.mv.lv.n y.mv.lv.c, .slice y.mv.tx.a y.mv.tx.n y.mv.tx.c, .int .i64 y.m.rd, .int .i64 y.m.se, .int .i64 y.m.li, .int .i64 y.m.he, .int .i64 y.m.la.c, .int .i64 y.m.la.r, .int .i64 y.m.la.q, .int .i64 y.m.la.a, .int .i64 y.m.la.b, .slice y.mv.ws.a y.mv.ws.n y.mv.ws.c, .int .i64 y.most, .int .i64 y.old, .int .i64 y.jid, .slice y.js.a y.js.n y.js.c, .slice y.bs.a y.bs.n y.bs.c, .slice y.ls.a y.ls.n y.ls.c] 54)) 54 24 wa.heap.size t.v rws) := SlN.below LY.out b
          have VD : Hid (Bx (y1.alloc (.cells #[.int .i64 y.id, .bool y.dead, .int .i64 y.m.id, .int .i64 y.m.rid, .slice y.mv.ms.a y.mv.ms.n y.mv.ms.c, .slice y.mv.its.a y.mv.its.n y.mv.its.c, .slice y.mv.lv.a y.mv.lv.n y.mv.lv.c, .slice y.mv.tx.a y.mv.tx.n y.mv.tx.c, .int .i64 y.m.rd, .int .i64 y.m.se, .int .i64 y.m.li, .int .i64 y.m.he, .int .i64 y.m.la.c, .int .i64 y.m.la.r, .int .i64 y.m.la.q, .int .i64 y.m.la.a, .int .i64 y.m.la.b, .slice y.mv.ws.a y.mv.ws.n y.mv.ws.c, .int .i64 y.most, .int .i64 y.old, .int .i64 y.jid, .slice y.js.a y.js.n y.js.c, .slice y.bs.a y.bs.n y.bs.c, .slice y.ls.a y.ls.n y.ls.c] 54)) gVB 54 [.int .i64 e.id, .bool false, .int .i64 0, .int .i64 0, .slice none 0 0, .slice none 0 0, .slice none 0 0, .slice none 0 0, .int .i64 0, .int .i64 0, .int .i64 0, .int .i64 0, .int .i64 0, .int .i64 0, .int .i64 0, .int .i64 0, .int .i64 0, .slice none 0 0, .int .i64 0, .int .i64 0, .int .i64 0, .slice none 0 0, .slice none 0 0, .slice none 0 0]) := VD.out.later b
          refine hK.out _ _ (⟨BD.out, VD.out⟩) (fun hHeld => ?_)
          clear hK K
          try simp only [Act.put, List.getElem_toArray, List.getElem_cons_zero, List.getElem_cons_succ, List.setIfInBounds_toArray, List.set_cons_zero, List.set_cons_succ]
          clear b
          refine wpAnyH_ready (rs := [5]) (by kernel_rfl) (by simp) ?_
          refine AllReadyH.cons (i := 5) rfl (fun K hK => ?_) AllReadyH.nil
          rw [if_pos (by rfl)]
          simp only [List.getElem_toArray, List.getElem_cons_zero, List.getElem_cons_succ]
          refine wp_catM _ _ 28 rfl _ 320 Tryz.underlying28 Tryz.infoDa rfl (by decide) wa.heap.size (.slice t.a t.n t.c) rws (by rfl) LY.out 0 _ [[.int .i64 y.id, .bool y.dead, .int .i64 y.m.id, .int .i64 y.m.rid, .slice y.mv.ms.a y.mv.ms.n y.mv.ms.c, .slice y.mv.its.a y.mv.its.n y.mv.its.c, .slice y.mv.lv.a y.mv.lv.n y.mv.lv.c, .slice y.mv.tx.a y.mv.tx.n y.mv.tx.c, .int .i64 y.m.rd, .int .i64 y.m.se, .int .i64 y.m.li, .int .i64 y.m.he, .int .i64 y.m.la.c, .int .i64 y.m.la.r, .int .i64 y.m.la.q, .int .i64 y.m.la.a, .int .i64 y.m.la.b, .slice y.mv.ws.a y.mv.ws.n y.mv.ws.c, .int .i64 y.most, .int .i64 y.old, .int .i64 y.jid, .slice y.js.a y.js.n y.js.c, .slice y.bs.a y.bs.n y.bs.c, .slice y.ls.a y.ls.n y.ls.c]] (by rfl) SX.out HLEN.out (by have := c.size; omega) ?_
          intro v2 y2 s2 g2 b2
          obtain ⟨nz, hnz, hnq⟩ := s2.form
          subst hnz
          clear hnq
          have LN : Hid (SlN y2 54 24 wa.heap.size nz.v (rws ++ [([.int .i64 y.id, .bool y.dead, .int .i64 y.m.id, .int .i64 y.m.rid, .slice y.mv.ms.a y.mv.ms.n y.mv.ms.c, .slice y.mv.its.a y.mv.its.n y.mv.its.c, .slice y.mv.lv.a y.mv.lv.n y.mv.lv.c, .slice y.mv.tx.a y.mv.tx.n y.mv.tx.c, .int .i64 y.m.rd, .int .i64 y.m.se, .int .i64 y.m.li, .int .i64 y.m.he, .int .i64 y.m.la.c, .int .i64 y.m.la.r, .int .i64 y.m.la.q, .int .i64 y.m.la.a, .int .i64 y.m.la.b, .slice y.mv.ws.a y.mv.ws.n y.mv.ws.c, .int .i64 y.most, .int .i64 y.old, .int .i64 y.jid, .slice y.js.a y.js.n y.js.c, .slice y.bs.a y.bs.n y.bs.c, .slice y.ls.a y.ls.n y.ls.c] : List Value)])) := s2
          have BD : Hid (Bx y2 gO 32 [.slice s.a s.n s.c, .slice t.a t.n t.c, .slice none 0 0, .slice ev.a ev.n ev.c]) := BD.out.grown g2 (fun e => by obtain ⟨_, h1⟩ := LY.out.blk e.symm; have h2 := BD.out; unfold Bx at h2; rw [h1] at h2; simp at h2)
          have VD : Hid (Bx y2 gVB 54 [.int .i64 e.id, .bool false, .int .i64 0, .int .i64 0, .slice none 0 0, .slice none 0 0, .slice none 0 0, .slice none 0 0, .int .i64 0, .int .i64 0, .int .i64 0, .int .i64 0, .int .i64 0, .int .i64 0, .int .i64 0, .int .i64 0, .int .i64 0, .slice none 0 0, .int .i64 0, .int .i64 0, .int .i64 0, .slice none 0 0, .slice none 0 0, .slice none 0 0]) := VD.out.grown g2 (fun e => by have := RL.out _ e.symm; omega)
          have kr : Below wa.heap.size v1 y2 := (c.mono (by omega)).trans b2
          refine hK.out _ _ (⟨BD.out, VD.out⟩) (fun hHeld => ?_)
          clear hK K
          try simp only [Act.put, List.getElem_toArray, List.getElem_cons_zero, List.getElem_cons_succ, List.setIfInBounds_toArray, List.set_cons_zero, List.set_cons_succ]
          clear s2 g2 SX
          refine wpAnyH_take (i := 6) (v := ?v6b9) rfl (by kernel_rfl) (by kernel_rfl) (by kernel_rfl) (fun _ _ _ h => h) (Or.inl ⟨by rfl, ?hy6b9⟩) (by assumption) ?_
          case hy6b9 => (intro w hSw; (try dsimp only at hSw); simp only [List.getElem_toArray, List.getElem_cons_zero, List.getElem_cons_succ]; go_simp; try with_reducible rfl)
          try simp only [Act.put, List.getElem_toArray, List.getElem_cons_zero, List.getElem_cons_succ, List.setIfInBounds_toArray, List.set_cons_zero, List.set_cons_succ]
          refine wpAnyH_take (i := 7) (v := ?v7b10) rfl (by kernel_rfl) (by kernel_rfl) (by kernel_rfl) (fun _ _ _ h => h) (Or.inl ⟨by rfl, ?hy7b10⟩) (by assumption) ?_
          case hy7b10 => (intro w hSw; (try dsimp only at hSw); simp only [List.getElem_toArray, List.getElem_cons_zero, List.getElem_cons_succ]; go_simp; try with_reducible rfl)
          try simp only [Act.put, List.getElem_toArray, List.getElem_cons_zero, List.getElem_cons_succ, List.setIfInBounds_toArray, List.set_cons_zero, List.set_cons_succ]
          refine wpAnyH_done (by kernel_rfl) ?_ _
          refine lastQ_of rfl rfl ?_
          refine wp_st1 28 _ _ rfl gO 1 rfl 32 _ BD.out (.slice nz.a nz.n nz.c) rfl (by simp) rfl Tryz.sizeDs [.slice s.a s.n s.c, .slice nz.a nz.n nz.c, .slice none 0 0, .slice ev.a ev.n ev.c] rfl ?_
          intro v3 ob tb
          have OR : Hid (Bx v3 gO 32 [.slice s.a s.n s.c, .slice nz.a nz.n nz.c, .slice none 0 0, .slice ev.a ev.n ev.c]) := ob
          have KR : Hid (KeepR gO wa.heap.size wa v3) := (KR.out.belowN kr).turn tb
          have LN : Hid (SlN v3 54 24 wa.heap.size nz.v (rws ++ [([.int .i64 y.id, .bool y.dead, .int .i64 y.m.id, .int .i64 y.m.rid, .slice y.mv.ms.a y.mv.ms.n y.mv.ms.c, .slice y.mv.its.a y.mv.its.n y.mv.its.c, .slice y.mv.lv.a y.mv.lv.n y.mv.lv.c, .slice y.mv.tx.a y.mv.tx.n y.mv.tx.c, .int .i64 y.m.rd, .int .i64 y.m.se, .int .i64 y.m.li, .int .i64 y.m.he, .int .i64 y.m.la.c, .int .i64 y.m.la.r, .int .i64 y.m.la.q, .int .i64 y.m.la.a, .int .i64 y.m.la.b, .slice y.mv.ws.a y.mv.ws.n y.mv.ws.c, .int .i64 y.most, .int .i64 y.old, .int .i64 y.jid, .slice y.js.a y.js.n y.js.c, .slice y.bs.a y.bs.n y.bs.c, .slice y.ls.a y.ls.n y.ls.c] : List Value)])) := SlN.keep LN.out fun b hb _ => tb.block b (by have := (SlN.lt LN.out b hb).1; omega)
          have HC : Hid ((rws ++ [([.int .i64 y.id, .bool y.dead, .int .i64 y.m.id, .int .i64 y.m.rid, .slice y.mv.ms.a y.mv.ms.n y.mv.ms.c, .slice y.mv.its.a y.mv.its.n y.mv.its.c, .slice y.mv.lv.a y.mv.lv.n y.mv.lv.c, .slice y.mv.tx.a y.mv.tx.n y.mv.tx.c, .int .i64 y.m.rd, .int .i64 y.m.se, .int .i64 y.m.li, .int .i64 y.m.he, .int .i64 y.m.la.c, .int .i64 y.m.la.r, .int .i64 y.m.la.q, .int .i64 y.m.la.a, .int .i64 y.m.la.b, .slice y.mv.ws.a y.mv.ws.n y.mv.ws.c, .int .i64 y.most, .int .i64 y.old, .int .i64 y.jid, .slice y.js.a y.js.n y.js.c, .slice y.bs.a y.bs.n y.bs.c, .slice y.ls.a y.ls.n y.ls.c] : List Value)]).length = j2 + 1) := (by have := hcl.out; simp; omega : _ = _)
          clear ob tb kr c BD VD hHeld LY b2
          go_wp2_with fail
          go_roundw
          case rel => exact ⟨j2 + 1, nz, _, by omega, by go_num, HC, OR, LN, KR⟩
          case measure => simp [intOf]; omega
        · skip
          have LA : Hid (Bx wr w.heap.size 32 [.slice x.rs.a x.rs.n x.rs.c, .slice x.ds.a x.ds.n x.ds.c, .slice none 0 0, .slice none 0 0]) := LA.out.kr KR.out (by omega) (by omega)
          have EB : Hid (Bx wr (w.heap.size + 1) 32 [.slice none 0 0, .slice none 0 0, .slice none 0 0, .slice none 0 0]) := EB.out.kr KR.out (by omega) (by omega)
          have BW : Hid (Below w.heap.size w wr) := BW.out.trans (KR.out.below (by omega) (by omega))
          have hlt9 : ¬ (j2 : Int) < (x.ds.n : Int) := by omega
          clear KR HXr LR hcl hlt
          have ca := LA.out.cell 2
          simp only [List.getElem?_cons_succ, List.getElem?_cons_zero] at ca
          go_wp2_with fail
          clear ca
          generalize hwb : wr = wb at *
          clear hwb
          go_loopw [47] (fun i wr => i = .int .i64 0 ∧ wr = wb) (fun _ _ => 0)
          case atStart => exact ⟨rfl, rfl⟩
          case round =>
            obtain ⟨rfl, rfl⟩ := hrel
            go_wp2_with (first | (refine wpList_ldG rfl 32 _ rfl gO 0 rfl 32 _ OR.out [.slice s.a s.n s.c, .slice t.a t.n t.c, .slice none 0 0, .slice ev.a ev.n ev.c] rfl _ Tryz.underlying32 rfl Tryz.sizeWo ?_) | (with_reducible refine wpList_haltS 32 _ _ rfl ?_))
            refine Stp.go ?_
            refine wpList_stB rfl 32 _ _ rfl (w.heap.size + 1) 0 rfl 32 _ EB.out [.slice s.a s.n s.c, .slice t.a t.n t.c, .slice none 0 0, .slice ev.a ev.n ev.c] rfl (by simp) Tryz.sizeWo rfl [.slice s.a s.n s.c, .slice t.a t.n t.c, .slice none 0 0, .slice ev.a ev.n ev.c] rfl ?_
            intro w9 OB TB
            have z_w9 : wr.heap.size ≤ w9.heap.size := Nat.le_of_eq TB.size.symm
            have OR : Hid (Bx w9 gO 32 [.slice s.a s.n s.c, .slice t.a t.n t.c, .slice none 0 0, .slice ev.a ev.n ev.c]) := OR.out.turn TB (by omega)
            have BW : Hid (Below w.heap.size w w9) := BW.out.trans (TB.below (by omega))
            have EB : Hid (Bx w9 (w.heap.size + 1) 32 [.slice s.a s.n s.c, .slice t.a t.n t.c, .slice none 0 0, .slice ev.a ev.n ev.c]) := OB
            clear OB TB
            go_wp2_with fail
            refine bodyPost_ret (results_b Tryz.results36 (w.heap.size + 1) 32 [.slice s.a s.n s.c, .slice t.a t.n t.c, .slice none 0 0, .slice ev.a ev.n ev.c] _ rfl EB.out Tryz.underlying32 rfl Tryz.sizeWo) rfl ?_
            exact ⟨s, t, ev, rfl, BW.out⟩
end Go.Proofs.YtoahljkifikbaaaGreat


/- The program's RunWorld without deeds. Written by gen_lfw.py. -/
namespace Go.Proofs.YtoahljkifikbaaaGreat
open Go.RowKit Pl
set_option linter.unusedVariables false
set_option linter.unusedSimpArgs false

theorem results_btt9 {P : Program} {w : World} {fn : Func} {tmps : Array Value} {p q r : Tmp} {ty : TypeId} (h : fn.results = #[.cell p ty, .tmp q, .tmp r]) (g T : Nat) (cs : List Value) (d : TypeDesc) (hp : tmps.getD p undef = .pointer (some ⟨g, 0, none⟩)) (hB : Bx w g T cs)
    (hu : P.underlying ty = some d) (hd : d.isRow = true) (hi : (P.info? ty).map (·.size) = some cs.length) : (results fn tmps).run P w = .ok (.tuple #[.agg cs.toArray, tmps.getD q undef, tmps.getD r undef]) w := by
  have hl := run_loadVar_mid (P := P) w g 0 ty cs d (hB.range 0 cs (by simp)) hu hd hi
  have hp' : tmps[p]?.getD undef = .pointer (some ⟨g, 0, none⟩) := by simpa using hp
  simp [results, h, hp', asAddr, hl]
set_option maxRecDepth 100000 in
set_option maxHeartbeats 4000000 in
theorem runWorld_none (s : Sv) (es : List Rn) (ao : Option Addr) (c : Nat) (w : World) (hx : Hid (RnsR w s es)) (hl : es.length ≤ 1048576) (hs : Hid (∀ e ∈ es, e.S)) :
    Calls Tryz.prog 8 #[.slice s.a s.n s.c, .slice ao 0 c] w fun e w' => ∃ (r d ev nu : Sv), e = .returned (.tuple #[.agg #[.slice r.a r.n r.c, .slice d.a d.n d.c, .slice none 0 0, .slice ev.a ev.n ev.c], .slice nu.a nu.n nu.c, .bool (ringsB (es.map Rn.pl))]) ∧ nu.n = 0 ∧ Below w.heap.size w w' := by
  have EB : Hid (Bx (w.alloc (.cells #[.slice none 0 0, .slice none 0 0, .slice none 0 0, .slice none 0 0] 32)) w.heap.size 32 [.slice none 0 0, .slice none 0 0, .slice none 0 0, .slice none 0 0]) := Bx.new w 32 _
  have BW : Hid (Below w.heap.size w (w.alloc (.cells #[.slice none 0 0, .slice none 0 0, .slice none 0 0, .slice none 0 0] 32))) := (Below.refl _ _).alloc (Nat.le_refl _) _
  have HX : Hid (RnsR (w.alloc (.cells #[.slice none 0 0, .slice none 0 0, .slice none 0 0, .slice none 0 0] 32)) s es) := hx.out.stays BW.out
  cases hr : ringsB (es.map Rn.pl) with
  | false =>
    go_enter Tryz.func8, Tryz.ntmps8
    go_wp2_with fail
    generalize w.alloc (.cells #[.slice none 0 0, .slice none 0 0, .slice none 0 0, .slice none 0 0] 32) = W at *
    refine (worldNew_no s es W HX hl hs hr).mono ?_
    rintro e w1 ⟨rfl, b⟩
    have EB : Hid (Bx w1 w.heap.size 32 [.slice none 0 0, .slice none 0 0, .slice none 0 0, .slice none 0 0]) := EB.out.later b
    have BW : Hid (Below w.heap.size w w1) := bl_next BW.out b
    clear b HX hr
    have zE : w.heap.size < w1.heap.size := EB.out.lt
    have hz : Hid (Bx (w1.alloc (.cells #[.slice none 0 0, .slice none 0 0, .slice none 0 0, .slice none 0 0] 32)) w1.heap.size 32 [.slice none 0 0, .slice none 0 0, .slice none 0 0, .slice none 0 0]) := Bx.new w1 32 _
    go_wp2_with (first | (refine wpList_stB rfl 32 _ _ rfl w1.heap.size 0 rfl 32 _ hz.out [.slice none 0 0, .slice none 0 0, .slice none 0 0, .slice none 0 0] rfl (by simp) Tryz.sizeWo rfl [.slice none 0 0, .slice none 0 0, .slice none 0 0, .slice none 0 0] rfl ?_; intro w2 OB TB; have b : Below w1.heap.size w1 w2 := ((Below.refl _ _).alloc (Nat.le_refl _) _).trans (TB.below (Nat.le_refl _)); have VB : Hid (Bx w2 w1.heap.size 32 [.slice none 0 0, .slice none 0 0, .slice none 0 0, .slice none 0 0]) := OB; have z_w2 : w1.heap.size ≤ w2.heap.size := b.size; have EB : Hid (Bx w2 w.heap.size 32 [.slice none 0 0, .slice none 0 0, .slice none 0 0, .slice none 0 0]) := EB.out.later b; have BW : Hid (Below w.heap.size w w2) := bl_next BW.out b; clear OB TB b; refine Stp.here ?_))
    refine Stp.go ?_
    clear hz
    have zl_VB : w1.heap.size < w2.heap.size := VB.out.lt
    generalize hg_VB : w1.heap.size = gVB at *
    clear VB
    have b : Below w2.heap.size w2 (w2.alloc (.cells #[] 3)) := (Below.refl _ _).alloc (Nat.le_refl _) _
    have EB : Hid (Bx (w2.alloc (.cells #[] 3)) w.heap.size 32 [.slice none 0 0, .slice none 0 0, .slice none 0 0, .slice none 0 0]) := EB.out.later b
    have BW : Hid (Below w.heap.size w (w2.alloc (.cells #[] 3))) := bl_next BW.out b
    clear b
    go_wp2_with (first | (with_reducible refine wpList_haltS 32 _ _ rfl ?_))
    refine Stp.go ?_
    generalize hnu : (some ⟨w2.heap.size, 0, none⟩ : Option Addr) = an at *
    clear hnu
    generalize (w2.alloc (.cells #[] 3)) = w3 at *
    refine wpList_stB rfl 32 _ _ rfl w.heap.size 0 rfl 32 _ EB.out [.slice none 0 0, .slice none 0 0, .slice none 0 0, .slice none 0 0] rfl (by simp) Tryz.sizeWo rfl [.slice none 0 0, .slice none 0 0, .slice none 0 0, .slice none 0 0] rfl ?_
    intro w4 OB TB
    have z_w4 : w3.heap.size ≤ w4.heap.size := Nat.le_of_eq TB.size.symm
    have BW : Hid (Below w.heap.size w w4) := BW.out.trans (TB.below (by omega))
    have EB : Hid (Bx w4 w.heap.size 32 [.slice none 0 0, .slice none 0 0, .slice none 0 0, .slice none 0 0]) := OB
    clear OB TB
    go_wp2_with fail
    refine bodyPost_ret (results_btt9 Tryz.results8 w.heap.size 32 [.slice none 0 0, .slice none 0 0, .slice none 0 0, .slice none 0 0] _ rfl EB.out Tryz.underlying32 rfl Tryz.sizeWo) rfl ?_
    exact ⟨zSv, zSv, zSv, ⟨an, 0, 0⟩, rfl, rfl, BW.out⟩
  | true =>
    go_enter Tryz.func8, Tryz.ntmps8
    go_wp2_with fail
    generalize w.alloc (.cells #[.slice none 0 0, .slice none 0 0, .slice none 0 0, .slice none 0 0] 32) = W at *
    refine (worldNew_yes s es W HX hl hs hr).mono ?_
    rintro e w1 ⟨x, rfl, hpl, hdl, ho, _, b⟩
    have XO : Hid (WnO w1 W.heap.size x) := ho
    have hxl : x.rl.length ≤ 1048576 := by have := congrArg List.length hpl; simp at this; omega
    have hxd : x.dl.length ≤ 1048576 := by rw [hdl]; decide
    have hxs : Hid (∀ e ∈ x.rl, e.S) := fun e he => by
      have : e.pl ∈ es.map Rn.pl := by rw [← hpl]; exact List.mem_map_of_mem he
      obtain ⟨f, hf, hp⟩ := List.mem_map.1 this
      have := hs.out f hf
      unfold Rn.S at *
      simp only [Rn.pl, Prod.mk.injEq] at hp
      rw [← hp.2]; exact this
    have EB : Hid (Bx w1 w.heap.size 32 [.slice none 0 0, .slice none 0 0, .slice none 0 0, .slice none 0 0]) := EB.out.later b
    have BW : Hid (Below w.heap.size w w1) := bl_next BW.out b
    clear b HX hr hpl hdl ho
    have zE : w.heap.size < w1.heap.size := EB.out.lt
    have hz : Hid (Bx (w1.alloc (.cells #[.slice none 0 0, .slice none 0 0, .slice none 0 0, .slice none 0 0] 32)) w1.heap.size 32 [.slice none 0 0, .slice none 0 0, .slice none 0 0, .slice none 0 0]) := Bx.new w1 32 _
    go_wp2_with (first | (refine wpList_stB rfl 32 _ _ rfl w1.heap.size 0 rfl 32 _ hz.out [.slice x.rs.a x.rs.n x.rs.c, .slice x.ds.a x.ds.n x.ds.c, .slice none 0 0, .slice none 0 0] rfl (by simp) Tryz.sizeWo rfl [.slice x.rs.a x.rs.n x.rs.c, .slice x.ds.a x.ds.n x.ds.c, .slice none 0 0, .slice none 0 0] rfl ?_; intro w2 OB TB; have b : Below w1.heap.size w1 w2 := ((Below.refl _ _).alloc (Nat.le_refl _) _).trans (TB.below (Nat.le_refl _)); have VB : Hid (Bx w2 w1.heap.size 32 [.slice x.rs.a x.rs.n x.rs.c, .slice x.ds.a x.ds.n x.ds.c, .slice none 0 0, .slice none 0 0]) := OB; have z_w2 : w1.heap.size ≤ w2.heap.size := b.size; have EB : Hid (Bx w2 w.heap.size 32 [.slice none 0 0, .slice none 0 0, .slice none 0 0, .slice none 0 0]) := EB.out.later b; have BW : Hid (Below w.heap.size w w2) := bl_next BW.out b; have XO : Hid (WnO w2 W.heap.size x) := XO.out.below b; clear OB TB b; refine Stp.here ?_))
    refine Stp.go ?_
    clear hz
    have zl_VB : w1.heap.size < w2.heap.size := VB.out.lt
    generalize hg_VB : w1.heap.size = gVB at *
    go_wp2_with fail
    refine (deedsOk_nil ao c _).mono ?_
    rintro e w3 ⟨rfl, b⟩
    have z_w3 : w2.heap.size ≤ w3.heap.size := b.size
    have EB : Hid (Bx w3 w.heap.size 32 [.slice none 0 0, .slice none 0 0, .slice none 0 0, .slice none 0 0]) := EB.out.later b
    have BW : Hid (Below w.heap.size w w3) := bl_next BW.out b
    have XO : Hid (WnO w3 W.heap.size x) := XO.out.below b
    have VB : Hid (Bx w3 gVB 32 [.slice x.rs.a x.rs.n x.rs.c, .slice x.ds.a x.ds.n x.ds.c, .slice none 0 0, .slice none 0 0]) := VB.out.later b
    clear b
    have b : Below w3.heap.size w3 (w3.alloc (.cells #[] 3)) := (Below.refl _ _).alloc (Nat.le_refl _) _
    have EB : Hid (Bx (w3.alloc (.cells #[] 3)) w.heap.size 32 [.slice none 0 0, .slice none 0 0, .slice none 0 0, .slice none 0 0]) := EB.out.later b
    have BW : Hid (Below w.heap.size w (w3.alloc (.cells #[] 3))) := bl_next BW.out b
    have XO : Hid (WnO (w3.alloc (.cells #[] 3)) W.heap.size x) := XO.out.below b
    have VB : Hid (Bx (w3.alloc (.cells #[] 3)) gVB 32 [.slice x.rs.a x.rs.n x.rs.c, .slice x.ds.a x.ds.n x.ds.c, .slice none 0 0, .slice none 0 0]) := VB.out.later b
    clear b
    go_wp2_with fail
    generalize hnu : (some ⟨w3.heap.size, 0, none⟩ : Option Addr) = an at *
    clear hnu
    generalize (w3.alloc (.cells #[] 3)) = w4 at *
    go_loopw [9, 29] (fun v i wr => v = .slice an 0 0 ∧ i = .int .i64 0 ∧ wr = w4) (fun _ _ _ => 0)
    case atStart => exact ⟨rfl, rfl, rfl⟩
    case round =>
      obtain ⟨rfl, rfl, rfl⟩ := hrel
      go_wp2_with (first | (refine wpList_ldG rfl 32 _ rfl gVB 0 rfl 32 _ VB.out [.slice x.rs.a x.rs.n x.rs.c, .slice x.ds.a x.ds.n x.ds.c, .slice none 0 0, .slice none 0 0] rfl _ Tryz.underlying32 rfl Tryz.sizeWo ?_))
      refine (copyWorld_any x _ _ XO hxl hxs hxd).mono ?_
      rintro e w5 ⟨r, d, ev, rfl, b⟩
      have z_w5 : wr.heap.size ≤ w5.heap.size := b.size
      have EB : Hid (Bx w5 w.heap.size 32 [.slice none 0 0, .slice none 0 0, .slice none 0 0, .slice none 0 0]) := EB.out.later b
      have BW : Hid (Below w.heap.size w w5) := bl_next BW.out b
      have XO : Hid (WnO w5 W.heap.size x) := XO.out.below b
      have VB : Hid (Bx w5 gVB 32 [.slice x.rs.a x.rs.n x.rs.c, .slice x.ds.a x.ds.n x.ds.c, .slice none 0 0, .slice none 0 0]) := VB.out.later b
      clear b
      go_wp2_with (first | (with_reducible refine wpList_haltS 32 _ _ rfl ?_))
      refine Stp.go ?_
      refine wpList_stB rfl 32 _ _ rfl w.heap.size 0 rfl 32 _ EB.out [.slice r.a r.n r.c, .slice d.a d.n d.c, .slice none 0 0, .slice ev.a ev.n ev.c] rfl (by simp) Tryz.sizeWo rfl [.slice r.a r.n r.c, .slice d.a d.n d.c, .slice none 0 0, .slice ev.a ev.n ev.c] rfl ?_
      intro w6 OB TB
      have z_w6 : w5.heap.size ≤ w6.heap.size := Nat.le_of_eq TB.size.symm
      have BW : Hid (Below w.heap.size w w6) := BW.out.trans (TB.below (by omega))
      have VB : Hid (Bx w6 gVB 32 [.slice x.rs.a x.rs.n x.rs.c, .slice x.ds.a x.ds.n x.ds.c, .slice none 0 0, .slice none 0 0]) := VB.out.turn TB (by omega)
      have EB : Hid (Bx w6 w.heap.size 32 [.slice r.a r.n r.c, .slice d.a d.n d.c, .slice none 0 0, .slice ev.a ev.n ev.c]) := OB
      clear OB TB
      go_wp2_with fail
      refine bodyPost_ret (results_btt9 Tryz.results8 w.heap.size 32 [.slice r.a r.n r.c, .slice d.a d.n d.c, .slice none 0 0, .slice ev.a ev.n ev.c] _ rfl EB.out Tryz.underlying32 rfl Tryz.sizeWo) rfl ?_
      exact ⟨r, d, ev, ⟨an, 0, 0⟩, rfl, rfl, BW.out⟩
end Go.Proofs.YtoahljkifikbaaaGreat


/- Drawn lists of rings. Written by gen_dr15.py. -/
namespace Go.Proofs.YtoahljkifikbaaaGreat
open Go.RowKit Pl
set_option linter.unusedVariables false
set_option linter.unusedSimpArgs false

theorem Drw.lowB {w0 w w' : World} {B g n cap N : Nat} {ao : Option Addr} (h : Drw w0 w B g ao n cap) (b : Below N w w') (h1 : g < N) (h2 : w0.heap.size ≤ N) (hB : B ≤ g) : Drw w0 w' B g ao n cap := by
  obtain ⟨⟨i, z, e1, e2⟩, e3, e4⟩ := h
  exact ⟨⟨i, z, e1, (b.block g h1).trans e2⟩, e3.stays b (by omega), ⟨b.os.trans e4.os, b.tape.trans e4.tape, b.output.trans e4.output, Nat.le_trans e4.size b.size, fun m hm hmg => (b.block m (by omega)).trans (e4.block m hm hmg)⟩⟩
theorem RnsO.drawn {w w' : World} {B g : Nat} {s : Sv} {es : List Rn} (h : RnsO w B s es) (k : KeepBut g w w') (hg : g < B) : RnsO w' B s es := h.keep fun b hb hl => k.block b hl (by omega)
theorem OwnI.drawn {w w' : World} {B g : Nat} {v : Value} {xs : List Int} (h : OwnI w B v xs) (k : KeepBut g w w') (hg : g < B) : OwnI w' B v xs := OwnI.keep h fun b hb hl => k.block b hl (by have := (OwnI.lt h b hb).1; omega)
theorem Bx.drawn {w w' : World} {g b T : Nat} {cs : List Value} (h : Bx w b T cs) (k : KeepBut g w w') (hg : b ≠ g) : Bx w' b T cs := (k.block b h.lt hg).trans h
set_option maxRecDepth 100000 in
set_option maxHeartbeats 8000000 in
theorem drawRings_any (w0 w : World) (B g n cap : Nat) (ao : Option Addr) (hn : n ≤ 1048576) (hB : B ≤ g) (hd : Hid (Drw w0 w B g ao n cap)) :
    Calls Tryz.prog 44 #[.pointer (some ⟨g, 0, none⟩)] w fun e w' => (∃ (u : Sv) (cs : List Rn), e = .returned (.slice u.a u.n u.c) ∧ 1 ≤ cs.length ∧ cs.length ≤ 5 ∧ (∀ c ∈ cs, c.ms.length ≤ 8) ∧ RnsO w' w.heap.size u cs) ∧ Hid (Drw w0 w' B g ao n cap) := by
  have hg := hd.out.lt
  have hw0 := hd.out.2.2.size
  have D0 : Hid (Drw w0 (w.alloc (.cells #[] 37)) B g ao n cap) := hd.out.alloc hB _
  have V0 : Hid (SlN (w.alloc (.cells #[] 37)) 37 2 w.heap.size (.slice (some ⟨w.heap.size, 0, none⟩) 0 0) []) := SlN.made w 37 2 w.heap.size (Nat.le_refl _)
  have Z0 : w.heap.size ≤ (w.alloc (.cells #[] 37)).heap.size := by simp
  clear hd
  go_enter Tryz.func44, Tryz.ntmps44
  go_wp2_with fail
  generalize w.alloc (.cells #[] 37) = W0 at *
  go_loopw [3, 4] (fun v i wr => ∃ (k : Nat) (u : Sv) (cs : List Rn), k ≤ 5 ∧ i = .int .i64 k ∧ v = .slice u.a u.n u.c ∧ Hid (cs.length = k) ∧ Hid (∀ c ∈ cs, c.ms.length ≤ 8) ∧ w.heap.size ≤ wr.heap.size ∧ Hid (RnsO wr w.heap.size u cs) ∧ Hid (Drw w0 wr B g ao n cap)) (fun _ i _ => 5 - (intOf i).toNat)
  case atStart => exact ⟨0, ⟨some ⟨w.heap.size, 0, none⟩, 0, 0⟩, [], Nat.zero_le _, rfl, rfl, rfl, (fun c hc => (by cases hc) : ∀ c ∈ ([] : List Rn), _), Z0, ⟨V0.out, fun e he => by cases he⟩, D0⟩
  case round =>
    clear V0 D0 Z0
    obtain ⟨k, u, cs, hk, rfl, rfl, hcl, hms, hzr, CO, DD⟩ := hrel
    go_wp2_with fail
    refine (below_small wr _ B g n cap 5 ao hn hB (by omega) (by omega) DD.out.here).mono ?_
    rintro e w3 ⟨⟨x, hx, rfl⟩, hd3⟩
    have DD : Hid (Drw w0 w3 B g ao n cap) := DD.out.back hd3.out
    have CO : Hid (RnsO w3 w.heap.size u cs) := CO.out.drawn hd3.out.2.2 hg
    have hz3 : w.heap.size ≤ w3.heap.size := Nat.le_trans hzr hd3.out.2.2.size
    clear hd3
    by_cases hlt : k < 1 + x
    · have i1 : (k : Int) < 1 + (x : Int) := by omega
      have RL0 : Hid (∀ b, RnsOwn u cs b → b < w3.heap.size) := fun b hb => (CO.out.olt hb).2
      have hz : Hid (Bx (w3.alloc (.cells #[.int .i64 0, .slice none 0 0] 37)) w3.heap.size 37 [.int .i64 0, .slice none 0 0]) := Bx.new w3 37 _
      go_wp2_with (first | (refine wpList_stB rfl 37 _ _ rfl w3.heap.size 0 rfl 37 _ hz.out [.int .i64 ((k : Int) + 1), .slice none 0 0] rfl (by simp) Tryz.sizeRn rfl [.int .i64 ((k : Int) + 1), .slice none 0 0] rfl ?_; intro w4 OB TB; have b : Below w3.heap.size w3 w4 := ((Below.refl _ _).alloc (Nat.le_refl _) _).trans (TB.below (Nat.le_refl _)); have VB : Hid (Bx w4 w3.heap.size 37 [.int .i64 ((k : Int) + 1), .slice none 0 0]) := OB; have z_w4 : w3.heap.size ≤ w4.heap.size := b.size; have CO : Hid (RnsO w4 w.heap.size u cs) := CO.out.below b; have DD : Hid (Drw w0 w4 B g ao n cap) := DD.out.step hB b; clear OB TB b; refine Stp.here ?_))
      refine Stp.go ?_
      clear hz
      have zl_VB : w3.heap.size < w4.heap.size := VB.out.lt
      generalize hg_VB : w3.heap.size = gVB at *
      have RL : Hid (∀ b, RnsOwn u cs b → b < gVB) := fun b hb => RL0.out b hb
      have zV : gVB < w4.heap.size := VB.out.lt
      clear RL0
      go_wp2_with fail
      go_loopw [6] (fun i wr => ∃ (d : Nat) (sv : Sv) (xs : List Int), 1 ≤ d ∧ d ≤ 4 ∧ i = .int .i64 d ∧ xs.length < d ∧ gVB < wr.heap.size ∧ Hid (Bx wr gVB 37 [.int .i64 ((k : Int) + 1), .slice sv.a sv.n sv.c]) ∧ Hid (OwnI wr (gVB + 1) sv.v xs) ∧ Hid (RnsO wr w.heap.size u cs) ∧ Hid (Drw w0 wr B g ao n cap)) (fun i _ => 4 - (intOf i).toNat)
      case atStart => exact ⟨1, zSv, [], by omega, by omega, rfl, Nat.zero_lt_one, zV, VB, ownI_nil _ _, CO, DD⟩
      case round =>
        clear VB CO DD zV
        obtain ⟨d, sv, xs, hd1, hd2, rfl, hxl, zV, VB, SV, CO, DD⟩ := hrel
        by_cases hdz : d ≤ 3
        · have i2 : (d : Int) ≤ 3 := by omega
          go_wp2_with fail
          refine (once_any wr _ B g n cap 4 ao hn hB (by omega) (by omega) DD.out.here).mono ?_
          rintro e w6 ⟨⟨b6, rfl⟩, hd6⟩
          have DD : Hid (Drw w0 w6 B g ao n cap) := DD.out.back hd6.out
          have CO : Hid (RnsO w6 w.heap.size u cs) := CO.out.drawn hd6.out.2.2 hg
          have VB : Hid (Bx w6 gVB 37 [.int .i64 ((k : Int) + 1), .slice sv.a sv.n sv.c]) := VB.out.drawn hd6.out.2.2 (by omega)
          have SV : Hid (OwnI w6 (gVB + 1) sv.v xs) := OwnI.drawn SV.out hd6.out.2.2 (by omega)
          have zV : gVB < w6.heap.size := Nat.lt_of_lt_of_le zV hd6.out.2.2.size
          clear hd6
          cases b6 with
          | true =>
            go_wp2_with fail
            go_roundw
            case rel => exact ⟨d + 1, sv, xs, by omega, by omega, by go_num, by omega, zV, VB, SV, CO, DD⟩
            case measure => simp [intOf]; omega
          | false =>
            have c1 := VB.out.cell 1
            simp only [List.getElem?_cons_succ, List.getElem?_cons_zero] at c1
            go_wp2_with (first | (with_reducible refine wpList_haltA _ _ _ rfl ?_))
            refine Stp.go ?_
            clear c1
            refine wpList_pushG rfl _ _ 33 rfl Tryz.underlying33 Tryz.info3' (gVB + 1) (.slice sv.a sv.n sv.c) xs rfl SV.out _ rfl (by omega) (by omega) ?_
            intro v7 w7 o7 g7
            obtain ⟨s7, hs7⟩ := o7.sv
            subst hs7
            have b7 : Below (gVB + 1) w6 w7 := ((Below.refl (gVB + 1) w6).alloc (by omega) _).grown g7 (by simp; omega) (fun k hk => (SV.out.lt k hk).1)
            have DD : Hid (Drw w0 w7 B g ao n cap) := DD.out.lowB b7 (by omega) (by omega) hB
            have CO : Hid (RnsO w7 w.heap.size u cs) := CO.out.keepo fun b hb _ => b7.block b (by have := RL.out b hb; omega)
            have VB : Hid (Bx w7 gVB 37 [.int .i64 ((k : Int) + 1), .slice sv.a sv.n sv.c]) := (b7.block gVB (by omega)).trans VB.out
            have S7 : Hid (OwnI w7 (gVB + 1) s7.v (xs ++ [(d : Int)])) := o7
            have zV : gVB < w7.heap.size := Nat.lt_of_lt_of_le zV b7.size
            clear o7 g7 b7 SV
            go_wp2_with (first | (with_reducible refine wpList_haltS 33 _ _ rfl ?_))
            refine Stp.go ?_
            refine wpList_st1 rfl 33 _ _ rfl gVB 1 rfl 37 _ VB.out (.slice s7.a s7.n s7.c) rfl (by simp) rfl Tryz.sizeNs [.int .i64 ((k : Int) + 1), .slice s7.a s7.n s7.c] rfl ?_
            intro w8 OB TB
            have z_w8 : w7.heap.size ≤ w8.heap.size := Nat.le_of_eq TB.size.symm
            have CO : Hid (RnsO w8 w.heap.size u cs) := CO.out.keepo fun b hb _ => TB.block b (by have := RL.out b hb; omega)
            have DD : Hid (Drw w0 w8 B g ao n cap) := (DD.out.other (by omega) TB (by omega) (by omega)).out
            have S7 : Hid (OwnI w8 (gVB + 1) s7.v (xs ++ [(d : Int)])) := OwnI.keep S7.out fun b hb _ => TB.block b (by have := (OwnI.lt S7.out b hb).1; omega)
            have VB : Hid (Bx w8 gVB 37 [.int .i64 ((k : Int) + 1), .slice s7.a s7.n s7.c]) := OB
            clear OB TB
            go_wp2_with fail
            go_roundw
            case rel => exact ⟨d + 1, s7, xs ++ [(d : Int)], by omega, by omega, by go_num, by simp; omega, by omega, VB, S7, CO, DD⟩
            case measure => simp [intOf]; omega
        · have i2 : ¬ (d : Int) ≤ 3 := by omega
          have hx8 : xs.length ≤ 8 := by omega
          have FIN : Hid (∀ (a : Act) (W : World) (sv : Sv) (xs : List Int), True) := fun _ _ _ _ => trivial
          clear FIN
          have nn : sv.n = xs.length := OwnI.slen SV.out
          have c1 := VB.out.cell 1
          simp only [List.getElem?_cons_succ, List.getElem?_cons_zero] at c1
          by_cases h0 : xs.length = 0
          · have n0 : sv.n = 0 := by omega
            rw [n0] at c1
            go_wp2_with fail
            clear c1
            refine (below_small wr _ B g n cap 3 ao hn hB (by omega) (by omega) DD.out.here).mono ?_
            rintro e w6 ⟨⟨y, hy, rfl⟩, hd6⟩
            have DD : Hid (Drw w0 w6 B g ao n cap) := DD.out.back hd6.out
            have CO : Hid (RnsO w6 w.heap.size u cs) := CO.out.drawn hd6.out.2.2 hg
            have VB : Hid (Bx w6 gVB 37 [.int .i64 ((k : Int) + 1), .slice sv.a sv.n sv.c]) := VB.out.drawn hd6.out.2.2 (by omega)
            have zV : gVB < w6.heap.size := Nat.lt_of_lt_of_le zV hd6.out.2.2.size
            clear hd6 SV
            have b7 : Below w6.heap.size w6 (w6.alloc (.cells #[.int .i64 (1 + (y : Int))] 3)) := (Below.refl _ _).alloc (Nat.le_refl _) _
            have S7 : Hid (OwnI (w6.alloc (.cells #[.int .i64 (1 + (y : Int))] 3)) (gVB + 1) (Sv.v ⟨some ⟨w6.heap.size, 0, none⟩, 1, 1⟩) [1 + (y : Int)]) := OwnI.lit w6 (gVB + 1) [1 + (y : Int)] (by omega) (by simp)
            have DD : Hid (Drw w0 (w6.alloc (.cells #[.int .i64 (1 + (y : Int))] 3)) B g ao n cap) := DD.out.step hB b7
            have CO : Hid (RnsO (w6.alloc (.cells #[.int .i64 (1 + (y : Int))] 3)) w.heap.size u cs) := CO.out.below b7
            have VB : Hid (Bx (w6.alloc (.cells #[.int .i64 (1 + (y : Int))] 3)) gVB 37 [.int .i64 ((k : Int) + 1), .slice sv.a sv.n sv.c]) := VB.out.later b7
            have zV : gVB < (w6.alloc (.cells #[.int .i64 (1 + (y : Int))] 3)).heap.size := Nat.lt_of_lt_of_le zV b7.size
            clear b7
            go_wp2_with (first | (with_reducible refine wpList_haltS 33 _ _ rfl ?_))
            refine Stp.go ?_
            generalize hsv : (some ⟨w6.heap.size, 0, none⟩ : Option Addr) = a7 at *
            clear hsv
            generalize (w6.alloc (.cells #[.int .i64 (1 + (y : Int))] 3)) = w7 at *
            refine wpList_st1 rfl 33 _ _ rfl gVB 1 rfl 37 _ VB.out (.slice a7 1 1) rfl (by simp) rfl Tryz.sizeNs [.int .i64 ((k : Int) + 1), .slice a7 1 1] rfl ?_
            intro w8 OB TB
            have z_w8 : w7.heap.size ≤ w8.heap.size := Nat.le_of_eq TB.size.symm
            have CO : Hid (RnsO w8 w.heap.size u cs) := CO.out.keepo fun b hb _ => TB.block b (by have := RL.out b hb; omega)
            have DD : Hid (Drw w0 w8 B g ao n cap) := (DD.out.other (by omega) TB (by omega) (by omega)).out
            have S7 : Hid (OwnI w8 (gVB + 1) (Sv.v ⟨a7, 1, 1⟩) [1 + (y : Int)]) := OwnI.keep S7.out fun b hb _ => TB.block b (by have := (OwnI.lt S7.out b hb).1; omega)
            have VB : Hid (Bx w8 gVB 37 [.int .i64 ((k : Int) + 1), .slice a7 1 1]) := OB
            clear OB TB
            have HLEN : Hid ((cs.map Rn.row).length ≤ 1048576) := (by have := hcl.out; simp; omega : _ ≤ _)
            have OB : Hid (w.heap.size ≤ w8.heap.size) := (by omega : _ ≤ _)
            obtain ⟨c9, hc9⟩ : ∃ c : Rn, c = ⟨(k : Int) + 1, [1 + (y : Int)], ⟨a7, 1, 1⟩⟩ := ⟨_, rfl⟩
            have C9 : Hid (c9.O w8 (gVB + 1)) := by rw [hc9]; exact S7.out
            have CM : c9.ms.length ≤ 8 := by rw [hc9]; show ([1 + (y : Int)] : List Int).length ≤ 8; simp
            have CR : Hid (([.int .i64 ((k : Int) + 1), .slice a7 1 1] : List Value) = c9.row) := by rw [hc9]; rfl
            clear hc9 S7
            go_wp2_with (first | (refine wpList_ldG rfl 37 _ rfl gVB 0 rfl 37 _ VB.out [.int .i64 ((k : Int) + 1), .slice a7 1 1] rfl _ Tryz.underlying37 rfl Tryz.sizeRn ?_) | (with_reducible refine wpList_haltA _ _ _ rfl ?_))
            refine Stp.go ?_
            refine wpList_pushN rfl _ _ 24 rfl (.agg #[.int .i64 0, .slice none 0 0]) 32 Tryz.underlying24 Tryz.infoRn rfl (by omega) w.heap.size _ _ rfl CO.out.1 [.int .i64 ((k : Int) + 1), .slice a7 1 1] rfl rfl rfl HLEN.out OB.out ?_
            intro v10 w10 O10 g10 b10 _
            obtain ⟨s10, hs10, hq10⟩ := O10.form
            subst hs10
            clear hq10
            rw [CR.out] at O10
            have N10 : Hid (RnsO w10 w.heap.size s10 (cs ++ [c9])) := ⟨by rw [List.map_append]; exact O10, fun x hx => by
              rcases List.mem_append.1 hx with hx | hx
              · exact Rn.O.rowkeep (by decide) (fun k hk => CO.out.1.blk hk) g10 (CO.out.2 x hx)
              · rw [List.mem_singleton.1 hx]; exact Rn.O.rowkeep (by decide) (fun k hk => CO.out.1.blk hk) g10 (C9.out.down (by omega))⟩
            have DD : Hid (Drw w0 w10 B g ao n cap) := DD.out.lowB b10 (by omega) (by omega) hB
            have HM : Hid (∀ c ∈ cs ++ [c9], c.ms.length ≤ 8) := fun c hc => by
              rcases List.mem_append.1 hc with hc | hc
              · exact hms.out c hc
              · rw [List.mem_singleton.1 hc]; exact CM
            have hz10 : w.heap.size ≤ w10.heap.size := Nat.le_trans OB.out b10.size
            clear O10 g10 b10 CO C9 CR VB
            go_wp2_with fail
            go_roundw
            case rel => exact ⟨k + 1, s10, cs ++ [c9], by omega, by go_num, rfl, (by have := hcl.out; simp; omega : _ = _), HM, hz10, N10, DD⟩
            case measure => simp [intOf]; omega
          · have h0i : ¬ (sv.n : Int) = 0 := by omega
            have h0b : ((sv.n : Int) == 0) = false := by simpa using h0i
            clear nn
            have S7 : Hid (OwnI wr (gVB + 1) sv.v xs) := SV
            clear SV
            have c0 := VB.out.cell 0
            simp only [List.getElem?_cons_zero] at c0
            have HLEN : Hid ((cs.map Rn.row).length ≤ 1048576) := (by have := hcl.out; simp; omega : _ ≤ _)
            have OB : Hid (w.heap.size ≤ wr.heap.size) := (by omega : _ ≤ _)
            obtain ⟨c9, hc9⟩ : ∃ c : Rn, c = ⟨(k : Int) + 1, xs, sv⟩ := ⟨_, rfl⟩
            have C9 : Hid (c9.O wr (gVB + 1)) := by rw [hc9]; exact S7.out
            have CM : c9.ms.length ≤ 8 := by rw [hc9]; show (xs : List Int).length ≤ 8; omega
            have CR : Hid (([.int .i64 ((k : Int) + 1), .slice sv.a sv.n sv.c] : List Value) = c9.row) := by rw [hc9]; rfl
            clear hc9 S7
            go_wp2_with (first | (with_reducible refine wpList_haltA _ _ _ rfl ?_))
            refine Stp.go ?_
            clear c1 c0
            refine wpList_pushN rfl _ _ 24 rfl (.agg #[.int .i64 0, .slice none 0 0]) 32 Tryz.underlying24 Tryz.infoRn rfl (by omega) w.heap.size _ _ rfl CO.out.1 [.int .i64 ((k : Int) + 1), .slice sv.a sv.n sv.c] rfl rfl rfl HLEN.out OB.out ?_
            intro v10 w10 O10 g10 b10 _
            obtain ⟨s10, hs10, hq10⟩ := O10.form
            subst hs10
            clear hq10
            rw [CR.out] at O10
            have N10 : Hid (RnsO w10 w.heap.size s10 (cs ++ [c9])) := ⟨by rw [List.map_append]; exact O10, fun x hx => by
              rcases List.mem_append.1 hx with hx | hx
              · exact Rn.O.rowkeep (by decide) (fun k hk => CO.out.1.blk hk) g10 (CO.out.2 x hx)
              · rw [List.mem_singleton.1 hx]; exact Rn.O.rowkeep (by decide) (fun k hk => CO.out.1.blk hk) g10 (C9.out.down (by omega))⟩
            have DD : Hid (Drw w0 w10 B g ao n cap) := DD.out.lowB b10 (by omega) (by omega) hB
            have HM : Hid (∀ c ∈ cs ++ [c9], c.ms.length ≤ 8) := fun c hc => by
              rcases List.mem_append.1 hc with hc | hc
              · exact hms.out c hc
              · rw [List.mem_singleton.1 hc]; exact CM
            have hz10 : w.heap.size ≤ w10.heap.size := Nat.le_trans OB.out b10.size
            clear O10 g10 b10 CO C9 CR VB
            go_wp2_with fail
            go_roundw
            case rel => exact ⟨k + 1, s10, cs ++ [c9], by omega, by go_num, rfl, (by have := hcl.out; simp; omega : _ = _), HM, hz10, N10, DD⟩
            case measure => simp [intOf]; omega
    · have i1 : ¬ (k : Int) < 1 + (x : Int) := by omega
      go_wp2_with fail
      go_ret
      exact ⟨⟨u, cs, rfl, by have := hcl.out; omega, by have := hcl.out; omega, hms.out, CO.out⟩, DD⟩
end Go.Proofs.YtoahljkifikbaaaGreat


/- Any drawn ring. Written by gen_ar15.py. -/
namespace Go.Proofs.YtoahljkifikbaaaGreat
open Go.RowKit Pl
set_option linter.unusedVariables false
set_option linter.unusedSimpArgs false

theorem own_ne_bx {w : World} {B g T b : Nat} {v : Value} {xs : List Int} {cs : List Value} (h : OwnI w B v xs) (hb : v.ownBlock = some b) (x : Bx w g T cs) (hT : T ≠ 3) : b ≠ g := fun e => by
  obtain ⟨c, h2⟩ := own_is_i h hb
  have h1 := x
  unfold Bx at h1
  rw [e, h1] at h2
  simp at h2
  exact hT h2.2
set_option maxRecDepth 100000 in
set_option maxHeartbeats 8000000 in
theorem anyRing_any (w0 w : World) (B g n cap : Nat) (ao : Option Addr) (hn : n ≤ 1048576) (hB : B ≤ g) (hd : Hid (Drw w0 w B g ao n cap)) :
    Calls Tryz.prog 46 #[.pointer (some ⟨g, 0, none⟩)] w fun e w' => (∃ (i : Int) (ms : List Int) (u : Sv), e = .returned (.agg #[.int .i64 i, .slice u.a u.n u.c]) ∧ ms.length ≤ 8 ∧ OwnI w' w.heap.size u.v ms) ∧ Hid (Drw w0 w' B g ao n cap) := by
  have hg := hd.out.lt
  have hw0 := hd.out.2.2.size
  have D0 : Hid (Drw w0 (w.alloc (.cells #[.int .i64 0, .slice none 0 0] 37)) B g ao n cap) := hd.out.alloc hB _
  have EB : Hid (Bx (w.alloc (.cells #[.int .i64 0, .slice none 0 0] 37)) w.heap.size 37 [.int .i64 0, .slice none 0 0]) := Bx.new w 37 _
  have Z0 : (w.alloc (.cells #[.int .i64 0, .slice none 0 0] 37)).heap.size = w.heap.size + 1 := by simp
  clear hd
  go_enter Tryz.func46, Tryz.ntmps46
  go_wp2_with fail
  generalize w.alloc (.cells #[.int .i64 0, .slice none 0 0] 37) = W0 at *
  refine (ring_any W0 W0 B g n cap ao hn hB D0.out.here).mono ?_
  rintro e w3 ⟨⟨i, ms, v, hr, hv, rfl⟩, hd3⟩
  obtain ⟨sv, rfl⟩ := hv.sv
  have DD : Hid (Drw w0 w3 B g ao n cap) := D0.out.back hd3.out
  have EB : Hid (Bx w3 w.heap.size 37 [.int .i64 0, .slice none 0 0]) := EB.out.drawn hd3.out.2.2 (by omega)
  have SV : Hid (OwnI w3 (w.heap.size + 1) sv.v ms) := OwnI.down hv (by omega)
  have nn : Hid (sv.n = ms.length) := OwnI.slen hv
  have hm5 : 0 < ms.length ∧ ms.length ≤ 5 := by
    unfold ringB at hr
    simp only [Bool.and_eq_true, decide_eq_true_eq] at hr
    have := wGo_len ms 0 hr.2.2 (by omega)
    exact ⟨hr.2.1, by omega⟩
  have hz3 : w.heap.size + 1 ≤ w3.heap.size := by have := hd3.out.2.2.size; omega
  clear hd3 D0 hv hr Z0
  have SL0 : Hid (∀ b, sv.v.ownBlock = some b → b < w3.heap.size) := fun b hb => (OwnI.lt SV.out b hb).2
  have b : Below w3.heap.size w3 (w3.alloc (.cells #[.int .i64 i, .slice sv.a sv.n sv.c] 37)) := (Below.refl _ _).alloc (Nat.le_refl _) _
  have VB : Hid (Bx (w3.alloc (.cells #[.int .i64 i, .slice sv.a sv.n sv.c] 37)) w3.heap.size 37 [.int .i64 i, .slice sv.a sv.n sv.c]) := Bx.new w3 37 _
  have EB : Hid (Bx (w3.alloc (.cells #[.int .i64 i, .slice sv.a sv.n sv.c] 37)) w.heap.size 37 [.int .i64 0, .slice none 0 0]) := EB.out.later b
  have DD : Hid (Drw w0 (w3.alloc (.cells #[.int .i64 i, .slice sv.a sv.n sv.c] 37)) B g ao n cap) := DD.out.step hB b
  have SV : Hid (OwnI (w3.alloc (.cells #[.int .i64 i, .slice sv.a sv.n sv.c] 37)) (w.heap.size + 1) sv.v ms) := OwnI.keep SV.out fun _ _ hk => (b).block _ hk
  clear b
  go_wp2_with fail
  generalize (w3.alloc (.cells #[.int .i64 i, .slice sv.a sv.n sv.c] 37)) = w4 at *
  generalize hg_VB : w3.heap.size = gVB at *
  clear hg_VB
  have zV : gVB < w4.heap.size ∧ w.heap.size + 1 ≤ gVB := by have := VB.out.lt; omega
  refine (below_small w4 _ B g n cap 16 ao hn hB (by omega) (by omega) DD.out.here).mono ?_
  rintro e w5 ⟨⟨x, hx, rfl⟩, hd5⟩
  have DD : Hid (Drw w0 w5 B g ao n cap) := DD.out.back hd5.out
  have EB : Hid (Bx w5 w.heap.size 37 [.int .i64 0, .slice none 0 0]) := EB.out.drawn hd5.out.2.2 (by omega)
  have VB : Hid (Bx w5 gVB 37 [.int .i64 i, .slice sv.a sv.n sv.c]) := VB.out.drawn hd5.out.2.2 (by omega)
  have SV : Hid (OwnI w5 (w.heap.size + 1) sv.v ms) := OwnI.drawn SV.out hd5.out.2.2 (by omega)
  have zV : gVB < w5.heap.size ∧ w.heap.size + 1 ≤ gVB := by have := hd5.out.2.2.size; omega
  clear hd5
  by_cases h0 : x = 0
  · subst h0
    have RW : Hid (RowI (w5.alloc (.cells #[.int .i64 0, .int .i64 9, .int .i64 10] 3)) w5.heap.size 3) := rowI_new w5 [0, 9, 10] 3 rfl
    have b7 : Below w5.heap.size w5 (w5.alloc (.cells #[.int .i64 0, .int .i64 9, .int .i64 10] 3)) := (Below.refl _ _).alloc (Nat.le_refl _) _
    have DD : Hid (Drw w0 (w5.alloc (.cells #[.int .i64 0, .int .i64 9, .int .i64 10] 3)) B g ao n cap) := DD.out.step hB b7
    have EB : Hid (Bx (w5.alloc (.cells #[.int .i64 0, .int .i64 9, .int .i64 10] 3)) w.heap.size 37 [.int .i64 0, .slice none 0 0]) := EB.out.later b7
    have VB : Hid (Bx (w5.alloc (.cells #[.int .i64 0, .int .i64 9, .int .i64 10] 3)) gVB 37 [.int .i64 i, .slice sv.a sv.n sv.c]) := VB.out.later b7
    have SV : Hid (OwnI (w5.alloc (.cells #[.int .i64 0, .int .i64 9, .int .i64 10] 3)) (w.heap.size + 1) sv.v ms) := OwnI.keep SV.out fun _ _ hk => b7.block _ hk
    have zV : gVB < (w5.alloc (.cells #[.int .i64 0, .int .i64 9, .int .i64 10] 3)).heap.size ∧ w.heap.size + 1 ≤ gVB := by have := b7.size; omega
    have z7 : w5.heap.size < (w5.alloc (.cells #[.int .i64 0, .int .i64 9, .int .i64 10] 3)).heap.size ∧ g < w5.heap.size := by have := EB.out.lt; simp; omega
    clear b7
    go_wp2_with fail
    refine (pickInt_any (w5.alloc (.cells #[.int .i64 0, .int .i64 9, .int .i64 10] 3)) _ B g n cap w5.heap.size 3 ao hn hB (by omega) (by omega) z7.1 (by omega) RW DD.out.here).mono ?_
    generalize (w5.alloc (.cells #[.int .i64 0, .int .i64 9, .int .i64 10] 3)) = w6 at *
    rintro e w7 ⟨⟨z, rfl⟩, hd7⟩
    have DD : Hid (Drw w0 w7 B g ao n cap) := DD.out.back hd7.out
    have EB : Hid (Bx w7 w.heap.size 37 [.int .i64 0, .slice none 0 0]) := EB.out.drawn hd7.out.2.2 (by omega)
    have VB : Hid (Bx w7 gVB 37 [.int .i64 i, .slice sv.a sv.n sv.c]) := VB.out.drawn hd7.out.2.2 (by omega)
    have SV : Hid (OwnI w7 (w.heap.size + 1) sv.v ms) := OwnI.drawn SV.out hd7.out.2.2 (by omega)
    have zV : gVB < w7.heap.size ∧ w.heap.size + 1 ≤ gVB := by have := hd7.out.2.2.size; omega
    clear hd7 RW z7
    go_wp2_with (first | (with_reducible refine wpList_haltS 3 _ _ rfl ?_))
    refine Stp.go ?_
    refine wpList_st1 rfl 3 _ _ rfl gVB 0 rfl 37 _ VB.out (.int .i64 z) rfl (by simp) rfl Tryz.sizeK3 [.int .i64 z, .slice sv.a sv.n sv.c] rfl ?_
    intro w8 OB TB
    have z_w8 : w7.heap.size ≤ w8.heap.size := Nat.le_of_eq TB.size.symm
    have EB : Hid (Bx w8 w.heap.size 37 [.int .i64 0, .slice none 0 0]) := EB.out.turn TB (by omega)
    have DD : Hid (Drw w0 w8 B g ao n cap) := (DD.out.other (by omega) TB (by omega) (by omega)).out
    have SV : Hid (OwnI w8 (w.heap.size + 1) sv.v ms) := OwnI.keep SV.out fun b hb _ => TB.block b (by have := SL0.out b hb; have := (OwnI.lt SV.out b hb).1; omega)
    have VB : Hid (Bx w8 gVB 37 [.int .i64 z, .slice sv.a sv.n sv.c]) := OB
    clear OB TB
    go_wp2_with (first | (refine wpList_ldG rfl 37 _ rfl gVB 0 rfl 37 _ VB.out [.int .i64 z, .slice sv.a sv.n sv.c] rfl _ Tryz.underlying37 rfl Tryz.sizeRn ?_) | (with_reducible refine wpList_haltS 37 _ _ rfl ?_))
    refine Stp.go ?_
    refine wpList_stB rfl 37 _ _ rfl w.heap.size 0 rfl 37 _ EB.out [.int .i64 z, .slice sv.a sv.n sv.c] rfl (by simp) Tryz.sizeRn rfl [.int .i64 z, .slice sv.a sv.n sv.c] rfl ?_
    intro wz OB TB
    have z_wz : w8.heap.size ≤ wz.heap.size := Nat.le_of_eq TB.size.symm
    have DD : Hid (Drw w0 wz B g ao n cap) := (DD.out.other (by omega) TB (by omega) (by omega)).out
    have SV : Hid (OwnI wz (w.heap.size + 1) sv.v ms) := OwnI.keep SV.out fun b hb _ => TB.block b (by have := SL0.out b hb; have := (OwnI.lt SV.out b hb).1; omega)
    have VB : Hid (Bx wz gVB 37 [.int .i64 z, .slice sv.a sv.n sv.c]) := VB.out.turn TB (by omega)
    have EB : Hid (Bx wz w.heap.size 37 [.int .i64 z, .slice sv.a sv.n sv.c]) := OB
    clear OB TB
    go_wp2_with fail
    refine bodyPost_ret (results_b Tryz.results46 w.heap.size 37 [.int .i64 z, .slice sv.a sv.n sv.c] _ rfl EB.out Tryz.underlying37 rfl Tryz.sizeRn) rfl ?_
    exact ⟨⟨z, ms, sv, rfl, by omega, OwnI.down SV.out (by omega)⟩, DD⟩
  by_cases h1 : x = 1
  · subst h1
    go_wp2_with fail
    have c : Below w5.heap.size w5 w5.drew := (Below.refl _ _).drew
    have DD : Hid (Drw w0 w5.drew B g ao n cap) := DD.out.step hB c
    have EB : Hid (Bx w5.drew w.heap.size 37 [.int .i64 0, .slice none 0 0]) := EB.out.later c
    have VB : Hid (Bx w5.drew gVB 37 [.int .i64 i, .slice sv.a sv.n sv.c]) := VB.out.later c
    have SV : Hid (OwnI w5.drew (w.heap.size + 1) sv.v ms) := OwnI.keep SV.out fun _ _ hk => c.block _ hk
    have zV : gVB < w5.drew.heap.size ∧ w.heap.size + 1 ≤ gVB := by have := c.size; omega
    clear c
    refine wp_region_heldLast (S := fun w' => Bx w' gVB 37 [.int .i64 i, .slice sv.a sv.n sv.c]) _ (by simp) (by kernel_rfl) (by rfl) (by rfl) (by kernel_rfl) (by kernel_rfl) VB.out (fun hHeld => ?_)
    simp only [List.dropLast_cons_cons, List.dropLast_singleton, List.getLast_cons_cons, List.getLast_singleton, List.cons_append, List.nil_append, List.length_cons, List.length_nil]
    generalize w5.drew = y0 at *
    refine wpAnyH_take (i := 0) (v := ?v0b1) rfl (by kernel_rfl) (by kernel_rfl) (by kernel_rfl) (fun _ _ _ h => h) (Or.inl ⟨by rfl, ?hy0b1⟩) (by assumption) ?_
    case hy0b1 => (intro w hSw; (try dsimp only at hSw); simp only [List.getElem_toArray, List.getElem_cons_zero, List.getElem_cons_succ]; go_simp; try with_reducible rfl)
    try simp only [Act.put, List.getElem_toArray, List.getElem_cons_zero, List.getElem_cons_succ, List.setIfInBounds_toArray, List.set_cons_zero, List.set_cons_succ]
    refine wpAnyH_take (i := 1) (v := _) rfl (by kernel_rfl) (by kernel_rfl) (by kernel_rfl) (fun _ _ _ h => h) (ld1_yield (by rfl) 33 _ rfl gVB 1 rfl 37 _ (fun w hS => hS) (.slice sv.a sv.n sv.c) rfl _ Tryz.underlying33 rfl) (by assumption) ?_
    try simp only [Act.put, List.getElem_toArray, List.getElem_cons_zero, List.getElem_cons_succ, List.setIfInBounds_toArray, List.set_cons_zero, List.set_cons_succ]
    refine wpAnyH_take (i := 2) (v := ?v2b3) rfl (by kernel_rfl) (by kernel_rfl) (by kernel_rfl) (fun _ _ _ h => h) (Or.inl ⟨by rfl, ?hy2b3⟩) (by assumption) ?_
    case hy2b3 => (intro w hSw; (try dsimp only at hSw); simp only [List.getElem_toArray, List.getElem_cons_zero, List.getElem_cons_succ]; go_simp; try with_reducible rfl)
    try simp only [Act.put, List.getElem_toArray, List.getElem_cons_zero, List.getElem_cons_succ, List.setIfInBounds_toArray, List.set_cons_zero, List.set_cons_succ]
    refine wpAnyH_ready (rs := [3]) (by kernel_rfl) (by simp) ?_
    refine AllReadyH.cons (i := 3) rfl (fun K hK => ?_) AllReadyH.nil
    rw [if_pos (by rfl)]
    simp only [List.getElem_toArray, List.getElem_cons_zero, List.getElem_cons_succ]
    go_simp
    have RW : Hid (RowI (y0.alloc (.cells #[.int .i64 0, .int .i64 1, .int .i64 5, .int .i64 6] 3)) y0.heap.size 4) := rowI_new y0 [0, 1, 5, 6] 4 rfl
    have hgy : g < y0.heap.size := by omega
    have b7 : Below y0.heap.size y0 (y0.alloc (.cells #[.int .i64 0, .int .i64 1, .int .i64 5, .int .i64 6] 3)) := (Below.refl _ _).alloc (Nat.le_refl _) _
    have DD : Hid (Drw w0 (y0.alloc (.cells #[.int .i64 0, .int .i64 1, .int .i64 5, .int .i64 6] 3)) B g ao n cap) := DD.out.step hB b7
    have EB : Hid (Bx (y0.alloc (.cells #[.int .i64 0, .int .i64 1, .int .i64 5, .int .i64 6] 3)) w.heap.size 37 [.int .i64 0, .slice none 0 0]) := EB.out.later b7
    have VB : Hid (Bx (y0.alloc (.cells #[.int .i64 0, .int .i64 1, .int .i64 5, .int .i64 6] 3)) gVB 37 [.int .i64 i, .slice sv.a sv.n sv.c]) := VB.out.later b7
    have SV : Hid (OwnI (y0.alloc (.cells #[.int .i64 0, .int .i64 1, .int .i64 5, .int .i64 6] 3)) (w.heap.size + 1) sv.v ms) := OwnI.keep SV.out fun _ _ hk => b7.block _ hk
    have zV : gVB < (y0.alloc (.cells #[.int .i64 0, .int .i64 1, .int .i64 5, .int .i64 6] 3)).heap.size ∧ w.heap.size + 1 ≤ gVB := by have := b7.size; omega
    have z7 : y0.heap.size < (y0.alloc (.cells #[.int .i64 0, .int .i64 1, .int .i64 5, .int .i64 6] 3)).heap.size := by simp
    refine hK.out _ _ (VB.out) (fun hHeld => ?_)
    clear hK K
    try simp only [Act.put, List.getElem_toArray, List.getElem_cons_zero, List.getElem_cons_succ, List.setIfInBounds_toArray, List.set_cons_zero, List.set_cons_succ]
    clear b7
    refine wpAnyH_ready (rs := [4]) (by kernel_rfl) (by simp) ?_
    refine AllReadyH.cons (i := 4) rfl (fun K hK => ?_) AllReadyH.nil
    rw [if_pos (by rfl)]
    simp only [List.getElem_toArray, List.getElem_cons_zero, List.getElem_cons_succ]
    go_simp
    refine (pickInt_any (y0.alloc (.cells #[.int .i64 0, .int .i64 1, .int .i64 5, .int .i64 6] 3)) _ B g n cap y0.heap.size 4 ao hn hB (by omega) (by omega) z7 (by omega) RW DD.out.here).mono ?_
    rintro e y2 ⟨⟨z, rfl⟩, hd7⟩
    have DD : Hid (Drw w0 y2 B g ao n cap) := DD.out.back hd7.out
    have EB : Hid (Bx y2 w.heap.size 37 [.int .i64 0, .slice none 0 0]) := EB.out.drawn hd7.out.2.2 (by omega)
    have VB : Hid (Bx y2 gVB 37 [.int .i64 i, .slice sv.a sv.n sv.c]) := VB.out.drawn hd7.out.2.2 (by omega)
    have SV : Hid (OwnI y2 (w.heap.size + 1) sv.v ms) := OwnI.drawn SV.out hd7.out.2.2 (by omega)
    have zV : gVB < y2.heap.size ∧ w.heap.size + 1 ≤ gVB := by have := hd7.out.2.2.size; omega
    refine hK.out _ _ (VB.out) (fun hHeld => ?_)
    clear hK K
    try simp only [Act.put, List.getElem_toArray, List.getElem_cons_zero, List.getElem_cons_succ, List.setIfInBounds_toArray, List.set_cons_zero, List.set_cons_succ]
    clear hd7 RW z7
    refine wpAnyH_ready (rs := [5]) (by kernel_rfl) (by simp) ?_
    refine AllReadyH.cons (i := 5) rfl (fun K hK => ?_) AllReadyH.nil
    rw [if_pos (by rfl)]
    simp only [List.getElem_toArray, List.getElem_cons_zero, List.getElem_cons_succ]
    go_simp
    have LX : Hid (RI (y2.alloc (.cells #[.int .i64 z] 3)) (Value.slice (some ⟨y2.heap.size, 0, none⟩) 1 1) [z]) := (OwnI.lit y2 0 [z] (Nat.zero_le _) (by simp)).ri
    have b7 : Below y2.heap.size y2 (y2.alloc (.cells #[.int .i64 z] 3)) := (Below.refl _ _).alloc (Nat.le_refl _) _
    have DD : Hid (Drw w0 (y2.alloc (.cells #[.int .i64 z] 3)) B g ao n cap) := DD.out.step hB b7
    have EB : Hid (Bx (y2.alloc (.cells #[.int .i64 z] 3)) w.heap.size 37 [.int .i64 0, .slice none 0 0]) := EB.out.later b7
    have VB : Hid (Bx (y2.alloc (.cells #[.int .i64 z] 3)) gVB 37 [.int .i64 i, .slice sv.a sv.n sv.c]) := VB.out.later b7
    have SV : Hid (OwnI (y2.alloc (.cells #[.int .i64 z] 3)) (w.heap.size + 1) sv.v ms) := OwnI.keep SV.out fun _ _ hk => b7.block _ hk
    have zV : gVB < (y2.alloc (.cells #[.int .i64 z] 3)).heap.size ∧ w.heap.size + 1 ≤ gVB := by have := b7.size; omega
    refine hK.out _ _ (VB.out) (fun hHeld => ?_)
    clear hK K
    try simp only [Act.put, List.getElem_toArray, List.getElem_cons_zero, List.getElem_cons_succ, List.setIfInBounds_toArray, List.set_cons_zero, List.set_cons_succ]
    clear b7
    refine wpAnyH_ready (rs := [6]) (by kernel_rfl) (by simp) ?_
    refine AllReadyH.cons (i := 6) rfl (fun K hK => ?_) AllReadyH.nil
    rw [if_pos (by rfl)]
    simp only [List.getElem_toArray, List.getElem_cons_zero, List.getElem_cons_succ]
    refine wp_catR _ _ 33 rfl Tryz.underlying33 Tryz.info3' (w.heap.size + 1) (.slice sv.a sv.n sv.c) ms (by rfl) SV.out (.slice (some ⟨y2.heap.size, 0, none⟩) 1 1) [z] (by rfl) LX.out (by simp; omega) (by omega) (fun h => by have := nn.out; simp at h; omega) ?_
    intro v3 y3 o3 g3
    obtain ⟨s3, hs3⟩ := o3.sv
    subst hs3
    have hvb : ∀ k, (Value.slice sv.a sv.n sv.c).ownBlock = some k → k ≠ gVB := fun k hk e => by have := SL0.out k hk; omega
    have b3 : Below (w.heap.size + 1) (y2.alloc (.cells #[.int .i64 z] 3)) y3 := (Below.refl _ _).grown g3 (by omega) (fun k hk => (OwnI.lt SV.out k hk).1)
    have DD : Hid (Drw w0 y3 B g ao n cap) := DD.out.lowB b3 (by omega) (by omega) hB
    have EB : Hid (Bx y3 w.heap.size 37 [.int .i64 0, .slice none 0 0]) := (b3.block w.heap.size (by omega)).trans EB.out
    have VB : Hid (Bx y3 gVB 37 [.int .i64 i, .slice sv.a sv.n sv.c]) := VB.out.grown g3 (fun e => hvb gVB e.symm rfl)
    have SV : Hid (OwnI y3 (w.heap.size + 1) s3.v (ms ++ [z])) := o3
    have zV : gVB < y3.heap.size ∧ w.heap.size + 1 ≤ gVB := by have := b3.size; omega
    have S3b : Hid (∀ b, s3.v.ownBlock = some b → b ≠ gVB) := fun b hb e => own_ne_bx SV.out hb VB.out (by decide) e
    refine hK.out _ _ (VB.out) (fun hHeld => ?_)
    clear hK K
    try simp only [Act.put, List.getElem_toArray, List.getElem_cons_zero, List.getElem_cons_succ, List.setIfInBounds_toArray, List.set_cons_zero, List.set_cons_succ]
    clear g3 o3 b3 LX hvb
    refine wpAnyH_take (i := 7) (v := ?v7b4) rfl (by kernel_rfl) (by kernel_rfl) (by kernel_rfl) (fun _ _ _ h => h) (Or.inl ⟨by rfl, ?hy7b4⟩) (by assumption) ?_
    case hy7b4 => (intro w hSw; (try dsimp only at hSw); simp only [List.getElem_toArray, List.getElem_cons_zero, List.getElem_cons_succ]; go_simp; try with_reducible rfl)
    try simp only [Act.put, List.getElem_toArray, List.getElem_cons_zero, List.getElem_cons_succ, List.setIfInBounds_toArray, List.set_cons_zero, List.set_cons_succ]
    refine wpAnyH_take (i := 8) (v := ?v8b5) rfl (by kernel_rfl) (by kernel_rfl) (by kernel_rfl) (fun _ _ _ h => h) (Or.inl ⟨by rfl, ?hy8b5⟩) (by assumption) ?_
    case hy8b5 => (intro w hSw; (try dsimp only at hSw); simp only [List.getElem_toArray, List.getElem_cons_zero, List.getElem_cons_succ]; go_simp; try with_reducible rfl)
    try simp only [Act.put, List.getElem_toArray, List.getElem_cons_zero, List.getElem_cons_succ, List.setIfInBounds_toArray, List.set_cons_zero, List.set_cons_succ]
    refine wpAnyH_done (by kernel_rfl) ?_ _
    refine lastQ_of rfl rfl ?_
    refine wp_st1 33 _ _ rfl gVB 1 rfl 37 _ VB.out (.slice s3.a s3.n s3.c) rfl (by simp) rfl Tryz.sizeNs [.int .i64 i, .slice s3.a s3.n s3.c] rfl ?_
    intro w8 ob tb
    have VB : Hid (Bx w8 gVB 37 [.int .i64 i, .slice s3.a s3.n s3.c]) := ob
    have DD : Hid (Drw w0 w8 B g ao n cap) := (DD.out.other (by omega) tb (by omega) (by omega)).out
    have EB : Hid (Bx w8 w.heap.size 37 [.int .i64 0, .slice none 0 0]) := EB.out.turn tb (by omega)
    have SV : Hid (OwnI w8 (w.heap.size + 1) s3.v (ms ++ [z])) := OwnI.keep SV.out fun b hb _ => tb.block b (S3b.out b hb)
    have hlen : (ms ++ [z]).length ≤ 8 := by simp; omega
    clear ob tb hHeld
    go_wp2_with (first | (refine wpList_ldG rfl 37 _ rfl gVB 0 rfl 37 _ VB.out [.int .i64 i, .slice s3.a s3.n s3.c] rfl _ Tryz.underlying37 rfl Tryz.sizeRn ?_) | (with_reducible refine wpList_haltS 37 _ _ rfl ?_))
    refine Stp.go ?_
    refine wpList_stB rfl 37 _ _ rfl w.heap.size 0 rfl 37 _ EB.out [.int .i64 i, .slice s3.a s3.n s3.c] rfl (by simp) Tryz.sizeRn rfl [.int .i64 i, .slice s3.a s3.n s3.c] rfl ?_
    intro wz OB TB
    have z_wz : w8.heap.size ≤ wz.heap.size := Nat.le_of_eq TB.size.symm
    have DD : Hid (Drw w0 wz B g ao n cap) := (DD.out.other (by omega) TB (by omega) (by omega)).out
    have SV : Hid (OwnI wz (w.heap.size + 1) s3.v (ms ++ [z])) := OwnI.keep SV.out fun b hb _ => TB.block b (by have := (OwnI.lt SV.out b hb).1; omega)
    have VB : Hid (Bx wz gVB 37 [.int .i64 i, .slice s3.a s3.n s3.c]) := VB.out.turn TB (by omega)
    have EB : Hid (Bx wz w.heap.size 37 [.int .i64 i, .slice s3.a s3.n s3.c]) := OB
    clear OB TB
    go_wp2_with fail
    refine bodyPost_ret (results_b Tryz.results46 w.heap.size 37 [.int .i64 i, .slice s3.a s3.n s3.c] _ rfl EB.out Tryz.underlying37 rfl Tryz.sizeRn) rfl ?_
    exact ⟨⟨i, ms ++ [z], s3, rfl, hlen, OwnI.down SV.out (by omega)⟩, DD⟩
  by_cases h2 : x = 2
  · subst h2
    have S7 : Hid (OwnI (w5.alloc (.cells #[] 3)) (w.heap.size + 1) (Sv.v ⟨some ⟨w5.heap.size, 0, none⟩, 0, 0⟩) []) := OwnI.made w5 (w.heap.size + 1) (by omega)
    have b7 : Below w5.heap.size w5 (w5.alloc (.cells #[] 3)) := (Below.refl _ _).alloc (Nat.le_refl _) _
    have DD : Hid (Drw w0 (w5.alloc (.cells #[] 3)) B g ao n cap) := DD.out.step hB b7
    have EB : Hid (Bx (w5.alloc (.cells #[] 3)) w.heap.size 37 [.int .i64 0, .slice none 0 0]) := EB.out.later b7
    have VB : Hid (Bx (w5.alloc (.cells #[] 3)) gVB 37 [.int .i64 i, .slice sv.a sv.n sv.c]) := VB.out.later b7
    have SV : Hid (OwnI (w5.alloc (.cells #[] 3)) (w.heap.size + 1) sv.v ms) := OwnI.keep SV.out fun _ _ hk => b7.block _ hk
    have zV : gVB < (w5.alloc (.cells #[] 3)).heap.size ∧ w.heap.size + 1 ≤ gVB := by have := b7.size; omega
    clear b7 SV
    go_wp2_with (first | (with_reducible refine wpList_haltS 33 _ _ rfl ?_))
    refine Stp.go ?_
    generalize hsv : (some ⟨w5.heap.size, 0, none⟩ : Option Addr) = a7 at *
    clear hsv
    generalize (w5.alloc (.cells #[] 3)) = w7 at *
    refine wpList_st1 rfl 33 _ _ rfl gVB 1 rfl 37 _ VB.out (.slice a7 0 0) rfl (by simp) rfl Tryz.sizeNs [.int .i64 i, .slice a7 0 0] rfl ?_
    intro w8 OB TB
    have z_w8 : w7.heap.size ≤ w8.heap.size := Nat.le_of_eq TB.size.symm
    have EB : Hid (Bx w8 w.heap.size 37 [.int .i64 0, .slice none 0 0]) := EB.out.turn TB (by omega)
    have DD : Hid (Drw w0 w8 B g ao n cap) := (DD.out.other (by omega) TB (by omega) (by omega)).out
    have S7 : Hid (OwnI w8 (w.heap.size + 1) (Sv.v ⟨a7, 0, 0⟩) []) := OwnI.keep S7.out fun b hb _ => TB.block b (own_ne_bx S7.out hb VB.out (by decide))
    have VB : Hid (Bx w8 gVB 37 [.int .i64 i, .slice a7 0 0]) := OB
    clear OB TB
    go_wp2_with (first | (refine wpList_ldG rfl 37 _ rfl gVB 0 rfl 37 _ VB.out [.int .i64 i, .slice a7 0 0] rfl _ Tryz.underlying37 rfl Tryz.sizeRn ?_) | (with_reducible refine wpList_haltS 37 _ _ rfl ?_))
    refine Stp.go ?_
    refine wpList_stB rfl 37 _ _ rfl w.heap.size 0 rfl 37 _ EB.out [.int .i64 i, .slice a7 0 0] rfl (by simp) Tryz.sizeRn rfl [.int .i64 i, .slice a7 0 0] rfl ?_
    intro wz OB TB
    have z_wz : w8.heap.size ≤ wz.heap.size := Nat.le_of_eq TB.size.symm
    have DD : Hid (Drw w0 wz B g ao n cap) := (DD.out.other (by omega) TB (by omega) (by omega)).out
    have S7 : Hid (OwnI wz (w.heap.size + 1) (Sv.v ⟨a7, 0, 0⟩) []) := OwnI.keep S7.out fun b hb _ => TB.block b (by have := (OwnI.lt S7.out b hb).1; omega)
    have VB : Hid (Bx wz gVB 37 [.int .i64 i, .slice a7 0 0]) := VB.out.turn TB (by omega)
    have EB : Hid (Bx wz w.heap.size 37 [.int .i64 i, .slice a7 0 0]) := OB
    clear OB TB
    go_wp2_with fail
    refine bodyPost_ret (results_b Tryz.results46 w.heap.size 37 [.int .i64 i, .slice a7 0 0] _ rfl EB.out Tryz.underlying37 rfl Tryz.sizeRn) rfl ?_
    exact ⟨⟨i, [], ⟨a7, 0, 0⟩, rfl, by simp, OwnI.down S7.out (by omega)⟩, DD⟩
  have d0 : ((x : Int) == 0) = false := by simpa using h0
  have d1 : ((x : Int) == 1) = false := by simp; omega
  have d2 : ((x : Int) == 2) = false := by simp; omega
  go_wp2_with (first | (refine wpList_ldG rfl 37 _ rfl gVB 0 rfl 37 _ VB.out [.int .i64 i, .slice sv.a sv.n sv.c] rfl _ Tryz.underlying37 rfl Tryz.sizeRn ?_) | (with_reducible refine wpList_haltS 37 _ _ rfl ?_))
  refine Stp.go ?_
  refine wpList_stB rfl 37 _ _ rfl w.heap.size 0 rfl 37 _ EB.out [.int .i64 i, .slice sv.a sv.n sv.c] rfl (by simp) Tryz.sizeRn rfl [.int .i64 i, .slice sv.a sv.n sv.c] rfl ?_
  intro wz OB TB
  have z_wz : w5.heap.size ≤ wz.heap.size := Nat.le_of_eq TB.size.symm
  have DD : Hid (Drw w0 wz B g ao n cap) := (DD.out.other (by omega) TB (by omega) (by omega)).out
  have SV : Hid (OwnI wz (w.heap.size + 1) sv.v ms) := OwnI.keep SV.out fun b hb _ => TB.block b (by have := (OwnI.lt SV.out b hb).1; omega)
  have VB : Hid (Bx wz gVB 37 [.int .i64 i, .slice sv.a sv.n sv.c]) := VB.out.turn TB (by omega)
  have EB : Hid (Bx wz w.heap.size 37 [.int .i64 i, .slice sv.a sv.n sv.c]) := OB
  clear OB TB
  go_wp2_with fail
  refine bodyPost_ret (results_b Tryz.results46 w.heap.size 37 [.int .i64 i, .slice sv.a sv.n sv.c] _ rfl EB.out Tryz.underlying37 rfl Tryz.sizeRn) rfl ?_
  exact ⟨⟨i, ms, sv, rfl, by omega, OwnI.down SV.out (by omega)⟩, DD⟩
end Go.Proofs.YtoahljkifikbaaaGreat


/- The drawn lists of rings that the laws are handed. Written by gen_dk15.py. -/
namespace Go.Proofs.YtoahljkifikbaaaGreat
open Go.RowKit Pl
set_option linter.unusedVariables false
set_option linter.unusedSimpArgs false

theorem RnsO.id0 {w : World} {B g off n c : Nat} {e : Rn} {tl : List Rn} (h : RnsO w B ⟨some ⟨g, off, none⟩, n, c⟩ (e :: tl)) (z : Int) :
    w.cell? ⟨g, off, none⟩ = some (.int .i64 e.id) ∧ w.frozen? ⟨g, off, none⟩ = false ∧ RnsO (w.setCell ⟨g, off, none⟩ (.int .i64 z)) B ⟨some ⟨g, off, none⟩, n, c⟩ ({ e with id := z } :: tl) ∧ TurnAt g w (w.setCell ⟨g, off, none⟩ (.int .i64 z)) ∧ B ≤ g ∧ g < w.heap.size := by
  have hr := h.rowa
  obtain ⟨⟨⟨h0, h1⟩, h2⟩, h3⟩ := h
  rcases h1 with ⟨hv, _⟩ | ⟨g', off', cap', cur, hv, hb, hg, hc, hm, hs, ht⟩
  · simp [Sv.v] at hv
  simp [Sv.v] at hv
  obtain ⟨⟨rfl, rfl⟩, hn, rfl⟩ := hv
  have hlen : ((e :: tl).map Rn.row).length = tl.length + 1 := by simp
  have hin : off < cur.size := by rw [hlen] at hc; omega
  have h00 : cur[off]? = some (.int .i64 e.id) := by have := ht 0 (by rw [hlen]; omega); simpa [Rn.row] using this
  have hT := (TurnAt.refl g w).setCell off (.int .i64 z)
  refine ⟨by rw [cell_of_row w g off cur 37 (0, 0) hg]; exact h00, frozen_of_row w g _ _ 37 hg, ⟨⟨⟨?_, ?_⟩, ?_⟩, ?_⟩, hT, hb, (Array.getElem?_eq_some_iff.1 hg).1⟩
  · simpa [Rn.row] using h0
  · refine .inr ⟨g, off, c, cur.setIfInBounds off (.int .i64 z), by simp [Sv.v, hn], hb, heap_setCell_same w g off _ 37 _ hg, by simpa using hc, hm, by simpa using hs, fun j hj => ?_⟩
    by_cases hj0 : j = 0
    · subst hj0
      rw [Nat.add_zero, Array.getElem?_setIfInBounds_self_of_lt hin]
      simp [Rn.row]
    · rw [Array.getElem?_setIfInBounds_ne (by omega), ht j (by simpa using hj)]
      cases j with
      | zero => exact absurd rfl hj0
      | succ j => simp [Rn.row]
  · intro r hr2
    simp only [List.map_cons, List.mem_cons] at hr2
    rcases hr2 with rfl | hr2
    · exact ⟨rfl, fun u hu => by simp [Rn.row] at hu; rcases hu with rfl | rfl <;> rfl⟩
    · exact h2 r (by simp [hr2])
  · intro x hx
    have hne : ∀ y, x.own y → y ≠ g := by
      intro y hy e1
      rcases List.mem_cons.1 hx with rfl | hx
      · exact hr g (by simp [Sv.v, Value.ownBlock]) e (by simp) (e1 ▸ hy)
      · exact hr g (by simp [Sv.v, Value.ownBlock]) x (by simp [hx]) (e1 ▸ hy)
    have hO : x.O w B := by
      rcases List.mem_cons.1 hx with rfl | hx
      · exact h3 e (by simp)
      · exact h3 x (by simp [hx])
    exact OwnI.keep hO fun b hb _ => hT.block b (hne b hb)
def slLeft (v : Value) : Nat := match v with | .slice _ n _ => 10 - n | _ => 0
set_option maxRecDepth 100000 in
set_option maxHeartbeats 8000000 in
theorem drawRingsOk_any (w : World) (n cap : Nat) (ao : Option Addr) (hn : n ≤ 1048576) (hk : Hid (CodeAt w w.heap.size ao n)) :
    Calls Tryz.prog 13 #[.slice ao n cap] w fun e w' => ∃ (u : Sv) (cs : List Rn), e = .returned (.slice u.a u.n u.c) ∧ cs.length ≤ 10 ∧ (∀ c ∈ cs, c.ms.length ≤ 8) ∧ RnsO w' w.heap.size u cs ∧ Below w.heap.size w w' := by
  go_enter Tryz.func13, Tryz.ntmps13
  go_wp2_with fail
  refine (new_any w n cap ao hn hk).mono ?_
  rintro e w1 ⟨rfl, hc1, hb1, hs1⟩
  have D1 : Hid (Drw w1 w1 w.heap.size w.heap.size ao n cap) := Drw.start hc1.out (hk.out.stays hb1 (Nat.le_refl _))
  have BW1 : Hid (Below w.heap.size w w1) := hb1
  clear hc1 hb1 hk
  go_wp2_with fail
  refine (drawRings_any w1 w1 w.heap.size w.heap.size n cap ao hn (Nat.le_refl _) D1).mono ?_
  rintro e w2 ⟨⟨u, cs, rfl, hl1, hl5, hms, ho⟩, DD⟩
  have CO : Hid (RnsO w2 (w.heap.size + 1) u cs) := ho.down (by omega)
  have hz : w.heap.size + 1 ≤ w2.heap.size := by have := DD.out.2.2.size; omega
  clear ho D1
  go_wp2_with fail
  refine (below_small w2 _ w.heap.size w.heap.size n cap 8 ao hn (Nat.le_refl _) (by omega) (by omega) DD.out.here).mono ?_
  rintro e w3 ⟨⟨x, hx, rfl⟩, hd3⟩
  have DD : Hid (Drw w1 w3 w.heap.size w.heap.size ao n cap) := DD.out.back hd3.out
  have CO : Hid (RnsO w3 (w.heap.size + 1) u cs) := CO.out.drawn hd3.out.2.2 (by omega)
  have hz : w.heap.size + 1 ≤ w3.heap.size := by have := hd3.out.2.2.size; omega
  clear hd3
  have END : Hid (∀ W, Drw w1 W w.heap.size w.heap.size ao n cap → Below w.heap.size w W) := fun W h => BW1.out.trans (h.2.2.below (Nat.le_refl _) (by omega))
  by_cases h0 : x = 0
  · subst h0
    go_wp2_with fail
    refine (anyRing_any w3 _ w.heap.size w.heap.size n cap ao hn (Nat.le_refl _) DD.out.here).mono ?_
    rintro e w4 ⟨⟨i, ms, sv, rfl, hm8, ov⟩, hd4⟩
    have OV : Hid (OwnI w4 w3.heap.size sv.v ms) := ov
    have DD : Hid (Drw w1 w4 w.heap.size w.heap.size ao n cap) := DD.out.back hd4.out
    have CO : Hid (RnsO w4 (w.heap.size + 1) u cs) := CO.out.drawn hd4.out.2.2 (by omega)
    have hz4 : w.heap.size + 1 ≤ w4.heap.size := by have := hd4.out.2.2.size; omega
    clear hd4 ov
    have HLEN : Hid ((cs.map Rn.row).length ≤ 1048576) := (by simp; omega : _ ≤ _)
    obtain ⟨c9, hc9⟩ : ∃ c : Rn, c = ⟨i, ms, sv⟩ := ⟨_, rfl⟩
    have C9 : Hid (c9.O w4 w3.heap.size) := by rw [hc9]; exact OV.out
    have CM : c9.ms.length ≤ 8 := by rw [hc9]; exact hm8
    have CR : Hid (([.int .i64 (i), .slice sv.a sv.n sv.c] : List Value) = c9.row) := by rw [hc9]; rfl
    clear hc9
    go_wp2_with (first | (with_reducible refine wpList_haltA _ _ _ rfl ?_))
    refine Stp.go ?_
    refine wpList_pushN rfl _ _ 24 rfl (.agg #[.int .i64 0, .slice none 0 0]) 32 Tryz.underlying24 Tryz.infoRn rfl (by omega) (w.heap.size + 1) _ _ rfl CO.out.1 [.int .i64 (i), .slice sv.a sv.n sv.c] rfl rfl rfl HLEN.out (by omega) ?_
    intro v10 w10 O10 g10 b10 _
    obtain ⟨s10, hs10, hq10⟩ := O10.form
    subst hs10
    clear hq10
    rw [CR.out] at O10
    have N10 : Hid (RnsO w10 (w.heap.size + 1) s10 (cs ++ [c9])) := ⟨by rw [List.map_append]; exact O10, fun x hx => by
      rcases List.mem_append.1 hx with hx | hx
      · exact Rn.O.rowkeep (by decide) (fun k hk => CO.out.1.blk hk) g10 (CO.out.2 x hx)
      · rw [List.mem_singleton.1 hx]; exact Rn.O.rowkeep (by decide) (fun k hk => CO.out.1.blk hk) g10 (C9.out.down (by omega))⟩
    have DD : Hid (Drw w1 w10 w.heap.size w.heap.size ao n cap) := DD.out.lowB b10 (by omega) (by omega) (Nat.le_refl _)
    have HM : ∀ c ∈ cs ++ [c9], c.ms.length ≤ 8 := fun c hc => by
      rcases List.mem_append.1 hc with hc | hc
      · exact hms c hc
      · rw [List.mem_singleton.1 hc]; exact CM
    have hz10 : w.heap.size + 1 ≤ w10.heap.size := by have := b10.size; omega
    clear O10 g10 b10 CO C9 CR HLEN
    go_wp2_with fail
    go_ret
    exact ⟨s10, cs ++ [c9], rfl, by simp; omega, HM, N10.out.down (by omega), END.out _ DD.out⟩
  by_cases h1 : x = 1
  · subst h1
    obtain ⟨e0, tl, rfl⟩ : ∃ e0 tl, cs = e0 :: tl := by
      cases cs with
      | nil => simp at hl1
      | cons a b => exact ⟨a, b, rfl⟩
    obtain ⟨g, off, hu⟩ : ∃ g off, u.a = some ⟨g, off, none⟩ := by
      obtain ⟨g, off, c, h, _⟩ := CO.out.1.read (i := 0) (by simp)
      simp only [Sv.v, Value.slice.injEq] at h
      exact ⟨g, off, h.1⟩
    have hun : u.n = tl.length + 1 := by have := CO.out.r.1; simpa using this
    obtain ⟨ua, un, uc⟩ := u
    simp only at hu hun
    subst hu
    obtain ⟨c0, f0, o0, t0, hB0, hg0⟩ := CO.out.id0 2
    have O0 : Hid _ := o0
    have DD : Hid (Drw w1 (w3.setCell ⟨g, off, none⟩ (.int .i64 2)) w.heap.size w.heap.size ao n cap) := DD.out.other (by omega) t0 (by omega) (by omega)
    have i1 : (0 : Int) < (un : Int) := by omega
    clear o0 t0 hun
    go_wp2_with fail
    go_ret
    exact ⟨⟨some ⟨g, off, none⟩, un, uc⟩, { e0 with id := 2 } :: tl, rfl, by simp at hl5 ⊢; omega, fun c hc => by
      rcases List.mem_cons.1 hc with rfl | hc
      · exact hms e0 (by simp)
      · exact hms c (by simp [hc]), RnsO.down O0.out (by omega), END.out _ DD.out⟩
  by_cases h2 : x = 2
  · subst h2
    go_wp2_with fail
    go_loopw [4] (fun v wr => ∃ (u : Sv) (cs : List Rn), v = .slice u.a u.n u.c ∧ cs.length ≤ 10 ∧ (∀ c ∈ cs, c.ms.length ≤ 8) ∧ w.heap.size + 1 ≤ wr.heap.size ∧ Hid (RnsO wr (w.heap.size + 1) u cs) ∧ Hid (Drw w1 wr w.heap.size w.heap.size ao n cap)) (fun v _ => slLeft v)
    case atStart => exact ⟨u, cs, rfl, by omega, hms, hz, CO, DD⟩
    case round =>
      clear hms CO DD hz hl1 hl5
      obtain ⟨u, cs, rfl, hl10, hms, hz, CO, DD⟩ := hrel
      have hun : u.n = cs.length := CO.out.r.1
      have HUN : Hid (u.n = cs.length) := hun
      clear hun
      go_wp2_with fail
      refine (below_small wr _ w.heap.size w.heap.size n cap 2 ao hn (Nat.le_refl _) (by omega) (by omega) DD.out.here).mono ?_
      rintro e w5 ⟨⟨y, hy, rfl⟩, hd5⟩
      have DD : Hid (Drw w1 w5 w.heap.size w.heap.size ao n cap) := DD.out.back hd5.out
      have CO : Hid (RnsO w5 (w.heap.size + 1) u cs) := CO.out.drawn hd5.out.2.2 (by omega)
      have hz : w.heap.size + 1 ≤ w5.heap.size := by have := hd5.out.2.2.size; omega
      clear hd5
      by_cases hlt : (u.n : Int) < 9 + (y : Int)
      · have hl9 : cs.length ≤ 9 := by have := HUN.out; omega
        have b7 : Below w5.heap.size w5 (w5.alloc (.cells #[.int .i64 1] 3)) := (Below.refl _ _).alloc (Nat.le_refl _) _
        have OV : Hid (OwnI (w5.alloc (.cells #[.int .i64 1] 3)) (w.heap.size + 1) (Sv.v ⟨some ⟨w5.heap.size, 0, none⟩, 1, 1⟩) [1]) := OwnI.lit w5 (w.heap.size + 1) [1] (by omega) (by simp)
        have DD : Hid (Drw w1 (w5.alloc (.cells #[.int .i64 1] 3)) w.heap.size w.heap.size ao n cap) := DD.out.step (Nat.le_refl _) b7
        have CO : Hid (RnsO (w5.alloc (.cells #[.int .i64 1] 3)) (w.heap.size + 1) u cs) := CO.out.below b7
        have hz7 : w.heap.size + 1 ≤ (w5.alloc (.cells #[.int .i64 1] 3)).heap.size := by have := b7.size; omega
        clear b7
        have HLEN : Hid ((cs.map Rn.row).length ≤ 1048576) := (by simp; omega : _ ≤ _)
        obtain ⟨c9, hc9⟩ : ∃ c : Rn, c = ⟨(u.n : Int) + 1, [1], ⟨some ⟨w5.heap.size, 0, none⟩, 1, 1⟩⟩ := ⟨_, rfl⟩
        have C9 : Hid (c9.O (w5.alloc (.cells #[.int .i64 1] 3)) (w.heap.size + 1)) := by rw [hc9]; exact OV.out
        have CM : c9.ms.length ≤ 8 := by rw [hc9]; show (1 : Nat) ≤ 8; decide
        have CR : Hid (([.int .i64 ((u.n : Int) + 1), .slice (some ⟨w5.heap.size, 0, none⟩) 1 1] : List Value) = c9.row) := by rw [hc9]; rfl
        clear hc9
        go_wp2_with (first | (with_reducible refine wpList_haltA _ _ _ rfl ?_))
        refine Stp.go ?_
        refine wpList_pushN rfl _ _ 24 rfl (.agg #[.int .i64 0, .slice none 0 0]) 32 Tryz.underlying24 Tryz.infoRn rfl (by omega) (w.heap.size + 1) _ _ rfl CO.out.1 [.int .i64 ((u.n : Int) + 1), .slice (some ⟨w5.heap.size, 0, none⟩) 1 1] rfl rfl (by show Value.slice (some ⟨w5.heap.size + 1, 0, none⟩) 1 1 = Value.slice (some ⟨(w5.alloc (.cells #[.int .i64 1] 3)).heap.size, 0, none⟩) 1 1; simp) HLEN.out (by omega) ?_
        intro v10 w10 O10 g10 b10 _
        obtain ⟨s10, hs10, hq10⟩ := O10.form
        subst hs10
        clear hq10
        rw [CR.out] at O10
        have N10 : Hid (RnsO w10 (w.heap.size + 1) s10 (cs ++ [c9])) := ⟨by rw [List.map_append]; exact O10, fun x hx => by
          rcases List.mem_append.1 hx with hx | hx
          · exact Rn.O.rowkeep (by decide) (fun k hk => CO.out.1.blk hk) g10 (CO.out.2 x hx)
          · rw [List.mem_singleton.1 hx]; exact Rn.O.rowkeep (by decide) (fun k hk => CO.out.1.blk hk) g10 (C9.out.down (by omega))⟩
        have DD : Hid (Drw w1 w10 w.heap.size w.heap.size ao n cap) := DD.out.lowB b10 (by omega) (by omega) (Nat.le_refl _)
        have HM : ∀ c ∈ cs ++ [c9], c.ms.length ≤ 8 := fun c hc => by
          rcases List.mem_append.1 hc with hc | hc
          · exact hms c hc
          · rw [List.mem_singleton.1 hc]; exact CM
        have hz10 : w.heap.size + 1 ≤ w10.heap.size := by have := b10.size; omega
        clear O10 g10 b10 CO C9 CR HLEN
        go_wp2_with fail
        go_roundw
        case rel => exact ⟨s10, cs ++ [c9], rfl, by simp; omega, HM, hz10, N10, DD⟩
        case measure => have h1 := N10.out.r.1; have h2 := HUN.out; simp [slLeft] at h1 ⊢; omega
      · go_wp2_with fail
        go_ret
        exact ⟨u, cs, rfl, hl10, hms, CO.out.down (by omega), END.out _ DD.out⟩
  have d0 : ((x : Int) == 0) = false := by simpa using h0
  have d1 : ((x : Int) == 1) = false := by simp; omega
  have d2 : ((x : Int) == 2) = false := by simp; omega
  go_wp2_with fail
  go_ret
  exact ⟨u, cs, rfl, by omega, hms, CO.out.down (by omega), END.out _ DD.out⟩
end Go.Proofs.YtoahljkifikbaaaGreat


/- The law on new worlds of drawn rings. Written by gen_lfw.py. -/
namespace Go.Proofs.YtoahljkifikbaaaGreat
open Go.RowKit Pl
set_option linter.unusedVariables false
set_option linter.unusedSimpArgs false

set_option maxRecDepth 100000 in
set_option maxHeartbeats 8000000 in
theorem lawWorldNewD (w : World) (n cap : Nat) (ao : Option Addr) (hx : CodeAt w w.heap.size ao n) :
    Calls Tryz.prog 4 #[.slice ao n cap] w fun e w' => e = .returned (.bool true) ∧ Below w.heap.size w w' := by
  by_cases hbg : 1048576 < n
  · go_enter Tryz.func4, Tryz.ntmps4
    go_wp2_with fail
    refine (big_any w n cap ao true (by simp; omega)).mono ?_
    rintro e w1 ⟨rfl, hw⟩
    obtain rfl := hw.symm
    go_wp2_with fail
    go_ret
    exact ⟨rfl, Below.refl _ _⟩
  have hn : n ≤ 1048576 := by omega
  have HK : Hid (CodeAt w w.heap.size ao n) := hx
  clear hx hbg
  go_enter Tryz.func4, Tryz.ntmps4
  go_wp2_with fail
  refine (big_any w n cap ao false (by simp; omega)).mono ?_
  rintro e w1 ⟨rfl, hw⟩
  obtain rfl := hw.symm
  clear hw
  go_wp2_with fail
  refine (drawRingsOk_any w n cap ao hn HK).mono ?_
  rintro e w1 ⟨u, cs, rfl, hl10, hms, ho, b1⟩
  have UO : Hid (RnsO w1 w.heap.size u cs) := ho
  have BW : Hid (Below w.heap.size w w1) := b1
  have hS : Hid (∀ e ∈ cs, e.S) := fun e he => by have := hms e he; unfold Rn.S; omega
  have hL : cs.length ≤ 1048576 := by omega
  clear ho b1 hms HK
  go_wp2_with fail
  cases hr : ringsB (cs.map Rn.pl) with
  | false =>
    refine (worldNew_no u cs _ (show Hid (RnsR w1 u cs) from UO.out.r) hL hS hr).mono ?_
    rintro e w2 ⟨rfl, b⟩
    have z_w2 : w1.heap.size ≤ w2.heap.size := b.size
    have BW : Hid (Below w.heap.size w w2) := bl_next BW.out b
    have UO : Hid (RnsO w2 w.heap.size u cs) := UO.out.below b
    clear b
    have hz : Hid (Bx (w2.alloc (.cells #[.slice none 0 0, .slice none 0 0, .slice none 0 0, .slice none 0 0] 32)) w2.heap.size 32 [.slice none 0 0, .slice none 0 0, .slice none 0 0, .slice none 0 0]) := Bx.new w2 32 _
    go_wp2_with (first | (refine wpList_stB rfl 32 _ _ rfl w2.heap.size 0 rfl 32 _ hz.out [.slice none 0 0, .slice none 0 0, .slice none 0 0, .slice none 0 0] rfl (by simp) Tryz.sizeWo rfl [.slice none 0 0, .slice none 0 0, .slice none 0 0, .slice none 0 0] rfl ?_; intro w3 OB TB; have b : Below w2.heap.size w2 w3 := ((Below.refl _ _).alloc (Nat.le_refl _) _).trans (TB.below (Nat.le_refl _)); have VB : Hid (Bx w3 w2.heap.size 32 [.slice none 0 0, .slice none 0 0, .slice none 0 0, .slice none 0 0]) := OB; have z_w3 : w2.heap.size ≤ w3.heap.size := b.size; have BW : Hid (Below w.heap.size w w3) := bl_next BW.out b; have UO : Hid (RnsO w3 w.heap.size u cs) := UO.out.below b; clear OB TB b; refine Stp.here ?_))
    refine Stp.go ?_
    clear hz
    have zl_VB : w2.heap.size < w3.heap.size := VB.out.lt
    generalize hg_VB : w2.heap.size = gVB at *
    go_wp2_with fail
    refine (spWorldNew_no u cs _ (show Hid (RnsR _ u cs) from UO.out.r) hL hS hr).mono ?_
    rintro e w4 ⟨rfl, b⟩
    have z_w4 : w3.heap.size ≤ w4.heap.size := b.size
    have BW : Hid (Below w.heap.size w w4) := bl_next BW.out b
    have UO : Hid (RnsO w4 w.heap.size u cs) := UO.out.below b
    have VB : Hid (Bx w4 gVB 32 [.slice none 0 0, .slice none 0 0, .slice none 0 0, .slice none 0 0]) := VB.out.later b
    clear b
    have hz : Hid (Bx (w4.alloc (.cells #[.slice none 0 0, .slice none 0 0, .slice none 0 0, .slice none 0 0] 32)) w4.heap.size 32 [.slice none 0 0, .slice none 0 0, .slice none 0 0, .slice none 0 0]) := Bx.new w4 32 _
    go_wp2_with (first | (refine wpList_stB rfl 32 _ _ rfl w4.heap.size 0 rfl 32 _ hz.out [.slice none 0 0, .slice none 0 0, .slice none 0 0, .slice none 0 0] rfl (by simp) Tryz.sizeWo rfl [.slice none 0 0, .slice none 0 0, .slice none 0 0, .slice none 0 0] rfl ?_; intro w5 OB TB; have b : Below w4.heap.size w4 w5 := ((Below.refl _ _).alloc (Nat.le_refl _) _).trans (TB.below (Nat.le_refl _)); have SB : Hid (Bx w5 w4.heap.size 32 [.slice none 0 0, .slice none 0 0, .slice none 0 0, .slice none 0 0]) := OB; have z_w5 : w4.heap.size ≤ w5.heap.size := b.size; have BW : Hid (Below w.heap.size w w5) := bl_next BW.out b; have UO : Hid (RnsO w5 w.heap.size u cs) := UO.out.below b; have VB : Hid (Bx w5 gVB 32 [.slice none 0 0, .slice none 0 0, .slice none 0 0, .slice none 0 0]) := VB.out.later b; clear OB TB b; refine Stp.here ?_))
    refine Stp.go ?_
    clear hz
    have zl_SB : w4.heap.size < w5.heap.size := SB.out.lt
    generalize hg_SB : w4.heap.size = gSB at *
    have b : Below w5.heap.size w5 (w5.alloc (.cells #[] 44)) := (Below.refl _ _).alloc (Nat.le_refl _) _
    have BW : Hid (Below w.heap.size w (w5.alloc (.cells #[] 44))) := bl_next BW.out b
    have UO : Hid (RnsO (w5.alloc (.cells #[] 44)) w.heap.size u cs) := UO.out.below b
    have VB : Hid (Bx (w5.alloc (.cells #[] 44)) gVB 32 [.slice none 0 0, .slice none 0 0, .slice none 0 0, .slice none 0 0]) := VB.out.later b
    have SB : Hid (Bx (w5.alloc (.cells #[] 44)) gSB 32 [.slice none 0 0, .slice none 0 0, .slice none 0 0, .slice none 0 0]) := SB.out.later b
    clear b
    go_wp2_with fail
    generalize (some ⟨w5.heap.size, 0, none⟩ : Option Addr) = a6 at *
    generalize (w5.alloc (.cells #[] 44)) = w6 at *
    refine (runWorld_none u cs a6 0 _ (show Hid (RnsR _ u cs) from UO.out.r) hL hS).mono ?_
    rintro e w7 ⟨r, d, ev, nu, rfl, hnu, b⟩
    have z_w7 : w6.heap.size ≤ w7.heap.size := b.size
    have BW : Hid (Below w.heap.size w w7) := bl_next BW.out b
    have UO : Hid (RnsO w7 w.heap.size u cs) := UO.out.below b
    have VB : Hid (Bx w7 gVB 32 [.slice none 0 0, .slice none 0 0, .slice none 0 0, .slice none 0 0]) := VB.out.later b
    have SB : Hid (Bx w7 gSB 32 [.slice none 0 0, .slice none 0 0, .slice none 0 0, .slice none 0 0]) := SB.out.later b
    clear b
    rw [hr]
    have hz : Hid (Bx (w7.alloc (.cells #[.slice none 0 0, .slice none 0 0, .slice none 0 0, .slice none 0 0] 32)) w7.heap.size 32 [.slice none 0 0, .slice none 0 0, .slice none 0 0, .slice none 0 0]) := Bx.new w7 32 _
    go_wp2_with (first | (refine wpList_stB rfl 32 _ _ rfl w7.heap.size 0 rfl 32 _ hz.out [.slice r.a r.n r.c, .slice d.a d.n d.c, .slice none 0 0, .slice ev.a ev.n ev.c] rfl (by simp) Tryz.sizeWo rfl [.slice r.a r.n r.c, .slice d.a d.n d.c, .slice none 0 0, .slice ev.a ev.n ev.c] rfl ?_; intro w8 OB TB; have b : Below w7.heap.size w7 w8 := ((Below.refl _ _).alloc (Nat.le_refl _) _).trans (TB.below (Nat.le_refl _)); have RB : Hid (Bx w8 w7.heap.size 32 [.slice r.a r.n r.c, .slice d.a d.n d.c, .slice none 0 0, .slice ev.a ev.n ev.c]) := OB; have z_w8 : w7.heap.size ≤ w8.heap.size := b.size; have BW : Hid (Below w.heap.size w w8) := bl_next BW.out b; have UO : Hid (RnsO w8 w.heap.size u cs) := UO.out.below b; have VB : Hid (Bx w8 gVB 32 [.slice none 0 0, .slice none 0 0, .slice none 0 0, .slice none 0 0]) := VB.out.later b; have SB : Hid (Bx w8 gSB 32 [.slice none 0 0, .slice none 0 0, .slice none 0 0, .slice none 0 0]) := SB.out.later b; clear OB TB b; refine Stp.here ?_))
    refine Stp.go ?_
    clear hz
    have zl_RB : w7.heap.size < w8.heap.size := RB.out.lt
    generalize hg_RB : w7.heap.size = gRB at *
    go_wp2_with fail
    refine (ringsOk_any u cs _ (show Hid (RnsR _ u cs) from UO.out.r) hL hS).mono ?_
    rintro e w9 ⟨rfl, b⟩
    have z_w9 : w8.heap.size ≤ w9.heap.size := b.size
    have BW : Hid (Below w.heap.size w w9) := bl_next BW.out b
    have UO : Hid (RnsO w9 w.heap.size u cs) := UO.out.below b
    have VB : Hid (Bx w9 gVB 32 [.slice none 0 0, .slice none 0 0, .slice none 0 0, .slice none 0 0]) := VB.out.later b
    have SB : Hid (Bx w9 gSB 32 [.slice none 0 0, .slice none 0 0, .slice none 0 0, .slice none 0 0]) := SB.out.later b
    have RB : Hid (Bx w9 gRB 32 [.slice r.a r.n r.c, .slice d.a d.n d.c, .slice none 0 0, .slice ev.a ev.n ev.c]) := RB.out.later b
    clear b
    rw [hr]
    obtain ⟨na, nn, nc⟩ := nu
    simp only at hnu
    subst hnu
    have c1 := VB.out.cell 1
    simp only [List.getElem?_cons_succ, List.getElem?_cons_zero] at c1
    go_wp2_with fail
    go_ret
    exact ⟨rfl, BW.out⟩
  | true =>
    refine (worldNew_yes u cs _ (show Hid (RnsR w1 u cs) from UO.out.r) hL hS hr).mono ?_
    rintro e w2 ⟨x, rfl, _, hdl, ho, _, b⟩
    have XD : Hid (BdsO w2 w1.heap.size x.ds five) := by rw [← hdl]; exact ho.d
    clear hdl ho
    have z_w2 : w1.heap.size ≤ w2.heap.size := b.size
    have BW : Hid (Below w.heap.size w w2) := bl_next BW.out b
    have UO : Hid (RnsO w2 w.heap.size u cs) := UO.out.below b
    clear b
    have hz : Hid (Bx (w2.alloc (.cells #[.slice none 0 0, .slice none 0 0, .slice none 0 0, .slice none 0 0] 32)) w2.heap.size 32 [.slice none 0 0, .slice none 0 0, .slice none 0 0, .slice none 0 0]) := Bx.new w2 32 _
    go_wp2_with (first | (refine wpList_stB rfl 32 _ _ rfl w2.heap.size 0 rfl 32 _ hz.out [.slice x.rs.a x.rs.n x.rs.c, .slice x.ds.a x.ds.n x.ds.c, .slice none 0 0, .slice none 0 0] rfl (by simp) Tryz.sizeWo rfl [.slice x.rs.a x.rs.n x.rs.c, .slice x.ds.a x.ds.n x.ds.c, .slice none 0 0, .slice none 0 0] rfl ?_; intro w3 OB TB; have b : Below w2.heap.size w2 w3 := ((Below.refl _ _).alloc (Nat.le_refl _) _).trans (TB.below (Nat.le_refl _)); have VB : Hid (Bx w3 w2.heap.size 32 [.slice x.rs.a x.rs.n x.rs.c, .slice x.ds.a x.ds.n x.ds.c, .slice none 0 0, .slice none 0 0]) := OB; have z_w3 : w2.heap.size ≤ w3.heap.size := b.size; have BW : Hid (Below w.heap.size w w3) := bl_next BW.out b; have UO : Hid (RnsO w3 w.heap.size u cs) := UO.out.below b; have XD : Hid (BdsO w3 w1.heap.size x.ds five) := XD.out.below b; clear OB TB b; refine Stp.here ?_))
    refine Stp.go ?_
    clear hz
    have zl_VB : w2.heap.size < w3.heap.size := VB.out.lt
    generalize hg_VB : w2.heap.size = gVB at *
    go_wp2_with fail
    refine (spWorldNew_yes u cs _ (show Hid (RnsR _ u cs) from UO.out.r) hL hS hr).mono ?_
    rintro e w4 ⟨y, rfl, _, _, _, b⟩
    have z_w4 : w3.heap.size ≤ w4.heap.size := b.size
    have BW : Hid (Below w.heap.size w w4) := bl_next BW.out b
    have UO : Hid (RnsO w4 w.heap.size u cs) := UO.out.below b
    have XD : Hid (BdsO w4 w1.heap.size x.ds five) := XD.out.below b
    have VB : Hid (Bx w4 gVB 32 [.slice x.rs.a x.rs.n x.rs.c, .slice x.ds.a x.ds.n x.ds.c, .slice none 0 0, .slice none 0 0]) := VB.out.later b
    clear b
    have hz : Hid (Bx (w4.alloc (.cells #[.slice none 0 0, .slice none 0 0, .slice none 0 0, .slice none 0 0] 32)) w4.heap.size 32 [.slice none 0 0, .slice none 0 0, .slice none 0 0, .slice none 0 0]) := Bx.new w4 32 _
    go_wp2_with (first | (refine wpList_stB rfl 32 _ _ rfl w4.heap.size 0 rfl 32 _ hz.out [.slice y.rs.a y.rs.n y.rs.c, .slice y.ds.a y.ds.n y.ds.c, .slice none 0 0, .slice none 0 0] rfl (by simp) Tryz.sizeWo rfl [.slice y.rs.a y.rs.n y.rs.c, .slice y.ds.a y.ds.n y.ds.c, .slice none 0 0, .slice none 0 0] rfl ?_; intro w5 OB TB; have b : Below w4.heap.size w4 w5 := ((Below.refl _ _).alloc (Nat.le_refl _) _).trans (TB.below (Nat.le_refl _)); have SB : Hid (Bx w5 w4.heap.size 32 [.slice y.rs.a y.rs.n y.rs.c, .slice y.ds.a y.ds.n y.ds.c, .slice none 0 0, .slice none 0 0]) := OB; have z_w5 : w4.heap.size ≤ w5.heap.size := b.size; have BW : Hid (Below w.heap.size w w5) := bl_next BW.out b; have UO : Hid (RnsO w5 w.heap.size u cs) := UO.out.below b; have XD : Hid (BdsO w5 w1.heap.size x.ds five) := XD.out.below b; have VB : Hid (Bx w5 gVB 32 [.slice x.rs.a x.rs.n x.rs.c, .slice x.ds.a x.ds.n x.ds.c, .slice none 0 0, .slice none 0 0]) := VB.out.later b; clear OB TB b; refine Stp.here ?_))
    refine Stp.go ?_
    clear hz
    have zl_SB : w4.heap.size < w5.heap.size := SB.out.lt
    generalize hg_SB : w4.heap.size = gSB at *
    have b : Below w5.heap.size w5 (w5.alloc (.cells #[] 44)) := (Below.refl _ _).alloc (Nat.le_refl _) _
    have BW : Hid (Below w.heap.size w (w5.alloc (.cells #[] 44))) := bl_next BW.out b
    have UO : Hid (RnsO (w5.alloc (.cells #[] 44)) w.heap.size u cs) := UO.out.below b
    have XD : Hid (BdsO (w5.alloc (.cells #[] 44)) w1.heap.size x.ds five) := XD.out.below b
    have VB : Hid (Bx (w5.alloc (.cells #[] 44)) gVB 32 [.slice x.rs.a x.rs.n x.rs.c, .slice x.ds.a x.ds.n x.ds.c, .slice none 0 0, .slice none 0 0]) := VB.out.later b
    have SB : Hid (Bx (w5.alloc (.cells #[] 44)) gSB 32 [.slice y.rs.a y.rs.n y.rs.c, .slice y.ds.a y.ds.n y.ds.c, .slice none 0 0, .slice none 0 0]) := SB.out.later b
    clear b
    go_wp2_with fail
    generalize (some ⟨w5.heap.size, 0, none⟩ : Option Addr) = a6 at *
    generalize (w5.alloc (.cells #[] 44)) = w6 at *
    refine (runWorld_none u cs a6 0 _ (show Hid (RnsR _ u cs) from UO.out.r) hL hS).mono ?_
    rintro e w7 ⟨r, d, ev, nu, rfl, hnu, b⟩
    have z_w7 : w6.heap.size ≤ w7.heap.size := b.size
    have BW : Hid (Below w.heap.size w w7) := bl_next BW.out b
    have UO : Hid (RnsO w7 w.heap.size u cs) := UO.out.below b
    have XD : Hid (BdsO w7 w1.heap.size x.ds five) := XD.out.below b
    have VB : Hid (Bx w7 gVB 32 [.slice x.rs.a x.rs.n x.rs.c, .slice x.ds.a x.ds.n x.ds.c, .slice none 0 0, .slice none 0 0]) := VB.out.later b
    have SB : Hid (Bx w7 gSB 32 [.slice y.rs.a y.rs.n y.rs.c, .slice y.ds.a y.ds.n y.ds.c, .slice none 0 0, .slice none 0 0]) := SB.out.later b
    clear b
    rw [hr]
    have hz : Hid (Bx (w7.alloc (.cells #[.slice none 0 0, .slice none 0 0, .slice none 0 0, .slice none 0 0] 32)) w7.heap.size 32 [.slice none 0 0, .slice none 0 0, .slice none 0 0, .slice none 0 0]) := Bx.new w7 32 _
    go_wp2_with (first | (refine wpList_stB rfl 32 _ _ rfl w7.heap.size 0 rfl 32 _ hz.out [.slice r.a r.n r.c, .slice d.a d.n d.c, .slice none 0 0, .slice ev.a ev.n ev.c] rfl (by simp) Tryz.sizeWo rfl [.slice r.a r.n r.c, .slice d.a d.n d.c, .slice none 0 0, .slice ev.a ev.n ev.c] rfl ?_; intro w8 OB TB; have b : Below w7.heap.size w7 w8 := ((Below.refl _ _).alloc (Nat.le_refl _) _).trans (TB.below (Nat.le_refl _)); have RB : Hid (Bx w8 w7.heap.size 32 [.slice r.a r.n r.c, .slice d.a d.n d.c, .slice none 0 0, .slice ev.a ev.n ev.c]) := OB; have z_w8 : w7.heap.size ≤ w8.heap.size := b.size; have BW : Hid (Below w.heap.size w w8) := bl_next BW.out b; have UO : Hid (RnsO w8 w.heap.size u cs) := UO.out.below b; have XD : Hid (BdsO w8 w1.heap.size x.ds five) := XD.out.below b; have VB : Hid (Bx w8 gVB 32 [.slice x.rs.a x.rs.n x.rs.c, .slice x.ds.a x.ds.n x.ds.c, .slice none 0 0, .slice none 0 0]) := VB.out.later b; have SB : Hid (Bx w8 gSB 32 [.slice y.rs.a y.rs.n y.rs.c, .slice y.ds.a y.ds.n y.ds.c, .slice none 0 0, .slice none 0 0]) := SB.out.later b; clear OB TB b; refine Stp.here ?_))
    refine Stp.go ?_
    clear hz
    have zl_RB : w7.heap.size < w8.heap.size := RB.out.lt
    generalize hg_RB : w7.heap.size = gRB at *
    go_wp2_with fail
    refine (ringsOk_any u cs _ (show Hid (RnsR _ u cs) from UO.out.r) hL hS).mono ?_
    rintro e w9 ⟨rfl, b⟩
    have z_w9 : w8.heap.size ≤ w9.heap.size := b.size
    have BW : Hid (Below w.heap.size w w9) := bl_next BW.out b
    have UO : Hid (RnsO w9 w.heap.size u cs) := UO.out.below b
    have XD : Hid (BdsO w9 w1.heap.size x.ds five) := XD.out.below b
    have VB : Hid (Bx w9 gVB 32 [.slice x.rs.a x.rs.n x.rs.c, .slice x.ds.a x.ds.n x.ds.c, .slice none 0 0, .slice none 0 0]) := VB.out.later b
    have SB : Hid (Bx w9 gSB 32 [.slice y.rs.a y.rs.n y.rs.c, .slice y.ds.a y.ds.n y.ds.c, .slice none 0 0, .slice none 0 0]) := SB.out.later b
    have RB : Hid (Bx w9 gRB 32 [.slice r.a r.n r.c, .slice d.a d.n d.c, .slice none 0 0, .slice ev.a ev.n ev.c]) := RB.out.later b
    clear b
    rw [hr]
    obtain ⟨na, nn, nc⟩ := nu
    simp only at hnu
    subst hnu
    have c1 := VB.out.cell 1
    have c3 := VB.out.cell 3
    have r2 := RB.out.cell 2
    simp only [List.getElem?_cons_succ, List.getElem?_cons_zero] at c1 c3 r2
    have n5 : x.ds.n = 5 := by have := SlN.slen XD.out; simpa [five] using this
    obtain ⟨g, off, hg, _, hlt, hcell, _⟩ : ∃ g off, x.ds.a = some ⟨g, off, none⟩ ∧ True ∧ g < w9.heap.size ∧ w9.cell? ⟨g, off + 23, none⟩ = some (.slice none 0 0) ∧ True := by
      obtain ⟨ha, hlt, hc, _⟩ := rowCells XD.out (by decide)
      exact ⟨svB x.ds, svO x.ds, ha, trivial, hlt, by have := hc 0 23 (.slice none 0 0) (by decide) rfl; simpa using this, trivial⟩
    rw [n5, hg] at c1
    clear hlt
    go_wp2_with fail
    go_ret
    exact ⟨rfl, BW.out⟩
end Go.Proofs.YtoahljkifikbaaaGreat


