/- The walks over the program's newTalk and over slices.Equal. -/
import Derived.Test.YtohagaelenhebaaK4
import Derived.Test.YtohagaelenhebaaK5
namespace Go.Proofs.Ytohagaelenhebaa
open Go.RowKit Pl
set_option linter.unusedVariables false

theorem bytes_ext {x y : ByteArray} (h : x.toList = y.toList) : x = y := by
  rw [ByteArray.toList_eq, ByteArray.toList_eq] at h
  cases x
  cases y
  congr 1
  exact Array.toList_inj.1 h

theorem offeredQ {w w3 w4 : World} {B p H : Nat} {e : En} {s : ByteArray} {qv ov v4 : Value} (h : EndQ w B p e qv ov) (hb : Below w.heap.size w w3) (S4 : SlT w4 B v4 (e.q ++ [s])) (G4 : w3.grownBy w4 qv.ownBlock) (hH : w3.heap.size ≤ H) (L4 : v4.ownBlock = qv.ownBlock ∨ v4.ownBlock = some (H + 1)) :
    ∃ qv', EndQ (w4.setCell ⟨p, 2, none⟩ v4) B p (offE e s) qv' ov ∧ (∀ k, qv'.ownBlock = some k → qv.ownBlock = some k ∨ w.heap.size ≤ k) ∧ Below B w (w4.setCell ⟨p, 2, none⟩ v4) ∧ Gr (fun k => k = p ∨ qv.ownBlock = some k) w (w4.setCell ⟨p, 2, none⟩ v4) := by
  have hz := hb.size
  obtain ⟨h1, h2, h3, h4, h5, h6, h7⟩ := h.below hb
  have hp := h.1.lt
  have n4 : v4.ownBlock ≠ some p := fun he => by
    rcases L4 with hl | hl
    · rw [hl] at he; exact h6 he
    · rw [hl] at he; simp at he; omega
  have d4 : Dj v4 ov := fun k k1 k2 => by
    rcases L4 with hl | hl
    · rw [hl] at k1; exact h4 k k1 k2
    · rw [hl] at k1; have := (Sl.lt h3 k k2).2; simp at k1; omega
  have X4 := EndC.kept h1 G4 (fun he => h6 he.symm)
  have O4 : SlT w4 B ov e.o := Sl.kept h3 G4 (fun k hk he => h4 k he.symm hk)
  have g4 : Gr (fun k => k = p ∨ qv.ownBlock = some k) w (w4.setCell ⟨p, 2, none⟩ v4) := ((Gr.ofBelow hb).trans (Gr.ofGrown G4 (fun k hk => .inr hk))).trans (gr_cell _ _ _ _ (.inl rfl))
  refine ⟨v4, ⟨X4.set2 v4, slt_other S4 n4, slt_other O4 h7, d4, h5, n4, h7⟩, fun k hk => ?_, g4.below (fun k hk => ?_) (by omega), g4⟩
  · rcases L4 with hl | hl
    · rw [hl] at hk; exact .inl hk
    · rw [hl] at hk; simp at hk; exact .inr (by omega)
  · rcases hk with rfl | hk
    · exact h5
    · exact (Sl.lt h2 k hk).1

set_option maxRecDepth 100000 in
set_option maxHeartbeats 4000000 in
theorem pofferQ {e : En} {B p : Nat} {qv ov : Value} (s : ByteArray) (w : World) (h : EndQ w B p e qv ov) (hs : s.size ≤ 1048576) (lq : e.q.length ≤ 1048576) :
    Calls Try.prog 56 #[.pointer (some ⟨p, 0, none⟩), .string s] w fun r w' => (∃ x, r = .returned x) ∧ ∃ qv', EndQ w' B p (offE e s) qv' ov ∧ (∀ k, qv'.ownBlock = some k → qv.ownBlock = some k ∨ w.heap.size ≤ k) ∧ Below B w w' ∧ Gr (fun k => k = p ∨ qv.ownBlock = some k) w w' := by
  obtain ⟨qa, qc, rfl⟩ := Sl.form h.2.1
  have HP : Hid (EndQ w B p e (.slice qa e.q.length qc) ov) := h
  have c2 := h.1.cells.2.2.1
  have hp := h.1.lt
  have h5 := h.2.2.2.2.1
  clear h
  go_enter Try.func56, Try.ntmps56
  go_wp2_with fail
  go_region_law (first
    | (refine step_pushT (by rfl) _ _ 24 (by rfl) Try.underlying24 Try.info9 (by rfl) S3 s rfl (by rfl) (by omega) (by omega) ?_; intro v4 w4 S4 G4 Z4 L4; obtain ⟨xa, xc, rfl⟩ := Sl.form S4; generalize (e.q ++ [s]).length = N at *; have X4 := EndC.kept X3 G4 (fun he => HP.out.2.2.2.2.2.1 he.symm); have c4 := X4.cells.2.2.1; have f4 := X4.frozen 2)
    | (go_simp; refine (clone_any s _ hs).mono ?_; rintro e1 w3 ⟨rfl, hb3⟩; have X3 := EndC.below (show EndC w.drew _ _ _ _ _ _ _ from HP.out.1) hb3; have c3 := X3.cells.2.2.1; have c3a := fun o => (EndC.below X3 ((Below.refl _ _).alloc (Nat.le_refl _) o)).cells.2.2.1; have S3 : SlT w3 B (.slice qa e.q.length qc) e.q := Sl.below (show SlT w.drew _ _ _ from HP.out.2.1) hb3; have z3 : w.heap.size ≤ w3.heap.size := hb3.size; go_simp))
  all_goals
    have hfin := offeredQ (w := w.drew) (e := e) (s := s) HP.out hb3 S4 G4 (Nat.le_refl _) L4
    go_end0
    obtain ⟨qv', k1, k2, k3, k4⟩ := hfin
    exact ⟨⟨_, rfl⟩, qv', k1, k2, (Below.refl B w).drew.trans k3, ⟨k4.os, k4.tape, k4.output, k4.size, k4.block⟩⟩

theorem TalkS.with_aq {w w1 : World} {B p : Nat} {t : Tk} {z : Nat → Nat} {pa pb : Nat} {qa oa qb ob tv bv : Value} (h : TalkS w B p t z pa pb qa oa qb ob tv bv) {e : En} {qa' : Value} (hg : Gr (fun k => k = pa ∨ qa.ownBlock = some k) w w1) (ha : EndQ w1 B pa e qa' oa) (hq : ∀ k, qa'.ownBlock = some k → qa.ownBlock = some k ∨ w.heap.size ≤ k) :
    TalkS w1 B p { t with a := e } (relab z w.heap.size 1) pa pb qa' oa qb ob tv bv := by
  have hS : ∀ k, (k = pa ∨ qa.ownBlock = some k) → z k = 1 := fun k hk => by
    rcases hk with rfl | hk
    · exact h.za.p
    · exact h.za.q k hk
  refine ⟨h.c.grS hg (fun hk => by have := hS _ hk; have := h.zp; omega), ha, h.b.gr hg (fun hk => by have := hS _ hk; have := h.zb.p; omega) (fun k h1 h2 => by have := hS _ h2; have := h.zb.q k h1; omega) (fun k h1 h2 => by have := hS _ h2; have := h.zb.o k h1; omega), Sl.gr h.th hg (fun k h1 h2 => by have := hS _ h2; have := h.zt k h1; omega), Sl.gr h.bk hg (fun k h1 h2 => by have := hS _ h2; have := h.zk k h1; omega), h.le, (relab_old h.c.lt).trans h.zp, ?_, h.zb.old h.b.1.lt (fun k hk => (Sl.lt h.b.2.1 k hk).2) (fun k hk => (Sl.lt h.b.2.2.1 k hk).2), fun k hk => (relab_old (Sl.lt h.th k hk).2).trans (h.zt k hk), fun k hk => (relab_old (Sl.lt h.bk k hk).2).trans (h.zk k hk)⟩
  refine ⟨(relab_old h.a.1.lt).trans h.za.p, fun k hk => ?_, fun k hk => (relab_old (Sl.lt h.a.2.2.1 k hk).2).trans (h.za.o k hk)⟩
  rcases hq k hk with h1 | h1
  · exact (relab_old (Sl.lt h.a.2.1 k h1).2).trans (h.za.q k h1)
  · exact relab_new h1

set_option maxRecDepth 100000 in
set_option maxHeartbeats 4000000 in
theorem newTalk_any (ao : Option Addr) (ac : Nat) (ts : List ByteArray) (w : World) (hx : Hid (TextsAt w ao ts)) (hl : ts.length ≤ 30) (hf : Hid (∀ t ∈ ts, t.size ≤ 60)) :
    Calls Try.prog 51 #[.slice ao ts.length ac] w fun r w' => ∃ p, r = .returned (.pointer (some ⟨p, 0, none⟩)) ∧ TalkQ w' w.heap.size p (startT ts) ∧ Below w.heap.size w w' := by
  go_enter Try.func51, Try.ntmps51
  have T0 : TalkQ ((((w.alloc (Obj.cells #[Value.int IntKind.i64 0, Value.int IntKind.i64 0, Value.slice none 0 0, Value.int IntKind.i64 0, Value.slice none 0 0] 32)).alloc (Obj.cells #[] 9)).alloc (Obj.cells #[Value.int IntKind.i64 0, Value.int IntKind.i64 0, Value.slice none 0 0, Value.int IntKind.i64 0, Value.slice (some ⟨w.heap.size + 1, 0, none⟩) 0 0] 32)).alloc (Obj.cells #[Value.pointer (some ⟨w.heap.size, 0, none⟩), Value.pointer (some ⟨w.heap.size + 1 + 1, 0, none⟩), Value.slice none 0 0, Value.slice none 0 0] 74)) w.heap.size (w.heap.size + 1 + 1 + 1) (startT []) := by
    have b1 : Below (w.alloc (Obj.cells #[Value.int IntKind.i64 0, Value.int IntKind.i64 0, Value.slice none 0 0, Value.int IntKind.i64 0, Value.slice none 0 0] 32)).heap.size (w.alloc (Obj.cells #[Value.int IntKind.i64 0, Value.int IntKind.i64 0, Value.slice none 0 0, Value.int IntKind.i64 0, Value.slice none 0 0] 32)) ((w.alloc (Obj.cells #[Value.int IntKind.i64 0, Value.int IntKind.i64 0, Value.slice none 0 0, Value.int IntKind.i64 0, Value.slice none 0 0] 32)).alloc (Obj.cells #[] 9)) := (Below.refl _ _).alloc (Nat.le_refl _) _
    have b2 : Below ((w.alloc (Obj.cells #[Value.int IntKind.i64 0, Value.int IntKind.i64 0, Value.slice none 0 0, Value.int IntKind.i64 0, Value.slice none 0 0] 32)).alloc (Obj.cells #[] 9)).heap.size ((w.alloc (Obj.cells #[Value.int IntKind.i64 0, Value.int IntKind.i64 0, Value.slice none 0 0, Value.int IntKind.i64 0, Value.slice none 0 0] 32)).alloc (Obj.cells #[] 9)) (((w.alloc (Obj.cells #[Value.int IntKind.i64 0, Value.int IntKind.i64 0, Value.slice none 0 0, Value.int IntKind.i64 0, Value.slice none 0 0] 32)).alloc (Obj.cells #[] 9)).alloc (Obj.cells #[Value.int IntKind.i64 0, Value.int IntKind.i64 0, Value.slice none 0 0, Value.int IntKind.i64 0, Value.slice (some ⟨w.heap.size + 1, 0, none⟩) 0 0] 32)) := (Below.refl _ _).alloc (Nat.le_refl _) _
    have b3 : Below (((w.alloc (Obj.cells #[Value.int IntKind.i64 0, Value.int IntKind.i64 0, Value.slice none 0 0, Value.int IntKind.i64 0, Value.slice none 0 0] 32)).alloc (Obj.cells #[] 9)).alloc (Obj.cells #[Value.int IntKind.i64 0, Value.int IntKind.i64 0, Value.slice none 0 0, Value.int IntKind.i64 0, Value.slice (some ⟨w.heap.size + 1, 0, none⟩) 0 0] 32)).heap.size (((w.alloc (Obj.cells #[Value.int IntKind.i64 0, Value.int IntKind.i64 0, Value.slice none 0 0, Value.int IntKind.i64 0, Value.slice none 0 0] 32)).alloc (Obj.cells #[] 9)).alloc (Obj.cells #[Value.int IntKind.i64 0, Value.int IntKind.i64 0, Value.slice none 0 0, Value.int IntKind.i64 0, Value.slice (some ⟨w.heap.size + 1, 0, none⟩) 0 0] 32)) ((((w.alloc (Obj.cells #[Value.int IntKind.i64 0, Value.int IntKind.i64 0, Value.slice none 0 0, Value.int IntKind.i64 0, Value.slice none 0 0] 32)).alloc (Obj.cells #[] 9)).alloc (Obj.cells #[Value.int IntKind.i64 0, Value.int IntKind.i64 0, Value.slice none 0 0, Value.int IntKind.i64 0, Value.slice (some ⟨w.heap.size + 1, 0, none⟩) 0 0] 32)).alloc (Obj.cells #[Value.pointer (some ⟨w.heap.size, 0, none⟩), Value.pointer (some ⟨w.heap.size + 1 + 1, 0, none⟩), Value.slice none 0 0, Value.slice none 0 0] 74)) := (Below.refl _ _).alloc (Nat.le_refl _) _
    have h1 : EndC ((((w.alloc (Obj.cells #[Value.int IntKind.i64 0, Value.int IntKind.i64 0, Value.slice none 0 0, Value.int IntKind.i64 0, Value.slice none 0 0] 32)).alloc (Obj.cells #[] 9)).alloc (Obj.cells #[Value.int IntKind.i64 0, Value.int IntKind.i64 0, Value.slice none 0 0, Value.int IntKind.i64 0, Value.slice (some ⟨w.heap.size + 1, 0, none⟩) 0 0] 32)).alloc (Obj.cells #[Value.pointer (some ⟨w.heap.size, 0, none⟩), Value.pointer (some ⟨w.heap.size + 1 + 1, 0, none⟩), Value.slice none 0 0, Value.slice none 0 0] 74)) 32 w.heap.size 0 0 (.slice none 0 0) 0 (.slice none 0 0) := (((EndC.new w 32 0 0 0 (.slice none 0 0) (.slice none 0 0)).below b1).below b2).below b3
    have h2 : EndC ((((w.alloc (Obj.cells #[Value.int IntKind.i64 0, Value.int IntKind.i64 0, Value.slice none 0 0, Value.int IntKind.i64 0, Value.slice none 0 0] 32)).alloc (Obj.cells #[] 9)).alloc (Obj.cells #[Value.int IntKind.i64 0, Value.int IntKind.i64 0, Value.slice none 0 0, Value.int IntKind.i64 0, Value.slice (some ⟨w.heap.size + 1, 0, none⟩) 0 0] 32)).alloc (Obj.cells #[Value.pointer (some ⟨w.heap.size, 0, none⟩), Value.pointer (some ⟨w.heap.size + 1 + 1, 0, none⟩), Value.slice none 0 0, Value.slice none 0 0] 74)) 32 (w.heap.size + 1 + 1) 0 0 (.slice none 0 0) 0 (.slice (some ⟨w.heap.size + 1, 0, none⟩) 0 0) := by
      have := (EndC.new ((w.alloc (Obj.cells #[Value.int IntKind.i64 0, Value.int IntKind.i64 0, Value.slice none 0 0, Value.int IntKind.i64 0, Value.slice none 0 0] 32)).alloc (Obj.cells #[] 9)) 32 0 0 0 (.slice none 0 0) (.slice (some ⟨w.heap.size + 1, 0, none⟩) 0 0)).below b3
      simpa using this
    have h3 : SlT ((((w.alloc (Obj.cells #[Value.int IntKind.i64 0, Value.int IntKind.i64 0, Value.slice none 0 0, Value.int IntKind.i64 0, Value.slice none 0 0] 32)).alloc (Obj.cells #[] 9)).alloc (Obj.cells #[Value.int IntKind.i64 0, Value.int IntKind.i64 0, Value.slice none 0 0, Value.int IntKind.i64 0, Value.slice (some ⟨w.heap.size + 1, 0, none⟩) 0 0] 32)).alloc (Obj.cells #[Value.pointer (some ⟨w.heap.size, 0, none⟩), Value.pointer (some ⟨w.heap.size + 1 + 1, 0, none⟩), Value.slice none 0 0, Value.slice none 0 0] 74)) w.heap.size (.slice (some ⟨w.heap.size + 1, 0, none⟩) 0 0) [] := by
      have := Sl.below (Sl.below (Sl.made (w.alloc (Obj.cells #[Value.int IntKind.i64 0, Value.int IntKind.i64 0, Value.slice none 0 0, Value.int IntKind.i64 0, Value.slice none 0 0] 32)) 9 1 w.heap.size (by simp)) b2) b3
      show Sl _ _ _ _ _ _ _
      simpa using this
    have h4 : TalkC ((((w.alloc (Obj.cells #[Value.int IntKind.i64 0, Value.int IntKind.i64 0, Value.slice none 0 0, Value.int IntKind.i64 0, Value.slice none 0 0] 32)).alloc (Obj.cells #[] 9)).alloc (Obj.cells #[Value.int IntKind.i64 0, Value.int IntKind.i64 0, Value.slice none 0 0, Value.int IntKind.i64 0, Value.slice (some ⟨w.heap.size + 1, 0, none⟩) 0 0] 32)).alloc (Obj.cells #[Value.pointer (some ⟨w.heap.size, 0, none⟩), Value.pointer (some ⟨w.heap.size + 1 + 1, 0, none⟩), Value.slice none 0 0, Value.slice none 0 0] 74)) (w.heap.size + 1 + 1 + 1) w.heap.size (w.heap.size + 1 + 1) (.slice none 0 0) (.slice none 0 0) := by
      have := TalkC.new (((w.alloc (Obj.cells #[Value.int IntKind.i64 0, Value.int IntKind.i64 0, Value.slice none 0 0, Value.int IntKind.i64 0, Value.slice none 0 0] 32)).alloc (Obj.cells #[] 9)).alloc (Obj.cells #[Value.int IntKind.i64 0, Value.int IntKind.i64 0, Value.slice none 0 0, Value.int IntKind.i64 0, Value.slice (some ⟨w.heap.size + 1, 0, none⟩) 0 0] 32)) w.heap.size (w.heap.size + 1 + 1) (.slice none 0 0) (.slice none 0 0)
      simpa using this
    have n1 : ∀ k, (Value.slice none 0 0).ownBlock ≠ some k := fun k => by simp [Value.ownBlock]
    refine ⟨fun k => if k = w.heap.size then 1 else if k = w.heap.size + 1 + 1 + 1 then 5 else 2, w.heap.size, w.heap.size + 1 + 1, .slice none 0 0, .slice none 0 0, .slice none 0 0, .slice (some ⟨w.heap.size + 1, 0, none⟩) 0 0, .slice none 0 0, .slice none 0 0, ⟨h4, ⟨h1, Sl.zero _ _ _ _, Sl.zero _ _ _ _, fun k hk => absurd hk (n1 k), Nat.le_refl _, n1 _, n1 _⟩, ⟨h2, Sl.zero _ _ _ _, h3, fun k hk => absurd hk (n1 k), by omega, n1 _, by simp [Value.ownBlock]⟩, Sl.zero _ _ _ _, Sl.zero _ _ _ _, by omega, by simp <;> omega, ⟨by simp, fun k hk => absurd hk (n1 k), fun k hk => absurd hk (n1 k)⟩, ⟨by simp <;> omega, fun k hk => absurd hk (n1 k), fun k hk => ?_⟩, fun k hk => absurd hk (n1 k), fun k hk => absurd hk (n1 k)⟩⟩
    simp [Value.ownBlock] at hk
    subst hk
    simp <;> omega
  have B0 : Below w.heap.size w ((((w.alloc (Obj.cells #[Value.int IntKind.i64 0, Value.int IntKind.i64 0, Value.slice none 0 0, Value.int IntKind.i64 0, Value.slice none 0 0] 32)).alloc (Obj.cells #[] 9)).alloc (Obj.cells #[Value.int IntKind.i64 0, Value.int IntKind.i64 0, Value.slice none 0 0, Value.int IntKind.i64 0, Value.slice (some ⟨w.heap.size + 1, 0, none⟩) 0 0] 32)).alloc (Obj.cells #[Value.pointer (some ⟨w.heap.size, 0, none⟩), Value.pointer (some ⟨w.heap.size + 1 + 1, 0, none⟩), Value.slice none 0 0, Value.slice none 0 0] 74)) := ((((Below.refl _ _).alloc (Nat.le_refl _) _).alloc (by simp) _).alloc (by simp; omega) _).alloc (by simp; omega) _
  have HT0 : Hid _ := T0
  have HB0 : Hid _ := B0
  clear T0 B0
  go_wp2_with fail
  generalize ((((w.alloc (Obj.cells #[Value.int IntKind.i64 0, Value.int IntKind.i64 0, Value.slice none 0 0, Value.int IntKind.i64 0, Value.slice none 0 0] 32)).alloc (Obj.cells #[] 9)).alloc (Obj.cells #[Value.int IntKind.i64 0, Value.int IntKind.i64 0, Value.slice none 0 0, Value.int IntKind.i64 0, Value.slice (some ⟨w.heap.size + 1, 0, none⟩) 0 0] 32)).alloc (Obj.cells #[Value.pointer (some ⟨w.heap.size, 0, none⟩), Value.pointer (some ⟨w.heap.size + 1 + 1, 0, none⟩), Value.slice none 0 0, Value.slice none 0 0] 74)) = W0 at *
  go_loopw [15] (fun i wr => ∃ k : Nat, k ≤ ts.length ∧ i = .int .i64 k ∧ Hid (TalkQ wr w.heap.size (w.heap.size + 1 + 1 + 1) (startT (ts.take k))) ∧ Hid (Below w.heap.size w wr)) (fun i _ => ts.length - (intOf i).toNat)
  case atStart => exact ⟨0, Nat.zero_le _, rfl, HT0.out, HB0.out⟩
  case round =>
    obtain ⟨k, hk, rfl, hT, hB⟩ := hrel
    clear HT0 HB0
    by_cases hlt : k < ts.length
    · obtain ⟨g1, o1, rfl, hg1, hc1⟩ := hx.out k hlt
      obtain ⟨x, hxe⟩ : ∃ x, x = ts[k] := ⟨_, rfl⟩
      rw [← hxe] at hc1
      have d1 : wr.cell? ⟨g1, o1 + k, none⟩ = some (.string x) := (hB.out.cell (p := ⟨g1, o1 + k, none⟩) hg1).trans hc1
      have hxs : x.size ≤ 60 := by rw [hxe]; exact hf.out _ (List.getElem_mem hlt)
      have HX : Hid (ts.take (k + 1) = ts.take k ++ [x]) := by show ts.take (k + 1) = _; rw [List.take_succ_eq_append_getElem hlt, hxe]
      clear hxe hc1
      have hd : decide ((k : Int) < (ts.length : Int)) = true := by simp; omega
      obtain ⟨z, pa, pb, qa, oa, qb, ob, tv, bv, h⟩ := hT.out
      have HS : Hid _ := h
      have e0 := h.c.cells.1
      clear h hT
      go_wp2_with fail
      refine (pofferQ x wr (show EndQ wr w.heap.size pa ⟨0, 0, ts.take k, 0, []⟩ qa oa from HS.out.a) (by omega) (by simp; omega)).mono ?_
      rintro r w2 ⟨⟨y, rfl⟩, qv', hQ, hq1, hb2, hg2⟩
      have T2 : Hid (TalkQ w2 w.heap.size (w.heap.size + 1 + 1 + 1) (startT (ts.take (k + 1)))) := by
        have := (TalkS.with_aq HS.out hg2 hQ hq1)
        show TalkQ _ _ _ _
        rw [HX.out]
        exact ⟨_, _, _, _, _, _, _, _, _, this⟩
      have B2 : Hid (Below w.heap.size w w2) := hB.out.trans hb2
      clear hQ hq1 hb2 hg2 HS e0 d1 hB
      go_wp2_with fail
      go_roundw
      case rel => exact ⟨k + 1, by omega, by go_num, T2.out, B2.out⟩
      case measure => simp [intOf]; omega
    · have hke : k = ts.length := by omega
      have hd : decide ((k : Int) < (ts.length : Int)) = false := by simp; omega
      have T2 : Hid (TalkQ wr w.heap.size (w.heap.size + 1 + 1 + 1) (startT ts)) := by have := hT.out; rw [hke, List.take_length] at this; exact this
      go_wp2_with fail
      go_ret
      exact ⟨_, rfl, T2.out, hB.out⟩

set_option maxRecDepth 100000 in
set_option maxHeartbeats 4000000 in
theorem slEq_any (ao bo : Option Addr) (ac bc : Nat) (xs ys : List ByteArray) (w : World) (hx : Hid (TextsAt w ao xs)) (hy : Hid (TextsAt w bo ys)) (hl : xs.length = ys.length) (hm : xs.length ≤ 1048576) :
    Calls Try.prog 53 #[.slice ao xs.length ac, .slice bo ys.length bc] w fun r w' => r = .returned (.bool (decide (xs = ys))) ∧ Below w.heap.size w w' := by
  have HL : Hid (xs.length = ys.length) := hl
  rw [← hl]
  clear hl
  go_enter Try.func53, Try.ntmps53
  go_wp2_with fail
  go_loopw [13] (fun i wr => ∃ k : Nat, k ≤ xs.length ∧ i = .int .i64 k ∧ Hid (xs.take k = ys.take k) ∧ Hid (Below w.heap.size w wr)) (fun i _ => xs.length - (intOf i).toNat)
  case atStart => exact ⟨0, Nat.zero_le _, rfl, rfl, Below.refl _ _⟩
  case round =>
    obtain ⟨k, hk, rfl, hst, hB⟩ := hrel
    by_cases hlt : k < xs.length
    · obtain ⟨g1, o1, rfl, hg1, hc1⟩ := hx.out k hlt
      obtain ⟨g2, o2, rfl, hg2, hc2⟩ := hy.out k (by have := HL.out; omega)
      obtain ⟨x, hxe⟩ : ∃ x, x = xs[k] := ⟨_, rfl⟩
      obtain ⟨y, hye⟩ : ∃ y, y = ys[k]'(by have := HL.out; omega) := ⟨_, rfl⟩
      rw [← hxe] at hc1
      rw [← hye] at hc2
      have d1 : wr.cell? ⟨g1, o1 + k, none⟩ = some (.string x) := (hB.out.cell (p := ⟨g1, o1 + k, none⟩) hg1).trans hc1
      have d2 : wr.cell? ⟨g2, o2 + k, none⟩ = some (.string y) := (hB.out.cell (p := ⟨g2, o2 + k, none⟩) hg2).trans hc2
      have HX : Hid (x = xs[k]) := hxe
      have HY : Hid (y = ys[k]'(by have := HL.out; omega)) := hye
      clear hxe hye hc1 hc2
      have hd : decide ((k : Int) < (xs.length : Int)) = true := by simp; omega
      go_wp2_with fail
      by_cases hxy : x = y
      · have hb : (x.toList == y.toList) = true := by rw [hxy]; simp
        have HS : Hid (xs.take (k + 1) = ys.take (k + 1)) := by
          show xs.take (k + 1) = ys.take (k + 1)
          rw [List.take_succ_eq_append_getElem hlt, List.take_succ_eq_append_getElem (show k < ys.length by have := HL.out; omega), hst.out, ← HX.out, ← HY.out, hxy]
        clear hxy
        go_quiet (fail)
        have B2 : Hid (Below w.heap.size w (wr.drewN nq)) := below_drewN hB.out _
        clear hB
        go_wp2_with fail
        go_roundw
        case rel => exact ⟨k + 1, by omega, by go_num, HS.out, B2.out⟩
        case measure => simp [intOf]; omega
      · have hb : (x.toList == y.toList) = false := by
          cases hh : x.toList == y.toList with
          | false => rfl
          | true => exact absurd (bytes_ext (by simpa using hh)) hxy
        have HE : Hid (¬ xs = ys) := fun he => hxy (by rw [HX.out, HY.out]; simp only [he])
        clear hxy
        go_quiet (fail)
        have B2 : Hid (Below w.heap.size w (wr.drewN nq)) := below_drewN hB.out _
        clear hB
        go_wp2_with fail
        go_ret
        exact ⟨by rw [show decide (xs = ys) = false by simpa using HE.out]; rfl, B2.out⟩
    · have hke : k = xs.length := by omega
      have hd : decide ((k : Int) < (xs.length : Int)) = false := by simp; omega
      have hE : Hid (xs = ys) := by
        have := hst.out
        rw [hke, List.take_length, HL.out, List.take_length] at this
        exact this
      go_wp2_with fail
      go_ret
      exact ⟨by rw [show decide (xs = ys) = true by simpa using hE.out]; rfl, hB.out⟩
end Go.Proofs.Ytohagaelenhebaa
