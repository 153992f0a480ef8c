/- The walks over the specification's copy of an end, and over its Offer. -/
import Derived.Test.YtohagaelenhebaaE2
import Derived.Test.YtohagaelenhebaaE3
import Derived.Deep.RegionHeld3
namespace Go.Proofs.Ytohagaelenhebaa
open Go.RowKit Pl
set_option linter.unusedVariables false

theorem texts_src {P : Program} {w : World} {ao : Option Addr} {ts : List ByteArray} (h : TextsAt w ao ts) (cap : Nat) {tx : TypeId} (hk : P.underlying tx = some (.slice 9)) : Src P 1 tx (.slice ao ts.length cap) ts.length (ts.map Value.string) w := by
  have h1 : ∀ u ∈ ts.map Value.string, u.oneCell' = true := fun u hu => by obtain ⟨t, _, rfl⟩ := List.mem_map.1 hu; rfl
  cases ao with
  | none =>
    have : ts = [] := by
      cases ts with
      | nil => rfl
      | cons t ts => obtain ⟨b, off, hb, _⟩ := h 0 (by simp); cases hb
    subst this
    exact Src.ofNil w hk cap
  | some a =>
    refine Src.ofSlice w hk a ts.length cap _ (by simp) (fun j u hu => ?_) h1
    have hj : j < ts.length := by simpa using (List.getElem?_eq_some_iff.1 hu).1
    obtain ⟨b, off, hb, _, hc⟩ := h j hj
    cases hb
    have ha : (⟨b, off, none⟩ : Addr).add j = ⟨b, off + j, none⟩ := by unfold Addr.add; split <;> simp_all
    rw [ha, hc]
    simpa [hj] using hu

/-- the walk stops here. -/
def Stop (p : Prop) : Prop := p
theorem Stop.mk {p : Prop} (h : Stop p) : p := h
theorem Stop.go {p : Prop} (h : p) : Stop p := h

set_option maxRecDepth 100000 in
set_option maxHeartbeats 2000000 in
theorem spCopy_any {v : Value} {e : En} (w : World) (h : EndR w v e) (lq : e.q.length ≤ 1048576) (lo : e.o.length ≤ 1048576) :
    Calls Try.prog 65 #[v] w fun r w' => ∃ v', r = .returned v' ∧ EndM w' w.heap.size v' e ∧ Below w.heap.size w w' := by
  obtain ⟨nx, ak, q, gt, o⟩ := e
  obtain ⟨qa, qc, oa, oc, rfl, hq, ho⟩ := h
  dsimp only at *
  have HQ : Hid (TextsAt w qa q) := hq
  have HO : Hid (TextsAt w oa o) := ho
  clear hq ho
  have hbz : ∀ A Z, Below w.heap.size w (((w.alloc A).alloc Z).alloc (.cells #[] 9)) := fun A Z => (((Below.refl _ w).alloc (Nat.le_refl _) _).alloc (by simp) _).alloc (by simp; omega) _
  have hm : ∀ A Z, Sl (((w.alloc A).alloc Z).alloc (.cells #[] 9)) 9 1 w.heap.size (.slice (some ⟨w.heap.size + 1 + 1, 0, none⟩) 0 0) 0 [] := fun A Z => by simpa using Sl.made ((w.alloc A).alloc Z) 9 1 w.heap.size (by simp; omega)
  have hE : ∀ Z, EndC (((w.alloc (Obj.cells #[Value.int IntKind.i64 nx, Value.int IntKind.i64 ak, Value.slice qa q.length qc, Value.int IntKind.i64 gt, Value.slice oa o.length oc] 32)).alloc Z).alloc (.cells #[] 9)) 32 w.heap.size nx ak (.slice qa q.length qc) gt (.slice oa o.length oc) := fun Z =>
    ((EndC.new w 32 nx ak gt _ _).below ((Below.refl _ _).alloc (Nat.le_refl _) _)).below ((Below.refl _ _).alloc (Nat.le_refl _) _)
  have hR : ∀ A, EndC (((w.alloc A).alloc (Obj.cells #[Value.int IntKind.i64 0, Value.int IntKind.i64 0, Value.slice none 0 0, Value.int IntKind.i64 0, Value.slice none 0 0] 32)).alloc (.cells #[] 9)) 32 (w.heap.size + 1) 0 0 (.slice none 0 0) 0 (.slice none 0 0) := fun A => by
    have h1 := EndC.new (w.alloc A) 32 0 0 0 (.slice none 0 0) (.slice none 0 0)
    simpa using h1.below ((Below.refl _ _).alloc (Nat.le_refl _) (.cells #[] 9))
  have hz : ∀ A Z : Obj, (((w.alloc A).alloc Z).alloc (.cells #[] 9)).heap.size = w.heap.size + 3 := fun A Z => by simp
  have tok : True := trivial
  go_enter Try.func65, Try.ntmps65
  go_wp2_with (at_builtin; refine Stop.mk ?_)
  refine Stop.go ?_
  refine wpList_appendS rfl _ _ 24 rfl (.string ⟨#[]⟩) 16 Try.underlying24 Try.info9 rfl (by rfl) (hm _ _) _ q.length (q.map Value.string) (by rfl) (texts_src (HQ.out.stays (hbz _ _)) qc Try.underlying24) (by unfold maxLen; omega) (by omega) (by rw [hz]; omega) ?_
  intro v1 w1 s1 g1 l1
  rw [Nat.zero_add, List.nil_append] at s1
  obtain ⟨va, vc, rfl⟩ := Sl.form s1
  replace g1 : World.grownBy _ w1 (some (w.heap.size + 1 + 1)) := g1
  replace l1 : _ = some (w.heap.size + 1 + 1) ∨ _ = some _ := l1
  have F1 := EndC.kept (hE _) g1 (by simp; omega)
  have R1 := EndC.kept (hR _) g1 (by simp)
  have b1 := (hbz _ _).trans (grown_to_below g1 (B := w.heap.size) (by omega) (by rw [hz]; omega))
  have z1 : w.heap.size + 3 ≤ w1.heap.size := by have := g1.size; rw [hz] at this; exact this
  have S1 : SlT w1 (w.heap.size + 1 + 1) (.slice va q.length vc) q := Sl.up s1 (fun k hk => by rcases l1 with l1 | l1 <;> rw [l1] at hk <;> simp at hk <;> omega)
  clear hE hR hm hbz hz tok g1 l1 s1
  have HL1 : Hid (∀ k, (Value.slice va q.length vc).ownBlock = some k → w.heap.size + 1 + 1 ≤ k ∧ k < w1.heap.size) := fun k hk => Sl.lt S1 k hk
  have c2 := F1.cells.2.2.1
  have f2 := F1.frozen 2
  have G1 : EndC ((w1.setCell ⟨w.heap.size, 2, none⟩ (.slice va q.length vc)).alloc (.cells #[] 9)) 32 w.heap.size nx ak (.slice va q.length vc) gt (.slice oa o.length oc) := (F1.set2 _).below ((Below.refl _ _).alloc (Nat.le_refl _) _)
  have R2 : EndC ((w1.setCell ⟨w.heap.size, 2, none⟩ (.slice va q.length vc)).alloc (.cells #[] 9)) 32 (w.heap.size + 1) 0 0 (.slice none 0 0) 0 (.slice none 0 0) := (R1.other (by omega)).below ((Below.refl _ _).alloc (Nat.le_refl _) _)
  have S2 : SlT ((w1.setCell ⟨w.heap.size, 2, none⟩ (.slice va q.length vc)).alloc (.cells #[] 9)) (w.heap.size + 1 + 1) (.slice va q.length vc) q := Sl.alloc (slt_other S1 (ne_low S1 (by omega))) _
  have b2 : Below w.heap.size w ((w1.setCell ⟨w.heap.size, 2, none⟩ (.slice va q.length vc)).alloc (.cells #[] 9)) := (b1.setCell (by simp) _).alloc (by simp [World.setCell]; omega) _
  have hm : Sl ((w1.setCell ⟨w.heap.size, 2, none⟩ (.slice va q.length vc)).alloc (.cells #[] 9)) 9 1 w1.heap.size (.slice (some ⟨w1.heap.size, 0, none⟩) 0 0) 0 [] := by
    have := Sl.made (w1.setCell ⟨w.heap.size, 2, none⟩ (.slice va q.length vc)) 9 1 w1.heap.size (by simp [World.setCell])
    simpa [World.setCell] using this
  have z2 : ((w1.setCell ⟨w.heap.size, 2, none⟩ (.slice va q.length vc)).alloc (.cells #[] 9)).heap.size = w1.heap.size + 1 := by simp [World.setCell]
  obtain ⟨d0, d1, d2, d3, d4⟩ := G1.cells
  have HG1 : Hid _ := G1
  clear F1 R1 S1 b1 G1
  go_wp2_with (at_builtin; refine Stop.mk ?_)
  refine Stop.go ?_
  generalize ((w1.setCell ⟨w.heap.size, 2, none⟩ (.slice va q.length vc)).alloc (.cells #[] 9)) = W2 at *
  refine wpList_appendS rfl _ _ 24 rfl (.string ⟨#[]⟩) 16 Try.underlying24 Try.info9 rfl (by rfl) hm _ o.length (o.map Value.string) (by rfl) (texts_src (HO.out.stays b2) oc Try.underlying24) (by unfold maxLen; omega) (by omega) (by omega) ?_
  intro v3 w3 s3 g3 l3
  rw [Nat.zero_add, List.nil_append] at s3
  obtain ⟨ua, uc, rfl⟩ := Sl.form s3
  replace g3 : World.grownBy _ w3 (some w1.heap.size) := g3
  have F3 := EndC.kept HG1.out g3 (by simp; omega)
  have R3 := EndC.kept R2 g3 (by simp; omega)
  have b3 := b2.trans (grown_to_below g3 (B := w.heap.size) (by omega) (by omega))
  have z3 : w1.heap.size + 1 ≤ w3.heap.size := by have := g3.size; omega
  have S3 : SlT w3 (w.heap.size + 1 + 1) (.slice va q.length vc) q := slt_grown S2 g3 (fun he => by have := (HL1.out _ he).2; omega)
  have L3 : ∀ k, (Value.slice ua o.length uc).ownBlock = some k → w1.heap.size ≤ k := fun k hk => (Sl.lt s3 k hk).1
  have D : Hid (Dj (.slice va q.length vc) (.slice ua o.length uc)) := fun k h1 h2 => by have := (HL1.out k h1).2; have := L3 k h2; omega
  have f4 := F3.frozen 4
  have e4 := F3.cells.2.2.2.2
  have G3 : EndC (w3.setCell ⟨w.heap.size, 4, none⟩ (.slice ua o.length uc)) 32 w.heap.size nx ak (.slice va q.length vc) gt (.slice ua o.length uc) := F3.set4 _
  have R4 : EndC (w3.setCell ⟨w.heap.size, 4, none⟩ (.slice ua o.length uc)) 32 (w.heap.size + 1) 0 0 (.slice none 0 0) 0 (.slice none 0 0) := R3.other (by omega)
  have n1 : (Value.slice ua o.length uc).ownBlock ≠ some w.heap.size := fun he => by have := L3 _ he; omega
  have n2 : (Value.slice ua o.length uc).ownBlock ≠ some (w.heap.size + 1) := fun he => by have := L3 _ he; omega
  have S4 : SlT (w3.setCell ⟨w.heap.size, 4, none⟩ (.slice ua o.length uc)) w1.heap.size (.slice ua o.length uc) o := slt_other (show SlT w3 _ _ _ from s3) n1
  have S5 : SlT (w3.setCell ⟨w.heap.size, 4, none⟩ (.slice ua o.length uc)) (w.heap.size + 1 + 1) (.slice va q.length vc) q := slt_other S3 (ne_low S3 (by omega))
  have b4 : Below w.heap.size w (w3.setCell ⟨w.heap.size, 4, none⟩ (.slice ua o.length uc)) := b3.setCell (by simp) _
  obtain ⟨h0, h1, h2, h3, h4⟩ := G3.cells
  obtain ⟨r0, r1, r2, r3, r4⟩ := R4.cells
  have k0 := R4.frozen 0
  have k1 := R4.frozen 1
  have k2 := R4.frozen 2
  have k3 := R4.frozen 3
  have k4 := R4.frozen 4
  have HR4 : Hid _ := R4
  have HS4 : Hid _ := S4
  have HS5 : Hid _ := S5
  have HB4 : Hid _ := b4
  clear HG1 R2 S2 b2 hm g3 F3 R3 b3 S3 L3 G3 R4 S4 S5 b4 s3 l3 d0 d1 d2 d3 d4 c2 f2
  go_wp2_with fail
  show bodyPost _ _ _ _ _ (fillE (w3.setCell ⟨w.heap.size, 4, none⟩ (.slice ua o.length uc)) (w.heap.size + 1) nx ak (.slice va q.length vc) gt (.slice ua o.length uc))
  have K1 := fill_end HR4.out nx ak gt (.slice va q.length vc) (.slice ua o.length uc)
  have K2 := fill_grown (w3.setCell ⟨w.heap.size, 4, none⟩ (.slice ua o.length uc)) (w.heap.size + 1) nx ak gt (.slice va q.length vc) (.slice ua o.length uc)
  have T1 := slt_grown (show SlT _ (w.heap.size + 1 + 1) _ q from HS5.out) K2 (ne_low (show SlT _ (w.heap.size + 1 + 1) _ q from HS5.out) (by omega))
  have T2 := slt_grown (show SlT _ w1.heap.size _ o from HS4.out) K2 n2
  have HBF := (show Below w.heap.size w _ from HB4.out).trans (grown_to_below K2 (by omega) (show Below w.heap.size w _ from HB4.out).size)
  generalize fillE (w3.setCell ⟨w.heap.size, 4, none⟩ (.slice ua o.length uc)) (w.heap.size + 1) nx ak (.slice va q.length vc) gt (.slice ua o.length uc) = W4 at *
  obtain ⟨q0, q1, q2, q3, q4⟩ := K1.cells
  refine bodyPost_ret (v := .agg #[.int .i64 nx, .int .i64 ak, .slice va q.length vc, .int .i64 gt, .slice ua o.length uc]) (by simp [results, Try.results65, go_sem, q0, q1, q2, q3, q4]) rfl ?_
  exact ⟨_, rfl, ⟨_, _, rfl, Sl.down T1 (by omega), Sl.down T2 (by omega), D.out⟩, HBF⟩
end Go.Proofs.Ytohagaelenhebaa
