/- Joined texts: CZt CZ1 CZ2 CRd. -/
import Derived.Test.YtoahljkifikbaaaGreatQn12
import Derived.Test.YtoahljkifikbaaaGreatQn8
import Derived.Deep.RegionLaw
import Derived.Test.YtoahljkifikbaaaGreatQn5
/- What drawn tokens want. -/
namespace Go.Proofs.YtoahljkifikbaaaGreat
open Go.RowKit Pl
set_option linter.unusedVariables false

theorem own_laterZ {w w' : World} {B : Nat} {v : Value} {ss : List Int} (h : OwnI w B v ss) (hb : Below w.heap.size w w') : OwnI w' B v ss := h.stays hb (fun k hk => (h.lt k hk).2)
theorem TokAt.keep {w w' : World} {g k : Nat} {c r q a b : Int} {v : Value} (h : TokAt w g c r q a b v) (hk : KeepBut k w w') (hg : g ≠ k) : TokAt w' g c r q a b v := (hk.block g h.lt hg).trans h
theorem TokAt.set0 {w : World} {g : Nat} {c r q a b : Int} {v : Value} (h : TokAt w g c r q a b v) (x : Int) : TokAt (w.setCell ⟨g, 0, none⟩ (.int .i64 x)) g x r q a b v := by
  have := heap_setCell_same w g 0 _ 49 (.int .i64 x) h
  unfold TokAt; rw [this]; rfl
theorem TokAt.set1 {w : World} {g : Nat} {c r q a b : Int} {v : Value} (h : TokAt w g c r q a b v) (x : Int) : TokAt (w.setCell ⟨g, 1, none⟩ (.int .i64 x)) g c x q a b v := by
  have := heap_setCell_same w g 1 _ 49 (.int .i64 x) h
  unfold TokAt; rw [this]; rfl
theorem tok_turn {w : World} {g : Nat} (c r q a b : Int) (v : Value) : TurnAt g w ((((((w.setCell ⟨g, 0, none⟩ (.int .i64 c)).setCell ⟨g, 1, none⟩ (.int .i64 r)).setCell ⟨g, 2, none⟩ (.int .i64 q)).setCell ⟨g, 3, none⟩ (.int .i64 a)).setCell ⟨g, 4, none⟩ (.int .i64 b)).setCell ⟨g, 5, none⟩ v) :=
  ((((((TurnAt.refl g w).setCell 0 _).setCell 1 _).setCell 2 _).setCell 3 _).setCell 4 _).setCell 5 _

theorem own_ne_tok {w : World} {B g k : Nat} {v u : Value} {xs : List Int} {c r q a b : Int} (h : OwnI w B v xs) (hu : TokAt w g c r q a b u) (hk : v.ownBlock = some k) : k ≠ g := by
  rintro rfl
  rcases h.2 with ⟨rfl, _⟩ | ⟨k', cap, cur, rfl, _, hk2, _⟩
  · cases hk
  · cases hk
    unfold TokAt at hu
    rw [hk2] at hu
    simp at hu
theorem TokAt.grown {w w' : World} {B g : Nat} {v u : Value} {xs : List Int} {c r q a b : Int} (h : TokAt w g c r q a b u) (ho : OwnI w B v xs) (hg : w.grownBy w' v.ownBlock) : TokAt w' g c r q a b u :=
  (hg.block g h.lt (fun e => own_ne_tok ho h e.symm rfl)).trans h
end Go.Proofs.YtoahljkifikbaaaGreat


/- A token on its way. -/
namespace Go.Proofs.YtoahljkifikbaaaGreat
open Go.RowKit Pl
set_option linter.unusedVariables false

/-- a token on its way: where it is made, what is drawn. -/
structure TS (w0 w wr : World) (B g n cap : Nat) (ao : Option Addr) (gm : Nat) (c r q a b : Int) (v : Value) (xs : List Int) : Prop where
  res : TokAt wr w.heap.size 0 0 0 0 0 (.slice none 0 0)
  tok : TokAt wr gm c r q a b v
  own : OwnI wr w.heap.size v xs
  drw : Drw w0 wr B g ao n cap
  old : g < w.heap.size
  new : w.heap.size < gm
  low : w0.heap.size ≤ w.heap.size
  bas : B ≤ w.heap.size

theorem TS.draw {w0 w wr w' : World} {B g n cap gm : Nat} {ao : Option Addr} {c r q a b : Int} {v : Value} {xs : List Int} (h : TS w0 w wr B g n cap ao gm c r q a b v xs) (hd : Drw wr w' B g ao n cap) : TS w0 w w' B g n cap ao gm c r q a b v xs :=
  ⟨h.res.keep hd.2.2 (by have := h.old; omega), h.tok.keep hd.2.2 (by have := h.old; have := h.new; omega), OwnI_keep h.own hd.2.2 h.old, (h.drw.back hd).out, h.old, h.new, h.low, h.bas⟩
theorem TS.turn {w0 w wr w' : World} {B g n cap gm : Nat} {ao : Option Addr} {c r q a b c' r' q' a' b' : Int} {v : Value} {xs : List Int} (h : TS w0 w wr B g n cap ao gm c r q a b v xs) (ht : TurnAt gm wr w') (hk : TokAt w' gm c' r' q' a' b' v) : TS w0 w w' B g n cap ao gm c' r' q' a' b' v xs :=
  ⟨h.res.turn ht (by have := h.new; omega), hk, own_tok h.own h.tok ht, (h.drw.other (by have := h.new; have := h.bas; omega) ht (by have := h.new; have := h.low; omega) (by have := h.old; have := h.new; omega)).out, h.old, h.new, h.low, h.bas⟩
theorem TS.below {w0 w wr w' : World} {B g n cap gm : Nat} {ao : Option Addr} {c r q a b : Int} {v : Value} {xs : List Int} (h : TS w0 w wr B g n cap ao gm c r q a b v xs) (hB : B ≤ g) (hb : Below wr.heap.size wr w') : TS w0 w w' B g n cap ao gm c r q a b v xs :=
  ⟨h.res.stays hb h.res.lt, h.tok.stays hb h.tok.lt, own_laterZ h.own hb, h.drw.step hB hb, h.old, h.new, h.low, h.bas⟩
/-- one more is appended. -/
theorem TS.push {w0 w wr w' : World} {B g n cap gm : Nat} {ao : Option Addr} {c r q a b z : Int} {v v' : Value} {xs : List Int} (h : TS w0 w wr B g n cap ao gm c r q a b v xs) (hB : B ≤ g) (hown : OwnI w' w.heap.size v' (xs ++ [z])) (hg : (wr.alloc (.cells #[.int .i64 z] 3)).grownBy w' v.ownBlock) :
    TS w0 w (w'.setCell ⟨gm, 5, none⟩ v') B g n cap ao gm c r q a b v' (xs ++ [z]) := by
  have D : Below wr.heap.size wr (wr.alloc (.cells #[.int .i64 z] 3)) := (Below.refl _ _).alloc (Nat.le_refl _) _
  have h1 := h.below hB D
  have M := TokAt.grown h1.tok h1.own hg
  have R := TokAt.grown h1.res h1.own hg
  have T := (TurnAt.refl gm w').setCell 5 v'
  have hold := h.old
  have hnew := h.new
  have hlow := h.low
  have hbas := h.bas
  have hlt := fun k hk => (h1.own.lt k hk).1
  have hdrw : Drw w0 w' B g ao n cap := by
    obtain ⟨⟨i, y, e1, e2⟩, e3, e4⟩ := h1.drw
    refine ⟨⟨i, y, e1, (hg.block g (Array.getElem?_eq_some_iff.1 e2).1 (fun e => by have := hlt g e.symm; omega)).trans e2⟩, fun j hj => ?_, ⟨hg.os.trans e4.os, hg.tape.trans e4.tape, hg.output.trans e4.output, Nat.le_trans e4.size hg.size, fun m hm hmg => (hg.block m (Nat.lt_of_lt_of_le hm e4.size) (fun e => by have := hlt m e.symm; omega)).trans (e4.block m hm hmg)⟩⟩
    obtain ⟨bb, off, y2, x1, x2, x3, x4⟩ := e3 j hj
    refine ⟨bb, off, y2, x1, x2, ?_, x4⟩
    rw [← x3]
    simp only [World.cell?]
    rw [hg.block bb (by have := h1.res.lt; omega) (fun e => by have := hlt bb e.symm; omega)]
  exact ⟨R.turn T (by omega), M.set5 v', own_tok hown M T, (hdrw.other (by omega) T (by omega) (by omega)).out, h.old, h.new, h.low, h.bas⟩
/-- what is handed back. -/
theorem TS.give {w0 w wr : World} {B g n cap gm : Nat} {ao : Option Addr} {c r q a b : Int} {v : Value} {xs : List Int} (h : TS w0 w wr B g n cap ao gm c r q a b v xs) :
    TokAt ((((((wr.setCell ⟨w.heap.size, 0, none⟩ (.int .i64 c)).setCell ⟨w.heap.size, 1, none⟩ (.int .i64 r)).setCell ⟨w.heap.size, 2, none⟩ (.int .i64 q)).setCell ⟨w.heap.size, 3, none⟩ (.int .i64 a)).setCell ⟨w.heap.size, 4, none⟩ (.int .i64 b)).setCell ⟨w.heap.size, 5, none⟩ v) w.heap.size c r q a b v ∧
    OwnI ((((((wr.setCell ⟨w.heap.size, 0, none⟩ (.int .i64 c)).setCell ⟨w.heap.size, 1, none⟩ (.int .i64 r)).setCell ⟨w.heap.size, 2, none⟩ (.int .i64 q)).setCell ⟨w.heap.size, 3, none⟩ (.int .i64 a)).setCell ⟨w.heap.size, 4, none⟩ (.int .i64 b)).setCell ⟨w.heap.size, 5, none⟩ v) w.heap.size v xs ∧
    Hid (Drw w0 ((((((wr.setCell ⟨w.heap.size, 0, none⟩ (.int .i64 c)).setCell ⟨w.heap.size, 1, none⟩ (.int .i64 r)).setCell ⟨w.heap.size, 2, none⟩ (.int .i64 q)).setCell ⟨w.heap.size, 3, none⟩ (.int .i64 a)).setCell ⟨w.heap.size, 4, none⟩ (.int .i64 b)).setCell ⟨w.heap.size, 5, none⟩ v) B g ao n cap) :=
  ⟨h.res.agg c r q a b v, own_tok h.own h.res (tok_turn c r q a b v), h.drw.other h.bas (tok_turn c r q a b v) h.low (by have := h.old; omega)⟩
end Go.Proofs.YtoahljkifikbaaaGreat


/- The walk over a drawn token. -/
namespace Go.Proofs.YtoahljkifikbaaaGreat
open Go.RowKit Pl
set_option linter.unusedVariables false

theorem wpList_pushG {P : Program} {w : World} {ops : Array Oper} {rest : List Oper} {o : Oper} {a : Act} {Q : Exit → Act → World → Prop}
    (hgd : o.guard = none) (s x : Operand) (t : TypeId) (ho : o.op = .call { callee := .builtin .append, args := #[s, x], argTypes := #[t, t] })
    (ht : P.underlying t = some (.slice 3)) (hinfo : (P.info? 3).map (fun i => (i.zero, i.size, i.bytes)) = some (some (.int .i64 0), 1, 8))
    (B : Nat) (v : Value) (xs : List Int) (hs : a.eval s = v) (hown : OwnI w B v xs) (b : Int)
    (hx : a.eval x = .slice (some ⟨w.heap.size, 0, none⟩) 1 1) (hn : xs.length < 4000000) (hB : B ≤ w.heap.size)
    (h : ∀ v' w', OwnI w' B v' (xs ++ [b]) → (w.alloc (.cells #[.int .i64 b] 3)).grownBy w' v.ownBlock → wpList P ops Q rest (a.put o.dst v') w') :
    wpList P ops Q (o :: rest) a (w.alloc (.cells #[.int .i64 b] 3)) := by
  obtain ⟨i0, hi, hz0, hz1, hz2⟩ := info_parts hinfo
  refine wpList_append_own _ hgd s x t ho B 3 i0 (.int .i64 0) 1 8 ht hi hz0 hz1 hz2 rfl (by decide) v xs.length (xs.map (Value.int .i64)) hs (World.ownsRow.alloc hown _) ⟨w.heap.size, 0, none⟩ 1 1 [.int .i64 b] hx rfl ?_ ?_ ?_ ?_ ?_ ?_
  · intro j u hj
    match j, hj with
    | 0, hj => simp at hj; subst hj; simp [Addr.add]
  · intro u hu; simp at hu; subst hu; rfl
  · unfold maxLen; omega
  · omega
  · simp; omega
  · intro v' w' hown' hg _
    exact h v' w' (by simpa [OwnI] using hown') hg

end Go.Proofs.YtoahljkifikbaaaGreat


/- Drawn rings. -/
namespace Go.Proofs.YtoahljkifikbaaaGreat
open Go.RowKit Pl
set_option linter.unusedVariables false

theorem wGo_snoc : ∀ (ms : List Int) (l d : Int), wGo l 5 ms = true → l < d → (∀ x ∈ ms, x < d) → d ≤ 5 → wGo l 5 (ms ++ [d]) = true := by
  intro ms
  induction ms with
  | nil => intro l d _ h1 _ h2; rw [List.nil_append, wGo_step h1 h2]; rfl
  | cons x xs ih =>
    intro l d h h1 h2 h3
    by_cases hx : l < x ∧ x ≤ 5
    · rw [wGo_step hx.1 hx.2] at h
      rw [List.cons_append, wGo_step hx.1 hx.2]
      exact ih x d h (h2 x (by simp)) (fun y hy => h2 y (by simp [hy])) h3
    · rw [wGo_bad (by omega)] at h; cases h

theorem RgAt.keep {w w' : World} {g k : Nat} {i : Int} {v : Value} (h : RgAt w g i v) (hk : KeepBut k w w') (hg : g ≠ k) : RgAt w' g i v := (hk.block g h.lt hg).trans h
theorem RgAt.grown {w w' : World} {B g : Nat} {v u : Value} {xs : List Int} {i : Int} (h : RgAt w g i u) (ho : OwnI w B v xs) (hg : w.grownBy w' v.ownBlock) : RgAt w' g i u := by
  refine (hg.block g h.lt (fun e => ?_)).trans h
  rcases ho.2 with ⟨rfl, _⟩ | ⟨k, cap, cur, rfl, _, hk, _⟩
  · cases e
  · cases e
    unfold RgAt at h
    rw [hk] at h
    simp at h
theorem ring_turn {w : World} {g : Nat} (i : Int) (v : Value) : TurnAt g w ((w.setCell ⟨g, 0, none⟩ (.int .i64 i)).setCell ⟨g, 1, none⟩ v) := ((TurnAt.refl g w).setCell 0 _).setCell 1 _

/-- a ring on its way. -/
structure RS (w0 w wr : World) (B g n cap : Nat) (ao : Option Addr) (gm : Nat) (i : Int) (v : Value) (xs : List Int) : Prop where
  res : RgAt wr w.heap.size 0 (.slice none 0 0)
  rng : RgAt wr gm i v
  own : OwnI wr w.heap.size v xs
  drw : Drw w0 wr B g ao n cap
  old : g < w.heap.size
  new : w.heap.size < gm
  low : w0.heap.size ≤ w.heap.size
  bas : B ≤ w.heap.size
theorem RS.draw {w0 w wr w' : World} {B g n cap gm : Nat} {ao : Option Addr} {i : Int} {v : Value} {xs : List Int} (h : RS w0 w wr B g n cap ao gm i v xs) (hd : Drw wr w' B g ao n cap) : RS w0 w w' B g n cap ao gm i v xs :=
  ⟨h.res.keep hd.2.2 (by have := h.old; omega), h.rng.keep hd.2.2 (by have := h.old; have := h.new; omega), OwnI_keep h.own hd.2.2 h.old, (h.drw.back hd).out, h.old, h.new, h.low, h.bas⟩
theorem RS.below {w0 w wr w' : World} {B g n cap gm : Nat} {ao : Option Addr} {i : Int} {v : Value} {xs : List Int} (h : RS w0 w wr B g n cap ao gm i v xs) (hB : B ≤ g) (hb : Below wr.heap.size wr w') : RS w0 w w' B g n cap ao gm i v xs :=
  ⟨h.res.stays hb h.res.lt, h.rng.stays hb h.rng.lt, own_laterZ h.own hb, h.drw.step hB hb, h.old, h.new, h.low, h.bas⟩
/-- another list is its members. -/
theorem RS.set {w0 w wr : World} {B g n cap gm : Nat} {ao : Option Addr} {i : Int} {v v' : Value} {xs ys : List Int} (h : RS w0 w wr B g n cap ao gm i v xs) (ho : OwnI wr w.heap.size v' ys) : RS w0 w (wr.setCell ⟨gm, 1, none⟩ v') B g n cap ao gm i v' ys := by
  have T := (TurnAt.refl gm wr).setCell 1 v'
  have hold := h.old
  have hnew := h.new
  have hlow := h.low
  have hbas := h.bas
  exact ⟨h.res.turn T (by omega), h.rng.set1 v', own_ring ho h.rng T, (h.drw.other (by omega) T (by omega) (by omega)).out, h.old, h.new, h.low, h.bas⟩
/-- one more is appended. -/
theorem RS.push {w0 w wr w' : World} {B g n cap gm : Nat} {ao : Option Addr} {i z : Int} {v v' : Value} {xs : List Int} (h : RS w0 w wr B g n cap ao gm i v xs) (hB : B ≤ g) (hown : OwnI w' w.heap.size v' (xs ++ [z])) (hg : (wr.alloc (.cells #[.int .i64 z] 3)).grownBy w' v.ownBlock) :
    RS w0 w (w'.setCell ⟨gm, 1, none⟩ v') B g n cap ao gm i v' (xs ++ [z]) := by
  have D : Below wr.heap.size wr (wr.alloc (.cells #[.int .i64 z] 3)) := (Below.refl _ _).alloc (Nat.le_refl _) _
  have h1 := h.below hB D
  have M := RgAt.grown h1.rng h1.own hg
  have R := RgAt.grown h1.res h1.own hg
  have hold := h.old
  have hnew := h.new
  have hlow := h.low
  have hbas := h.bas
  have hlt := fun k hk => (h1.own.lt k hk).1
  have hdrw : Drw w0 w' B g ao n cap := by
    obtain ⟨⟨i, y, e1, e2⟩, e3, e4⟩ := h1.drw
    refine ⟨⟨i, y, e1, (hg.block g (Array.getElem?_eq_some_iff.1 e2).1 (fun e => by have := hlt g e.symm; omega)).trans e2⟩, fun j hj => ?_, ⟨hg.os.trans e4.os, hg.tape.trans e4.tape, hg.output.trans e4.output, Nat.le_trans e4.size hg.size, fun m hm hmg => (hg.block m (Nat.lt_of_lt_of_le hm e4.size) (fun e => by have := hlt m e.symm; omega)).trans (e4.block m hm hmg)⟩⟩
    obtain ⟨bb, off, y2, x1, x2, x3, x4⟩ := e3 j hj
    refine ⟨bb, off, y2, x1, x2, ?_, x4⟩
    rw [← x3]
    simp only [World.cell?]
    rw [hg.block bb (by have := h1.res.lt; omega) (fun e => by have := hlt bb e.symm; omega)]
  have h2 : RS w0 w w' B g n cap ao gm i v' (xs ++ [z]) → RS w0 w (w'.setCell ⟨gm, 1, none⟩ v') B g n cap ao gm i v' (xs ++ [z]) := fun h2 => h2.set h2.own
  have T := (TurnAt.refl gm w').setCell 1 v'
  exact ⟨R.turn T (by omega), M.set1 v', own_ring hown M T, (hdrw.other (by omega) T (by omega) (by omega)).out, h.old, h.new, h.low, h.bas⟩
/-- what is handed back. -/
theorem RS.give {w0 w wr : World} {B g n cap gm : Nat} {ao : Option Addr} {i : Int} {v : Value} {xs : List Int} (h : RS w0 w wr B g n cap ao gm i v xs) :
    RgAt ((wr.setCell ⟨w.heap.size, 0, none⟩ (.int .i64 i)).setCell ⟨w.heap.size, 1, none⟩ v) w.heap.size i v ∧
    OwnI ((wr.setCell ⟨w.heap.size, 0, none⟩ (.int .i64 i)).setCell ⟨w.heap.size, 1, none⟩ v) w.heap.size v xs ∧
    Hid (Drw w0 ((wr.setCell ⟨w.heap.size, 0, none⟩ (.int .i64 i)).setCell ⟨w.heap.size, 1, none⟩ v) B g ao n cap) :=
  ⟨h.res.agg i v, own_ring h.own h.res (ring_turn i v), h.drw.other h.bas (ring_turn i v) h.low (by have := h.old; omega)⟩

set_option maxRecDepth 100000 in
set_option maxHeartbeats 4000000 in
theorem ring_any (w0 w : World) (B g n cap : Nat) (ao : Option Addr) (hn : n ≤ 1048576) (hB : B ≤ g) (hd : Hid (Drw w0 w B g ao n cap)) :
    Calls Tryz.prog 97 #[.pointer (some ⟨g, 0, none⟩)] w fun e w' => (∃ (i : Int) (ms : List Int) (v : Value), ringB i ms = true ∧ OwnI w' w.heap.size v ms ∧ e = .returned (.agg #[.int .i64 i, v])) ∧ Hid (Drw w0 w' B g ao n cap) := by
  have hg := hd.out.lt
  have hw0 := hd.out.2.2.size
  have D0 : Hid (Drw w0 (w.alloc (.cells #[.int .i64 0, .slice none 0 0] 37)) B g ao n cap) := hd.out.alloc hB _
  have R0 : Hid (RgAt (w.alloc (.cells #[.int .i64 0, .slice none 0 0] 37)) w.heap.size 0 (.slice none 0 0)) := heap_alloc_new w _
  clear hd
  go_enter Tryz.func97, Tryz.ntmps97
  go_wp2_with fail
  generalize w.alloc (.cells #[.int .i64 0, .slice none 0 0] 37) = W0 at *
  refine (below_small W0 _ B g n cap 3 ao hn hB (by omega) (by omega) D0.out.here).mono ?_
  rintro e w3 ⟨⟨x, hx, rfl⟩, hd3⟩
  have R3 : Hid (RgAt w3 w.heap.size 0 (.slice none 0 0)) := R0.out.keep hd3.out.2.2 (by omega)
  have D3 := D0.out.back hd3.out
  have hN3 := R3.out.lt
  clear hd3 D0 R0
  have L3 : Hid (RS w0 w (w3.alloc (.cells #[.int .i64 (1 + (x : Int)), .slice none 0 0] 37)) B g n cap ao w3.heap.size (1 + (x : Int)) (.slice none 0 0) []) :=
    ⟨R3.out.stays ((Below.refl _ _).alloc (Nat.le_refl _) _) hN3, heap_alloc_new w3 _, ownI_nil _ _, D3.out.alloc hB _, hg, hN3, hw0, by omega⟩
  go_wp2_with fail
  generalize w3.alloc (.cells #[.int .i64 (1 + (x : Int)), .slice none 0 0] 37) = W3 at *
  generalize w3.heap.size = gm at *
  have HM0 : Hid (wGo 0 5 ([] : List Int) = true ∧ ∀ y ∈ ([] : List Int), y < ((1 : Nat) : Int)) := ⟨rfl, by simp⟩
  go_loopw [4] (fun ix wr => ∃ (j : Nat) (xs : List Int) (v : Value), 1 ≤ j ∧ j ≤ 5 ∧ ix = .int .i64 j ∧ xs.length < j ∧ Hid (wGo 0 5 xs = true ∧ ∀ y ∈ xs, y < (j : Int)) ∧ Hid (RS w0 w wr B g n cap ao gm (1 + (x : Int)) v xs)) (fun ix _ => 5 - (intOf ix).toNat)
  case atStart => exact ⟨1, [], .slice none 0 0, Nat.le_refl _, by omega, rfl, Nat.zero_lt_one, HM0, L3⟩
  case round =>
    clear L3 HM0
    obtain ⟨j, xs, v, hj1, hj, rfl, hxl, HM, L⟩ := hrel
    obtain ⟨ao', cap', hvf⟩ := L.out.own.form
    subst hvf
    by_cases hjz : j ≤ 4
    · go_wp2_with fail
      refine (once_any wr _ B g n cap 3 ao hn hB (by omega) (by omega) L.out.drw.here).mono ?_
      rintro e w6 ⟨⟨b6, rfl⟩, hd6⟩
      have L6 : Hid (RS w0 w w6 B g n cap ao gm (1 + (x : Int)) (.slice ao' xs.length cap') xs) := L.out.draw hd6.out
      have c5 := L6.out.rng.cells.2
      have f5 := L6.out.rng.frozen 1
      have OW := L6.out.own
      have hs6 : w.heap.size ≤ w6.heap.size := Nat.le_of_lt L6.out.res.lt
      clear hd6 L
      cases b6 with
      | false =>
        go_wp2_with (first | (at_builtin; refine wpList_pushG rfl _ _ 33 rfl Tryz.underlying33 Tryz.info3' w.heap.size _ xs rfl OW _ rfl (by omega) hs6 ?_; intro v7 w7 hown7 hg7; obtain ⟨ao7, cap7, hvf7⟩ := hown7.form; subst hvf7; have M7 := RgAt.grown (L6.out.rng.stays ((Below.refl w6.heap.size w6).alloc (Nat.le_refl _) _) L6.out.rng.lt) (OW.alloc _) hg7; have c7 := M7.cells.2; have f7 := M7.frozen 1))
        have L7 := L6.out.push hB hown7 hg7
        have e7 : (xs ++ [(j : Int)]).length = xs.length + 1 := by simp
        rw [e7] at L7
        have HM2 : Hid (wGo 0 5 (xs ++ [(j : Int)]) = true ∧ ∀ y ∈ xs ++ [(j : Int)], y < ((j + 1 : Nat) : Int)) := by
          refine ⟨wGo_snoc xs 0 j HM.out.1 (by omega) HM.out.2 (by omega), fun y hy => ?_⟩
          rcases List.mem_append.1 hy with h | h
          · have := HM.out.2 y h; omega
          · simp at h; omega
        go_roundw
        case rel => exact ⟨j + 1, xs ++ [(j : Int)], _, by omega, by omega, by go_num, by simp; omega, HM2, L7⟩
        case measure => simp [intOf]; omega
      | true =>
        have HM2 : Hid (wGo 0 5 xs = true ∧ ∀ y ∈ xs, y < ((j + 1 : Nat) : Int)) := ⟨HM.out.1, fun y hy => by have := HM.out.2 y hy; omega⟩
        go_wp2_with fail
        go_roundw
        case rel => exact ⟨j + 1, xs, _, by omega, by omega, by go_num, by omega, HM2, L6⟩
        case measure => simp [intOf]; omega
    · have hgt : ¬ (j : Int) ≤ 4 := by omega
      obtain ⟨m0, m1⟩ := L.out.rng.cells
      have f1 := L.out.rng.frozen 1
      by_cases h0 : xs.length = 0
      · have OW2 : Hid (OwnI (wr.alloc (.cells #[.int .i64 2] 3)) w.heap.size (.slice (some ⟨wr.heap.size, 0, none⟩) 1 1) [2]) := OwnI.lit wr w.heap.size [2] (Nat.le_of_lt L.out.res.lt) (by simp)
        have L2 := (L.out.below hB ((Below.refl wr.heap.size wr).alloc (Nat.le_refl _) (.cells #[.int .i64 2] 3)))
        have n0 := L2.rng.cells.2
        have n1 := L2.rng.frozen 1
        have L8 : Hid (RS w0 w ((wr.alloc (.cells #[.int .i64 2] 3)).setCell ⟨gm, 1, none⟩ (.slice (some ⟨wr.heap.size, 0, none⟩) 1 1)) B g n cap ao gm (1 + (x : Int)) (.slice (some ⟨wr.heap.size, 0, none⟩) 1 1) [2]) := L2.set OW2.out
        obtain ⟨m80, m81⟩ := L8.out.rng.cells
        obtain ⟨c0, c1⟩ := L8.out.res.cells
        have z0 := L8.out.res.frozen 0
        have z1 := L8.out.res.frozen 1
        have G9 : Hid _ := L8.out.give
        rw [h0] at m1 n0
        clear L L2 L8 OW2 h0
        go_wp2_with fail
        obtain ⟨R9, O9, D9⟩ := G9.out
        clear G9
        generalize ((((wr.alloc (.cells #[.int .i64 2] 3)).setCell ⟨gm, 1, none⟩ (.slice (some ⟨wr.heap.size, 0, none⟩) 1 1)).setCell ⟨w.heap.size, 0, none⟩ (.int .i64 (1 + (x : Int)))).setCell ⟨w.heap.size, 1, none⟩ (.slice (some ⟨wr.heap.size, 0, none⟩) 1 1)) = W9 at *
        obtain ⟨q0, q1⟩ := R9.cells
        refine bodyPost_ret (v := .agg #[.int .i64 (1 + (x : Int)), .slice (some ⟨wr.heap.size, 0, none⟩) 1 1]) (by simp [results, Tryz.results97, go_sem, q0, q1]) rfl ?_
        have hr : ringB (1 + (x : Int)) [2] = true := by unfold ringB; rw [decide_eq_true (show 1 ≤ 1 + (x : Int) ∧ 1 + (x : Int) ≤ 9 by omega)]; rfl
        exact ⟨⟨1 + (x : Int), [2], hr, _, O9, rfl⟩, D9⟩
      · have h0i : ¬ (xs.length : Int) = 0 := by omega
        have h0d : ((xs.length : Int) == 0) = false := by simpa using h0
        have h0e : ¬ xs = [] := by intro h; rw [h] at h0; simp at h0
        obtain ⟨c0, c1⟩ := L.out.res.cells
        have z0 := L.out.res.frozen 0
        have z1 := L.out.res.frozen 1
        have G9 : Hid _ := L.out.give
        clear L
        go_wp2_with fail
        obtain ⟨R9, O9, D9⟩ := G9.out
        clear G9
        generalize ((wr.setCell ⟨w.heap.size, 0, none⟩ (.int .i64 (1 + (x : Int)))).setCell ⟨w.heap.size, 1, none⟩ (.slice ao' xs.length cap')) = W9 at *
        obtain ⟨q0, q1⟩ := R9.cells
        refine bodyPost_ret (v := .agg #[.int .i64 (1 + (x : Int)), .slice ao' xs.length cap']) (by simp [results, Tryz.results97, go_sem, q0, q1]) rfl ?_
        have hr : ringB (1 + (x : Int)) xs = true := by unfold ringB; rw [decide_eq_true (show 1 ≤ 1 + (x : Int) ∧ 1 + (x : Int) ≤ 9 by omega), decide_eq_true (show 0 < xs.length by omega), HM.out.1]; rfl
        exact ⟨⟨1 + (x : Int), xs, hr, _, O9, rfl⟩, D9⟩
end Go.Proofs.YtoahljkifikbaaaGreat


