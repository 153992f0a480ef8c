/- Joined texts: CC4 CLb CJ2 CJ3 CJ4 CT2 CRg CRs CRh CRn CSs0. -/
import Derived.Test.YtdodeillifoibaaSq4
import Derived.Deep.RegionHeld3
import Derived.Deep.QuietTactic
import Derived.BigQuiet
import Derived.Deep.RegionWith
import Derived.Laws.MakeOwn
/- Slices of ints compared, written over and looked at again. -/
namespace Go.Proofs.Ytdodeillifoibaa
open Go.RowKit Pl
set_option linter.unusedVariables false

/-- what markIntS writes. -/
def marks (K n : Nat) : List Int := (List.range n).map fun (j : Nat) => ((K + j : Nat) : Int)
theorem Pl.OwnI.keep {w w' : World} {B : Nat} {v : Value} {ss : List Int} (h : OwnI w B v ss) (hk : ∀ k, v.ownBlock = Option.some k → k < w.heap.size → w'.heap[k]? = w.heap[k]?) : OwnI w' B v ss := by
  refine ⟨h.1, ?_⟩
  rcases h.2 with hn | ⟨g, cap, cur, rfl, hbg, hg, rest⟩
  · exact .inl hn
  · exact .inr ⟨g, cap, cur, rfl, hbg, (hk g rfl (Array.getElem?_eq_some_iff.1 hg).1).trans hg, rest⟩
theorem Pl.OwnI.under {w w' : World} {B : Nat} {v : Value} {ss : List Int} (h : OwnI w B v ss) (hb : Below w.heap.size w w') : OwnI w' B v ss := h.keep fun k _ hk => hb.block k hk
end Go.Proofs.Ytdodeillifoibaa


/- Small things that the laws lean on. -/
namespace Go.Proofs.Ytdodeillifoibaa
open Go.RowKit Pl
set_option linter.unusedVariables false
theorem bl_next {a b c : World} (h : Below a.heap.size a b) (k : Below b.heap.size b c) : Below a.heap.size a c := h.trans (k.mono h.size)
theorem ownI_nil (w : World) (B : Nat) : OwnI w B (.slice none 0 0) [] := ⟨by simp, .inl ⟨rfl, rfl⟩⟩
end Go.Proofs.Ytdodeillifoibaa


/- The walk over the specification's ItemsOk. -/
namespace Go.Proofs.Ytdodeillifoibaa
open Go.RowKit Pl
set_option linter.unusedVariables false

theorem quietC {P : Program} {C : World → Prop} {id : Nat} {Q : Exit → Act → World → Prop} {a : Act} {w : World} {l : List Oper} (hm : P.follows .mixedOrders = true) (hB : Region.lexB .any l.toArray = true) (hC : C { w with drawn := w.drawn + 1 })
    (h : wpQuiet P l.toArray C (fun a' => ∀ w', C w' → Q .normal a' w') l a) : (Code.region id l.toArray true).wp P Q a w :=
  wp_region_quiet (C := C) hm hB hC (by simpa using h)
theorem q_val {P : Program} {C : World → Prop} {o : Oper} {a : Act} {K : Act → Prop} (v : Value) (h : ∀ w, C w → (execOp a.eval o).run P w = .ok (.value v) w) (hk : K (a.put o.dst v)) : o.quiet P a C K :=
  ⟨v, fun w hw => by unfold Oper.quietAt; rw [h w hw]; exact ⟨rfl, rfl⟩, hk⟩
theorem q_call {P : Program} {C : World → Prop} {o : Oper} {a : Act} {K : Act → Prop} (v : Value) (f : FuncId) (args : Array Value) (h : ∀ w, C w → (execOp a.eval o).run P w = .ok (.enter f args) w) (hc : ∀ w, C w → Calls P f args w fun e w' => e = .returned v ∧ C w') (hk : K (a.put o.dst v)) : o.quiet P a C K :=
  ⟨v, fun w hw => by unfold Oper.quietAt; rw [h w hw]; exact ⟨rfl, hc w hw⟩, hk⟩

theorem cells4_step {W w w' : World} {b o0 o1 o2 o3 : Nat} {v0 v1 v2 v3 : Value} (hbb : b < W.heap.size) (h : (w.cell? ⟨b, o0, none⟩ = some v0 ∧ w.cell? ⟨b, o1, none⟩ = some v1 ∧ w.cell? ⟨b, o2, none⟩ = some v2 ∧ w.cell? ⟨b, o3, none⟩ = some v3) ∧ Hid (Below W.heap.size W w)) (hb : Below w.heap.size w w') :
    (w'.cell? ⟨b, o0, none⟩ = some v0 ∧ w'.cell? ⟨b, o1, none⟩ = some v1 ∧ w'.cell? ⟨b, o2, none⟩ = some v2 ∧ w'.cell? ⟨b, o3, none⟩ = some v3) ∧ Hid (Below W.heap.size W w') := by
  obtain ⟨⟨h0, h1, h2, h3⟩, h4⟩ := h
  have hlt : b < w.heap.size := Nat.lt_of_lt_of_le hbb h4.out.size
  exact ⟨⟨(hb.cell (p := ⟨b, o0, none⟩) hlt).trans h0, (hb.cell (p := ⟨b, o1, none⟩) hlt).trans h1, (hb.cell (p := ⟨b, o2, none⟩) hlt).trans h2, (hb.cell (p := ⟨b, o3, none⟩) hlt).trans h3⟩, h4.out.trans (hb.mono h4.out.size)⟩

end Go.Proofs.Ytdodeillifoibaa


/- The walks over lists of items that a law copies, sizes and compares. -/
namespace Go.Proofs.Ytdodeillifoibaa
open Go.RowKit Pl
set_option linter.unusedVariables false

theorem Try.infoI : (Try.prog.info? 57).map (fun i => (i.zero, i.size, i.bytes)) = some (some (.agg #[.int .i64 0, .int .i64 0, .int .i64 0, .string ⟨#[]⟩]), 4, 40) := by kernel_rfl

/-- the first k items of a row. -/
def RowIt (w : World) (g n : Nat) (ts : List It) (k : Nat) : Prop :=
  ∃ arr : Array Value, w.heap[g]? = some (.cells arr 57 (0, 0)) ∧ arr.size = n * 4 ∧ ∀ i (h : i < ts.length), i < k → arr[i * 4]? = some (.int .i64 ts[i].1) ∧ arr[i * 4 + 1]? = some (.int .i64 ts[i].2.1) ∧ arr[i * 4 + 2]? = some (.int .i64 ts[i].2.2.1) ∧ arr[i * 4 + 3]? = some (.string ts[i].2.2.2)
theorem RowIt.stays {w w' : World} {B g n k : Nat} {ts : List It} (h : RowIt w g n ts k) (hb : Below B w w') (hg : g < B) : RowIt w' g n ts k := by
  obtain ⟨arr, h1, h2⟩ := h
  exact ⟨arr, (hb.block g hg).trans h1, h2⟩
theorem RowIt.lt {w : World} {g n k : Nat} {ts : List It} (h : RowIt w g n ts k) : g < w.heap.size := by
  obtain ⟨arr, h1, _⟩ := h
  exact (Array.getElem?_eq_some_iff.1 h1).1
theorem RowIt.cell {w : World} {g n k : Nat} {ts : List It} (h : RowIt w g n ts k) (i : Nat) (hi : i < n * 4) : ∃ v, w.cell? ⟨g, i, none⟩ = some v := by
  obtain ⟨arr, h1, h2, _⟩ := h
  refine ⟨arr[i]'(by omega), ?_⟩
  rw [cell_of_row w g i _ 57 (0, 0) h1]
  simp [h2, hi]
theorem RowIt.frozen {w : World} {g n k : Nat} {ts : List It} (h : RowIt w g n ts k) (i : Nat) : w.frozen? ⟨g, i, none⟩ = false := by
  obtain ⟨arr, h1, _⟩ := h
  exact frozen_of_row w g i _ 57 h1
theorem RowIt.set {w : World} {g k : Nat} {ts : List It} (h : RowIt w g ts.length ts k) (hk : k < ts.length) :
    RowIt ((((w.setCell ⟨g, k * 4, none⟩ (.int .i64 ts[k].1)).setCell ⟨g, k * 4 + 1, none⟩ (.int .i64 ts[k].2.1)).setCell ⟨g, k * 4 + 2, none⟩ (.int .i64 ts[k].2.2.1)).setCell ⟨g, k * 4 + 3, none⟩ (.string ts[k].2.2.2)) g ts.length ts (k + 1) := by
  obtain ⟨arr, h1, h2, h3⟩ := h
  have e0 := heap_setCell_same w g (k * 4) _ 57 (.int .i64 ts[k].1) h1
  have e1 := heap_setCell_same _ g (k * 4 + 1) _ 57 (.int .i64 ts[k].2.1) e0
  have e2 := heap_setCell_same _ g (k * 4 + 2) _ 57 (.int .i64 ts[k].2.2.1) e1
  have e3 := heap_setCell_same _ g (k * 4 + 3) _ 57 (.string ts[k].2.2.2) e2
  refine ⟨_, e3, by simp [h2], fun i hi hik => ?_⟩
  by_cases hik2 : i = k
  · subst hik2
    refine ⟨?_, ?_, ?_, ?_⟩ <;> simp [Array.getElem?_setIfInBounds, h2] <;> omega
  · obtain ⟨x0, x1, x2, x3⟩ := h3 i hi (by omega)
    have n0 : ∀ a c, a < 4 → c < 4 → ¬ k * 4 + a = i * 4 + c := fun a c _ _ => by omega
    refine ⟨?_, ?_, ?_, ?_⟩
    · rw [Array.getElem?_setIfInBounds_ne (by omega), Array.getElem?_setIfInBounds_ne (by omega), Array.getElem?_setIfInBounds_ne (by omega), Array.getElem?_setIfInBounds_ne (by omega)]; exact x0
    · rw [Array.getElem?_setIfInBounds_ne (by omega), Array.getElem?_setIfInBounds_ne (by omega), Array.getElem?_setIfInBounds_ne (by omega), Array.getElem?_setIfInBounds_ne (by omega)]; exact x1
    · rw [Array.getElem?_setIfInBounds_ne (by omega), Array.getElem?_setIfInBounds_ne (by omega), Array.getElem?_setIfInBounds_ne (by omega), Array.getElem?_setIfInBounds_ne (by omega)]; exact x2
    · rw [Array.getElem?_setIfInBounds_ne (by omega), Array.getElem?_setIfInBounds_ne (by omega), Array.getElem?_setIfInBounds_ne (by omega), Array.getElem?_setIfInBounds_ne (by omega)]; exact x3
theorem RowIt.items {w : World} {g n : Nat} {ts : List It} (h : RowIt w g n ts ts.length) : ItemsAt w (some ⟨g, 0, none⟩) ts := by
  have hlt := h.lt
  obtain ⟨arr, h1, h2, h3⟩ := h
  intro i hi
  obtain ⟨x0, x1, x2, x3⟩ := h3 i hi hi
  refine ⟨g, 0, rfl, hlt, ?_, ?_, ?_, ?_⟩
  · rw [Nat.zero_add, cell_of_row w g _ _ 57 (0, 0) h1]; exact x0
  · rw [Nat.zero_add, cell_of_row w g _ _ 57 (0, 0) h1]; exact x1
  · rw [Nat.zero_add, cell_of_row w g _ _ 57 (0, 0) h1]; exact x2
  · rw [Nat.zero_add, cell_of_row w g _ _ 57 (0, 0) h1]; exact x3
end Go.Proofs.Ytdodeillifoibaa


/- Lists of items copied and compared. -/
namespace Go.Proofs.Ytdodeillifoibaa
open Go.RowKit Pl
set_option linter.unusedVariables false

theorem cells8_step {W w w' : World} {b1 b2 o0 o1 o2 o3 p0 p1 p2 p3 : Nat} {v0 v1 v2 v3 : Value} (h1 : b1 < W.heap.size) (h2 : b2 < W.heap.size)
    (h : ((w.cell? ⟨b1, o0, none⟩ = some v0 ∧ w.cell? ⟨b1, o1, none⟩ = some v1 ∧ w.cell? ⟨b1, o2, none⟩ = some v2 ∧ w.cell? ⟨b1, o3, none⟩ = some v3) ∧ w.cell? ⟨b2, p0, none⟩ = some v0 ∧ w.cell? ⟨b2, p1, none⟩ = some v1 ∧ w.cell? ⟨b2, p2, none⟩ = some v2 ∧ w.cell? ⟨b2, p3, none⟩ = some v3) ∧ Hid (Below W.heap.size W w)) (hb : Below w.heap.size w w') :
    ((w'.cell? ⟨b1, o0, none⟩ = some v0 ∧ w'.cell? ⟨b1, o1, none⟩ = some v1 ∧ w'.cell? ⟨b1, o2, none⟩ = some v2 ∧ w'.cell? ⟨b1, o3, none⟩ = some v3) ∧ w'.cell? ⟨b2, p0, none⟩ = some v0 ∧ w'.cell? ⟨b2, p1, none⟩ = some v1 ∧ w'.cell? ⟨b2, p2, none⟩ = some v2 ∧ w'.cell? ⟨b2, p3, none⟩ = some v3) ∧ Hid (Below W.heap.size W w') := by
  obtain ⟨⟨ha, hc⟩, h4⟩ := h
  have A := cells4_step h1 ⟨ha, h4⟩ hb
  have C := cells4_step h2 ⟨hc, h4⟩ hb
  exact ⟨⟨A.1, C.1⟩, A.2⟩

set_option maxRecDepth 100000 in
set_option maxHeartbeats 1000000 in
theorem eqItems_same (a1 a2 : Option Addr) (c1 c2 : Nat) (ts : List It) (w : World) (hx1 : Hid (ItemsAt w a1 ts)) (hx2 : Hid (ItemsAt w a2 ts)) (hl : ts.length ≤ 1048576) :
    Calls Try.prog 11 #[.slice a1 ts.length c1, .slice a2 ts.length c2] w fun e w' => e = .returned (.bool true) ∧ Below w.heap.size w w' := by
  go_enter Try.func11, Try.ntmps11
  go_wp2
  go_loopw [5] (fun i wr => ∃ k : Nat, k ≤ ts.length ∧ i = .int .i64 k ∧ Hid (Below w.heap.size w wr)) (fun i _ => ts.length - (intOf i).toNat)
  case atStart => exact ⟨0, by omega, rfl, Below.refl _ _⟩
  case round =>
    obtain ⟨k, hk, rfl, hb⟩ := hrel
    by_cases hlt : k < ts.length
    · obtain ⟨b1, off1, rfl, hbb1, h0, h1, h2, h3⟩ := hx1.out.stays hb.out k hlt
      obtain ⟨b2, off2, rfl, hbb2, g0, g1, g2, g3⟩ := hx2.out.stays hb.out k hlt
      have HP : Hid (∃ x : It, x = ts[k]) := ⟨_, rfl⟩
      obtain ⟨⟨q, f, lv, tx⟩, hp⟩ := HP.out
      rw [← hp] at h0 h1 h2 h3 g0 g1 g2 g3
      clear hp HP
      dsimp only at h0 h1 h2 h3 g0 g1 g2 g3
      have i0 : (0 : Int) ≤ (k : Int) := by omega
      have i1 : (k : Int) < (ts.length : Int) := by omega
      go_wp2_with fail
      refine quietC (C := (fun w' => ((w'.cell? ⟨b1, off1 + k * 4, none⟩ = some (.int .i64 q) ∧ w'.cell? ⟨b1, off1 + k * 4 + 1, none⟩ = some (.int .i64 f) ∧ w'.cell? ⟨b1, off1 + k * 4 + 2, none⟩ = some (.int .i64 lv) ∧ w'.cell? ⟨b1, off1 + k * 4 + 3, none⟩ = some (.string tx)) ∧ w'.cell? ⟨b2, off2 + k * 4, none⟩ = some (.int .i64 q) ∧ w'.cell? ⟨b2, off2 + k * 4 + 1, none⟩ = some (.int .i64 f) ∧ w'.cell? ⟨b2, off2 + k * 4 + 2, none⟩ = some (.int .i64 lv) ∧ w'.cell? ⟨b2, off2 + k * 4 + 3, none⟩ = some (.string tx)) ∧ Hid (Below wr.heap.size wr w'))) (by kernel_rfl) (by kernel_rfl) ⟨⟨⟨h0, h1, h2, h3⟩, g0, g1, g2, g3⟩, (Below.refl _ _).drew⟩ ?_
      go_big_quiet_want
      go_big_quiet_op
      go_big_quiet_on
      go_big_quiet_want
      go_big_quiet_op
      go_big_quiet_on
      go_big_quiet_want
      refine q_val (.pointer (some ⟨b1, off1 + k * 4, none⟩)) (fun w' hw' => by go_simp) ?_
      go_big_quiet_on
      simp only [Act.put, List.setIfInBounds_toArray, List.set_cons_zero, List.set_cons_succ]
      go_big_quiet_want
      refine q_val (.agg #[.int .i64 q, .int .i64 f, .int .i64 lv, .string tx]) (fun w' hw' => by obtain ⟨⟨⟨j0, j1, j2, j3⟩, _⟩, _⟩ := hw'; go_simp) ?_
      go_big_quiet_on
      simp only [Act.put, List.setIfInBounds_toArray, List.set_cons_zero, List.set_cons_succ]
      go_big_quiet_want
      go_big_quiet_op
      go_big_quiet_on
      go_big_quiet_want
      go_big_quiet_op
      go_big_quiet_on
      go_big_quiet_want
      refine q_val (.pointer (some ⟨b2, off2 + k * 4, none⟩)) (fun w' hw' => by go_simp) ?_
      go_big_quiet_on
      simp only [Act.put, List.setIfInBounds_toArray, List.set_cons_zero, List.set_cons_succ]
      go_big_quiet_want
      refine q_val (.agg #[.int .i64 q, .int .i64 f, .int .i64 lv, .string tx]) (fun w' hw' => by obtain ⟨⟨_, j0, j1, j2, j3⟩, _⟩ := hw'; go_simp) ?_
      go_big_quiet_on
      simp only [Act.put, List.setIfInBounds_toArray, List.set_cons_zero, List.set_cons_succ]
      go_big_quiet_want
      refine q_call (.bool true) 29 #[.agg #[.int .i64 q, .int .i64 f, .int .i64 lv, .string tx], .agg #[.int .i64 q, .int .i64 f, .int .i64 lv, .string tx]] (fun w' hw' => by go_simp) (fun w' hw' => (eqItem_same q f lv tx _).mono fun e w'' ⟨he, hb1⟩ => ⟨he, cells8_step hbb1 hbb2 hw' hb1⟩) ?_
      go_big_quiet_on
      simp only [Act.put, List.setIfInBounds_toArray, List.set_cons_zero, List.set_cons_succ]
      go_big_quiet_want
      refine q_val (.bool false) (fun w' hw' => by go_simp) ?_
      go_big_quiet_on
      simp only [Act.put, List.setIfInBounds_toArray, List.set_cons_zero, List.set_cons_succ]
      refine wpQuiet_nil ?_
      intro w1 hcw
      have B1 : Hid (Below w.heap.size w w1) := hb.out.trans (hcw.2.out.mono hb.out.size)
      clear hcw h0 h1 h2 h3 g0 g1 g2 g3
      go_wp2_with fail
      go_roundw
      case rel => exact ⟨k + 1, by omega, by go_num, B1.out⟩
      case measure => simp [intOf]; omega
    · go_wp2_with fail
      go_ret
      exact ⟨rfl, hb.out⟩

end Go.Proofs.Ytdodeillifoibaa


/- The walk over the specification's TokenOk. -/
namespace Go.Proofs.Ytdodeillifoibaa
open Go.RowKit Pl
set_option linter.unusedVariables false
end Go.Proofs.Ytdodeillifoibaa


/- Rings in plain words, and the walks over both RingOk. -/
namespace Go.Proofs.Ytdodeillifoibaa
open Go.RowKit Pl
set_option linter.unusedVariables false

/-- a ring is right. -/
def ringB (i : Int) (ms : List Int) : Bool := decide (1 ≤ i ∧ i ≤ 9) && (decide (0 < ms.length) && wGo 0 5 ms)

/-- the block g is a ring. -/
def RgAt (w : World) (g : Nat) (i : Int) (v : Value) : Prop := w.heap[g]? = some (.cells #[.int .i64 i, v] 56 (0, 0))
theorem RgAt.cells {w : World} {g : Nat} {i : Int} {v : Value} (h : RgAt w g i v) : w.cell? ⟨g, 0, none⟩ = some (.int .i64 i) ∧ w.cell? ⟨g, 1, none⟩ = some v :=
  ⟨by rw [cell_of_row w g 0 _ 56 (0, 0) h]; rfl, by rw [cell_of_row w g 1 _ 56 (0, 0) h]; rfl⟩
theorem RgAt.stays {w w' : World} {B g : Nat} {i : Int} {v : Value} (h : RgAt w g i v) (hb : Below B w w') (hg : g < B) : RgAt w' g i v := (hb.block g hg).trans h
theorem RgAt.lt {w : World} {g : Nat} {i : Int} {v : Value} (h : RgAt w g i v) : g < w.heap.size := (Array.getElem?_eq_some_iff.1 h).1
theorem RgAt.frozen {w : World} {g : Nat} {i : Int} {v : Value} (h : RgAt w g i v) (k : Nat) : w.frozen? ⟨g, k, none⟩ = false := by
  unfold RgAt at h
  simp [World.frozen?, h]

end Go.Proofs.Ytdodeillifoibaa


/- Rings that a law sizes, copies, compares and writes over. -/
namespace Go.Proofs.Ytdodeillifoibaa
open Go.RowKit Pl
set_option linter.unusedVariables false

theorem RgAt.set1 {w : World} {g : Nat} {i : Int} {v : Value} (h : RgAt w g i v) (u : Value) : RgAt (w.setCell ⟨g, 1, none⟩ u) g i u := by
  have := heap_setCell_same w g 1 _ 56 u h
  unfold RgAt; rw [this]; rfl
theorem RgAt.turn {w w' : World} {g k : Nat} {i : Int} {v : Value} (h : RgAt w g i v) (hk : TurnAt k w w') (hg : g ≠ k) : RgAt w' g i v := (hk.block g hg).trans h
theorem RgAt.agg {w : World} {g : Nat} {i : Int} {v : Value} (h : RgAt w g i v) (i' : Int) (v' : Value) :
    RgAt ((w.setCell ⟨g, 0, none⟩ (.int .i64 i')).setCell ⟨g, 1, none⟩ v') g i' v' := by
  have h0 := heap_setCell_same w g 0 _ 56 (.int .i64 i') h
  have h1 := heap_setCell_same _ g 1 _ 56 v' h0
  unfold RgAt; rw [h1]; rfl
/-- a list's block is no ring's. -/
theorem own_ring {w w' : World} {B g : Nat} {v : Value} {xs : List Int} {i : Int} {u : Value} (h : OwnI w B v xs) (hu : RgAt w g i u) (ht : TurnAt g w w') : OwnI w' B v xs := by
  refine ⟨h.1, ?_⟩
  rcases h.2 with hn | ⟨k, cap, cur, rfl, hbg, hk, rest⟩
  · exact .inl hn
  · have hne : k ≠ g := by
      rintro rfl
      unfold RgAt at hu
      rw [hk] at hu
      simp at hu
    exact .inr ⟨k, cap, cur, rfl, hbg, (ht.block k hne).trans hk, rest⟩

set_option maxRecDepth 100000 in
set_option maxHeartbeats 2000000 in
theorem toRing_any (i : Int) (ao : Option Addr) (cap : Nat) (ws : List Int) (w : World) (hx : Hid (IntsAt w ao ws)) (hl : ws.length ≤ 1048576) :
    Calls Try.prog 53 #[.agg #[.int .i64 i, .slice ao ws.length cap]] w fun e w' => ∃ v, e = .returned (.agg #[.int .i64 i, v]) ∧ OwnI w' w.heap.size v ws ∧ Below w.heap.size w w' := by
  have hn1 : (w.alloc (.cells #[.int .i64 i, .slice ao ws.length cap] 51)).heap.size = w.heap.size + 1 := by simp
  have hn2 : ((w.alloc (.cells #[.int .i64 i, .slice ao ws.length cap] 51)).alloc (.cells #[.int .i64 0, .slice none 0 0] 56)).heap.size = w.heap.size + 2 := by simp
  have HR : Hid (RgAt (((w.alloc (.cells #[.int .i64 i, .slice ao ws.length cap] 51)).alloc (.cells #[.int .i64 0, .slice none 0 0] 56)).alloc (.cells #[.int .i64 i, .slice none 0 0] 56)) (w.heap.size + 1) 0 (.slice none 0 0)) := by
    have h := heap_alloc_new (w.alloc (.cells #[.int .i64 i, .slice ao ws.length cap] 51)) (.cells #[.int .i64 0, .slice none 0 0] 56)
    rw [hn1] at h
    exact RgAt.stays (B := w.heap.size + 2) h ((Below.refl _ _).alloc (by rw [hn2]; exact Nat.le_refl _) _) (by omega)
  have HO : Hid (RgAt (((w.alloc (.cells #[.int .i64 i, .slice ao ws.length cap] 51)).alloc (.cells #[.int .i64 0, .slice none 0 0] 56)).alloc (.cells #[.int .i64 i, .slice none 0 0] 56)) (w.heap.size + 2) i (.slice none 0 0)) := by
    have h := heap_alloc_new ((w.alloc (.cells #[.int .i64 i, .slice ao ws.length cap] 51)).alloc (.cells #[.int .i64 0, .slice none 0 0] 56)) (.cells #[.int .i64 i, .slice none 0 0] 56)
    rw [hn2] at h
    exact h
  have HB : Hid (Below w.heap.size w (((w.alloc (.cells #[.int .i64 i, .slice ao ws.length cap] 51)).alloc (.cells #[.int .i64 0, .slice none 0 0] 56)).alloc (.cells #[.int .i64 i, .slice none 0 0] 56))) := (((Below.refl _ _).alloc (Nat.le_refl _) _).alloc (by simp) _).alloc (by simp; omega) _
  have HX : Hid (IntsAt (((w.alloc (.cells #[.int .i64 i, .slice ao ws.length cap] 51)).alloc (.cells #[.int .i64 0, .slice none 0 0] 56)).alloc (.cells #[.int .i64 i, .slice none 0 0] 56)) ao ws) := hx.out.stays HB.out
  clear hn1 hn2 hx
  go_enter Try.func53, Try.ntmps53
  go_wp2_with fail
  generalize (((w.alloc (.cells #[.int .i64 i, .slice ao ws.length cap] 51)).alloc (.cells #[.int .i64 0, .slice none 0 0] 56)).alloc (.cells #[.int .i64 i, .slice none 0 0] 56)) = W at *
  refine (toI_any W ao cap ws HX hl).mono ?_
  rintro e w1 ⟨v, rfl, hv, hb1⟩
  have R1 : Hid (RgAt w1 (w.heap.size + 1) 0 (.slice none 0 0)) := HR.out.stays hb1 HR.out.lt
  have O1 : Hid (RgAt w1 (w.heap.size + 2) i (.slice none 0 0)) := HO.out.stays hb1 HO.out.lt
  have B1 : Hid (Below w.heap.size w w1) := HB.out.trans (hb1.mono HB.out.size)
  have V1 : Hid (OwnI w1 w.heap.size v ws) := hv.down HB.out.size
  obtain ⟨ao', cap', rfl⟩ := hv.form
  have c5 := O1.out.cells.2
  have f5 := O1.out.frozen 1
  clear hv hb1 HR HO HB HX
  have T2 := (TurnAt.refl (w.heap.size + 2) w1).setCell 1 (.slice ao' ws.length cap')
  have R2 : Hid (RgAt (w1.setCell ⟨w.heap.size + 2, 1, none⟩ (.slice ao' ws.length cap')) (w.heap.size + 1) 0 (.slice none 0 0)) := R1.out.turn T2 (by omega)
  have O2 : Hid (RgAt (w1.setCell ⟨w.heap.size + 2, 1, none⟩ (.slice ao' ws.length cap')) (w.heap.size + 2) i (.slice ao' ws.length cap')) := O1.out.set1 _
  have B2 : Hid (Below w.heap.size w (w1.setCell ⟨w.heap.size + 2, 1, none⟩ (.slice ao' ws.length cap'))) := B1.out.trans (T2.below (by omega))
  have V2 : Hid (OwnI (w1.setCell ⟨w.heap.size + 2, 1, none⟩ (.slice ao' ws.length cap')) w.heap.size (.slice ao' ws.length cap') ws) := own_ring V1.out O1.out T2
  clear T2 R1 O1 B1 V1
  obtain ⟨o0, o1⟩ := O2.out.cells
  obtain ⟨r0, r1⟩ := R2.out.cells
  have z0 := R2.out.frozen 0
  have z1 := R2.out.frozen 1
  have R3 : RgAt _ (w.heap.size + 1) i (.slice ao' ws.length cap') := R2.out.agg i (.slice ao' ws.length cap')
  have T3 := ((TurnAt.refl (w.heap.size + 1) (w1.setCell ⟨w.heap.size + 2, 1, none⟩ (.slice ao' ws.length cap'))).setCell 0 (.int .i64 i)).setCell 1 (.slice ao' ws.length cap')
  have V3 := own_ring V2.out R2.out T3
  have B3 := B2.out.trans (T3.below (by omega))
  clear T3 R2 O2 B2 V2
  go_wp2_with fail
  generalize (((w1.setCell ⟨w.heap.size + 2, 1, none⟩ (.slice ao' ws.length cap')).setCell ⟨w.heap.size + 1, 0, none⟩ (.int .i64 i)).setCell ⟨w.heap.size + 1, 1, none⟩ (.slice ao' ws.length cap')) = W3 at *
  obtain ⟨q0, q1⟩ := R3.cells
  refine bodyPost_ret (v := .agg #[.int .i64 i, .slice ao' ws.length cap']) (by simp [results, Try.results53, go_sem, q0, q1]) rfl ?_
  exact ⟨_, rfl, V3, B3⟩

set_option maxRecDepth 100000 in
set_option maxHeartbeats 1000000 in
theorem eqRing_same (i : Int) (v1 v2 : Value) (ws : List Int) (B1 B2 : Nat) (w : World) (h1 : Hid (OwnI w B1 v1 ws)) (h2 : Hid (OwnI w B2 v2 ws)) (hl : ws.length ≤ 1048576) :
    Calls Try.prog 57 #[.agg #[.int .i64 i, v1], .agg #[.int .i64 i, v2]] w fun e w' => e = .returned (.bool true) ∧ Below w.heap.size w w' := by
  obtain ⟨ao1, cap1, rfl⟩ := h1.out.form
  obtain ⟨ao2, cap2, rfl⟩ := h2.out.form
  go_enter Try.func57, Try.ntmps57
  go_wp2_with fail
  refine (eqI_same _ _ ws B1 B2 _ ((h1.out.alloc _).alloc _) ((h2.out.alloc _).alloc _) hl).mono ?_
  rintro e w1 ⟨rfl, hb1⟩
  go_wp2_with fail
  go_ret
  exact ⟨rfl, (((Below.refl _ _).alloc (Nat.le_refl _) _).alloc (by simp) _).trans (hb1.mono (by simp; omega))⟩

/-- the block g is a ring that was handed in. -/
def LrgAt (w : World) (g : Nat) (i : Int) (v : Value) : Prop := w.heap[g]? = some (.cells #[.int .i64 i, v] 51 (0, 0))
theorem LrgAt.cells {w : World} {g : Nat} {i : Int} {v : Value} (h : LrgAt w g i v) : w.cell? ⟨g, 0, none⟩ = some (.int .i64 i) ∧ w.cell? ⟨g, 1, none⟩ = some v :=
  ⟨by rw [cell_of_row w g 0 _ 51 (0, 0) h]; rfl, by rw [cell_of_row w g 1 _ 51 (0, 0) h]; rfl⟩
theorem LrgAt.stays {w w' : World} {B g : Nat} {i : Int} {v : Value} (h : LrgAt w g i v) (hb : Below B w w') (hg : g < B) : LrgAt w' g i v := (hb.block g hg).trans h
theorem LrgAt.lt {w : World} {g : Nat} {i : Int} {v : Value} (h : LrgAt w g i v) : g < w.heap.size := (Array.getElem?_eq_some_iff.1 h).1
end Go.Proofs.Ytdodeillifoibaa


/- The walk over the specification's RingOk. -/
namespace Go.Proofs.Ytdodeillifoibaa
open Go.RowKit Pl
set_option linter.unusedVariables false
end Go.Proofs.Ytdodeillifoibaa


/- The member behind another: slices.Index and both NextOf. -/
namespace Go.Proofs.Ytdodeillifoibaa
open Go.RowKit Pl
set_option linter.unusedVariables false

/-- the first place of d is k. -/
def FirstAt (ms : List Int) (d : Int) (k : Nat) : Prop := ∃ h : k < ms.length, ms[k] = d ∧ ∀ j (hj : j < k), ms[j]'(by omega) ≠ d
/-- d has no place among the first k. -/
def NoneUpto (ms : List Int) (d : Int) (k : Nat) : Prop := ∀ j (hj : j < ms.length), j < k → ms[j] ≠ d
/-- the member behind d. -/
def nextP (i : Int) (ms : List Int) (d : Int) : Int :=
  if ringB i ms then (match ms.findIdx? (fun x => x == d) with | some k => ms.getD ((k + 1) % ms.length) 0 | none => 0) else 0
end Go.Proofs.Ytdodeillifoibaa


/- Of what was there the blocks of a set alone may have turned. -/
namespace Go.Proofs.Ytdodeillifoibaa
open Go.RowKit Pl
set_option linter.unusedVariables false

/-- of what was there the blocks of S alone may have turned. -/
structure Gr (S : Nat → Prop) (w w' : World) : Prop where
  os : w'.os = w.os
  tape : w'.tape = w.tape
  output : w'.output = w.output
  size : w.heap.size ≤ w'.heap.size
  block : ∀ k, k < w.heap.size → ¬ S k → w'.heap[k]? = w.heap[k]?
theorem Gr.refl (S : Nat → Prop) (w : World) : Gr S w w := ⟨rfl, rfl, rfl, Nat.le_refl _, fun _ _ _ => rfl⟩
theorem Gr.trans {S : Nat → Prop} {a b c : World} (h : Gr S a b) (k : Gr S b c) : Gr S a c :=
  ⟨k.os.trans h.os, k.tape.trans h.tape, k.output.trans h.output, Nat.le_trans h.size k.size, fun i hi hs => (k.block i (Nat.lt_of_lt_of_le hi h.size) hs).trans (h.block i hi hs)⟩
theorem Gr.below {S : Nat → Prop} {a b : World} {B : Nat} (h : Gr S a b) (hs : ∀ k, S k → B ≤ k) (hB : B ≤ a.heap.size) : Below B a b := ⟨h.os, h.tape, h.output, h.size, fun k hk => h.block k (by omega) (fun h1 => by have := hs k h1; omega)⟩
end Go.Proofs.Ytdodeillifoibaa


