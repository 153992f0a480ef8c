/- The walks over what the laws use of ends: measured, copied, compared, marked and looked at again. -/
import Derived.Test.YtohagaelenhebaaM1
import Derived.Test.YtohagaelenhebaaLk
import Derived.Laws.MakeOwn
import Derived.Below
namespace Go.Proofs.Ytohagaelenhebaa
open Go.RowKit Pl
set_option linter.unusedVariables false

theorem Try.info9 : (Try.prog.info? 9).map (fun i => (i.zero, i.size, i.bytes)) = some (some (.string ⟨#[]⟩), 1, 16) := by kernel_rfl

/-- the block g is an end. -/
def EndC (w : World) (T g : Nat) (n a : Int) (qv : Value) (gt : Int) (ov : Value) : Prop := w.heap[g]? = some (.cells #[.int .i64 n, .int .i64 a, qv, .int .i64 gt, ov] T (0, 0))
theorem EndC.lt {w : World} {T g : Nat} {n a gt : Int} {qv ov : Value} (h : EndC w T g n a qv gt ov) : g < w.heap.size := (Array.getElem?_eq_some_iff.1 h).1
theorem EndC.cells {w : World} {T g : Nat} {n a gt : Int} {qv ov : Value} (h : EndC w T g n a qv gt ov) : w.cell? ⟨g, 0, none⟩ = some (.int .i64 n) ∧ w.cell? ⟨g, 1, none⟩ = some (.int .i64 a) ∧ w.cell? ⟨g, 2, none⟩ = some qv ∧ w.cell? ⟨g, 3, none⟩ = some (.int .i64 gt) ∧ w.cell? ⟨g, 4, none⟩ = some ov := by
  refine ⟨?_, ?_, ?_, ?_, ?_⟩ <;> rw [cell_of_row w g _ _ T (0, 0) h] <;> rfl
theorem EndC.frozen {w : World} {T g : Nat} {n a gt : Int} {qv ov : Value} (h : EndC w T g n a qv gt ov) (j : Nat) : w.frozen? ⟨g, j, none⟩ = false := frozen_of_row w g j _ T h
theorem EndC.stays {w w' : World} {B T g : Nat} {n a gt : Int} {qv ov : Value} (h : EndC w T g n a qv gt ov) (hb : Below B w w') (hg : g < B) : EndC w' T g n a qv gt ov := (hb.block g hg).trans h
theorem EndC.below {w w' : World} {T g : Nat} {n a gt : Int} {qv ov : Value} (h : EndC w T g n a qv gt ov) (hb : Below w.heap.size w w') : EndC w' T g n a qv gt ov := h.stays hb h.lt
theorem EndC.kept {w w' : World} {row : Option Nat} {T g : Nat} {n a gt : Int} {qv ov : Value} (h : EndC w T g n a qv gt ov) (hg : w.grownBy w' row) (hne : some g ≠ row) : EndC w' T g n a qv gt ov := (hg.block g h.lt hne).trans h
theorem EndC.new (w : World) (T : Nat) (n a gt : Int) (qv ov : Value) : EndC (w.alloc (.cells #[.int .i64 n, .int .i64 a, qv, .int .i64 gt, ov] T)) T w.heap.size n a qv gt ov := heap_alloc_new w _
theorem EndC.set0 {w : World} {T g : Nat} {n a gt : Int} {qv ov : Value} (h : EndC w T g n a qv gt ov) (x : Int) : EndC (w.setCell ⟨g, 0, none⟩ (.int .i64 x)) T g x a qv gt ov := (heap_setCell_same w g 0 _ T _ h).trans rfl
theorem EndC.set1 {w : World} {T g : Nat} {n a gt : Int} {qv ov : Value} (h : EndC w T g n a qv gt ov) (x : Int) : EndC (w.setCell ⟨g, 1, none⟩ (.int .i64 x)) T g n x qv gt ov := (heap_setCell_same w g 1 _ T _ h).trans rfl
theorem EndC.set2 {w : World} {T g : Nat} {n a gt : Int} {qv ov : Value} (h : EndC w T g n a qv gt ov) (x : Value) : EndC (w.setCell ⟨g, 2, none⟩ x) T g n a x gt ov := (heap_setCell_same w g 2 _ T _ h).trans rfl
theorem EndC.set3 {w : World} {T g : Nat} {n a gt : Int} {qv ov : Value} (h : EndC w T g n a qv gt ov) (x : Int) : EndC (w.setCell ⟨g, 3, none⟩ (.int .i64 x)) T g n a qv x ov := (heap_setCell_same w g 3 _ T _ h).trans rfl
theorem EndC.set4 {w : World} {T g : Nat} {n a gt : Int} {qv ov : Value} (h : EndC w T g n a qv gt ov) (x : Value) : EndC (w.setCell ⟨g, 4, none⟩ x) T g n a qv gt x := (heap_setCell_same w g 4 _ T _ h).trans rfl

set_option maxRecDepth 100000 in
set_option maxHeartbeats 1000000 in
theorem sz_any (w : World) (ao : Option Addr) (cap L : Nat) (ts : List ByteArray) (hx : Hid (TextsAt w ao ts)) (hlen : ts.length ≤ maxLen) (hsz : Hid (∀ t ∈ ts, t.size ≤ maxLen)) (hL : L ≤ 1048576) :
    Calls Try.prog 38 #[.slice ao ts.length cap, .int .i64 L] w fun e w' => (e = .returned (.int .i64 (-1)) ∨ ∃ r : Nat, e = .returned (.int .i64 r) ∧ Hid (r + ts.length ≤ L ∧ ∀ t ∈ ts, t.size ≤ 1048576)) ∧ w' = w := by
  unfold maxLen at hlen
  by_cases h : ts.length ≤ L
  · go_enter Try.func38, Try.ntmps38
    go_wp2
    go_loop [1, 5] (fun l i => ∃ k r : Nat, k ≤ ts.length ∧ i = .int .i64 k ∧ l = .int .i64 r ∧ r + ts.length ≤ L ∧ Hid (∀ j (hj : j < ts.length), j < k → ts[j].size ≤ 1048576)) (fun _ i => ts.length - (intOf i).toNat)
    case atStart => exact ⟨0, L - ts.length, by omega, rfl, by go_num, by omega, fun j _ hj => by omega⟩
    case round =>
      obtain ⟨k, r, hk, rfl, rfl, hr, hst⟩ := hrel
      by_cases hlt : k < ts.length
      · obtain ⟨b, off, rfl, hb, hc⟩ := hx.out k hlt
        have hm : (ts[k]).size ≤ 9223372036854775807 := by
          have := hsz.out _ (List.getElem_mem hlt)
          unfold maxLen at this
          omega
        obtain ⟨t, ht⟩ : ∃ t, t = ts[k] := ⟨_, rfl⟩
        rw [← ht] at hc hm
        have HT : Hid (t = ts[k]) := ht
        clear ht
        by_cases hle : t.size ≤ r
        · go_wp2
          go_round
          case rel =>
            refine ⟨k + 1, r - t.size, by omega, by go_num, by go_num, by omega, ?_⟩
            show ∀ j (hj : j < ts.length), j < k + 1 → _
            intro j hj hjk
            by_cases e : j = k
            · subst e; rw [← HT.out]; omega
            · exact hst.out j hj (by omega)
          case measure => simp [intOf]; omega
        · go_wp2
          go_ret
          exact ⟨.inl rfl, rfl⟩
      · go_wp2
        go_ret
        refine ⟨.inr ⟨r, rfl, ?_⟩, rfl⟩
        refine ⟨hr, fun t ht => ?_⟩
        obtain ⟨j, hj, rfl⟩ := List.getElem_of_mem ht
        exact hst.out j hj (by omega)
  · go_enter Try.func38, Try.ntmps38
    go_wp2
    go_ret
    exact ⟨.inl rfl, rfl⟩

set_option maxRecDepth 100000 in
set_option maxHeartbeats 1000000 in
theorem to_any (w : World) (ao : Option Addr) (cap : Nat) (ts : List ByteArray) (hx : Hid (TextsAt w ao ts)) (hl : ts.length ≤ 1048576) :
    Calls Try.prog 39 #[.slice ao ts.length cap] w fun e w' => ∃ v, e = .returned v ∧ OwnS w' w.heap.size v ts ∧ Below w.heap.size w w' := by
  obtain ⟨i0, hi, hz0, hz1, hz2⟩ := info_parts Try.info9
  have hM : madeCells (Value.string ⟨#[]⟩).cells ts.length = ((List.replicate ts.length (⟨#[]⟩ : ByteArray)).map Value.string).toArray := by
    apply Array.ext'
    rw [show (Value.string ⟨#[]⟩).cells = #[Value.string ⟨#[]⟩] from rfl, toList_madeCells_one]
    simp
  have hmk : ∀ W : World, (Instr.makeSlice 24 (.int .i64 (ts.length : Int)) (.int .i64 (ts.length : Int))).run Try.prog W = .ok (.slice (some ⟨W.heap.size, 0, none⟩) ts.length ts.length) (W.alloc (.cells ((List.replicate ts.length (⟨#[]⟩ : ByteArray)).map Value.string).toArray 9)) := fun W => by
    have h := run_make (P := Try.prog) W 24 9 i0 (.string ⟨#[]⟩) Try.underlying24 hi hz0 .i64 .i64 (ts.length : Int) (ts.length : Int) (by omega) (by omega) (by rw [hz2]; omega) (by omega)
    rw [hz1, Int.toNat_natCast, Nat.mul_one, hM] at h
    simpa using h
  clear hM
  have H0 : Hid (OwnS (w.alloc (.cells ((List.replicate ts.length (⟨#[]⟩ : ByteArray)).map Value.string).toArray 9)) w.heap.size (.slice (some ⟨w.heap.size, 0, none⟩) ts.length ts.length) (List.replicate ts.length ⟨#[]⟩)) := by
    have := OwnS.lit w w.heap.size (List.replicate ts.length ⟨#[]⟩) (Nat.le_refl _) (by rw [List.length_replicate]; omega)
    rw [List.length_replicate] at this
    exact this
  generalize hA : ((List.replicate ts.length (⟨#[]⟩ : ByteArray)).map Value.string).toArray = A at hmk H0
  clear hA
  go_enter Try.func39, Try.ntmps39
  go_wp2
  go_loopw [4] (fun i wr => ∃ (k : Nat) (xs : List ByteArray), k ≤ ts.length ∧ i = .int .i64 k ∧ Hid (xs.length = ts.length) ∧ Hid (xs.take k = ts.take k) ∧ Hid (OwnS wr w.heap.size (.slice (some ⟨w.heap.size, 0, none⟩) ts.length ts.length) xs) ∧ w.heap.size < wr.heap.size ∧ Below w.heap.size w wr) (fun i _ => ts.length - (intOf i).toNat)
  case atStart => exact ⟨0, _, by omega, rfl, List.length_replicate, rfl, H0.out, by simp, (Below.refl _ _).alloc (Nat.le_refl _) _⟩
  case round =>
    obtain ⟨k, xs, hk, rfl, hxl, htk, hown, hsz, hb⟩ := hrel
    by_cases hlt : k < ts.length
    · obtain ⟨b, off, rfl, hbb, hc⟩ := hx.out k hlt
      have hc' : wr.cell? ⟨b, off + k, none⟩ = some (.string ts[k]) := (hb.cell (p := ⟨b, off + k, none⟩) hbb).trans hc
      obtain ⟨t, ht⟩ : ∃ t, t = ts[k] := ⟨_, rfl⟩
      rw [← ht] at hc'
      have HT : Hid (t = ts[k]) := ht
      clear ht hc
      have hown2 : OwnS wr w.heap.size (.slice (some ⟨w.heap.size, 0, none⟩) xs.length ts.length) xs := by rw [hxl.out]; exact hown.out
      obtain ⟨x, hce⟩ : ∃ x, wr.cell? ⟨w.heap.size, k, none⟩ = some (.string x) := ⟨xs[k]'(by rw [hxl.out]; exact hlt), by
        have := World.ownsRow.cellAt hown2 k (by rw [hxl.out]; omega)
        rw [this]
        simp [hxl.out, hlt]⟩
      have hfz : wr.frozen? ⟨w.heap.size, k, none⟩ = false := World.ownsRow.frozenAt hown2 k
      have HO : Hid _ := hown2.store k t
      clear hown2
      go_wp2
      go_roundw
      case rel =>
        refine ⟨k + 1, xs.set k t, by omega, by go_num, by rw [List.length_set]; exact hxl.out, ?_, ?_, ?_, hb.setCell (Nat.le_refl _) _⟩
        · show (xs.set k t).take (k + 1) = ts.take (k + 1)
          have hkx : k < xs.length := by rw [hxl.out]; exact hlt
          rw [List.take_succ_eq_append_getElem (by rw [List.length_set]; exact hkx), List.take_succ_eq_append_getElem hlt, List.take_set_of_le (Nat.le_refl _), htk.out, HT.out]
          simp
        · show OwnS _ _ _ _
          have := HO.out.1
          rw [hxl.out] at this
          exact this
        · have := HO.out.2.size
          omega
      case measure => simp [intOf]; omega
    · obtain rfl : k = ts.length := by omega
      go_wp2
      go_ret
      refine ⟨_, rfl, ?_, hb⟩
      have e : xs = ts := by
        have := htk.out
        rwa [List.take_of_length_le (by rw [hxl.out]; exact Nat.le_refl _), List.take_of_length_le (Nat.le_refl _)] at this
      rw [← e, hxl.out]
      exact hown.out



theorem toT_any (w : World) (ao : Option Addr) (cap : Nat) (ts : List ByteArray) (hx : Hid (TextsAt w ao ts)) (hl : ts.length ≤ 1048576) :
    Calls Try.prog 39 #[.slice ao ts.length cap] w fun e w' => ∃ v, e = .returned v ∧ SlT w' w.heap.size v ts ∧ Below w.heap.size w w' :=
  (to_any w ao cap ts hx hl).mono fun e w' ⟨v, h1, h2, h3⟩ => ⟨v, h1, Sl.ofOwn h2, h3⟩

set_option maxRecDepth 100000 in
set_option maxHeartbeats 1000000 in
theorem szEnd_any (nx ak gt : Int) (qa oa : Option Addr) (qc oc : Nat) (q o : List ByteArray) (w : World) (hq : Hid (TextsAt w qa q)) (ho : Hid (TextsAt w oa o)) (lq : q.length ≤ maxLen) (lo : o.length ≤ maxLen) (sq : Hid (∀ t ∈ q, t.size ≤ maxLen)) (so : Hid (∀ t ∈ o, t.size ≤ maxLen)) :
    Calls Try.prog 25 #[.agg #[.int .i64 nx, .int .i64 ak, .slice qa q.length qc, .int .i64 gt, .slice oa o.length oc], .int .i64 1048576] w fun e w' => (e = .returned (.int .i64 (-1)) ∨ ∃ r : Nat, e = .returned (.int .i64 r) ∧ Hid (r + q.length + o.length ≤ 1048576 ∧ (∀ t ∈ q, t.size ≤ 1048576) ∧ ∀ t ∈ o, t.size ≤ 1048576)) ∧ Below w.heap.size w w' := by
  go_enter Try.func25, Try.ntmps25
  go_wp2_with fail
  have HB : Hid (Below w.heap.size w (w.alloc (Obj.cells #[Value.int IntKind.i64 nx, Value.int IntKind.i64 ak, Value.slice qa q.length qc, Value.int IntKind.i64 gt, Value.slice oa o.length oc] 45))) := (Below.refl _ _).alloc (Nat.le_refl _) _
  refine (sz_any _ qa qc 1048576 q (show Hid (TextsAt _ _ _) from hq.out.stays HB.out) lq sq (by omega)).mono ?_
  rintro e w1 ⟨hr | ⟨r, hr, hf⟩, rfl⟩
  · subst hr
    go_wp2_with fail
    go_ret
    exact ⟨.inl rfl, HB.out⟩
  · subst hr
    have hd : decide ((r : Int) < 0) = false := by simp
    go_wp2_with fail
    clear hd
    refine (sz_any _ oa oc r o (show Hid (TextsAt _ _ _) from ho.out.stays HB.out) lo so (by have := hf.out.1; omega)).mono ?_
    rintro e w1 ⟨hr | ⟨r2, hr, hf2⟩, rfl⟩
    · subst hr
      go_wp2_with fail
      go_ret
      exact ⟨.inl rfl, HB.out⟩
    · subst hr
      have hd : decide ((r2 : Int) < 0) = false := by simp
      go_wp2_with fail
      go_ret
      refine ⟨.inr ⟨r2, rfl, ?_⟩, HB.out⟩
      have h1 := hf.out
      have h2 := hf2.out
      exact ⟨by omega, h1.2, h2.2⟩

theorem dj_order {w1 w2 : World} {B : Nat} {v u : Value} {s t : List ByteArray} (h1 : SlT w1 B v s) (h2 : SlT w2 w1.heap.size u t) : Dj v u := by
  intro k hk hk2
  have := (Sl.lt h1 k hk).2
  have := (Sl.lt h2 k hk2).1
  omega

/-- a whole end written into the block g. -/
def fillE (w : World) (g : Nat) (n a : Int) (qv : Value) (gt : Int) (ov : Value) : World :=
  ((((w.setCell ⟨g, 0, none⟩ (.int .i64 n)).setCell ⟨g, 1, none⟩ (.int .i64 a)).setCell ⟨g, 2, none⟩ qv).setCell ⟨g, 3, none⟩ (.int .i64 gt)).setCell ⟨g, 4, none⟩ ov
theorem fill_end {w : World} {T g : Nat} {n a gt : Int} {qv ov : Value} (h : EndC w T g n a qv gt ov) (n' a' gt' : Int) (qv' ov' : Value) : EndC (fillE w g n' a' qv' gt' ov') T g n' a' qv' gt' ov' :=
  ((((h.set0 n').set1 a').set2 qv').set3 gt').set4 ov'
theorem fill_grown (w : World) (g : Nat) (n a gt : Int) (qv ov : Value) : w.grownBy (fillE w g n a qv gt ov) (some g) :=
  grown_trans (grown_trans (grown_trans (grown_trans (grown_cell w g 0 _) (grown_cell _ g 1 _)) (grown_cell _ g 2 _)) (grown_cell _ g 3 _)) (grown_cell _ g 4 _)
theorem grown_to_below {w w' : World} {g B : Nat} (h : w.grownBy w' (some g)) (hB : B ≤ g) (hw : B ≤ w.heap.size) : Below B w w' := ⟨h.os, h.tape, h.output, h.size, fun k hk => h.block k (by omega) (by simp; omega)⟩
theorem slt_grown {w w' : World} {B g : Nat} {v : Value} {ss : List ByteArray} (h : SlT w B v ss) (hg : w.grownBy w' (some g)) (hne : v.ownBlock ≠ some g) : SlT w' B v ss := Sl.kept h hg (fun k hk he => by rw [← hk] at he; exact hne he)

theorem EndC.other {w : World} {T g p j : Nat} {n a gt : Int} {qv ov x : Value} (h : EndC w T g n a qv gt ov) (hne : g ≠ p) : EndC (w.setCell ⟨p, j, none⟩ x) T g n a qv gt ov := h.kept (grown_cell w p j x) (by simpa using hne)
theorem slt_other {w : World} {B p j : Nat} {v x : Value} {ss : List ByteArray} (h : SlT w B v ss) (hne : v.ownBlock ≠ some p) : SlT (w.setCell ⟨p, j, none⟩ x) B v ss := Sl.kept h (grown_cell w p j x) (fun k hk he => by rw [← hk] at he; exact hne he)
/-- nothing below B but what is beyond it. -/
theorem ne_low {w : World} {B p : Nat} {v : Value} {ss : List ByteArray} (h : SlT w B v ss) (hp : p < B) : v.ownBlock ≠ some p := fun he => by have := (Sl.lt h p he).1; omega
theorem ne_high {w : World} {B p : Nat} {v : Value} {ss : List ByteArray} (h : SlT w B v ss) (hp : w.heap.size ≤ p) : v.ownBlock ≠ some p := fun he => by have := (Sl.lt h p he).2; omega

set_option maxRecDepth 100000 in
set_option maxHeartbeats 2000000 in
theorem toEnd_any (nx ak gt : Int) (qa oa : Option Addr) (qc oc : Nat) (q o : List ByteArray) (w : World) (hq : Hid (TextsAt w qa q)) (ho : Hid (TextsAt w oa o)) (lq : q.length ≤ 1048576) (lo : o.length ≤ 1048576) :
    Calls Try.prog 26 #[.agg #[.int .i64 nx, .int .i64 ak, .slice qa q.length qc, .int .i64 gt, .slice oa o.length oc]] w fun e w' => ∃ v, e = .returned v ∧ EndM w' w.heap.size v ⟨nx, ak, q, gt, o⟩ ∧ Below w.heap.size w w' := by
  go_enter Try.func26, Try.ntmps26
  go_wp2_with fail
  generalize hA : Obj.cells #[Value.int IntKind.i64 nx, Value.int IntKind.i64 ak, Value.slice qa q.length qc, Value.int IntKind.i64 gt, Value.slice oa o.length oc] 45 = A
  generalize hZ : Obj.cells #[Value.int IntKind.i64 0, Value.int IntKind.i64 0, Value.slice none 0 0, Value.int IntKind.i64 0, Value.slice none 0 0] 32 = Z
  generalize hY : Obj.cells #[Value.int IntKind.i64 nx, Value.int IntKind.i64 ak, Value.slice none 0 0, Value.int IntKind.i64 0, Value.slice none 0 0] 32 = Y
  have E0 : EndC (((w.alloc A).alloc Z).alloc Y) 45 w.heap.size nx ak (.slice qa q.length qc) gt (.slice oa o.length oc) := by
    have h1 := EndC.new w 45 nx ak gt (.slice qa q.length qc) (.slice oa o.length oc)
    rw [hA] at h1
    exact (h1.below ((Below.refl _ _).alloc (Nat.le_refl _) _)).below ((Below.refl _ _).alloc (Nat.le_refl _) _)
  have E1 : EndC (((w.alloc A).alloc Z).alloc Y) 32 (w.heap.size + 1) 0 0 (.slice none 0 0) 0 (.slice none 0 0) := by
    have h1 := EndC.new (w.alloc A) 32 0 0 0 (.slice none 0 0) (.slice none 0 0)
    rw [hZ] at h1
    simpa using h1.below ((Below.refl _ _).alloc (Nat.le_refl _) Y)
  have E2 : EndC (((w.alloc A).alloc Z).alloc Y) 32 (w.heap.size + 1 + 1) nx ak (.slice none 0 0) 0 (.slice none 0 0) := by
    have h1 := EndC.new ((w.alloc A).alloc Z) 32 nx ak 0 (.slice none 0 0) (.slice none 0 0)
    rw [hY] at h1
    simpa using h1
  have HB : Below w.heap.size w (((w.alloc A).alloc Z).alloc Y) := (((Below.refl _ w).alloc (Nat.le_refl _) _).alloc (by simp) _).alloc (by simp; omega) _
  have HS : (((w.alloc A).alloc Z).alloc Y).heap.size = w.heap.size + 3 := by simp
  generalize ((w.alloc A).alloc Z).alloc Y = W at *
  clear hA hZ hY A Z Y
  have HQ : Hid (TextsAt W qa q) := hq.out.stays HB
  have HO : Hid (TextsAt W oa o) := ho.out.stays HB
  refine (toT_any W qa qc q HQ lq).mono ?_
  rintro e w1 ⟨v, rfl, S1, B1⟩
  obtain ⟨va, vc, rfl⟩ := Sl.form S1
  have F0 := E0.below B1
  have F1 := E1.below B1
  have F2 := E2.below B1
  have HO1 : Hid (TextsAt w1 oa o) := HO.out.stays B1
  have HB1 := HB.trans (B1.mono HB.size)
  clear E0 E1 E2
  have e2 : w.heap.size + 1 + 1 < W.heap.size := by omega
  have G0 : Hid (EndC ((w1.setCell ⟨w.heap.size + 1 + 1, 2, none⟩ (.slice va q.length vc)).setCell ⟨w.heap.size + 1 + 1, 3, none⟩ (.int .i64 gt)) 45 w.heap.size nx ak (.slice qa q.length qc) gt (.slice oa o.length oc)) := (F0.other (by omega)).other (by omega)
  have G1 : Hid (EndC ((w1.setCell ⟨w.heap.size + 1 + 1, 2, none⟩ (.slice va q.length vc)).setCell ⟨w.heap.size + 1 + 1, 3, none⟩ (.int .i64 gt)) 32 (w.heap.size + 1) 0 0 (.slice none 0 0) 0 (.slice none 0 0)) := (F1.other (by omega)).other (by omega)
  have G2 : Hid (EndC ((w1.setCell ⟨w.heap.size + 1 + 1, 2, none⟩ (.slice va q.length vc)).setCell ⟨w.heap.size + 1 + 1, 3, none⟩ (.int .i64 gt)) 32 (w.heap.size + 1 + 1) nx ak (.slice va q.length vc) gt (.slice none 0 0)) := (F2.set2 _).set3 gt
  have S2 : Hid (SlT ((w1.setCell ⟨w.heap.size + 1 + 1, 2, none⟩ (.slice va q.length vc)).setCell ⟨w.heap.size + 1 + 1, 3, none⟩ (.int .i64 gt)) W.heap.size (.slice va q.length vc) q) := slt_other (slt_other S1 (ne_low S1 e2)) (ne_low S1 e2)
  have B2 : Hid (Below w.heap.size w ((w1.setCell ⟨w.heap.size + 1 + 1, 2, none⟩ (.slice va q.length vc)).setCell ⟨w.heap.size + 1 + 1, 3, none⟩ (.int .i64 gt))) := (HB1.setCell (by simp; omega) _).setCell (by simp; omega) _
  have HO2 : Hid (TextsAt ((w1.setCell ⟨w.heap.size + 1 + 1, 2, none⟩ (.slice va q.length vc)).setCell ⟨w.heap.size + 1 + 1, 3, none⟩ (.int .i64 gt)) oa o) := by
    have := ho.out.stays B2.out
    exact this
  obtain ⟨c00, c01, c02, c03, c04⟩ := F0.cells
  obtain ⟨c20, c21, c22, c23, c24⟩ := F2.cells
  have f22 := F2.frozen 2
  have f23 := F2.frozen 3
  clear F0 F1 F2 S1 B1 HO1 HB1 HQ HO HB
  go_wp2_with fail
  refine (toT_any _ oa oc o HO2 lo).mono ?_
  generalize ((w1.setCell ⟨w.heap.size + 1 + 1, 2, none⟩ (.slice va q.length vc)).setCell ⟨w.heap.size + 1 + 1, 3, none⟩ (.int .i64 gt)) = W2 at *
  rintro e w3 ⟨u, rfl, S3, B3⟩
  obtain ⟨ua, uc, rfl⟩ := Sl.form S3
  have D : Dj (.slice va q.length vc) (.slice ua o.length uc) := dj_order S2.out S3
  have F1 := G1.out.below B3
  have F2 := G2.out.below B3
  have HB3 := B2.out.trans (B3.mono B2.out.size)
  have S4 := Sl.below S2.out B3
  have hlt2 := G2.out.lt
  have e3 : w.heap.size + 1 < W.heap.size := by omega
  obtain ⟨d10, d11, d12, d13, d14⟩ := F1.cells
  obtain ⟨d20, d21, d22, d23, d24⟩ := F2.cells
  have f24 := F2.frozen 4
  have r0 := F1.frozen 0
  have r1 := F1.frozen 1
  have r2 := F1.frozen 2
  have r3 := F1.frozen 3
  have r4 := F1.frozen 4
  have HF1 : Hid _ := F1
  have HF2 : Hid _ := F2
  have HS4 : Hid _ := S4
  have HS3 : Hid _ := S3
  have HHB3 : Hid _ := HB3
  clear c00 c01 c02 c03 c04 c20 c21 c22 c23 c24 f22 f23 F1 F2 S4 S3 HB3 G0 G1 G2 S2 HO2 B2 B3
  go_wp2_with fail
  show bodyPost _ _ _ _ _ (fillE (w3.setCell ⟨w.heap.size + 1 + 1, 4, none⟩ (.slice ua o.length uc)) (w.heap.size + 1) nx ak (.slice va q.length vc) gt (.slice ua o.length uc))
  have K1 := fill_end (EndC.other (p := w.heap.size + 1 + 1) (j := 4) (x := .slice ua o.length uc) HF1.out (by omega)) nx ak gt (.slice va q.length vc) (.slice ua o.length uc)
  have K2 := fill_grown (w3.setCell ⟨w.heap.size + 1 + 1, 4, none⟩ (.slice ua o.length uc)) (w.heap.size + 1) nx ak gt (.slice va q.length vc) (.slice ua o.length uc)
  have T1 := slt_grown (slt_other (j := 4) (x := .slice ua o.length uc) (show SlT _ W.heap.size _ q from HS4.out) (ne_low (show SlT _ W.heap.size _ q from HS4.out) e2)) K2 (ne_low (show SlT _ W.heap.size _ q from HS4.out) e3)
  have hn1 : (Value.slice ua o.length uc).ownBlock ≠ some (w.heap.size + 1) := ne_low (show SlT _ W2.heap.size _ o from HS3.out) (by omega)
  have hn2 : (Value.slice ua o.length uc).ownBlock ≠ some (w.heap.size + 1 + 1) := ne_low (show SlT _ W2.heap.size _ o from HS3.out) (by omega)
  have T2 := slt_grown (slt_other (j := 4) (x := .slice ua o.length uc) (show SlT _ W2.heap.size _ o from HS3.out) hn2) K2 hn1
  have HBF : Below w.heap.size w (fillE (w3.setCell ⟨w.heap.size + 1 + 1, 4, none⟩ (.slice ua o.length uc)) (w.heap.size + 1) nx ak (.slice va q.length vc) gt (.slice ua o.length uc)) := by
    have h1 := HHB3.out.setCell (p := ⟨w.heap.size + 1 + 1, 4, none⟩) (by simp; omega) (.slice ua o.length uc)
    exact h1.trans (grown_to_below K2 (by omega) h1.size)
  generalize fillE (w3.setCell ⟨w.heap.size + 1 + 1, 4, none⟩ (.slice ua o.length uc)) (w.heap.size + 1) nx ak (.slice va q.length vc) gt (.slice ua o.length uc) = W4 at *
  obtain ⟨q0, q1, q2, q3, q4⟩ := K1.cells
  refine bodyPost_ret (v := .agg #[.int .i64 nx, .int .i64 ak, .slice va q.length vc, .int .i64 gt, .slice ua o.length uc]) (by simp [results, Try.results26, go_sem, q0, q1, q2, q3, q4]) rfl ?_
  exact ⟨_, rfl, ⟨_, _, rfl, Sl.down T1 (by omega), Sl.down T2 (by omega), D⟩, HBF⟩

set_option maxRecDepth 100000 in
set_option maxHeartbeats 2000000 in
theorem eqEnd_same {v1 v2 : Value} {e : En} (w : World) (h1 : EndR w v1 e) (h2 : EndR w v2 e) (lq : e.q.length ≤ 1048577) (lo : e.o.length ≤ 1048577) :
    Calls Try.prog 27 #[v1, v2] w fun r w' => r = .returned (.bool true) ∧ Below w.heap.size w w' := by
  obtain ⟨nx, ak, q, gt, o⟩ := e
  obtain ⟨qa, qc, oa, oc, rfl, t1, t2⟩ := h1
  obtain ⟨ra, rc, pa, pc, rfl, t3, t4⟩ := h2
  dsimp only at *
  have T1 : Hid (TextsAt w qa q) := t1
  have T2 : Hid (TextsAt w oa o) := t2
  have T3 : Hid (TextsAt w ra q) := t3
  have T4 : Hid (TextsAt w pa o) := t4
  clear t1 t2 t3 t4
  go_enter Try.func27, Try.ntmps27
  go_wp2_with fail
  have HB : Hid (Below w.heap.size w ((w.alloc (Obj.cells #[Value.int IntKind.i64 nx, Value.int IntKind.i64 ak, Value.slice qa q.length qc, Value.int IntKind.i64 gt, Value.slice oa o.length oc] 32)).alloc (Obj.cells #[Value.int IntKind.i64 nx, Value.int IntKind.i64 ak, Value.slice ra q.length rc, Value.int IntKind.i64 gt, Value.slice pa o.length pc] 32))) := ((Below.refl _ _).alloc (Nat.le_refl _) _).alloc (by simp) _
  have E1 : EndC ((w.alloc (Obj.cells #[Value.int IntKind.i64 nx, Value.int IntKind.i64 ak, Value.slice qa q.length qc, Value.int IntKind.i64 gt, Value.slice oa o.length oc] 32)).alloc (Obj.cells #[Value.int IntKind.i64 nx, Value.int IntKind.i64 ak, Value.slice ra q.length rc, Value.int IntKind.i64 gt, Value.slice pa o.length pc] 32)) 32 w.heap.size nx ak (.slice qa q.length qc) gt (.slice oa o.length oc) :=
    (EndC.new w 32 nx ak gt _ _).below ((Below.refl _ _).alloc (Nat.le_refl _) _)
  have E2 : EndC ((w.alloc (Obj.cells #[Value.int IntKind.i64 nx, Value.int IntKind.i64 ak, Value.slice qa q.length qc, Value.int IntKind.i64 gt, Value.slice oa o.length oc] 32)).alloc (Obj.cells #[Value.int IntKind.i64 nx, Value.int IntKind.i64 ak, Value.slice ra q.length rc, Value.int IntKind.i64 gt, Value.slice pa o.length pc] 32)) 32 (w.heap.size + 1) nx ak (.slice ra q.length rc) gt (.slice pa o.length pc) := by
    have := EndC.new (w.alloc (Obj.cells #[Value.int IntKind.i64 nx, Value.int IntKind.i64 ak, Value.slice qa q.length qc, Value.int IntKind.i64 gt, Value.slice oa o.length oc] 32)) 32 nx ak gt (.slice ra q.length rc) (.slice pa o.length pc)
    simpa using this
  generalize ((w.alloc (Obj.cells #[Value.int IntKind.i64 nx, Value.int IntKind.i64 ak, Value.slice qa q.length qc, Value.int IntKind.i64 gt, Value.slice oa o.length oc] 32)).alloc (Obj.cells #[Value.int IntKind.i64 nx, Value.int IntKind.i64 ak, Value.slice ra q.length rc, Value.int IntKind.i64 gt, Value.slice pa o.length pc] 32)) = W at *
  refine (eqS_same qa ra qc rc q _ (show Hid (TextsAt _ _ _) from T1.out.stays HB.out) (show Hid (TextsAt _ _ _) from T3.out.stays HB.out) lq).mono ?_
  rintro r w1 ⟨rfl, hb1⟩
  have HB1 : Hid (Below w.heap.size w w1) := HB.out.trans (hb1.mono HB.out.size)
  obtain ⟨a0, a1, a2, a3, a4⟩ := (E1.below hb1).cells
  obtain ⟨b0, b1, b2, b3, b4⟩ := (E2.below hb1).cells
  clear E1 E2 hb1 HB
  go_wp2_with fail
  refine (eqS_same oa pa oc pc o _ (show Hid (TextsAt _ _ _) from T2.out.stays HB1.out) (show Hid (TextsAt _ _ _) from T4.out.stays HB1.out) lo).mono ?_
  rintro r w2 ⟨rfl, hb2⟩
  have HB2 : Hid (Below w.heap.size w w2) := HB1.out.trans (hb2.mono HB1.out.size)
  clear a0 a1 a2 a3 a4 b0 b1 b2 b3 b4 hb2 HB1
  go_wp2_with fail
  go_ret
  exact ⟨rfl, HB2.out⟩

/-- of what was there the blocks of S alone may have turned. -/
structure Gr (S : Nat → Prop) (w w' : World) : Prop where
  os : w'.os = w.os
  tape : w'.tape = w.tape
  output : w'.output = w.output
  size : w.heap.size ≤ w'.heap.size
  block : ∀ k, k < w.heap.size → ¬ S k → w'.heap[k]? = w.heap[k]?
theorem Gr.refl (S : Nat → Prop) (w : World) : Gr S w w := ⟨rfl, rfl, rfl, Nat.le_refl _, fun _ _ _ => rfl⟩
theorem Gr.trans {S : Nat → Prop} {a b c : World} (h : Gr S a b) (k : Gr S b c) : Gr S a c :=
  ⟨k.os.trans h.os, k.tape.trans h.tape, k.output.trans h.output, Nat.le_trans h.size k.size, fun i hi hs => (k.block i (Nat.lt_of_lt_of_le hi h.size) hs).trans (h.block i hi hs)⟩
theorem Gr.mono {S S' : Nat → Prop} {a b : World} (h : Gr S a b) (hs : ∀ k, S k → S' k) : Gr S' a b := ⟨h.os, h.tape, h.output, h.size, fun k hk hn => h.block k hk (fun h1 => hn (hs k h1))⟩
theorem Gr.ofBelow {S : Nat → Prop} {a b : World} (h : Below a.heap.size a b) : Gr S a b := ⟨h.os, h.tape, h.output, h.size, fun k hk _ => h.block k hk⟩
theorem Gr.ofGrown {S : Nat → Prop} {a b : World} {row : Option Nat} (h : a.grownBy b row) (hs : ∀ k, row = some k → S k) : Gr S a b := ⟨h.os, h.tape, h.output, h.size, fun k hk hn => h.block k hk (fun he => hn (hs k he.symm))⟩
theorem Gr.below {S : Nat → Prop} {a b : World} {B : Nat} (h : Gr S a b) (hs : ∀ k, S k → B ≤ k) (hB : B ≤ a.heap.size) : Below B a b := ⟨h.os, h.tape, h.output, h.size, fun k hk => h.block k (by omega) (fun h1 => by have := hs k h1; omega)⟩
theorem Sl.gr {S : Nat → Prop} {w w' : World} {e : TypeId} {size B n : Nat} {v : Value} {xs : List Value} (h : Sl w e size B v n xs) (hg : Gr S w w') (hn : ∀ k, v.ownBlock = some k → ¬ S k) : Sl w' e size B v n xs :=
  Sl.keep h fun k hk hlt => hg.block k hlt (hn k hk)

/-- the blocks of an end's two lists. -/
def EndBlk : Value → Nat → Prop
  | .agg cs, k => (∃ u, cs[2]? = some u ∧ u.ownBlock = some k) ∨ ∃ u, cs[4]? = some u ∧ u.ownBlock = some k
  | _, _ => False
theorem endBlk_is {n a g qv ov : Value} {k : Nat} : EndBlk (.agg #[n, a, qv, g, ov]) k ↔ qv.ownBlock = some k ∨ ov.ownBlock = some k := by
  unfold EndBlk
  simp
theorem EndM.blk {w : World} {B : Nat} {v : Value} {e : En} (h : EndM w B v e) {k : Nat} (hk : EndBlk v k) : B ≤ k ∧ k < w.heap.size := by
  obtain ⟨qv, ov, rfl, h1, h2, _⟩ := h
  rcases endBlk_is.1 hk with h3 | h3
  · exact Sl.lt h1 k h3
  · exact Sl.lt h2 k h3
theorem EndM.gr {S : Nat → Prop} {w w' : World} {B : Nat} {v : Value} {e : En} (h : EndM w B v e) (hg : Gr S w w') (hn : ∀ k, EndBlk v k → ¬ S k) : EndM w' B v e := by
  obtain ⟨qv, ov, rfl, h1, h2, h3⟩ := h
  exact ⟨qv, ov, rfl, Sl.gr h1 hg (fun k hk => hn k (endBlk_is.2 (.inl hk))), Sl.gr h2 hg (fun k hk => hn k (endBlk_is.2 (.inr hk))), h3⟩

set_option maxRecDepth 100000 in
set_option maxHeartbeats 2000000 in
theorem markEnd_any {v : Value} {e : En} {B : Nat} (K : Nat) (w : World) (h : EndM w B v e) (hK : 0 < K) (hl : K + e.q.length + e.o.length ≤ 2000000) :
    Calls Try.prog 29 #[v, .int .i64 K] w fun r w' => r = .returned (.int .i64 ((K + e.q.length + e.o.length : Nat) : Int)) ∧ Gr (EndBlk v) w w' ∧ ∃ xs ys, xs.length = e.q.length ∧ ys.length = e.o.length ∧ Marked xs K xs.length ∧ Marked ys (K + xs.length) ys.length ∧ EndM w' B v { e with q := xs, o := ys } := by
  obtain ⟨nx, ak, q, gt, o⟩ := e
  obtain ⟨qv, ov, rfl, s1, s2, dj⟩ := h
  dsimp only at *
  obtain ⟨qa, qc, rfl⟩ := Sl.form s1
  obtain ⟨oa, oc, rfl⟩ := Sl.form s2
  have S1 : Hid (SlT w B (.slice qa q.length qc) q) := s1
  have S2 : Hid (SlT w B (.slice oa o.length oc) o) := s2
  have D : Hid (Dj (.slice qa q.length qc) (.slice oa o.length oc)) := dj
  clear s1 s2 dj
  go_enter Try.func29, Try.ntmps29
  go_wp2_with fail
  have HB : Hid (Below w.heap.size w (w.alloc (Obj.cells #[Value.int IntKind.i64 nx, Value.int IntKind.i64 ak, Value.slice qa q.length qc, Value.int IntKind.i64 gt, Value.slice oa o.length oc] 32))) := (Below.refl _ _).alloc (Nat.le_refl _) _
  have E1 := EndC.new w 32 nx ak gt (.slice qa q.length qc) (.slice oa o.length oc)
  generalize (w.alloc (Obj.cells #[Value.int IntKind.i64 nx, Value.int IntKind.i64 ak, Value.slice qa q.length qc, Value.int IntKind.i64 gt, Value.slice oa o.length oc] 32)) = W at *
  have S1' : SlT W B (.slice qa q.length qc) q := Sl.below S1.out HB.out
  have S2' : SlT W B (.slice oa o.length oc) o := Sl.below S2.out HB.out
  refine (markS_any _ q B K W S1' (by omega) hK).mono ?_
  rintro r w1 ⟨rfl, hg1, xs, hx, hm, sx⟩
  have hnq : some w.heap.size ≠ (Value.slice qa q.length qc).ownBlock := fun he => by have := (Sl.lt S1.out _ he.symm).2; omega
  obtain ⟨a0, a1, a2, a3, a4⟩ := (E1.kept hg1 hnq).cells
  have S3 : SlT w1 B (.slice oa o.length oc) o := Sl.kept S2' hg1 (fun k hk he => D.out k he.symm hk)
  have G1 : Hid (Gr (EndBlk (.agg #[.int .i64 nx, .int .i64 ak, .slice qa q.length qc, .int .i64 gt, .slice oa o.length oc])) w w1) :=
    (Gr.ofBelow HB.out).trans (Gr.ofGrown hg1 (fun k hk => endBlk_is.2 (.inl hk)))
  have SX : Hid (SlT w1 B (.slice qa q.length qc) xs) := sx
  have HM : Hid (Marked xs K xs.length) := by show Marked xs K xs.length; rw [hx]; exact hm
  have HX : Hid (xs.length = q.length) := hx
  clear E1 hg1 HB S1' S2' sx hm hx
  go_wp2_with fail
  refine (markS_any _ o B (K + q.length) w1 S3 (by omega) (by omega)).mono ?_
  rintro r w2 ⟨rfl, hg2, ys, hy, hm2, sy⟩
  have SX2 : Hid (SlT w2 B (.slice qa q.length qc) xs) := Sl.kept SX.out hg2 (fun k hk he => D.out k hk he.symm)
  have G2 : Hid (Gr (EndBlk (.agg #[.int .i64 nx, .int .i64 ak, .slice qa q.length qc, .int .i64 gt, .slice oa o.length oc])) w w2) :=
    G1.out.trans (Gr.ofGrown hg2 (fun k hk => endBlk_is.2 (.inr hk)))
  have SY : Hid (SlT w2 B (.slice oa o.length oc) ys) := sy
  have HM2 : Hid (Marked ys (K + q.length) o.length) := hm2
  have HY : Hid (ys.length = o.length) := hy
  clear a0 a1 a2 a3 a4 S3 hg2 sy hm2 hy SX G1
  go_wp2_with fail
  go_ret
  refine ⟨rfl, G2.out, xs, ys, HX.out, HY.out, HM.out, ?_, _, _, rfl, SX2.out, SY.out, D.out⟩
  rw [HX.out, HY.out]
  exact HM2.out

set_option maxRecDepth 100000 in
set_option maxHeartbeats 2000000 in
theorem heldEnd_any {v : Value} {e : En} (K : Nat) (w : World) (h : EndR w v e) (hK : 0 < K) (hl : K + e.q.length + e.o.length ≤ 2000000) (hm1 : Hid (Marked e.q K e.q.length)) (hm2 : Hid (Marked e.o (K + e.q.length) e.o.length)) :
    Calls Try.prog 30 #[v, .int .i64 K] w fun r w' => r = .returned (.int .i64 ((K + e.q.length + e.o.length : Nat) : Int)) ∧ Below w.heap.size w w' := by
  obtain ⟨nx, ak, q, gt, o⟩ := e
  obtain ⟨qa, qc, oa, oc, rfl, t1, t2⟩ := h
  dsimp only at *
  have T1 : Hid (TextsAt w qa q) := t1
  have T2 : Hid (TextsAt w oa o) := t2
  clear t1 t2
  go_enter Try.func30, Try.ntmps30
  go_wp2_with fail
  have HB : Hid (Below w.heap.size w (w.alloc (Obj.cells #[Value.int IntKind.i64 nx, Value.int IntKind.i64 ak, Value.slice qa q.length qc, Value.int IntKind.i64 gt, Value.slice oa o.length oc] 32))) := (Below.refl _ _).alloc (Nat.le_refl _) _
  have E1 := EndC.new w 32 nx ak gt (.slice qa q.length qc) (.slice oa o.length oc)
  generalize (w.alloc (Obj.cells #[Value.int IntKind.i64 nx, Value.int IntKind.i64 ak, Value.slice qa q.length qc, Value.int IntKind.i64 gt, Value.slice oa o.length oc] 32)) = W at *
  refine (heldS_any qa qc q K W (show Hid (TextsAt _ _ _) from T1.out.stays HB.out) (by omega) hK hm1).mono ?_
  rintro r w1 ⟨rfl, hb1⟩
  have HB1 : Hid (Below w.heap.size w w1) := HB.out.trans (hb1.mono HB.out.size)
  obtain ⟨a0, a1, a2, a3, a4⟩ := (E1.below hb1).cells
  have hd : decide (((K + q.length : Nat) : Int) < 0) = false := by simp; omega
  clear E1 hb1 HB
  go_wp2_with fail
  refine (heldS_any oa oc o (K + q.length) w1 (show Hid (TextsAt _ _ _) from T2.out.stays HB1.out) (by omega) (by omega) hm2).mono ?_
  rintro r w2 ⟨rfl, hb2⟩
  have HB2 : Hid (Below w.heap.size w w2) := HB1.out.trans (hb2.mono HB1.out.size)
  have hd2 : decide (((K + q.length + o.length : Nat) : Int) < 0) = false := by simp; omega
  clear a0 a1 a2 a3 a4 hb2 HB1 hd
  go_wp2_with fail
  go_ret
  exact ⟨rfl, HB2.out⟩
end Go.Proofs.Ytohagaelenhebaa
