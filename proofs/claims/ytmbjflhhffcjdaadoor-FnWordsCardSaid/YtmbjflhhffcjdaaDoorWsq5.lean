/- Joined texts: CJ2 CJ3 CJ4 CD1 CDO CBg CC4 CLb CT2 CRg CRs CRh CRn CSv CSc CI3. -/
import Derived.Test.YtmbjflhhffcjdaaDoorWsq4
import Derived.Deep.RegionWith
import Derived.BigQuiet
import Derived.Laws.MakeOwn
import Derived.Test.YtmbjflhhffcjdaaDoorChecked
import Derived.Test.YtmbjflhhffcjdaaDoorWsq2
import Derived.WalkKit
import Derived.WalkSpells
import Derived.WalkLawsBesides
import Derived.Deep.RegionHeld3
import Derived.Deep.QuietTactic
import Derived.Test.YtmbjflhhffcjdaaDoorWsq3
/- The walk over the specification's ItemsOk. -/
namespace Go.Proofs.YtmbjflhhffcjdaaDoor
open Go.RowKit Pl
set_option linter.unusedVariables false

theorem quietC {P : Program} {C : World → Prop} {id : Nat} {Q : Exit → Act → World → Prop} {a : Act} {w : World} {l : List Oper} (hm : P.follows .mixedOrders = true) (hB : Region.lexB .any l.toArray = true) (hC : C { w with drawn := w.drawn + 1 })
    (h : wpQuiet P l.toArray C (fun a' => ∀ w', C w' → Q .normal a' w') l a) : (Code.region id l.toArray true).wp P Q a w :=
  wp_region_quiet (C := C) hm hB hC (by simpa using h)
theorem q_val {P : Program} {C : World → Prop} {o : Oper} {a : Act} {K : Act → Prop} (v : Value) (h : ∀ w, C w → (execOp a.eval o).run P w = .ok (.value v) w) (hk : K (a.put o.dst v)) : o.quiet P a C K :=
  ⟨v, fun w hw => by unfold Oper.quietAt; rw [h w hw]; exact ⟨rfl, rfl⟩, hk⟩
theorem q_call {P : Program} {C : World → Prop} {o : Oper} {a : Act} {K : Act → Prop} (v : Value) (f : FuncId) (args : Array Value) (h : ∀ w, C w → (execOp a.eval o).run P w = .ok (.enter f args) w) (hc : ∀ w, C w → Calls P f args w fun e w' => e = .returned v ∧ C w') (hk : K (a.put o.dst v)) : o.quiet P a C K :=
  ⟨v, fun w hw => by unfold Oper.quietAt; rw [h w hw]; exact ⟨rfl, hc w hw⟩, hk⟩

end Go.Proofs.YtmbjflhhffcjdaaDoor


/- The walks over lists of items that a law copies, sizes and compares. -/
namespace Go.Proofs.YtmbjflhhffcjdaaDoor
open Go.RowKit Pl
set_option linter.unusedVariables false
end Go.Proofs.YtmbjflhhffcjdaaDoor


/- Lists of items copied and compared. -/
namespace Go.Proofs.YtmbjflhhffcjdaaDoor
open Go.RowKit Pl
set_option linter.unusedVariables false
end Go.Proofs.YtmbjflhhffcjdaaDoor


/- The walks over the draws: a byte, a number below another, a text, the cursor made; a drawn text and drawn places. -/
namespace Go.Proofs.YtmbjflhhffcjdaaDoor
open Go.RowKit Pl
set_option linter.unusedVariables false

theorem cur_cells {w : World} {T : TypeId} {g i n cap : Nat} {h : Int} {ao : Option Addr} (hg : w.heap[g]? = some (.cells #[.slice ao n cap, .int .i64 i, .int .i64 h] T (0, 0))) :
    w.cell? ⟨g, 0, none⟩ = some (.slice ao n cap) ∧ w.cell? ⟨g, 1, none⟩ = some (.int .i64 i) ∧ w.cell? ⟨g, 2, none⟩ = some (.int .i64 h) ∧ (∀ j, w.frozen? ⟨g, j, none⟩ = false) := by
  refine ⟨?_, ?_, ?_, fun j => frozen_of_row w g j _ T hg⟩ <;> rw [cell_of_row w g _ _ T (0, 0) hg] <;> rfl


theorem nat_ret {v : Int} {m : Nat} (h0 : 0 ≤ v) (h1 : v < m) : ∃ x : Nat, x < m ∧ Ending.returned (.int .i64 v) = .returned (.int .i64 x) :=
  ⟨v.toNat, by omega, by rw [Int.toNat_of_nonneg h0]⟩
theorem Tryd.info5' : (Tryd.prog.info? 5).map (fun i => (i.zero, i.size, i.bytes)) = some (some (.int .u8 0), 1, 1) := by kernel_rfl

/-- the cursor g over that slice lies ready in w, and since w0 it alone has turned. -/
def Drw (w0 w : World) (B g : Nat) (ao : Option Addr) (n cap : Nat) : Prop := CurAt w 102 g ao n cap ∧ CodeAt w B ao n ∧ KeepBut g w0 w

theorem Drw.start {w : World} {B g n cap : Nat} {ao : Option Addr} (hc : CurAt w 102 g ao n cap) (hk : CodeAt w B ao n) : Hid (Drw w w B g ao n cap) := ⟨hc, hk, KeepBut.refl g w⟩

theorem CurAt.stays {w w' : World} {B T g n cap : Nat} {ao : Option Addr} (h : CurAt w T g ao n cap) (hb : Below B w w') (hB : g < B) : CurAt w' T g ao n cap := by
  obtain ⟨i, k, h1, h2⟩ := h
  exact ⟨i, k, h1, (hb.block g hB).trans h2⟩

set_option maxRecDepth 100000 in
set_option maxHeartbeats 1000000 in
theorem byte_any (w0 w : World) (B g n cap : Nat) (ao : Option Addr) (hn : n ≤ 1048576) (hB : B ≤ g) (hd : Hid (Drw w0 w B g ao n cap)) :
    Calls Tryd.prog 109 #[.pointer (some ⟨g, 0, none⟩)] w fun e w' => (∃ x : Nat, x < 256 ∧ e = .returned (.int .i64 x)) ∧ Hid (Drw w0 w' B g ao n cap) := by
  suffices hh : Calls Tryd.prog 109 #[.pointer (some ⟨g, 0, none⟩)] w fun e w' => (∃ x : Nat, x < 256 ∧ e = .returned (.int .i64 x)) ∧ CurAt w' 102 g ao n cap ∧ TurnAt g w w' from
    hh.mono fun e w' h => ⟨h.1, (show Drw _ _ _ _ _ _ _ from ⟨h.2.1, hd.out.2.1.stays (h.2.2.below hB) (Nat.le_refl _), hd.out.2.2.trans h.2.2.keep⟩)⟩
  obtain ⟨i, h, hi, hg⟩ := hd.out.1
  obtain ⟨c0, c1, c2, cf⟩ := cur_cells hg
  have hk : Hid (CodeAt w B ao n) := hd.out.2.1
  have cf0 := cf 0
  have cf1 := cf 1
  have cf2 := cf 2
  have HG : Hid (w.heap[g]? = some (.cells #[.slice ao n cap, .int .i64 i, .int .i64 h] 102 (0, 0))) := hg
  clear hg cf hd
  by_cases h1 : i < n
  · obtain ⟨b, off, z, rfl, hb, hz, hz0, hz1⟩ := hk.out i h1
    clear hk
    go_enter Tryd.func109, Tryd.ntmps109
    go_wp2
    generalize wrap64 (wrap64 (h * 6364136223846793005) + 1442695040888963407) = h'
    have HG1 := heap_setCell_same w g 2 _ 102 (Value.int IntKind.i64 h') HG.out
    have HT1 := (TurnAt.refl g w).setCell 2 (Value.int IntKind.i64 h')
    have hz' := (HT1.below (B := g) (Nat.le_refl _)).cell (p := ⟨b, off + i, none⟩) (show b < g by omega)
    rw [hz] at hz'
    generalize w.setCell ⟨g, 2, none⟩ (Value.int IntKind.i64 h') = W at *
    obtain ⟨d0, d1, d2, df⟩ := cur_cells HG1
    have df1 := df 1
    have HG2 : Hid _ := HG1
    have HT2 : Hid _ := HT1
    clear c0 c1 c2 cf0 cf1 cf2 HG hz HG1 HT1 df
    go_quiet (fail)
    go_wp2
    obtain ⟨x, hx1, hx⟩ := and255 (bits BinOp.xor IntKind.i64 (h' / 8589934592) (h' / 35184372088832))
    rw [hx]
    clear hx
    have hlt : decide ((i : Int) < (n : Int)) = true := by simp; omega
    have hi0 : (0 : Int) ≤ (i : Int) := by omega
    have hi1 : (i : Int) < (n : Int) := by omega
    have hwx : IntKind.i64.wrap ((x : Int) + z) = (x : Int) + z := by rw [IntKind.wrap_i64]; omega
    go_quiet (fail)
    go_wp2
    go_quiet (fail)
    go_wp2
    go_ret
    obtain ⟨y, hy1, hy⟩ := and255 ((x : Int) + z)
    refine ⟨⟨y, hy1, by rw [← hy]; rfl⟩, ⟨i + 1, h', by omega, ?_⟩, (HT2.out.drewN _).setCell 1 _⟩
    exact heap_setCell_same (W.drewN _) g 1 _ 102 (Value.int IntKind.i64 ((i : Int) + 1)) HG2.out
  · clear hk
    go_enter Tryd.func109, Tryd.ntmps109
    go_wp2
    generalize wrap64 (wrap64 (h * 6364136223846793005) + 1442695040888963407) = h'
    have HG1 := heap_setCell_same w g 2 _ 102 (Value.int IntKind.i64 h') HG.out
    have HT1 := (TurnAt.refl g w).setCell 2 (Value.int IntKind.i64 h')
    generalize w.setCell ⟨g, 2, none⟩ (Value.int IntKind.i64 h') = W at *
    obtain ⟨d0, d1, d2, df⟩ := cur_cells HG1
    have HG2 : Hid _ := HG1
    have HT2 : Hid _ := HT1
    clear c0 c1 c2 cf0 cf1 cf2 HG HG1 HT1 df
    go_quiet (fail)
    go_wp2
    obtain ⟨x, hx1, hx⟩ := and255 (bits BinOp.xor IntKind.i64 (h' / 8589934592) (h' / 35184372088832))
    rw [hx]
    clear hx
    have hlt : decide ((i : Int) < (n : Int)) = false := by simp; omega
    go_quiet (fail)
    go_wp2
    go_ret
    exact ⟨⟨x, hx1, rfl⟩, ⟨i, h', hi, HG2.out⟩, (HT2.out.drewN _).drewN _⟩

set_option maxRecDepth 100000 in
set_option maxHeartbeats 1000000 in
theorem below_small (w0 w : World) (B g n cap m : Nat) (ao : Option Addr) (hn : n ≤ 1048576) (hB : B ≤ g) (hm0 : 0 < m) (hm : m ≤ 256) (hd : Hid (Drw w0 w B g ao n cap)) :
    Calls Tryd.prog 82 #[.pointer (some ⟨g, 0, none⟩), .int .i64 m] w fun e w' => (∃ x : Nat, x < m ∧ e = .returned (.int .i64 x)) ∧ Hid (Drw w0 w' B g ao n cap) := by
  go_enter Tryd.func82, Tryd.ntmps82
  go_wp2_with (first | (go_at_call 109; refine (byte_any w0 _ B g n cap ao hn hB (by assumption)).mono ?_; rintro e w1 ⟨⟨x, hx, rfl⟩, hd1⟩))
  go_ret
  exact ⟨⟨x % m, Nat.mod_lt _ hm0, rfl⟩, hd1⟩

set_option maxRecDepth 100000 in
set_option maxHeartbeats 1000000 in
theorem new_any (w : World) (n cap : Nat) (ao : Option Addr) (hn : n ≤ 1048576) (hk : Hid (CodeAt w w.heap.size ao n)) :
    Calls Tryd.prog 37 #[.slice ao n cap] w fun e w' => e = .returned (.pointer (some ⟨w.heap.size, 0, none⟩)) ∧ Hid (CurAt w' 102 w.heap.size ao n cap) ∧ Below w.heap.size w w' ∧ w'.heap.size = w.heap.size + 1 := by
  go_enter Tryd.func37, Tryd.ntmps37
  go_wp2
  go_loop [3, 4] (fun v i => ∃ (h : Int) (k : Nat), v = .int .i64 h ∧ i = .int .i64 k ∧ k ≤ n) (fun _ i => n - (intOf i).toNat)
  case atStart => exact ⟨_, 0, rfl, rfl, by omega⟩
  case round =>
    obtain ⟨h, k, rfl, rfl, hkn⟩ := hrel
    by_cases h1 : k < n
    · by_cases h2 : k < 4000
      · obtain ⟨b, off, z, rfl, hb, hz, hz0, hz1⟩ := hk.out k h1
        go_wp2
        go_round
        case rel => exact ⟨_, k + 1, rfl, by go_num, by omega⟩
        case measure => simp [intOf]; omega
      · go_wp2
        go_ret
        exact ⟨rfl, (show CurAt _ _ _ _ _ _ from ⟨0, h, by omega, heap_alloc_new w _⟩), (Below.refl _ _).alloc (Nat.le_refl _) _, by simp⟩
    · go_wp2
      go_ret
      exact ⟨rfl, (show CurAt _ _ _ _ _ _ from ⟨0, h, by omega, heap_alloc_new w _⟩), (Below.refl _ _).alloc (Nat.le_refl _) _, by simp⟩

theorem Drw.lt {w0 w : World} {B g n cap : Nat} {ao : Option Addr} (h : Drw w0 w B g ao n cap) : g < w.heap.size := by
  obtain ⟨i, k, _, h2⟩ := h.1
  exact (Array.getElem?_eq_some_iff.1 h2).1

/-- A call that only lays new blocks leaves the cursor as it is. -/
theorem Drw.step {w0 w w' : World} {B g n cap : Nat} {ao : Option Addr} (h : Drw w0 w B g ao n cap) (hB : B ≤ g) (hb : Below w.heap.size w w') : Drw w0 w' B g ao n cap :=
  have hlt := h.lt
  ⟨CurAt.stays h.1 hb hlt, h.2.1.stays hb (by omega), h.2.2.trans (keep_of_below hb)⟩

theorem Drw.alloc {w0 w : World} {B g n cap : Nat} {ao : Option Addr} (h : Drw w0 w B g ao n cap) (hB : B ≤ g) (o : Obj) : Drw w0 (w.alloc o) B g ao n cap := h.step hB ((Below.refl _ _).alloc (Nat.le_refl _) _)

theorem OwnB_keep {w w' : World} {B g : Nat} {e : TypeId} {v : Value} {xs : List Int} (h : OwnB w B e v xs) (hk : KeepBut g w w') (hg : g < B) : OwnB w' B e v xs := by
  refine ⟨h.1, ?_⟩
  rcases h.2 with hn | ⟨k, cap, cur, rfl, hbg, hk2, rest⟩
  · exact .inl hn
  · exact .inr ⟨k, cap, cur, rfl, hbg, (hk.block k (Array.getElem?_eq_some_iff.1 hk2).1 (by omega)).trans hk2, rest⟩

set_option maxRecDepth 100000 in
set_option maxHeartbeats 1000000 in
theorem below_big (w0 w : World) (B g n cap m : Nat) (ao : Option Addr) (hn : n ≤ 1048576) (hB : B ≤ g) (hm0 : 256 < m) (hm : m ≤ 4294967296) (hd : Hid (Drw w0 w B g ao n cap)) :
    Calls Tryd.prog 82 #[.pointer (some ⟨g, 0, none⟩), .int .i64 m] w fun e w' => (∃ x : Nat, x < m ∧ e = .returned (.int .i64 x)) ∧ Hid (Drw w0 w' B g ao n cap) := by
  go_enter Tryd.func82, Tryd.ntmps82
  go_wp2_with (first | (go_at_call 109; refine (byte_any w0 _ B g n cap ao hn hB (by assumption)).mono ?_; rintro e w1 ⟨⟨x, hx, rfl⟩, hd1⟩))
  go_ret
  exact ⟨nat_ret (Int.emod_nonneg _ (by omega)) (Int.emod_lt_of_pos _ (by omega)), hd1⟩

end Go.Proofs.YtmbjflhhffcjdaaDoor


/- The walk over a draw that is met once in so many. -/
namespace Go.Proofs.YtmbjflhhffcjdaaDoor
open Go.RowKit Pl
set_option linter.unusedVariables false
end Go.Proofs.YtmbjflhhffcjdaaDoor


/- The walks over the test for too many drawn bytes and over two lists of texts compared. -/
namespace Go.Proofs.YtmbjflhhffcjdaaDoor
open Go.RowKit Pl
set_option linter.unusedVariables false

set_option maxRecDepth 100000 in
set_option maxHeartbeats 1000000 in
theorem big_any (w : World) (n cap : Nat) (ao : Option Addr) (b : Bool) (hb : decide (1048576 < (n : Int)) = b) :
    Calls Tryd.prog 9 #[.slice ao n cap] w fun e w' => e = .returned (.bool b) ∧ w' = w := by
  go_enter Tryd.func9, Tryd.ntmps9
  go_wp2
  go_ret
  exact ⟨by rw [← hb]; rfl, rfl⟩

set_option maxRecDepth 100000 in
set_option maxHeartbeats 1000000 in
theorem sameT_any (a1 a2 : Option Addr) (c1 c2 : Nat) (ss : List ByteArray) (w : World) (h1 : Hid (TextsAt w a1 ss)) (h2 : Hid (TextsAt w a2 ss)) (hl : ss.length ≤ 1048577) :
    Calls Tryd.prog 15 #[.slice a1 ss.length c1, .slice a2 ss.length c2] w fun e w' => e = .returned (.bool true) ∧ Below w.heap.size w w' := by
  go_enter Tryd.func15, Tryd.ntmps15
  go_wp2
  go_loopw [5] (fun i wr => ∃ k : Nat, k ≤ ss.length ∧ i = .int .i64 k ∧ Below w.heap.size w wr) (fun i _ => ss.length - (intOf i).toNat)
  case atStart => exact ⟨0, by omega, rfl, Below.refl _ _⟩
  case round =>
    obtain ⟨k, hk, rfl, hb⟩ := hrel
    by_cases hlt : k < ss.length
    · obtain ⟨b1, o1, rfl, hb1, hc1⟩ := h1.out.stays hb k hlt
      obtain ⟨b2, o2, rfl, hb2, hc2⟩ := h2.out.stays hb k hlt
      have hq1 : (0 : Int) ≤ (k : Int) := by omega
      have hq2 : (k : Int) < (ss.length : Int) := by omega
      go_wp2
      go_quiet (fail)
      go_wp2
      go_roundw
      case rel => exact ⟨k + 1, by omega, by go_num, below_drewN hb _⟩
      case measure => simp [intOf]; omega
    · go_wp2
      go_ret
      exact ⟨rfl, hb⟩
end Go.Proofs.YtmbjflhhffcjdaaDoor


/- Slices of ints compared, written over and looked at again. -/
namespace Go.Proofs.YtmbjflhhffcjdaaDoor
open Go.RowKit Pl
set_option linter.unusedVariables false

/-- what markIntS writes. -/
def marks (K n : Nat) : List Int := (List.range n).map fun (j : Nat) => ((K + j : Nat) : Int)
theorem Pl.OwnI.keep {w w' : World} {B : Nat} {v : Value} {ss : List Int} (h : OwnI w B v ss) (hk : ∀ k, v.ownBlock = Option.some k → k < w.heap.size → w'.heap[k]? = w.heap[k]?) : OwnI w' B v ss := by
  refine ⟨h.1, ?_⟩
  rcases h.2 with hn | ⟨g, cap, cur, rfl, hbg, hg, rest⟩
  · exact .inl hn
  · exact .inr ⟨g, cap, cur, rfl, hbg, (hk g rfl (Array.getElem?_eq_some_iff.1 hg).1).trans hg, rest⟩
end Go.Proofs.YtmbjflhhffcjdaaDoor


/- Small things that the laws lean on. -/
namespace Go.Proofs.YtmbjflhhffcjdaaDoor
open Go.RowKit Pl
set_option linter.unusedVariables false
theorem bl_next {a b c : World} (h : Below a.heap.size a b) (k : Below b.heap.size b c) : Below a.heap.size a c := h.trans (k.mono h.size)
end Go.Proofs.YtmbjflhhffcjdaaDoor


/- The walk over the specification's TokenOk. -/
namespace Go.Proofs.YtmbjflhhffcjdaaDoor
open Go.RowKit Pl
set_option linter.unusedVariables false
end Go.Proofs.YtmbjflhhffcjdaaDoor


/- Rings in plain words, and the walks over both RingOk. -/
namespace Go.Proofs.YtmbjflhhffcjdaaDoor
open Go.RowKit Pl
set_option linter.unusedVariables false

/-- a ring is right. -/
def ringB (i : Int) (ms : List Int) : Bool := decide (1 ≤ i ∧ i ≤ 9) && (decide (0 < ms.length) && wGo 0 5 ms)

end Go.Proofs.YtmbjflhhffcjdaaDoor


/- Rings that a law sizes, copies, compares and writes over. -/
namespace Go.Proofs.YtmbjflhhffcjdaaDoor
open Go.RowKit Pl
set_option linter.unusedVariables false
end Go.Proofs.YtmbjflhhffcjdaaDoor


/- The walk over the specification's RingOk. -/
namespace Go.Proofs.YtmbjflhhffcjdaaDoor
open Go.RowKit Pl
set_option linter.unusedVariables false
end Go.Proofs.YtmbjflhhffcjdaaDoor


/- The member behind another: slices.Index and both NextOf. -/
namespace Go.Proofs.YtmbjflhhffcjdaaDoor
open Go.RowKit Pl
set_option linter.unusedVariables false

/-- the first place of d is k. -/
def FirstAt (ms : List Int) (d : Int) (k : Nat) : Prop := ∃ h : k < ms.length, ms[k] = d ∧ ∀ j (hj : j < k), ms[j]'(by omega) ≠ d
/-- d has no place among the first k. -/
def NoneUpto (ms : List Int) (d : Int) (k : Nat) : Prop := ∀ j (hj : j < ms.length), j < k → ms[j] ≠ d
/-- the member behind d. -/
def nextP (i : Int) (ms : List Int) (d : Int) : Int :=
  if ringB i ms then (match ms.findIdx? (fun x => x == d) with | some k => ms.getD ((k + 1) % ms.length) 0 | none => 0) else 0
end Go.Proofs.YtmbjflhhffcjdaaDoor


/- The walks over ReadVar of the specification. -/
namespace Go.Proofs.YtmbjflhhffcjdaaDoor
open Go.RowKit Pl
set_option linter.unusedVariables false

set_option maxHeartbeats 400000 in
theorem l01In_yes (x a b : Int) (w : World) (h1 : a ≤ x) (h2 : x ≤ b) :
    Calls Tryd.prog 46 #[.int .i64 x, .int .i64 a, .int .i64 b] w fun e w' => e = .returned (.bool true) ∧ w' = w := in_is w (by simp; omega)

theorem below_drewN {B : Nat} {a w : World} (h : Below B a w) (n : Nat) : Below B a (w.drewN n) := h.trans ⟨rfl, rfl, rfl, Nat.le_refl _, fun _ _ => rfl⟩

set_option maxRecDepth 100000 in
set_option maxHeartbeats 4000000 in
theorem specRv_in (s : ByteArray) (A : Nat) (w : World) (hs : s.size ≤ 1048576) (hA : A ≤ s.size) :
    Calls Tryd.prog 95 #[.string s, .int .i64 A] w fun e w' => e = .returned (rvT (rv s A)) ∧ Below w.heap.size w w' := by
  go_enter Tryd.func95, Tryd.ntmps95
  go_wp2_with (first | (go_at_call 46; refine (l01In_yes _ _ _ _ (by omega) (by omega)).mono ?_; rintro e w' ⟨rfl, rfl⟩))
  go_loop [7, 8, 9] (fun n sc i => ∃ k m S : Nat, A + k ≤ s.size ∧ n = .int .i64 m ∧ m < S ∧ sc = .int .i64 S ∧ i = .int .i64 ((A + k : Nat) : Int) ∧ PowS k S ∧ Hid (RvSt s A k m S) ∧ Hid (Dig s A k m S)) (fun _ _ i => s.size - (intOf i).toNat)
  case atStart => exact ⟨0, 0, 1, by omega, rfl, by decide, rfl, rfl, .inl ⟨rfl, rfl⟩, rvSt_start s A, dig_start s A⟩
  case round =>
    obtain ⟨k, m, S, hk2, rfl, hm, rfl, rfl, hp, hst, hdg⟩ := hrel
    by_cases hlt : A + k < s.size ∧ k < 5
    · obtain ⟨hlt, hk5⟩ := hlt
      have hb : (s[A + k]'hlt).toNat < 256 := UInt8.toNat_lt _
      rcases hp with ⟨rfl, rfl⟩ | ⟨rfl, rfl⟩ | ⟨rfl, rfl⟩ | ⟨rfl, rfl⟩ | ⟨rfl, rfl⟩ | ⟨rfl, rfl⟩
      · -- digit 0
        simp only [Nat.add_zero] at hb
        by_cases hc : 127 < (s[A]'(show A < s.size by omega)).toNat
        · go_wp2
          go_round
          case rel => exact digNext hst.out hdg.out (by omega) hlt (by first | omega | (simp only [Nat.add_zero]; omega)) hm (by simp [PowS]) (by first | go_num | (simp only [Nat.add_zero]; go_num)) (by go_num) (by go_num)
          case measure => simp [intOf]; omega
        · generalize hcc : (s[A]'(show A < s.size by omega)).toNat = c at *
          have hcd : (s[A + 0]'hlt).toNat = c := hcc
          by_cases hg : 1000000000 < m + c % 128
          · exfalso; omega
          · have hd : decide (1000000000 < (m : Int) + (c : Int) % 128) = false := by simp; omega
            have hw1 : IntKind.i64.wrap ((A : Int) + 1) = (A : Int) + 1 := by rw [IntKind.wrap_i64]; omega
            have hi1 : (A : Int) + 1 ≤ (s.size : Int) := by omega
            have hi2 : (A : Int) ≤ (A : Int) + 1 := by omega
            have hi3 : (0 : Int) ≤ (A : Int) := by omega
            go_wp2
            go_region_held3 (fun _ => True) (trivial) (first | (go_at_call 62; refine (l01Var_at _ _ (by omega) (by omega)).mono ?_; rintro e w1 ⟨rfl, hb1⟩))
            go_wp2
            · have ht : (!(varS ((m : Int) + (c : Int) % 128).toNat).toList == (s.extract A ((A : Int) + 1).toNat).toList) = true := by assumption
              have ht2 := (cmp_test hdg.out hlt hcd (by omega) (by omega) (by omega)).1 ht
              go_ret3
              exact ⟨rvT_bad (rvSt_bad hst.out (by omega) hlt (by rw [hcd]; omega) (.inl (by rw [hcd]; exact ht2))), (Below.refl _ _).drew.trans hb1⟩
            · have ht : (!(varS ((m : Int) + (c : Int) % 128).toNat).toList == (s.extract A ((A : Int) + 1).toNat).toList) = false := by assumption
              have ht2 : ¬ (c = 0 ∧ 0 < 0) := cmp_test_no hdg.out hlt hcd (by omega) (by omega) (by omega) ht
              go_ret3
              exact ⟨rvT_good (rvSt_good hst.out (by omega) hlt (by rw [hcd]; omega) (by rw [hcd]; exact ht2) (by rw [hcd]; omega)) (by rw [hcd]; omega) (by omega), (Below.refl _ _).drew.trans hb1⟩
      · -- digit 1
        by_cases hc : 127 < (s[A + 1]'hlt).toNat
        · go_wp2
          go_round
          case rel => exact digNext hst.out hdg.out (by omega) hlt (by first | omega | (simp only [Nat.add_zero]; omega)) hm (by simp [PowS]) (by first | go_num | (simp only [Nat.add_zero]; go_num)) (by go_num) (by go_num)
          case measure => simp [intOf]; omega
        · generalize hcc : (s[A + 1]'hlt).toNat = c at *
          have hcd : (s[A + 1]'hlt).toNat = c := hcc
          by_cases hg : 1000000000 < m + c % 128 * 128
          · exfalso; omega
          · have hd : decide (1000000000 < (m : Int) + (c : Int) % 128 * 128) = false := by simp; omega
            have hw1 : IntKind.i64.wrap ((A : Int) + 1 + 1) = (A : Int) + 1 + 1 := by rw [IntKind.wrap_i64]; omega
            have hi1 : (A : Int) + 1 + 1 ≤ (s.size : Int) := by omega
            have hi2 : (A : Int) ≤ (A : Int) + 1 + 1 := by omega
            have hi3 : (0 : Int) ≤ (A : Int) := by omega
            go_wp2
            go_region_held3 (fun _ => True) (trivial) (first | (go_at_call 62; refine (l01Var_at _ _ (by omega) (by omega)).mono ?_; rintro e w1 ⟨rfl, hb1⟩))
            go_wp2
            · have ht : (!(varS ((m : Int) + (c : Int) % 128 * 128).toNat).toList == (s.extract A ((A : Int) + 1 + 1).toNat).toList) = true := by assumption
              have ht2 := (cmp_test hdg.out hlt hcd (by omega) (by omega) (by omega)).1 ht
              go_ret3
              exact ⟨rvT_bad (rvSt_bad hst.out (by omega) hlt (by rw [hcd]; omega) (.inl (by rw [hcd]; exact ht2))), (Below.refl _ _).drew.trans hb1⟩
            · have ht : (!(varS ((m : Int) + (c : Int) % 128 * 128).toNat).toList == (s.extract A ((A : Int) + 1 + 1).toNat).toList) = false := by assumption
              have ht2 : ¬ (c = 0 ∧ 0 < 1) := cmp_test_no hdg.out hlt hcd (by omega) (by omega) (by omega) ht
              go_ret3
              exact ⟨rvT_good (rvSt_good hst.out (by omega) hlt (by rw [hcd]; omega) (by rw [hcd]; exact ht2) (by rw [hcd]; omega)) (by rw [hcd]; omega) (by omega), (Below.refl _ _).drew.trans hb1⟩
      · -- digit 2
        by_cases hc : 127 < (s[A + 2]'hlt).toNat
        · go_wp2
          go_round
          case rel => exact digNext hst.out hdg.out (by omega) hlt (by first | omega | (simp only [Nat.add_zero]; omega)) hm (by simp [PowS]) (by first | go_num | (simp only [Nat.add_zero]; go_num)) (by go_num) (by go_num)
          case measure => simp [intOf]; omega
        · generalize hcc : (s[A + 2]'hlt).toNat = c at *
          have hcd : (s[A + 2]'hlt).toNat = c := hcc
          by_cases hg : 1000000000 < m + c % 128 * 16384
          · exfalso; omega
          · have hd : decide (1000000000 < (m : Int) + (c : Int) % 128 * 16384) = false := by simp; omega
            have hw1 : IntKind.i64.wrap ((A : Int) + 2 + 1) = (A : Int) + 2 + 1 := by rw [IntKind.wrap_i64]; omega
            have hi1 : (A : Int) + 2 + 1 ≤ (s.size : Int) := by omega
            have hi2 : (A : Int) ≤ (A : Int) + 2 + 1 := by omega
            have hi3 : (0 : Int) ≤ (A : Int) := by omega
            go_wp2
            go_region_held3 (fun _ => True) (trivial) (first | (go_at_call 62; refine (l01Var_at _ _ (by omega) (by omega)).mono ?_; rintro e w1 ⟨rfl, hb1⟩))
            go_wp2
            · have ht : (!(varS ((m : Int) + (c : Int) % 128 * 16384).toNat).toList == (s.extract A ((A : Int) + 2 + 1).toNat).toList) = true := by assumption
              have ht2 := (cmp_test hdg.out hlt hcd (by omega) (by omega) (by omega)).1 ht
              go_ret3
              exact ⟨rvT_bad (rvSt_bad hst.out (by omega) hlt (by rw [hcd]; omega) (.inl (by rw [hcd]; exact ht2))), (Below.refl _ _).drew.trans hb1⟩
            · have ht : (!(varS ((m : Int) + (c : Int) % 128 * 16384).toNat).toList == (s.extract A ((A : Int) + 2 + 1).toNat).toList) = false := by assumption
              have ht2 : ¬ (c = 0 ∧ 0 < 2) := cmp_test_no hdg.out hlt hcd (by omega) (by omega) (by omega) ht
              go_ret3
              exact ⟨rvT_good (rvSt_good hst.out (by omega) hlt (by rw [hcd]; omega) (by rw [hcd]; exact ht2) (by rw [hcd]; omega)) (by rw [hcd]; omega) (by omega), (Below.refl _ _).drew.trans hb1⟩
      · -- digit 3
        by_cases hc : 127 < (s[A + 3]'hlt).toNat
        · go_wp2
          go_round
          case rel => exact digNext hst.out hdg.out (by omega) hlt (by first | omega | (simp only [Nat.add_zero]; omega)) hm (by simp [PowS]) (by first | go_num | (simp only [Nat.add_zero]; go_num)) (by go_num) (by go_num)
          case measure => simp [intOf]; omega
        · generalize hcc : (s[A + 3]'hlt).toNat = c at *
          have hcd : (s[A + 3]'hlt).toNat = c := hcc
          by_cases hg : 1000000000 < m + c % 128 * 2097152
          · exfalso; omega
          · have hd : decide (1000000000 < (m : Int) + (c : Int) % 128 * 2097152) = false := by simp; omega
            have hw1 : IntKind.i64.wrap ((A : Int) + 3 + 1) = (A : Int) + 3 + 1 := by rw [IntKind.wrap_i64]; omega
            have hi1 : (A : Int) + 3 + 1 ≤ (s.size : Int) := by omega
            have hi2 : (A : Int) ≤ (A : Int) + 3 + 1 := by omega
            have hi3 : (0 : Int) ≤ (A : Int) := by omega
            go_wp2
            go_region_held3 (fun _ => True) (trivial) (first | (go_at_call 62; refine (l01Var_at _ _ (by omega) (by omega)).mono ?_; rintro e w1 ⟨rfl, hb1⟩))
            go_wp2
            · have ht : (!(varS ((m : Int) + (c : Int) % 128 * 2097152).toNat).toList == (s.extract A ((A : Int) + 3 + 1).toNat).toList) = true := by assumption
              have ht2 := (cmp_test hdg.out hlt hcd (by omega) (by omega) (by omega)).1 ht
              go_ret3
              exact ⟨rvT_bad (rvSt_bad hst.out (by omega) hlt (by rw [hcd]; omega) (.inl (by rw [hcd]; exact ht2))), (Below.refl _ _).drew.trans hb1⟩
            · have ht : (!(varS ((m : Int) + (c : Int) % 128 * 2097152).toNat).toList == (s.extract A ((A : Int) + 3 + 1).toNat).toList) = false := by assumption
              have ht2 : ¬ (c = 0 ∧ 0 < 3) := cmp_test_no hdg.out hlt hcd (by omega) (by omega) (by omega) ht
              go_ret3
              exact ⟨rvT_good (rvSt_good hst.out (by omega) hlt (by rw [hcd]; omega) (by rw [hcd]; exact ht2) (by rw [hcd]; omega)) (by rw [hcd]; omega) (by omega), (Below.refl _ _).drew.trans hb1⟩
      · -- digit 4
        by_cases hc : 127 < (s[A + 4]'hlt).toNat
        · go_wp2
          go_round
          case rel => exact digNext hst.out hdg.out (by omega) hlt (by first | omega | (simp only [Nat.add_zero]; omega)) hm (by simp [PowS]) (by first | go_num | (simp only [Nat.add_zero]; go_num)) (by go_num) (by go_num)
          case measure => simp [intOf]; omega
        · generalize hcc : (s[A + 4]'hlt).toNat = c at *
          have hcd : (s[A + 4]'hlt).toNat = c := hcc
          by_cases hg : 1000000000 < m + c % 128 * 268435456
          · have hd : decide (1000000000 < (m : Int) + (c : Int) % 128 * 268435456) = true := by simp; omega
            go_wp2
            go_quiet (fail)
            go_wp2
            go_ret3
            exact ⟨rvT_bad (rvSt_bad hst.out (by omega) hlt (by rw [hcd]; omega) (by rw [hcd]; omega)), below_drewN (Below.refl _ _) _⟩
          · have hd : decide (1000000000 < (m : Int) + (c : Int) % 128 * 268435456) = false := by simp; omega
            have hw1 : IntKind.i64.wrap ((A : Int) + 4 + 1) = (A : Int) + 4 + 1 := by rw [IntKind.wrap_i64]; omega
            have hi1 : (A : Int) + 4 + 1 ≤ (s.size : Int) := by omega
            have hi2 : (A : Int) ≤ (A : Int) + 4 + 1 := by omega
            have hi3 : (0 : Int) ≤ (A : Int) := by omega
            go_wp2
            go_region_held3 (fun _ => True) (trivial) (first | (go_at_call 62; refine (l01Var_at _ _ (by omega) (by omega)).mono ?_; rintro e w1 ⟨rfl, hb1⟩))
            go_wp2
            · have ht : (!(varS ((m : Int) + (c : Int) % 128 * 268435456).toNat).toList == (s.extract A ((A : Int) + 4 + 1).toNat).toList) = true := by assumption
              have ht2 := (cmp_test hdg.out hlt hcd (by omega) (by omega) (by omega)).1 ht
              go_ret3
              exact ⟨rvT_bad (rvSt_bad hst.out (by omega) hlt (by rw [hcd]; omega) (.inl (by rw [hcd]; exact ht2))), (Below.refl _ _).drew.trans hb1⟩
            · have ht : (!(varS ((m : Int) + (c : Int) % 128 * 268435456).toNat).toList == (s.extract A ((A : Int) + 4 + 1).toNat).toList) = false := by assumption
              have ht2 : ¬ (c = 0 ∧ 0 < 4) := cmp_test_no hdg.out hlt hcd (by omega) (by omega) (by omega) ht
              go_ret3
              exact ⟨rvT_good (rvSt_good hst.out (by omega) hlt (by rw [hcd]; omega) (by rw [hcd]; exact ht2) (by rw [hcd]; omega)) (by rw [hcd]; omega) (by omega), (Below.refl _ _).drew.trans hb1⟩
      · exfalso; omega
    · have hend : s.size ≤ A + k ∨ 5 ≤ k := by omega
      unfold PowS at hp
      go_wp2
      all_goals
        go_ret3
        exact ⟨rvT_bad (rvSt_out hst.out (by omega)), Below.refl _ _⟩

theorem specRv_some (s : ByteArray) (A n i : Nat) (w : World) (hs : s.size ≤ 1048576) (hA : A ≤ s.size) (h : rv s A = some (n, i)) :
    Calls Tryd.prog 95 #[.string s, .int .i64 A] w fun e w' => e = .returned (.tuple #[.int .i64 n, .int .i64 i, .bool true]) ∧ Below w.heap.size w w' := by
  have := specRv_in s A w hs hA
  rw [h] at this
  exact this
theorem specRv_none (s : ByteArray) (A : Nat) (w : World) (hs : s.size ≤ 1048576) (hA : A ≤ s.size) (h : rv s A = none) :
    Calls Tryd.prog 95 #[.string s, .int .i64 A] w fun e w' => e = .returned (.tuple #[.int .i64 0, .int .i64 0, .bool false]) ∧ Below w.heap.size w w' := by
  have := specRv_in s A w hs hA
  rw [h] at this
  exact this
end Go.Proofs.YtmbjflhhffcjdaaDoor


/- The walks over the specification's reader of a text: a number, so many bytes, one byte. -/
namespace Go.Proofs.YtmbjflhhffcjdaaDoor
open Go.RowKit Pl
set_option linter.unusedVariables false

/-- the block g is a cursor over s at the place A; b: it was not of its form. -/
def PcAt (w : World) (g : Nat) (s : ByteArray) (A : Nat) (b : Bool) : Prop := w.heap[g]? = some (.cells #[.string s, .int .i64 A, .bool b] 79 (0, 0))
theorem PcAt.cells {w : World} {g : Nat} {s : ByteArray} {A : Nat} {b : Bool} (h : PcAt w g s A b) : w.cell? ⟨g, 0, none⟩ = some (.string s) ∧ w.cell? ⟨g, 1, none⟩ = some (.int .i64 A) ∧ w.cell? ⟨g, 2, none⟩ = some (.bool b) ∧ w.frozen? ⟨g, 0, none⟩ = false ∧ w.frozen? ⟨g, 1, none⟩ = false ∧ w.frozen? ⟨g, 2, none⟩ = false :=
  ⟨by rw [cell_of_row w g 0 _ 79 (0, 0) h]; rfl, by rw [cell_of_row w g 1 _ 79 (0, 0) h]; rfl, by rw [cell_of_row w g 2 _ 79 (0, 0) h]; rfl, frozen_of_row w g 0 _ 79 h, frozen_of_row w g 1 _ 79 h, frozen_of_row w g 2 _ 79 h⟩
theorem PcAt.stays {w w' : World} {B g : Nat} {s : ByteArray} {A : Nat} {b : Bool} (h : PcAt w g s A b) (hb : Below B w w') (hg : g < B) : PcAt w' g s A b := (hb.block g hg).trans h
theorem PcAt.keep {w w' : World} {k g : Nat} {s : ByteArray} {A : Nat} {b : Bool} (h : PcAt w g s A b) (hk : TurnAt k w w') (hg : g ≠ k) : PcAt w' g s A b := (hk.block g hg).trans h
theorem PcAt.lt {w : World} {g : Nat} {s : ByteArray} {A : Nat} {b : Bool} (h : PcAt w g s A b) : g < w.heap.size := (Array.getElem?_eq_some_iff.1 h).1
theorem PcAt.set1 {w : World} {g : Nat} {s : ByteArray} {A : Nat} {b : Bool} (h : PcAt w g s A b) (i : Nat) : PcAt (w.setCell ⟨g, 1, none⟩ (.int .i64 i)) g s i b := by
  have h1 := heap_setCell_same w g 1 _ 79 (.int .i64 i) h
  unfold PcAt; rw [h1]; rfl
theorem PcAt.set2 {w : World} {g : Nat} {s : ByteArray} {A : Nat} {b : Bool} (h : PcAt w g s A b) (c : Bool) : PcAt (w.setCell ⟨g, 2, none⟩ (.bool c)) g s A c := by
  have h1 := heap_setCell_same w g 2 _ 79 (.bool c) h
  unfold PcAt; rw [h1]; rfl
theorem PcAt.drewN {w : World} {g : Nat} {s : ByteArray} {A : Nat} {b : Bool} (h : PcAt w g s A b) (n : Nat) : PcAt (w.drewN n) g s A b := h

theorem pc_step {W w w' : World} {g A : Nat} {s : ByteArray} {b : Bool} (h : (w.cell? ⟨g, 0, none⟩ = some (.string s) ∧ w.cell? ⟨g, 1, none⟩ = some (.int .i64 A)) ∧ Hid (Below W.heap.size W w ∧ PcAt w g s A b)) (hb : Below w.heap.size w w') :
    (w'.cell? ⟨g, 0, none⟩ = some (.string s) ∧ w'.cell? ⟨g, 1, none⟩ = some (.int .i64 A)) ∧ Hid (Below W.heap.size W w' ∧ PcAt w' g s A b) := by
  obtain ⟨h1, h2⟩ := h
  obtain ⟨h3, h4⟩ := h2.out
  have h5 := h4.stays hb h4.lt
  exact ⟨⟨h5.cells.1, h5.cells.2.1⟩, ⟨h3.trans (hb.mono h3.size), h5⟩⟩

/-- what a number's reading comes to. -/
def VarF (s : ByteArray) (A : Nat) (b : Bool) (n i : Nat) (b' : Bool) : Prop :=
  (b = false ∧ rv s A = some (n, i) ∧ b' = false) ∨ (n = 0 ∧ i = A ∧ b' = true ∧ (b = true ∨ rv s A = none))

set_option maxRecDepth 100000 in
set_option maxHeartbeats 1000000 in
theorem lvar_good (s : ByteArray) (g A n i : Nat) (w : World) (hp : Hid (PcAt w g s A false)) (hs : s.size ≤ 1048576) (hA : A ≤ s.size) (h : Hid (rv s A = some (n, i))) :
    Calls Tryd.prog 56 #[.pointer (some ⟨g, 0, none⟩)] w fun e w' => e = .returned (.int .i64 n) ∧ PcAt w' g s i false ∧ KeepBut g w w' := by
  have HI : (w.drew.cell? ⟨g, 0, none⟩ = some (.string s) ∧ w.drew.cell? ⟨g, 1, none⟩ = some (.int .i64 A)) ∧ Hid (Below w.heap.size w w.drew ∧ PcAt w.drew g s A false) :=
    ⟨⟨hp.out.cells.1, hp.out.cells.2.1⟩, (Below.refl _ _).drew, hp.out⟩
  go_enter Tryd.func56, Tryd.ntmps56
  go_wp2
  go_region_held3 (fun w' => (w'.cell? ⟨g, 0, none⟩ = some (.string s) ∧ w'.cell? ⟨g, 1, none⟩ = some (.int .i64 A)) ∧ Hid (Below w.heap.size w w' ∧ PcAt w' g s A false)) (first | exact HI | assumption) (first | (go_at_call 95; refine (specRv_some s A n i _ hs hA h.out).mono ?_; rintro e w3 ⟨rfl, hb3⟩; have hk3 := pc_step (W := w) (by assumption) hb3))
  have hk := hk3.2
  obtain ⟨c0, c1, c2, f0, f1, f2⟩ := hk.out.2.cells
  clear HI hk3
  go_wp2
  go_ret
  exact ⟨rfl, hk.out.2.set1 i, (keep_of_below hk.out.1).trans ((TurnAt.refl g w3).setCell 1 _).keep⟩

set_option maxRecDepth 100000 in
set_option maxHeartbeats 1000000 in
theorem lvar_none (s : ByteArray) (g A : Nat) (b : Bool) (w : World) (hp : Hid (PcAt w g s A b)) (hs : s.size ≤ 1048576) (hA : A ≤ s.size) (h : Hid (rv s A = none)) :
    Calls Tryd.prog 56 #[.pointer (some ⟨g, 0, none⟩)] w fun e w' => e = .returned (.int .i64 0) ∧ PcAt w' g s A true ∧ KeepBut g w w' := by
  have HI : (w.drew.cell? ⟨g, 0, none⟩ = some (.string s) ∧ w.drew.cell? ⟨g, 1, none⟩ = some (.int .i64 A)) ∧ Hid (Below w.heap.size w w.drew ∧ PcAt w.drew g s A b) :=
    ⟨⟨hp.out.cells.1, hp.out.cells.2.1⟩, (Below.refl _ _).drew, hp.out⟩
  go_enter Tryd.func56, Tryd.ntmps56
  go_wp2
  go_region_held3 (fun w' => (w'.cell? ⟨g, 0, none⟩ = some (.string s) ∧ w'.cell? ⟨g, 1, none⟩ = some (.int .i64 A)) ∧ Hid (Below w.heap.size w w' ∧ PcAt w' g s A b)) (first | exact HI | assumption) (first | (go_at_call 95; refine (specRv_none s A _ hs hA h.out).mono ?_; rintro e w3 ⟨rfl, hb3⟩; have hk3 := pc_step (W := w) (by assumption) hb3))
  have hk := hk3.2
  obtain ⟨c0, c1, c2, f0, f1, f2⟩ := hk.out.2.cells
  clear HI hk3
  cases b
  all_goals
    go_wp2
    go_ret
    exact ⟨rfl, hk.out.2.set2 true, (keep_of_below hk.out.1).trans ((TurnAt.refl g w3).setCell 2 _).keep⟩

set_option maxRecDepth 100000 in
set_option maxHeartbeats 1000000 in
theorem lvar_bad (s : ByteArray) (g A n i : Nat) (w : World) (hp : Hid (PcAt w g s A true)) (hs : s.size ≤ 1048576) (hA : A ≤ s.size) (h : Hid (rv s A = some (n, i))) :
    Calls Tryd.prog 56 #[.pointer (some ⟨g, 0, none⟩)] w fun e w' => e = .returned (.int .i64 0) ∧ PcAt w' g s A true ∧ KeepBut g w w' := by
  have HI : (w.drew.cell? ⟨g, 0, none⟩ = some (.string s) ∧ w.drew.cell? ⟨g, 1, none⟩ = some (.int .i64 A)) ∧ Hid (Below w.heap.size w w.drew ∧ PcAt w.drew g s A true) :=
    ⟨⟨hp.out.cells.1, hp.out.cells.2.1⟩, (Below.refl _ _).drew, hp.out⟩
  go_enter Tryd.func56, Tryd.ntmps56
  go_wp2
  go_region_held3 (fun w' => (w'.cell? ⟨g, 0, none⟩ = some (.string s) ∧ w'.cell? ⟨g, 1, none⟩ = some (.int .i64 A)) ∧ Hid (Below w.heap.size w w' ∧ PcAt w' g s A true)) (first | exact HI | assumption) (first | (go_at_call 95; refine (specRv_some s A n i _ hs hA h.out).mono ?_; rintro e w3 ⟨rfl, hb3⟩; have hk3 := pc_step (W := w) (by assumption) hb3))
  have hk := hk3.2
  obtain ⟨c0, c1, c2, f0, f1, f2⟩ := hk.out.2.cells
  clear HI hk3
  go_wp2
  go_ret
  exact ⟨rfl, hk.out.2.set2 true, (keep_of_below hk.out.1).trans ((TurnAt.refl g w3).setCell 2 _).keep⟩

theorem lvar_any (s : ByteArray) (g A : Nat) (b : Bool) (w : World) (hp : Hid (PcAt w g s A b)) (hs : s.size ≤ 1048576) (hA : A ≤ s.size) :
    Calls Tryd.prog 56 #[.pointer (some ⟨g, 0, none⟩)] w fun e w' => ∃ (n i : Nat) (b' : Bool), e = .returned (.int .i64 n) ∧ n ≤ 1000000000 ∧ i ≤ s.size ∧ PcAt w' g s i b' ∧ KeepBut g w w' ∧ VarF s A b n i b' := by
  rcases h0 : rv s A with _ | ⟨n, i⟩
  · exact (lvar_none s g A b w hp hs hA h0).mono fun e w' ⟨h1, h2, h3⟩ => ⟨0, A, true, h1, by omega, hA, h2, h3, .inr ⟨rfl, rfl, rfl, .inr h0⟩⟩
  · cases b with
    | true => exact (lvar_bad s g A n i w hp hs hA h0).mono fun e w' ⟨h1, h2, h3⟩ => ⟨0, A, true, h1, by omega, hA, h2, h3, .inr ⟨rfl, rfl, rfl, .inl rfl⟩⟩
    | false =>
      obtain ⟨b1, b2⟩ := rv_le hA h0
      exact (lvar_good s g A n i w hp hs hA h0).mono fun e w' ⟨h1, h2, h3⟩ => ⟨n, i, false, h1, b1, b2, h2, h3, .inl ⟨rfl, h0, rfl⟩⟩

/-- what the taking of k bytes comes to. -/
def TakeF (s : ByteArray) (A k : Nat) (b : Bool) (t : ByteArray) (i : Nat) (b' : Bool) : Prop :=
  (b = false ∧ A + k ≤ s.size ∧ t = s.extract A (A + k) ∧ i = A + k ∧ b' = false) ∨ (t = ByteArray.empty ∧ i = A ∧ b' = true ∧ (b = true ∨ s.size < A + k))

set_option maxRecDepth 100000 in
set_option maxHeartbeats 1000000 in
theorem take_bad (s : ByteArray) (g A k : Nat) (w : World) (hp : Hid (PcAt w g s A true)) (hs : s.size ≤ 1048576) (hA : A ≤ s.size) (hk : k ≤ 1000000000) :
    Calls Tryd.prog 94 #[.pointer (some ⟨g, 0, none⟩), .int .i64 k] w fun e w' => e = .returned (.string ByteArray.empty) ∧ PcAt w' g s A true ∧ TurnAt g w w' := by
  obtain ⟨c0, c1, c2, f0, f1, f2⟩ := hp.out.cells
  go_enter Tryd.func94, Tryd.ntmps94
  go_wp2
  go_quiet (fail)
  go_wp2
  go_ret
  exact ⟨rfl, (hp.out.drewN _).set2 true, ((TurnAt.refl g w).drewN _).setCell _ _⟩
set_option maxRecDepth 100000 in
set_option maxHeartbeats 1000000 in
theorem take_far (s : ByteArray) (g A k : Nat) (w : World) (hp : Hid (PcAt w g s A false)) (hs : s.size ≤ 1048576) (hA : A ≤ s.size) (hk : k ≤ 1000000000) (h : s.size < A + k) :
    Calls Tryd.prog 94 #[.pointer (some ⟨g, 0, none⟩), .int .i64 k] w fun e w' => e = .returned (.string ByteArray.empty) ∧ PcAt w' g s A true ∧ TurnAt g w w' := by
  obtain ⟨c0, c1, c2, f0, f1, f2⟩ := hp.out.cells
  have hw : IntKind.i64.wrap ((s.size : Int) - (A : Int)) = (s.size : Int) - (A : Int) := by rw [IntKind.wrap_i64]; omega
  have hd : decide ((s.size : Int) - (A : Int) < (k : Int)) = true := by simp; omega
  go_enter Tryd.func94, Tryd.ntmps94
  go_wp2
  go_quiet (fail)
  go_wp2
  go_ret
  exact ⟨rfl, (hp.out.drewN _).set2 true, ((TurnAt.refl g w).drewN _).setCell _ _⟩
set_option maxRecDepth 100000 in
set_option maxHeartbeats 1000000 in
theorem take_good (s : ByteArray) (g A k : Nat) (w : World) (hp : Hid (PcAt w g s A false)) (hs : s.size ≤ 1048576) (h : A + k ≤ s.size) :
    Calls Tryd.prog 94 #[.pointer (some ⟨g, 0, none⟩), .int .i64 k] w fun e w' => e = .returned (.string (s.extract A (A + k))) ∧ PcAt w' g s (A + k) false ∧ TurnAt g w w' := by
  obtain ⟨c0, c1, c2, f0, f1, f2⟩ := hp.out.cells
  have hw : IntKind.i64.wrap ((s.size : Int) - (A : Int)) = (s.size : Int) - (A : Int) := by rw [IntKind.wrap_i64]; omega
  have hd : decide ((s.size : Int) - (A : Int) < (k : Int)) = false := by simp; omega
  go_enter Tryd.func94, Tryd.ntmps94
  go_wp2
  go_quiet (fail)
  go_wp2
  have P2 : Hid (PcAt ((w.drewN nq).setCell ⟨g, 1, none⟩ (.int .i64 ((A : Int) + (k : Int)))) g s (A + k) false) := (hp.out.drewN nq).set1 (A + k)
  have T2 : Hid (TurnAt g w ((w.drewN nq).setCell ⟨g, 1, none⟩ (.int .i64 ((A : Int) + (k : Int))))) := ((TurnAt.refl g w).drewN nq).setCell _ _
  generalize (w.drewN nq).setCell ⟨g, 1, none⟩ (.int .i64 ((A : Int) + (k : Int))) = W at *
  clear c0 c1 c2 f0 f1 f2 hw hd
  generalize hX : A + k = X at *
  have hw2 : IntKind.i64.wrap ((X : Int) - (k : Int)) = (A : Int) := by rw [IntKind.wrap_i64]; omega
  have i0 : (0 : Int) ≤ (A : Int) := by omega
  have i1 : (A : Int) ≤ (X : Int) := by omega
  have i2 : (X : Int) ≤ (s.size : Int) := by omega
  obtain ⟨c0, c1, c2, f0, f1, f2⟩ := P2.out.cells
  have HX : Hid (A + k = X) := hX
  clear hX
  go_quiet (fail)
  go_wp2
  go_ret
  exact ⟨by rw [HX.out]; rfl, by rw [HX.out]; exact P2.out, T2.out.drewN _⟩

theorem take_any (s : ByteArray) (g A k : Nat) (b : Bool) (w : World) (hp : Hid (PcAt w g s A b)) (hs : s.size ≤ 1048576) (hA : A ≤ s.size) (hk : k ≤ 1000000000) :
    Calls Tryd.prog 94 #[.pointer (some ⟨g, 0, none⟩), .int .i64 k] w fun e w' => ∃ (t : ByteArray) (i : Nat) (b' : Bool), e = .returned (.string t) ∧ i ≤ s.size ∧ PcAt w' g s i b' ∧ TurnAt g w w' ∧ TakeF s A k b t i b' := by
  cases b with
  | true => exact (take_bad s g A k w hp hs hA hk).mono fun e w' ⟨h1, h2, h3⟩ => ⟨_, A, true, h1, hA, h2, h3, .inr ⟨rfl, rfl, rfl, .inl rfl⟩⟩
  | false =>
    by_cases h : A + k ≤ s.size
    · exact (take_good s g A k w hp hs h).mono fun e w' ⟨h1, h2, h3⟩ => ⟨_, A + k, false, h1, h, h2, h3, .inl ⟨rfl, h, rfl, rfl, rfl⟩⟩
    · exact (take_far s g A k w hp hs hA hk (by omega)).mono fun e w' ⟨h1, h2, h3⟩ => ⟨_, A, true, h1, hA, h2, h3, .inr ⟨rfl, rfl, rfl, .inr (by omega)⟩⟩

/-- what the taking of one byte comes to. -/
def OneF (s : ByteArray) (A : Nat) (b : Bool) (n i : Nat) (b' : Bool) : Prop :=
  (b = false ∧ oneP s A = some (n, i) ∧ b' = false) ∨ (n = 0 ∧ i = A ∧ b' = true ∧ (b = true ∨ oneP s A = none))

theorem byte_of {s : ByteArray} {A : Nat} (h : A < s.size) : (s.extract A (A + 1)).size = 1 ∧ ∀ h0 : 0 < (s.extract A (A + 1)).size, ((s.extract A (A + 1))[0]'h0).toNat = (s[A]'h).toNat := by
  refine ⟨by rw [ByteArray.size_extract]; omega, fun h0 => ?_⟩
  congr 1
  rw [ByteArray.getElem_extract]
  congr 1

set_option maxRecDepth 100000 in
set_option maxHeartbeats 1000000 in
theorem one_any (s : ByteArray) (g A : Nat) (b : Bool) (w : World) (hp : Hid (PcAt w g s A b)) (hs : s.size ≤ 1048576) (hA : A ≤ s.size) :
    Calls Tryd.prog 54 #[.pointer (some ⟨g, 0, none⟩)] w fun e w' => ∃ (n i : Nat) (b' : Bool), e = .returned (.int .i64 n) ∧ n < 256 ∧ i ≤ s.size ∧ PcAt w' g s i b' ∧ TurnAt g w w' ∧ OneF s A b n i b' := by
  go_enter Tryd.func54, Tryd.ntmps54
  go_wp2_with fail
  refine (take_any s g A 1 b w hp hs hA (by omega)).mono ?_
  rintro e w1 ⟨t, i, b', rfl, hi, hp1, ht1, hF⟩
  have HP : Hid (PcAt w1 g s i b') := hp1
  have HT : Hid (TurnAt g w w1) := ht1
  have HF : Hid (TakeF s A 1 b t i b') := hF
  obtain ⟨c0, c1, c2, f0, f1, f2⟩ := hp1.cells
  clear hp1 ht1 hF
  cases b' with
  | true =>
    go_wp2_with fail
    go_ret
    refine ⟨0, i, true, rfl, by omega, hi, HP.out, HT.out, ?_⟩
    rcases HF.out with ⟨_, _, _, _, h⟩ | ⟨h1, h2, h3, h4⟩
    · cases h
    · refine .inr ⟨rfl, h2, rfl, ?_⟩
      rcases h4 with h4 | h4
      · exact .inl h4
      · exact .inr (oneP_none (by omega))
  | false =>
    rcases HF.out with ⟨h1, h2, h3, h4, _⟩ | ⟨_, _, h, _⟩
    · have hlt : A < s.size := by omega
      obtain ⟨e1, e2⟩ := byte_of hlt
      rw [← h3] at e1
      have h0 : 0 < t.size := by omega
      have hv : (t[0]'h0).toNat = (s[A]'hlt).toNat := by
        subst h3
        exact e2 h0
      have i0 : (0 : Int) < (t.size : Int) := by omega
      have hb : (t[0]'h0).toNat < 256 := UInt8.toNat_lt _
      have hw2 : wrap64 ((t[0]'h0).toNat : Int) = ((t[0]'h0).toNat : Int) := by unfold wrap64; omega
      have HV : Hid ((t[0]'h0).toNat = (s[A]'hlt).toNat) := hv
      have HE : Hid (b = false ∧ i = A + 1) := ⟨h1, h4⟩
      clear h1 h3 h4 e1 e2 hv HF
      go_wp2_with fail
      go_ret
      refine ⟨(t[0]'h0).toNat, i, false, rfl, hb, hi, HP.out, HT.out, .inl ⟨HE.out.1, ?_, rfl⟩⟩
      rw [oneP_some hlt, HV.out, HE.out.2]
    · cases h
end Go.Proofs.YtmbjflhhffcjdaaDoor


/- The walks over the specification's ReadItem, over two items compared, and over the law on ReadItem. -/
namespace Go.Proofs.YtmbjflhhffcjdaaDoor
open Go.RowKit Pl
set_option linter.unusedVariables false

/-- what the reading of a short text comes to. -/
def ShF (s : ByteArray) (A : Nat) (b : Bool) (t : ByteArray) (i : Nat) (b' : Bool) : Prop := ∃ n j b1, VarF s A b n j b1 ∧ TakeF s j n b1 t i b'

set_option maxRecDepth 100000 in
set_option maxHeartbeats 1000000 in
theorem lshort_any (s : ByteArray) (g A : Nat) (b : Bool) (w : World) (hp : Hid (PcAt w g s A b)) (hs : s.size ≤ 1048576) (hA : A ≤ s.size) :
    Calls Tryd.prog 55 #[.pointer (some ⟨g, 0, none⟩)] w fun e w' => ∃ (t : ByteArray) (i : Nat) (b' : Bool), e = .returned (.string t) ∧ i ≤ s.size ∧ PcAt w' g s i b' ∧ KeepBut g w w' ∧ ShF s A b t i b' := by
  go_enter Tryd.func55, Tryd.ntmps55
  go_wp2_with fail
  refine (lvar_any s g A b w hp hs hA).mono ?_
  rintro e w1 ⟨n, j, b1, rfl, hn, hj, hp1, hk1, hF1⟩
  have HP1 : Hid (PcAt w1 g s j b1) := hp1
  have HK1 : Hid (KeepBut g w w1) := hk1
  have HF1 : Hid (VarF s A b n j b1) := hF1
  clear hp1 hk1 hF1
  go_wp2_with fail
  refine (take_any s g j n b1 w1 HP1 hs hj hn).mono ?_
  rintro e w2 ⟨t, i, b', rfl, hi, hp2, ht2, hF2⟩
  have HP2 : Hid (PcAt w2 g s i b') := hp2
  have HT2 : Hid (TurnAt g w1 w2) := ht2
  have HF2 : Hid (TakeF s j n b1 t i b') := hF2
  clear hp2 ht2 hF2
  go_wp2_with fail
  go_ret
  exact ⟨t, i, b', rfl, hi, HP2.out, HK1.out.trans HT2.out.keep, n, j, b1, HF1.out, HF2.out⟩
theorem VarF.good {s : ByteArray} {A n i m j : Nat} {b : Bool} (h : VarF s A false n i b) (hr : rv s A = some (m, j)) : n = m ∧ i = j ∧ b = false := by
  rcases h with ⟨_, h1, h2⟩ | ⟨_, _, _, h4⟩
  · rw [hr] at h1
    simp only [Option.some.injEq, Prod.mk.injEq] at h1
    exact ⟨h1.1.symm, h1.2.symm, h2⟩
  · rcases h4 with h4 | h4
    · cases h4
    · rw [hr] at h4; cases h4
theorem OneF.good {s : ByteArray} {A n i m j : Nat} {b : Bool} (h : OneF s A false n i b) (hr : oneP s A = some (m, j)) : n = m ∧ i = j ∧ b = false := by
  rcases h with ⟨_, h1, h2⟩ | ⟨_, _, _, h4⟩
  · rw [hr] at h1
    simp only [Option.some.injEq, Prod.mk.injEq] at h1
    exact ⟨h1.1.symm, h1.2.symm, h2⟩
  · rcases h4 with h4 | h4
    · cases h4
    · rw [hr] at h4; cases h4
theorem TakeF.good {s t : ByteArray} {A k i : Nat} {b : Bool} (h : TakeF s A k false t i b) (hr : A + k ≤ s.size) : t = s.extract A (A + k) ∧ i = A + k ∧ b = false := by
  rcases h with ⟨_, _, h1, h2, h3⟩ | ⟨_, _, _, h4⟩
  · exact ⟨h1, h2, h3⟩
  · rcases h4 with h4 | h4
    · cases h4
    · omega

end Go.Proofs.YtmbjflhhffcjdaaDoor


