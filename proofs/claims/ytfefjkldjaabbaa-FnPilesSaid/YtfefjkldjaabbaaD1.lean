/- The walks over the draws: a byte, a number below another, a text, the cursor made; a drawn text and drawn places. -/
import Derived.Test.YtfefjkldjaabbaaChecked
import Derived.Test.YtfefjkldjaabbaaDr
import Derived.WalkKit
import Derived.WalkSpells
import Derived.WalkLawsBesides
import Derived.Deep.RegionHeld3
import Derived.Deep.QuietTactic
import Derived.BigQuiet
namespace Go.Proofs.Ytfefjkldjaabbaa
open Go.RowKit Pl
set_option linter.unusedVariables false

theorem cur_cells {w : World} {T : TypeId} {g i n cap : Nat} {h : Int} {ao : Option Addr} (hg : w.heap[g]? = some (.cells #[.slice ao n cap, .int .i64 i, .int .i64 h] T (0, 0))) :
    w.cell? ⟨g, 0, none⟩ = some (.slice ao n cap) ∧ w.cell? ⟨g, 1, none⟩ = some (.int .i64 i) ∧ w.cell? ⟨g, 2, none⟩ = some (.int .i64 h) ∧ (∀ j, w.frozen? ⟨g, j, none⟩ = false) := by
  refine ⟨?_, ?_, ?_, fun j => frozen_of_row w g j _ T hg⟩ <;> rw [cell_of_row w g _ _ T (0, 0) hg] <;> rfl


theorem nat_ret {v : Int} {m : Nat} (h0 : 0 ≤ v) (h1 : v < m) : ∃ x : Nat, x < m ∧ Ending.returned (.int .i64 v) = .returned (.int .i64 x) :=
  ⟨v.toNat, by omega, by rw [Int.toNat_of_nonneg h0]⟩
theorem Try.info5' : (Try.prog.info? 5).map (fun i => (i.zero, i.size, i.bytes)) = some (some (.int .u8 0), 1, 1) := by kernel_rfl

/-- the cursor g over that slice lies ready in w, and since w0 it alone has turned. -/
def Drw (w0 w : World) (B g : Nat) (ao : Option Addr) (n cap : Nat) : Prop := CurAt w 73 g ao n cap ∧ CodeAt w B ao n ∧ KeepBut g w0 w

theorem Drw.start {w : World} {B g n cap : Nat} {ao : Option Addr} (hc : CurAt w 73 g ao n cap) (hk : CodeAt w B ao n) : Hid (Drw w w B g ao n cap) := ⟨hc, hk, KeepBut.refl g w⟩

theorem CurAt.stays {w w' : World} {B T g n cap : Nat} {ao : Option Addr} (h : CurAt w T g ao n cap) (hb : Below B w w') (hB : g < B) : CurAt w' T g ao n cap := by
  obtain ⟨i, k, h1, h2⟩ := h
  exact ⟨i, k, h1, (hb.block g hB).trans h2⟩

set_option maxRecDepth 100000 in
set_option maxHeartbeats 1000000 in
theorem byte_any (w0 w : World) (B g n cap : Nat) (ao : Option Addr) (hn : n ≤ 1048576) (hB : B ≤ g) (hd : Hid (Drw w0 w B g ao n cap)) :
    Calls Try.prog 49 #[.pointer (some ⟨g, 0, none⟩)] w fun e w' => (∃ x : Nat, x < 256 ∧ e = .returned (.int .i64 x)) ∧ Hid (Drw w0 w' B g ao n cap) := by
  suffices hh : Calls Try.prog 49 #[.pointer (some ⟨g, 0, none⟩)] w fun e w' => (∃ x : Nat, x < 256 ∧ e = .returned (.int .i64 x)) ∧ CurAt w' 73 g ao n cap ∧ TurnAt g w w' from
    hh.mono fun e w' h => ⟨h.1, (show Drw _ _ _ _ _ _ _ from ⟨h.2.1, hd.out.2.1.stays (h.2.2.below hB) (Nat.le_refl _), hd.out.2.2.trans h.2.2.keep⟩)⟩
  obtain ⟨i, h, hi, hg⟩ := hd.out.1
  obtain ⟨c0, c1, c2, cf⟩ := cur_cells hg
  have hk : Hid (CodeAt w B ao n) := hd.out.2.1
  have cf0 := cf 0
  have cf1 := cf 1
  have cf2 := cf 2
  have HG : Hid (w.heap[g]? = some (.cells #[.slice ao n cap, .int .i64 i, .int .i64 h] 73 (0, 0))) := hg
  clear hg cf hd
  by_cases h1 : i < n
  · obtain ⟨b, off, z, rfl, hb, hz, hz0, hz1⟩ := hk.out i h1
    clear hk
    go_enter Try.func49, Try.ntmps49
    go_wp2
    generalize wrap64 (wrap64 (h * 6364136223846793005) + 1442695040888963407) = h'
    have HG1 := heap_setCell_same w g 2 _ 73 (Value.int IntKind.i64 h') HG.out
    have HT1 := (TurnAt.refl g w).setCell 2 (Value.int IntKind.i64 h')
    have hz' := (HT1.below (B := g) (Nat.le_refl _)).cell (p := ⟨b, off + i, none⟩) (show b < g by omega)
    rw [hz] at hz'
    generalize w.setCell ⟨g, 2, none⟩ (Value.int IntKind.i64 h') = W at *
    obtain ⟨d0, d1, d2, df⟩ := cur_cells HG1
    have df1 := df 1
    have HG2 : Hid _ := HG1
    have HT2 : Hid _ := HT1
    clear c0 c1 c2 cf0 cf1 cf2 HG hz HG1 HT1 df
    go_quiet (fail)
    go_wp2
    obtain ⟨x, hx1, hx⟩ := and255 (bits BinOp.xor IntKind.i64 (h' / 8589934592) (h' / 35184372088832))
    rw [hx]
    clear hx
    have hlt : decide ((i : Int) < (n : Int)) = true := by simp; omega
    have hi0 : (0 : Int) ≤ (i : Int) := by omega
    have hi1 : (i : Int) < (n : Int) := by omega
    have hwx : IntKind.i64.wrap ((x : Int) + z) = (x : Int) + z := by rw [IntKind.wrap_i64]; omega
    go_quiet (fail)
    go_wp2
    go_quiet (fail)
    go_wp2
    go_ret
    obtain ⟨y, hy1, hy⟩ := and255 ((x : Int) + z)
    refine ⟨⟨y, hy1, by rw [← hy]; rfl⟩, ⟨i + 1, h', by omega, ?_⟩, (HT2.out.drewN _).setCell 1 _⟩
    exact heap_setCell_same (W.drewN _) g 1 _ 73 (Value.int IntKind.i64 ((i : Int) + 1)) HG2.out
  · clear hk
    go_enter Try.func49, Try.ntmps49
    go_wp2
    generalize wrap64 (wrap64 (h * 6364136223846793005) + 1442695040888963407) = h'
    have HG1 := heap_setCell_same w g 2 _ 73 (Value.int IntKind.i64 h') HG.out
    have HT1 := (TurnAt.refl g w).setCell 2 (Value.int IntKind.i64 h')
    generalize w.setCell ⟨g, 2, none⟩ (Value.int IntKind.i64 h') = W at *
    obtain ⟨d0, d1, d2, df⟩ := cur_cells HG1
    have HG2 : Hid _ := HG1
    have HT2 : Hid _ := HT1
    clear c0 c1 c2 cf0 cf1 cf2 HG HG1 HT1 df
    go_quiet (fail)
    go_wp2
    obtain ⟨x, hx1, hx⟩ := and255 (bits BinOp.xor IntKind.i64 (h' / 8589934592) (h' / 35184372088832))
    rw [hx]
    clear hx
    have hlt : decide ((i : Int) < (n : Int)) = false := by simp; omega
    go_quiet (fail)
    go_wp2
    go_ret
    exact ⟨⟨x, hx1, rfl⟩, ⟨i, h', hi, HG2.out⟩, (HT2.out.drewN _).drewN _⟩

set_option maxRecDepth 100000 in
set_option maxHeartbeats 1000000 in
theorem below_small (w0 w : World) (B g n cap m : Nat) (ao : Option Addr) (hn : n ≤ 1048576) (hB : B ≤ g) (hm0 : 0 < m) (hm : m ≤ 256) (hd : Hid (Drw w0 w B g ao n cap)) :
    Calls Try.prog 32 #[.pointer (some ⟨g, 0, none⟩), .int .i64 m] w fun e w' => (∃ x : Nat, x < m ∧ e = .returned (.int .i64 x)) ∧ Hid (Drw w0 w' B g ao n cap) := by
  go_enter Try.func32, Try.ntmps32
  go_wp2_with (first | (go_at_call 49; refine (byte_any w0 _ B g n cap ao hn hB (by assumption)).mono ?_; rintro e w1 ⟨⟨x, hx, rfl⟩, hd1⟩))
  go_ret
  exact ⟨⟨x % m, Nat.mod_lt _ hm0, rfl⟩, hd1⟩

set_option maxRecDepth 100000 in
set_option maxHeartbeats 1000000 in
theorem new_any (w : World) (n cap : Nat) (ao : Option Addr) (hn : n ≤ 1048576) (hk : Hid (CodeAt w w.heap.size ao n)) :
    Calls Try.prog 31 #[.slice ao n cap] w fun e w' => e = .returned (.pointer (some ⟨w.heap.size, 0, none⟩)) ∧ Hid (CurAt w' 73 w.heap.size ao n cap) ∧ Below w.heap.size w w' ∧ w'.heap.size = w.heap.size + 1 := by
  go_enter Try.func31, Try.ntmps31
  go_wp2
  go_loop [3, 4] (fun v i => ∃ (h : Int) (k : Nat), v = .int .i64 h ∧ i = .int .i64 k ∧ k ≤ n) (fun _ i => n - (intOf i).toNat)
  case atStart => exact ⟨_, 0, rfl, rfl, by omega⟩
  case round =>
    obtain ⟨h, k, rfl, rfl, hkn⟩ := hrel
    by_cases h1 : k < n
    · by_cases h2 : k < 4000
      · obtain ⟨b, off, z, rfl, hb, hz, hz0, hz1⟩ := hk.out k h1
        go_wp2
        go_round
        case rel => exact ⟨_, k + 1, rfl, by go_num, by omega⟩
        case measure => simp [intOf]; omega
      · go_wp2
        go_ret
        exact ⟨rfl, (show CurAt _ _ _ _ _ _ from ⟨0, h, by omega, heap_alloc_new w _⟩), (Below.refl _ _).alloc (Nat.le_refl _) _, by simp⟩
    · go_wp2
      go_ret
      exact ⟨rfl, (show CurAt _ _ _ _ _ _ from ⟨0, h, by omega, heap_alloc_new w _⟩), (Below.refl _ _).alloc (Nat.le_refl _) _, by simp⟩

theorem Drw.lt {w0 w : World} {B g n cap : Nat} {ao : Option Addr} (h : Drw w0 w B g ao n cap) : g < w.heap.size := by
  obtain ⟨i, k, _, h2⟩ := h.1
  exact (Array.getElem?_eq_some_iff.1 h2).1

/-- A call that only lays new blocks leaves the cursor as it is. -/
theorem Drw.step {w0 w w' : World} {B g n cap : Nat} {ao : Option Addr} (h : Drw w0 w B g ao n cap) (hB : B ≤ g) (hb : Below w.heap.size w w') : Drw w0 w' B g ao n cap :=
  have hlt := h.lt
  ⟨CurAt.stays h.1 hb hlt, h.2.1.stays hb (by omega), h.2.2.trans (keep_of_below hb)⟩

theorem Drw.alloc {w0 w : World} {B g n cap : Nat} {ao : Option Addr} (h : Drw w0 w B g ao n cap) (hB : B ≤ g) (o : Obj) : Drw w0 (w.alloc o) B g ao n cap := h.step hB ((Below.refl _ _).alloc (Nat.le_refl _) _)

theorem OwnB_keep {w w' : World} {B g : Nat} {e : TypeId} {v : Value} {xs : List Int} (h : OwnB w B e v xs) (hk : KeepBut g w w') (hg : g < B) : OwnB w' B e v xs := by
  refine ⟨h.1, ?_⟩
  rcases h.2 with hn | ⟨k, cap, cur, rfl, hbg, hk2, rest⟩
  · exact .inl hn
  · exact .inr ⟨k, cap, cur, rfl, hbg, (hk.block k (Array.getElem?_eq_some_iff.1 hk2).1 (by omega)).trans hk2, rest⟩

set_option maxRecDepth 100000 in
set_option maxHeartbeats 1000000 in
theorem below_big (w0 w : World) (B g n cap m : Nat) (ao : Option Addr) (hn : n ≤ 1048576) (hB : B ≤ g) (hm0 : 256 < m) (hm : m ≤ 4294967296) (hd : Hid (Drw w0 w B g ao n cap)) :
    Calls Try.prog 32 #[.pointer (some ⟨g, 0, none⟩), .int .i64 m] w fun e w' => (∃ x : Nat, x < m ∧ e = .returned (.int .i64 x)) ∧ Hid (Drw w0 w' B g ao n cap) := by
  go_enter Try.func32, Try.ntmps32
  go_wp2_with (first | (go_at_call 49; refine (byte_any w0 _ B g n cap ao hn hB (by assumption)).mono ?_; rintro e w1 ⟨⟨x, hx, rfl⟩, hd1⟩))
  go_ret
  exact ⟨nat_ret (Int.emod_nonneg _ (by omega)) (Int.emod_lt_of_pos _ (by omega)), hd1⟩

end Go.Proofs.Ytfefjkldjaabbaa
