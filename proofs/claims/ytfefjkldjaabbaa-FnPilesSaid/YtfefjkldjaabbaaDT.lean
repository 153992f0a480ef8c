/- The walk over drawn texts. -/
import Derived.Test.YtfefjkldjaabbaaD1
import Derived.Test.YtfefjkldjaabbaaOwS
import Derived.Test.YtfefjkldjaabbaaBg
import Derived.Test.YtfefjkldjaabbaaTx
import Derived.Test.YtfefjkldjaabbaaOwI
namespace Go.Proofs.Ytfefjkldjaabbaa
open Go.RowKit Pl
set_option linter.unusedVariables false

theorem keep_then {g : Nat} {a b c : World} (h : KeepBut g a b) (hb : Below a.heap.size b c) : KeepBut g a c :=
  ⟨hb.os.trans h.os, hb.tape.trans h.tape, hb.output.trans h.output, Nat.le_trans h.size hb.size, fun k hk hg => (hb.block k hk).trans (h.block k hk hg)⟩

set_option maxRecDepth 100000 in
set_option maxHeartbeats 1000000 in
theorem text_drw (w0 w : World) (B g n cap N : Nat) (ao : Option Addr) (hn : n ≤ 1048576) (hB : B ≤ g) (hN : N ≤ 5000) (hd : Hid (Drw w0 w B g ao n cap)) :
    Calls Try.prog 50 #[.pointer (some ⟨g, 0, none⟩), .int .i64 N] w fun e w' => (∃ t : ByteArray, t.size = N ∧ e = .returned (.string t)) ∧ Hid (Drw w0 w' B g ao n cap) := by
  have hg := hd.out.lt
  suffices hh : Calls Try.prog 50 #[.pointer (some ⟨g, 0, none⟩), .int .i64 N] w fun e w' => (∃ t : ByteArray, t.size = N ∧ e = .returned (.string t)) ∧ CurAt w' 73 g ao n cap ∧ KeepBut g w w' from
    hh.mono fun e w' h => ⟨h.1, (show Drw _ _ _ _ _ _ _ from ⟨h.2.1, hd.out.2.1.stays (h.2.2.below (Nat.le_refl g) (Nat.le_of_lt hg)) hB, hd.out.2.2.trans h.2.2⟩)⟩
  have hc : Hid (CurAt w 73 g ao n cap) := hd.out.1
  have hk : Hid (CodeAt w B ao n) := hd.out.2.1
  clear hd
  go_enter Try.func50, Try.ntmps50
  go_wp2
  go_loopw [5, 6] (fun v i wr => ∃ (k : Nat) (xs : List Int), i = .int .i64 k ∧ k ≤ N ∧ xs.length = k ∧ Hid (OwnB wr w.heap.size 5 v xs) ∧ Hid (CurAt wr 73 g ao n cap) ∧ Hid (CodeAt wr B ao n) ∧ Hid (KeepBut g w wr)) (fun _ i _ => N - (intOf i).toNat)
  case atStart =>
    have hb : Below w.heap.size w (w.alloc (.cells #[] 5)) := (Below.refl _ _).alloc (Nat.le_refl _) _
    exact ⟨0, [], rfl, by omega, rfl, OwnB.made w _ 5 #[] 0 (Nat.le_refl _) (by decide) rfl, CurAt.stays hc.out hb hg, hk.out.stays hb (by omega), keep_of_below hb⟩
  case round =>
    obtain ⟨k, xs, rfl, hkN, hxl, hown, hcr, hkr, hbr⟩ := hrel
    have hsz := hbr.out.size
    by_cases h1 : k < N
    · have hd := Drw.start hcr.out hkr.out
      go_wp2_with (first | (go_at_call 49; refine (byte_any wr _ B g n cap ao hn hB (by assumption)).mono ?_; rintro e w1 ⟨⟨x, hx, rfl⟩, hd1⟩; have hs1 : w.heap.size ≤ w1.heap.size := Nat.le_trans hsz hd1.out.2.2.size; have hown1 := OwnB_keep hown.out hd1.out.2.2 hg) | (at_builtin; refine wpList_push rfl _ _ 22 5 rfl Try.underlying22 Try.info5' w.heap.size _ xs rfl hown1 _ rfl (by omega) (by omega) ?_; intro v2 w2 hown2 hb2))
      go_roundw
      case rel => exact ⟨k + 1, _, by go_num, by omega, by simp [hxl], hown2, CurAt.stays hd1.out.1 hb2 hg, hd1.out.2.1.stays hb2 (by omega), (show KeepBut g w w2 from keep_then (hbr.out.trans hd1.out.2.2) hb2)⟩
      case measure => simp [intOf]; omega
    · have hkk : k = N := by omega
      have hcv := conv_own Try.underlying22 Try.underlying5 Try.underlying9 hown.out
      go_wp2
      go_ret
      exact ⟨⟨_, by rw [strOfNums_size]; omega, rfl⟩, hcr.out, hbr.out⟩

theorem OwnS_keep {w w' : World} {B g : Nat} {v : Value} {ss : List ByteArray} (h : OwnS w B v ss) (hk : KeepBut g w w') (hg : g < B) : OwnS w' B v ss := by
  refine ⟨h.1, ?_⟩
  rcases h.2 with hn | ⟨k, cap, cur, rfl, hbg, hk2, rest⟩
  · exact .inl hn
  · exact .inr ⟨k, cap, cur, rfl, hbg, (hk.block k (Array.getElem?_eq_some_iff.1 hk2).1 (by omega)).trans hk2, rest⟩
theorem OwnI_keep {w w' : World} {B g : Nat} {v : Value} {ss : List Int} (h : OwnI w B v ss) (hk : KeepBut g w w') (hg : g < B) : OwnI w' B v ss := by
  refine ⟨h.1, ?_⟩
  rcases h.2 with hn | ⟨k, cap, cur, rfl, hbg, hk2, rest⟩
  · exact .inl hn
  · exact .inr ⟨k, cap, cur, rfl, hbg, (hk.block k (Array.getElem?_eq_some_iff.1 hk2).1 (by omega)).trans hk2, rest⟩

/-- short texts. -/
def Short (ts : List ByteArray) : Prop := ∀ t ∈ ts, t.size < 12

end Go.Proofs.Ytfefjkldjaabbaa
