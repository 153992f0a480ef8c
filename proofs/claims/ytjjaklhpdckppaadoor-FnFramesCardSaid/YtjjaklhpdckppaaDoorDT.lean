/- The walks over drawn texts and drawn places. -/
import Derived.Test.YtjjaklhpdckppaaDoorD1
import Derived.Test.YtjjaklhpdckppaaDoorC2
import Derived.Test.YtjjaklhpdckppaaDoorBg
namespace Go.Proofs.YtjjaklhpdckppaaDoor
open Go.RowKit Pl
set_option linter.unusedVariables false

theorem keep_then {g : Nat} {a b c : World} (h : KeepBut g a b) (hb : Below a.heap.size b c) : KeepBut g a c :=
  ⟨hb.os.trans h.os, hb.tape.trans h.tape, hb.output.trans h.output, Nat.le_trans h.size hb.size, fun k hk hg => (hb.block k hk).trans (h.block k hk hg)⟩

set_option maxRecDepth 100000 in
set_option maxHeartbeats 1000000 in
theorem text_drw (w0 w : World) (B g n cap N : Nat) (ao : Option Addr) (hn : n ≤ 1048576) (hB : B ≤ g) (hN : N ≤ 5000) (hd : Hid (Drw w0 w B g ao n cap)) :
    Calls Tryd.prog 24 #[.pointer (some ⟨g, 0, none⟩), .int .i64 N] w fun e w' => (∃ t : ByteArray, t.size = N ∧ e = .returned (.string t)) ∧ Hid (Drw w0 w' B g ao n cap) := by
  have hg := hd.out.lt
  suffices hh : Calls Tryd.prog 24 #[.pointer (some ⟨g, 0, none⟩), .int .i64 N] w fun e w' => (∃ t : ByteArray, t.size = N ∧ e = .returned (.string t)) ∧ CurAt w' 56 g ao n cap ∧ KeepBut g w w' from
    hh.mono fun e w' h => ⟨h.1, (show Drw _ _ _ _ _ _ _ from ⟨h.2.1, hd.out.2.1.stays (h.2.2.below (Nat.le_refl g) (Nat.le_of_lt hg)) hB, hd.out.2.2.trans h.2.2⟩)⟩
  have hc : Hid (CurAt w 56 g ao n cap) := hd.out.1
  have hk : Hid (CodeAt w B ao n) := hd.out.2.1
  clear hd
  go_enter Tryd.func24, Tryd.ntmps24
  go_wp2
  go_loopw [5, 6] (fun v i wr => ∃ (k : Nat) (xs : List Int), i = .int .i64 k ∧ k ≤ N ∧ xs.length = k ∧ Hid (OwnB wr w.heap.size 5 v xs) ∧ Hid (CurAt wr 56 g ao n cap) ∧ Hid (CodeAt wr B ao n) ∧ Hid (KeepBut g w wr)) (fun _ i _ => N - (intOf i).toNat)
  case atStart =>
    have hb : Below w.heap.size w (w.alloc (.cells #[] 5)) := (Below.refl _ _).alloc (Nat.le_refl _) _
    exact ⟨0, [], rfl, by omega, rfl, OwnB.made w _ 5 #[] 0 (Nat.le_refl _) (by decide) rfl, CurAt.stays hc.out hb hg, hk.out.stays hb (by omega), keep_of_below hb⟩
  case round =>
    obtain ⟨k, xs, rfl, hkN, hxl, hown, hcr, hkr, hbr⟩ := hrel
    have hsz := hbr.out.size
    by_cases h1 : k < N
    · have hd := Drw.start hcr.out hkr.out
      go_wp2_with (first | (go_at_call 28; refine (byte_any wr _ B g n cap ao hn hB (by assumption)).mono ?_; rintro e w1 ⟨⟨x, hx, rfl⟩, hd1⟩; have hs1 : w.heap.size ≤ w1.heap.size := Nat.le_trans hsz hd1.out.2.2.size; have hown1 := OwnB_keep hown.out hd1.out.2.2 hg) | (at_builtin; refine wpList_push rfl _ _ 22 5 rfl Tryd.underlying22 Tryd.info5' w.heap.size _ xs rfl hown1 _ rfl (by omega) (by omega) ?_; intro v2 w2 hown2 hb2))
      go_roundw
      case rel => exact ⟨k + 1, _, by go_num, by omega, by simp [hxl], hown2, CurAt.stays hd1.out.1 hb2 hg, hd1.out.2.1.stays hb2 (by omega), (show KeepBut g w w2 from keep_then (hbr.out.trans hd1.out.2.2) hb2)⟩
      case measure => simp [intOf]; omega
    · have hkk : k = N := by omega
      have hcv := conv_own Tryd.underlying22 Tryd.underlying5 Tryd.underlying9 hown.out
      go_wp2
      go_ret
      exact ⟨⟨_, by rw [strOfNums_size]; omega, rfl⟩, hcr.out, hbr.out⟩

theorem OwnS_keep {w w' : World} {B g : Nat} {v : Value} {ss : List ByteArray} (h : OwnS w B v ss) (hk : KeepBut g w w') (hg : g < B) : OwnS w' B v ss := by
  refine ⟨h.1, ?_⟩
  rcases h.2 with hn | ⟨k, cap, cur, rfl, hbg, hk2, rest⟩
  · exact .inl hn
  · exact .inr ⟨k, cap, cur, rfl, hbg, (hk.block k (Array.getElem?_eq_some_iff.1 hk2).1 (by omega)).trans hk2, rest⟩
theorem OwnI_keep {w w' : World} {B g : Nat} {v : Value} {ss : List Int} (h : OwnI w B v ss) (hk : KeepBut g w w') (hg : g < B) : OwnI w' B v ss := by
  refine ⟨h.1, ?_⟩
  rcases h.2 with hn | ⟨k, cap, cur, rfl, hbg, hk2, rest⟩
  · exact .inl hn
  · exact .inr ⟨k, cap, cur, rfl, hbg, (hk.block k (Array.getElem?_eq_some_iff.1 hk2).1 (by omega)).trans hk2, rest⟩

/-- short texts. -/
def Short (ts : List ByteArray) : Prop := ∀ t ∈ ts, t.size < 12

set_option maxRecDepth 100000 in
set_option maxHeartbeats 2000000 in
theorem drawTexts (w : World) (n cap : Nat) (ao : Option Addr) (hn : n ≤ 1048576) (hk : Hid (CodeAt w w.heap.size ao n)) :
    Calls Tryd.prog 8 #[.slice ao n cap] w fun e w' => (∃ (v : Value) (ts : List ByteArray), e = .returned v ∧ ts.length ≤ 8 ∧ Hid (Short ts) ∧ Hid (OwnS w' (w.heap.size + 1) v ts)) ∧ Below w.heap.size w w' := by
  go_enter Tryd.func8, Tryd.ntmps8
  go_wp2_with (first | (go_at_call 22; refine (new_any _ n cap ao hn hk).mono ?_; rintro e w1 ⟨rfl, hc1, hb1, hs1⟩; have hlt1 : w.heap.size + 1 ≤ w1.heap.size := (by omega); clear hs1))
  go_loopw [4, 5] (fun v i wr => ∃ (k : Nat) (ts : List ByteArray), i = .int .i64 k ∧ k ≤ 8 ∧ ts.length = k ∧ Hid (Short ts) ∧ Hid (OwnS wr (w.heap.size + 1) v ts) ∧ Hid (CurAt wr 56 w.heap.size ao n cap) ∧ Hid (CodeAt wr w.heap.size ao n) ∧ Hid (Below w.heap.size w wr) ∧ w.heap.size + 1 ≤ wr.heap.size) (fun _ i _ => 9 - (intOf i).toNat)
  case atStart =>
    have hb3 : Below w1.heap.size w1 (w1.alloc (.cells #[] 9)) := (Below.refl _ _).alloc (Nat.le_refl _) _
    refine ⟨0, [], rfl, by omega, rfl, (show Short _ from fun x hx => by cases hx), OwnS.made w1 _ hlt1, CurAt.stays hc1.out hb3 (by omega), (hk.out.stays hb1 (Nat.le_refl _)).stays hb3 (by omega), hb1.trans (hb3.mono (by omega)), ?_⟩
    have := hb3.size
    omega
  case round =>
    obtain ⟨k, ts, rfl, hkN, hxl, hsm, hown, hcr, hkr, hbr, hsz⟩ := hrel
    have hd := Drw.start hcr.out hkr.out
    have tok1 : True := trivial
    go_wp2_with (first | (go_at_call 23; have _t := tok1; refine (below_small wr _ w.heap.size w.heap.size n cap 9 ao hn (Nat.le_refl _) (by omega) (by omega) (by assumption)).mono ?_; rintro e w2 ⟨⟨y, hy, rfl⟩, hd2⟩; clear hd tok1 _t) | (go_at_call 23; refine (below_small wr _ w.heap.size w.heap.size n cap 12 ao hn (Nat.le_refl _) (by omega) (by omega) hd2).mono ?_; rintro e w3 ⟨⟨x, hx, rfl⟩, hd3⟩) | (go_at_call 24; refine (text_drw wr _ w.heap.size w.heap.size n cap x ao hn (Nat.le_refl _) (by omega) hd3).mono ?_; rintro e w4 ⟨⟨t, ht, rfl⟩, hd4⟩; have hs4 : w.heap.size + 1 ≤ w4.heap.size := Nat.le_trans hsz hd4.out.2.2.size; have hown4 := OwnS_keep hown.out hd4.out.2.2 (Nat.lt_succ_self _)) | (at_builtin; refine wpList_pushS rfl _ _ 24 rfl Tryd.underlying24 Tryd.info9 (w.heap.size + 1) _ ts rfl hown4 _ rfl (by omega) (by omega) ?_; intro v5 w5 hown5 hb5))
    · go_roundw
      case rel =>
        have hb4 : Below w.heap.size wr w4 := hd4.out.2.2.below (Nat.le_refl _) (by omega)
        have hs5 := hb5.size
        refine ⟨k + 1, _, by go_num, by omega, by simp [hxl], ?_, hown5, CurAt.stays hd4.out.1 hb5 (Nat.lt_succ_self _), hd4.out.2.1.stays hb5 (by omega), (show Below w.heap.size w w5 from (hbr.out.trans hb4).trans (hb5.mono (by omega))), by omega⟩
        show Short _
        intro x hx
        rcases List.mem_append.1 hx with hx | hx
        · exact hsm.out x hx
        · obtain rfl := List.mem_singleton.1 hx
          omega
      case measure => simp [intOf]; omega
    · go_ret
      exact ⟨⟨_, ts, rfl, by omega, hsm, OwnS_keep hown.out hd2.out.2.2 (Nat.lt_succ_self _)⟩, hbr.out.trans (hd2.out.2.2.below (Nat.le_refl _) (by omega))⟩

/-- numbers of 0 .. 9999. -/
def Small (xs : List Int) : Prop := ∀ x ∈ xs, 0 ≤ x ∧ x < 10000

set_option maxRecDepth 100000 in
set_option maxHeartbeats 1000000 in
theorem drawPlaces (w : World) (n cap : Nat) (ao : Option Addr) (hn : n ≤ 1048576) (hk : Hid (CodeAt w w.heap.size ao n)) :
    Calls Tryd.prog 11 #[.slice ao n cap] w fun e w' => (∃ (v : Value) (xs : List Int), e = .returned v ∧ xs.length = 12 ∧ Hid (Small xs) ∧ Hid (OwnI w' (w.heap.size + 1) v xs)) ∧ Below w.heap.size w w' := by
  go_enter Tryd.func11, Tryd.ntmps11
  go_wp2_with (first | (go_at_call 22; refine (new_any _ n cap ao hn hk).mono ?_; rintro e w1 ⟨rfl, hc1, hb1, hs1⟩; have hlt1 : w.heap.size + 1 ≤ w1.heap.size := (by omega); have hd1 := Drw.start hc1.out (hk.out.stays hb1 (Nat.le_refl _)); clear hs1) | (go_at_call 28; refine (byte_any w1 _ w.heap.size w.heap.size n cap ao hn (Nat.le_refl _) hd1).mono ?_; rintro e w2 ⟨⟨x, hx, rfl⟩, hd2⟩; have hlt2 : w.heap.size + 1 ≤ w2.heap.size := Nat.le_trans hlt1 hd2.out.2.2.size))
  go_loopw [4, 5] (fun v i wr => ∃ (k : Nat) (xs : List Int), i = .int .i64 k ∧ k ≤ 12 ∧ xs.length = k ∧ Hid (Small xs) ∧ Hid (OwnI wr (w.heap.size + 1) v xs) ∧ Hid (CurAt wr 56 w.heap.size ao n cap) ∧ Hid (CodeAt wr w.heap.size ao n) ∧ Hid (Below w.heap.size w wr) ∧ w.heap.size + 1 ≤ wr.heap.size) (fun _ i _ => 12 - (intOf i).toNat)
  case atStart =>
    have hb3 : Below w2.heap.size w2 (w2.alloc (.cells #[] 3)) := (Below.refl _ _).alloc (Nat.le_refl _) _
    have hb2 : Below w.heap.size w w2 := hb1.trans (hd2.out.2.2.below (Nat.le_refl _) hb1.size)
    refine ⟨0, [], rfl, by omega, rfl, (show Small _ from fun x hx => by cases hx), OwnI.made w2 _ hlt2, CurAt.stays hd2.out.1 hb3 (by omega), hd2.out.2.1.stays hb3 (by omega), hb2.trans (hb3.mono (by omega)), ?_⟩
    have := hb3.size
    omega
  case round =>
    obtain ⟨k, xs, rfl, hkN, hxl, hsm, hown, hcr, hkr, hbr, hsz⟩ := hrel
    by_cases h1 : k < 12
    · have hd := Drw.start hcr.out hkr.out
      go_wp2_with (first | (go_at_call 23; refine (below_big wr _ w.heap.size w.heap.size n cap 10000 ao hn (Nat.le_refl _) (by omega) (by omega) (by assumption)).mono ?_; rintro e w3 ⟨⟨y, hy, rfl⟩, hd3⟩; have hs3 : w.heap.size + 1 ≤ w3.heap.size := Nat.le_trans hsz hd3.out.2.2.size; have hown3 := OwnI_keep hown.out hd3.out.2.2 (Nat.lt_succ_self _)) | (at_builtin; refine wpList_pushI rfl _ _ 29 rfl Tryd.underlying29 Tryd.info3' (w.heap.size + 1) _ xs rfl hown3 _ rfl (by omega) (by omega) ?_; intro v4 w4 hown4 hb4))
      go_roundw
      case rel =>
        have hb3 : Below w.heap.size wr w3 := hd3.out.2.2.below (Nat.le_refl _) (by omega)
        have hs4 := hb4.size
        refine ⟨k + 1, _, by go_num, by omega, by simp [hxl], ?_, hown4, CurAt.stays hd3.out.1 hb4 (Nat.lt_succ_self _), hd3.out.2.1.stays hb4 (by omega), (show Below w.heap.size w w4 from (hbr.out.trans hb3).trans (hb4.mono (by omega))), by omega⟩
        show Small _
        intro x hx
        rcases List.mem_append.1 hx with hx | hx
        · exact hsm.out x hx
        · obtain rfl := List.mem_singleton.1 hx
          omega
      case measure => simp [intOf]; omega
    · have hkk : k = 12 := by omega
      go_wp2
      go_ret
      exact ⟨⟨_, xs, rfl, by omega, hsm, hown⟩, hbr.out⟩
end Go.Proofs.YtjjaklhpdckppaaDoor
