/- The walk over a drawn talk. -/
import Derived.Test.YtohagaelenhebaaD2
import Derived.Test.YtohagaelenhebaaS1
import Derived.Test.YtohagaelenhebaaPs
import Derived.Test.YtohagaelenhebaaC4
namespace Go.Proofs.Ytohagaelenhebaa
open Go.RowKit Pl
set_option linter.unusedVariables false

theorem Drw.keep2 {w0 w w' : World} {B g n cap BI : Nat} {ao : Option Addr} (h : Drw w0 w B g ao n cap) (hB : B ≤ g) (hb : Below BI w w') (hg : g < BI) (h0 : w0.heap.size ≤ BI) : Drw w0 w' B g ao n cap :=
  ⟨CurAt.stays h.1 hb hg, h.2.1.stays hb (by omega), ⟨hb.os.trans h.2.2.os, hb.tape.trans h.2.2.tape, hb.output.trans h.2.2.output, Nat.le_trans h.2.2.size hb.size, fun k hk hne => (hb.block k (by omega)).trans (h.2.2.block k hk hne)⟩⟩
theorem Drw.grown {w0 w w' : World} {B g n cap : Nat} {ao : Option Addr} {row : Option Nat} (h : Drw w0 w B g ao n cap) (hB : B ≤ g) (hg : w.grownBy w' row) (hr : ∀ k, row = some k → g < k ∧ w0.heap.size ≤ k) : Drw w0 w' B g ao n cap := by
  have hlt := h.lt
  have hs := h.2.2.size
  refine ⟨?_, ?_, ⟨hg.os.trans h.2.2.os, hg.tape.trans h.2.2.tape, hg.output.trans h.2.2.output, Nat.le_trans hs hg.size, fun k hk hne => (hg.block k (by omega) (fun he => by have := (hr k he.symm).2; omega)).trans (h.2.2.block k hk hne)⟩⟩
  · obtain ⟨i, j, h1, h2⟩ := h.1
    exact ⟨i, j, h1, (hg.block g hlt (fun he => by have := (hr g he.symm).1; omega)).trans h2⟩
  · refine h.2.1.stays (B' := B) ⟨hg.os, hg.tape, hg.output, hg.size, fun k hk => hg.block k (by omega) (fun he => by have := (hr k he.symm).1; omega)⟩ (Nat.le_refl _)
theorem slt_keep {w w' : World} {g B : Nat} {v : Value} {ss : List ByteArray} (h : SlT w B v ss) (hk : KeepBut g w w') (hg : g < B) : SlT w' B v ss := Sl.keep h fun k hk' hlt => hk.block k hlt (by have := (Sl.lt h k hk').1; omega)
theorem ownI_keep {w w' : World} {B g : Nat} {v : Value} {ss : List Int} (h : OwnI w B v ss) (hk : KeepBut g w w') (hg : g < B) : OwnI w' B v ss := by
  refine ⟨h.1, ?_⟩
  rcases h.2 with hn | ⟨k, cap, cur, rfl, hbg, hk2, rest⟩
  · exact .inl hn
  · exact .inr ⟨k, cap, cur, rfl, hbg, (hk.block k (Array.getElem?_eq_some_iff.1 hk2).1 (by omega)).trans hk2, rest⟩
theorem ownI_grown {w w' : World} {B : Nat} {v : Value} {ss : List Int} {row : Option Nat} (h : OwnI w B v ss) (hg : w.grownBy w' row) (hr : ∀ k, v.ownBlock = some k → some k ≠ row) : OwnI w' B v ss := by
  refine ⟨h.1, ?_⟩
  rcases h.2 with hn | ⟨k, cap, cur, rfl, hbg, hk2, rest⟩
  · exact .inl hn
  · exact .inr ⟨k, cap, cur, rfl, hbg, (hg.block k (Array.getElem?_eq_some_iff.1 hk2).1 (hr k rfl)).trans hk2, rest⟩
theorem all_snoc {α : Type} {p : α → Prop} {xs : List α} {x : α} (h : ∀ y ∈ xs, p y) (hx : p x) : ∀ y ∈ xs ++ [x], p y := fun y hy => by
  rcases List.mem_append.1 hy with h' | h'
  · exact h y h'
  · simp at h'; subst h'; exact hx
/-- a drawn talk. -/
structure Drawn (w w' : World) (v u : Value) (ss : List ByteArray) (zs : List Int) : Prop where
  l : SlT w' w.heap.size v ss
  i : OwnI w' w.heap.size u zs
  sl : ss.length ≤ 21
  sz : ∀ t ∈ ss, t.size ≤ 61
  il : zs.length ≤ 140
  ib : ∀ z ∈ zs, z ≤ 11
  b : Below w.heap.size w w'

def lenV' : Value → Nat
  | .slice _ n _ => n
  | _ => 0
theorem drawn_of {w w1 w' : World} {g n cap BI : Nat} {ao : Option Addr} {v u : Value} {ss : List ByteArray} {zs : List Int} (hb : Below w.heap.size w w1) (hg : g = w.heap.size) (d : Drw w1 w' g g ao n cap) (s : SlT w' (g + 1) v ss) (i : OwnI w' BI u zs) (hBI : g ≤ BI) (h12 : w1.heap.size ≤ BI) (sl : ss.length ≤ 21) (sz : ∀ t ∈ ss, t.size ≤ 61) (il : zs.length ≤ 140) (ib : ∀ z ∈ zs, z ≤ 11) : Drawn w w' v u ss zs := by
  subst hg
  exact ⟨Sl.down s (by omega), i.down (by omega), sl, sz, il, ib, hb.trans (d.2.2.below (Nat.le_refl _) hb.size)⟩

set_option maxRecDepth 100000 in
set_option maxHeartbeats 4000000 in
theorem drawTalk_any (w : World) (n cap : Nat) (ao : Option Addr) (hn : n ≤ 1048576) (hk : Hid (CodeAt w w.heap.size ao n)) :
    Calls Try.prog 13 #[.slice ao n cap] w fun r w' => ∃ v u ss zs, r = .returned (.tuple #[v, u]) ∧ Drawn w w' v u ss zs := by
  obtain ⟨g, hgw⟩ : ∃ g, g = w.heap.size := ⟨_, rfl⟩
  go_enter Try.func13, Try.ntmps13
  go_wp2_with fail
  refine (new_any w n cap ao hn hk).mono ?_
  rintro e w1 ⟨rfl, hc1, hb1, hz1⟩
  rw [← hgw] at hc1 hz1 ⊢
  have HB1 : Hid (Below w.heap.size w w1) := hb1
  have HC1 : Hid (CodeAt w1 g ao n) := by show CodeAt w1 g ao n; rw [hgw]; exact hk.out.stays hb1 (Nat.le_refl _)
  have D1 : Hid (Drw w1 w1 g g ao n cap) := Drw.start hc1.out HC1.out
  have hz1' : g + 1 ≤ w1.heap.size := by omega
  have HZ1 : Hid (w1.heap.size = g + 1) := hz1
  have HGW : Hid (g = w.heap.size) := hgw
  clear hz1 hgw hc1 hb1
  have D2 : Hid (Drw w1 (w1.alloc (.cells #[] 9)) g g ao n cap) := D1.out.alloc (Nat.le_refl _) _
  have S2 : Hid (SlT (w1.alloc (.cells #[] 9)) (g + 1) (.slice (some ⟨w1.heap.size, 0, none⟩) 0 0) []) := Sl.made w1 9 1 (g + 1) hz1'
  clear D1 HC1 hk
  go_wp2_with fail
  generalize (w1.alloc (.cells #[] 9)) = W2 at *
  go_loopw [5, 6] (fun v i wr => ∃ (k : Nat) (ss : List ByteArray), k ≤ 9 ∧ i = .int .i64 k ∧ Hid (ss.length = k) ∧ Hid (∀ t ∈ ss, t.size ≤ 13) ∧ Hid (SlT wr (g + 1) v ss) ∧ Hid (Drw w1 wr g g ao n cap)) (fun _ i _ => 9 - (intOf i).toNat)
  case atStart => exact ⟨0, [], by omega, rfl, rfl, (fun t ht => by cases ht), S2.out, D2.out⟩
  case round =>
    obtain ⟨k, ss, hk9, rfl, hsl, hss, hS, hD⟩ := hrel
    clear S2 D2
    have D0 : Hid (Drw wr wr g g ao n cap) := Drw.start hD.out.1 hD.out.2.1
    go_wp2_with fail
    refine (below_small wr wr g g n cap 9 ao hn (Nat.le_refl _) (by omega) (by omega) D0).mono ?_
    rintro e w2 ⟨⟨x, hx, rfl⟩, hd2⟩
    have D3 : Hid (Drw w1 w2 g g ao n cap) := ⟨hd2.out.1, hd2.out.2.1, hD.out.2.2.trans hd2.out.2.2⟩
    have S3 : Hid (SlT w2 (g + 1) _ ss) := slt_keep hS.out hd2.out.2.2 (by omega)
    have hg2 : g + 1 ≤ w2.heap.size := D3.out.lt
    clear D0 hd2 hS hD
    by_cases hlt : k < x
    · have hd : decide ((k : Int) < (x : Int)) = true := by simp; omega
      have D4 : Hid (Drw w2 w2 g g ao n cap) := Drw.start D3.out.1 D3.out.2.1
      go_wp2_with fail
      refine (name_any w2 w2 g g n cap ao hn (Nat.le_refl _) D4).mono ?_
      rintro e w3 ⟨⟨t, ht, rfl⟩, hd3⟩
      have D5 : Drw w1 w3 g g ao n cap := ⟨hd3.out.1, hd3.out.2.1, D3.out.2.2.trans hd3.out.2.2⟩
      have S5 := slt_keep S3.out hd3.out.2.2 (by omega)
      have hg3 : g + 1 ≤ w3.heap.size := D5.lt
      have hsl2 : ss.length ≤ 9 := by have := hsl.out; omega
      go_wp2_with (at_builtin; refine Stop.mk ?_)
      refine Stop.go ?_
      refine wpList_pushT rfl _ _ 24 rfl Try.underlying24 Try.info9 (by rfl) S5 t rfl (by rfl) (by omega) hg3 ?_
      intro v4 w4 S4 G4 Z4 L4
      have D6 : Hid (Drw w1 w4 g g ao n cap) := Drw.grown D5 (Nat.le_refl _) G4 (fun j hj => by have := (Sl.lt S5 j hj).1; have := HZ1.out; omega)
      have S6 : Hid (SlT w4 (g + 1) v4 (ss ++ [t])) := S4
      clear D3 S3 D4 hd3 D5 S5 S4 G4 Z4 L4
      go_wp2_with fail
      go_roundw
      case rel => exact ⟨k + 1, ss ++ [t], by omega, by go_num, (by show (ss ++ [t]).length = k + 1; rw [List.length_append, hsl.out]; rfl), all_snoc hss.out ht, S6.out, D6.out⟩
      case measure => simp [intOf]; omega
    · have hd : decide ((k : Int) < (x : Int)) = false := by simp; omega
      have hS3 := S3.out
      have O3 : Hid (OwnI (w2.alloc (.cells #[] 3)) w2.heap.size (.slice (some ⟨w2.heap.size, 0, none⟩) 0 0) []) := OwnI.made w2 w2.heap.size (Nat.le_refl _)
      have S4 : Hid (SlT (w2.alloc (.cells #[] 3)) (g + 1) u5 ss) := Sl.alloc S3.out _
      have D4 : Hid (Drw w1 (w2.alloc (.cells #[] 3)) g g ao n cap) := D3.out.alloc (Nat.le_refl _) _
      have HL : Hid (∀ j, u5.ownBlock = some j → j < w2.heap.size) := fun j hj => (Sl.lt S3.out j hj).2
      have hsl9 : ss.length ≤ 9 := by have := hsl.out; omega
      have hw12 : w1.heap.size ≤ w2.heap.size := D3.out.2.2.size
      obtain ⟨ua, uc, rfl⟩ := Sl.form hS3
      obtain ⟨N, hN⟩ : ∃ N, N = ss.length := ⟨_, rfl⟩
      have HNE : Hid (N = ss.length) := hN
      rw [← hN] at S4 HL ⊢
      clear D3 S3 hS3 hsl hN
      obtain ⟨y, hy⟩ : ∃ y : Nat, y = n / 4 % 100 := ⟨_, rfl⟩
      have hyi : (n : Int) / 4 % 100 = (y : Int) := by omega
      have hyb : y < 100 := by omega
      clear hy
      have hW3 : w2.heap.size ≤ (w2.alloc (.cells #[] 3)).heap.size := by simp
      go_wp2_with fail
      generalize (w2.alloc (.cells #[] 3)) = W3 at *
      go_loopw [7, 8] (fun v i wr => ∃ (k : Nat) (zs : List Int), k ≤ 139 ∧ i = .int .i64 k ∧ Hid (zs.length = k) ∧ Hid (∀ z ∈ zs, z ≤ 11) ∧ Hid (OwnI wr w2.heap.size v zs) ∧ Hid (SlT wr (g + 1) (.slice ua N uc) ss) ∧ Hid (Drw w1 wr g g ao n cap) ∧ w2.heap.size ≤ wr.heap.size) (fun _ i _ => 139 - (intOf i).toNat)
      case atStart => exact ⟨0, [], by omega, rfl, rfl, (fun t ht => by cases ht), O3.out, S4.out, D4.out, hW3⟩
      case round =>
        obtain ⟨j, zs, hj9, rfl, hzl, hzs, hI, hS, hD, hwr⟩ := hrel
        clear O3 S4 D4
        have D0 : Hid (Drw wr wr g g ao n cap) := Drw.start hD.out.1 hD.out.2.1
        go_wp2_with fail
        refine (below_small wr wr g g n cap 40 ao hn (Nat.le_refl _) (by omega) (by omega) D0).mono ?_
        rintro e w3 ⟨⟨x, hx, rfl⟩, hd2⟩
        have D3 : Hid (Drw w1 w3 g g ao n cap) := ⟨hd2.out.1, hd2.out.2.1, hD.out.2.2.trans hd2.out.2.2⟩
        have S3 : Hid (SlT w3 (g + 1) (.slice ua N uc) ss) := slt_keep hS.out hd2.out.2.2 (by omega)
        have I3 : Hid (OwnI w3 w2.heap.size _ zs) := ownI_keep hI.out hd2.out.2.2 (by omega)
        have hw23 : w2.heap.size ≤ w3.heap.size := Nat.le_trans hwr hd2.out.2.2.size
        clear D0 hd2 hS hD hI
        obtain ⟨m, hm⟩ : ∃ m : Nat, m = x + y := ⟨_, rfl⟩
        have ww : IntKind.i64.wrap ((x : Int) + (y : Int)) = (m : Int) := by rw [IntKind.wrap_i64]; omega
        have hmb : m ≤ 138 := by omega
        clear hm
        by_cases hlt2 : j < m
        · have hd : decide ((j : Int) < (m : Int)) = true := by simp; omega
          have D4 : Hid (Drw w3 w3 g g ao n cap) := Drw.start D3.out.1 D3.out.2.1
          go_wp2_with fail
          refine (below_small w3 w3 g g n cap 12 ao hn (Nat.le_refl _) (by omega) (by omega) D4).mono ?_
          rintro e w4 ⟨⟨q, hq, rfl⟩, hd4⟩
          have D5 : Drw w1 w4 g g ao n cap := ⟨hd4.out.1, hd4.out.2.1, D3.out.2.2.trans hd4.out.2.2⟩
          have S5 := slt_keep S3.out hd4.out.2.2 (by omega)
          have I5 := ownI_keep I3.out hd4.out.2.2 (show g < w2.heap.size by omega)
          have hw4 : w3.heap.size ≤ w4.heap.size := hd4.out.2.2.size
          have hzl2 : zs.length ≤ 139 := by have := hzl.out; omega
          go_wp2_with (at_builtin; refine Stop.mk ?_)
          refine Stop.go ?_
          refine wpList_pushI rfl _ _ 25 rfl Try.underlying25 Try.info3' w2.heap.size _ zs (by rfl) I5 (q : Int) (by rfl) (by omega) (by omega) ?_
          intro v6 w6 I6 B6
          have D6 : Hid (Drw w1 w6 g g ao n cap) := Drw.keep2 D5 (Nat.le_refl _) B6 (by omega) hw12
          have S6 : Hid (SlT w6 (g + 1) (.slice ua N uc) ss) := Sl.stays S5 B6 (fun k hk => HL.out k hk)
          have HI6 : Hid (OwnI w6 w2.heap.size v6 (zs ++ [(q : Int)])) := I6
          have hw6 : w2.heap.size ≤ w6.heap.size := by have := B6.size; omega
          clear D3 S3 I3 D4 hd4 D5 S5 I5 I6 B6
          go_wp2_with fail
          go_roundw
          case rel => exact ⟨j + 1, zs ++ [(q : Int)], by omega, by go_num, (by show (zs ++ [(q : Int)]).length = j + 1; rw [List.length_append, hzl.out]; rfl), all_snoc hzs.out (by omega), HI6.out, S6.out, D6.out, hw6⟩
          case measure => simp [intOf]; omega
        · have hd : decide ((j : Int) < (m : Int)) = false := by simp; omega
          have hzl2 : zs.length ≤ 139 := by have := hzl.out; omega
          have D4 : Hid (Drw w3 w3 g g ao n cap) := Drw.start D3.out.1 D3.out.2.1
          go_wp2_with fail
          refine (below_small w3 w3 g g n cap 20 ao hn (Nat.le_refl _) (by omega) (by omega) D4).mono ?_
          rintro e w4 ⟨⟨q, hq, rfl⟩, hd4⟩
          have D5 : Hid (Drw w1 w4 g g ao n cap) := ⟨hd4.out.1, hd4.out.2.1, D3.out.2.2.trans hd4.out.2.2⟩
          have S5 : Hid (SlT w4 (g + 1) (.slice ua N uc) ss) := slt_keep S3.out hd4.out.2.2 (by omega)
          have I5 : Hid (OwnI w4 w2.heap.size _ zs) := ownI_keep I3.out hd4.out.2.2 (show g < w2.heap.size by omega)
          have hw4 : w3.heap.size ≤ w4.heap.size := hd4.out.2.2.size
          have hs13 : Hid (∀ t ∈ ss, t.size ≤ 61) := fun t ht => by have := hss.out t ht; omega
          clear D3 S3 I3 D4 hd4
          have hq4 : q = 0 ∨ q = 1 ∨ q = 2 ∨ 3 ≤ q := by omega
          rcases hq4 with rfl | rfl | rfl | hq3
          · go_wp2_with (at_builtin; refine Stop.mk ?_)
            refine Stop.go ?_
            refine wpList_pushI rfl _ _ 25 rfl Try.underlying25 Try.info3' w2.heap.size _ zs (by rfl) I5.out (-1 : Int) (by rfl) (by omega) (by omega) ?_
            intro v6 w6 I6 B6
            have D6 : Hid (Drw w1 w6 g g ao n cap) := Drw.keep2 D5.out (Nat.le_refl _) B6 (by omega) hw12
            have S6 : Hid (SlT w6 (g + 1) (.slice ua N uc) ss) := Sl.stays S5.out B6 (fun k hk => HL.out k hk)
            have HI6 : Hid (OwnI w6 w2.heap.size v6 (zs ++ [(-1 : Int)])) := I6
            have hw6 : w2.heap.size ≤ w6.heap.size := by have := B6.size; omega
            clear D5 S5 I5 I6 B6
            go_wp2_with fail
            go_ret2
            exact ⟨_, _, ss, zs ++ [(-1 : Int)], rfl, drawn_of HB1.out HGW.out D6.out S6.out HI6.out (by omega) hw12 (by omega) hs13.out (by rw [List.length_append]; simp; omega) (all_snoc hzs.out (by omega))⟩
          · go_wp2_with fail
            refine (long_any 61 w4 (by omega)).mono ?_
            rintro e w5 ⟨⟨tt, htt, rfl⟩, hb5⟩
            have S6 : SlT w5 (g + 1) (.slice ua N uc) ss := Sl.below S5.out hb5
            have I6 := OwnI.stays I5.out hb5 (fun k hk => (I5.out.lt k hk).2)
            have D6 := Drw.step D5.out (Nat.le_refl _) hb5
            have hw5 : w4.heap.size ≤ w5.heap.size := hb5.size
            go_wp2_with (at_builtin; refine Stop.mk ?_)
            refine Stop.go ?_
            refine wpList_pushT rfl _ _ 24 rfl Try.underlying24 Try.info9 (by rfl) S6 tt rfl (by rfl) (by omega) (by omega) ?_
            intro v7 w7 S7 G7 Z7 L7
            have D7 : Hid (Drw w1 w7 g g ao n cap) := Drw.grown D6 (Nat.le_refl _) G7 (fun i hi => by have := (Sl.lt S6 i hi).1; have := HZ1.out; omega)
            have I7 : Hid (OwnI w7 w2.heap.size _ zs) := ownI_grown I6 G7 (fun i hi he => by have := HL.out i he.symm; have := (I6.lt i hi).1; omega)
            have HS7 : Hid (SlT w7 (g + 1) v7 (ss ++ [tt])) := S7
            have hw7 : w5.heap.size ≤ w7.heap.size := by omega
            clear D5 S5 I5 S6 I6 D6 S7 G7 Z7 L7 hb5
            go_wp2_with fail
            go_ret2
            exact ⟨_, _, ss ++ [tt], zs, rfl, drawn_of HB1.out HGW.out D7.out HS7.out I7.out (by omega) hw12 (by rw [List.length_append]; simp; omega) (all_snoc hs13.out (by omega)) (by omega) hzs.out⟩
          · obtain ⟨ja, jc, rfl⟩ := OwnI.form I5.out
            have HDJ : Hid (Dj (.slice ua N uc) (.slice ja zs.length jc)) := fun i h1 h2 => by have := HL.out i h1; have := (I5.out.lt i h2).1; omega
            go_wp2_with fail
            go_loopw [5] (fun v wr => ∃ rs : List ByteArray, Hid (rs.length ≤ 21) ∧ Hid (∀ t ∈ rs, t.size ≤ 61) ∧ Hid (SlT wr (g + 1) v rs) ∧ Hid (Dj v (.slice ja zs.length jc)) ∧ Hid (OwnI wr w2.heap.size (.slice ja zs.length jc) zs) ∧ Hid (Drw w1 wr g g ao n cap) ∧ w2.heap.size ≤ wr.heap.size) (fun v _ => 21 - lenV' v)
            case atStart => exact ⟨ss, (by show ss.length ≤ 21; omega), hs13.out, S5.out, HDJ.out, I5.out, D5.out, by omega⟩
            case round =>
              obtain ⟨rs, hrl, hrs, hS, hJ, hI, hD, hwr⟩ := hrel
              clear S5 HDJ I5 D5
              obtain ⟨ra, rc, rfl⟩ := Sl.form hS.out
              obtain ⟨M, hM⟩ : ∃ M, M = rs.length := ⟨_, rfl⟩
              have HM : Hid (M = rs.length) := hM
              rw [← hM] at hS hJ ⊢
              have hM21 : M ≤ 21 := by have := hrl.out; omega
              clear hM
              have D0 : Hid (Drw wr wr g g ao n cap) := Drw.start hD.out.1 hD.out.2.1
              go_wp2_with fail
              refine (below_small wr wr g g n cap 2 ao hn (Nat.le_refl _) (by omega) (by omega) D0).mono ?_
              rintro e w5 ⟨⟨x2, hx2, rfl⟩, hd2⟩
              have D6 : Hid (Drw w1 w5 g g ao n cap) := ⟨hd2.out.1, hd2.out.2.1, hD.out.2.2.trans hd2.out.2.2⟩
              have S6 : Hid (SlT w5 (g + 1) (.slice ra M rc) rs) := slt_keep hS.out hd2.out.2.2 (by omega)
              have I6 : Hid (OwnI w5 w2.heap.size (.slice ja zs.length jc) zs) := ownI_keep hI.out hd2.out.2.2 (by omega)
              have hw5 : w2.heap.size ≤ w5.heap.size := Nat.le_trans hwr hd2.out.2.2.size
              clear D0 hd2 hS hI hD
              obtain ⟨m2, hm2⟩ : ∃ m2 : Nat, m2 = 20 + x2 := ⟨_, rfl⟩
              have ww2 : IntKind.i64.wrap (20 + (x2 : Int)) = (m2 : Int) := by rw [IntKind.wrap_i64]; omega
              have hm2b : m2 ≤ 21 := by omega
              clear hm2
              by_cases hlt3 : M < m2
              · have hd : decide ((M : Int) < (m2 : Int)) = true := by simp; omega
                go_wp2_with (at_builtin; refine Stop.mk ?_)
                refine Stop.go ?_
                have S6' : SlT w5 (g + 1) (.slice ra M rc) rs := S6.out
                refine wpList_pushT rfl _ _ 24 rfl Try.underlying24 Try.info9 (by rfl) S6' ⟨#[113]⟩ rfl (by rfl) (by have := HM.out; omega) (by omega) ?_
                intro v7 w7 S7 G7 Z7 L7
                have hle : ∀ i, (Value.slice ra M rc).ownBlock = some i → g + 1 ≤ i ∧ i < w5.heap.size := fun i hi => Sl.lt S6' i hi
                have D7 : Hid (Drw w1 w7 g g ao n cap) := Drw.grown D6.out (Nat.le_refl _) G7 (fun i hi => by have := (hle i hi).1; have := HZ1.out; omega)
                have I7 : Hid (OwnI w7 w2.heap.size (.slice ja zs.length jc) zs) := ownI_grown I6.out G7 (fun i hi he => hJ.out i he.symm hi)
                have J7 : Hid (Dj v7 (.slice ja zs.length jc)) := fun i h1 h2 => by
                  rcases L7 with hl | hl
                  · rw [hl] at h1; exact hJ.out i h1 h2
                  · rw [hl] at h1; have := (I6.out.lt i h2).2; simp at h1; omega
                have HS7 : Hid (SlT w7 (g + 1) v7 (rs ++ [⟨#[113]⟩])) := S7
                have hw7 : w2.heap.size ≤ w7.heap.size := by omega
                have HLV : Hid (lenV' v7 = M + 1) := by
                  obtain ⟨xa, xc, rfl⟩ := Sl.form S7
                  show (rs ++ [(⟨#[113]⟩ : ByteArray)]).length = M + 1
                  rw [List.length_append, HM.out]
                  rfl
                clear D6 S6 I6 S6' S7 G7 Z7 L7 hle hJ
                go_wp2_with fail
                go_roundw
                case rel => exact ⟨rs ++ [(⟨#[113]⟩ : ByteArray)], (by show (rs ++ [(⟨#[113]⟩ : ByteArray)]).length ≤ 21; rw [List.length_append]; have := HM.out; simp; omega), all_snoc (x := (⟨#[113]⟩ : ByteArray)) hrs.out (by decide), HS7.out, J7.out, I7.out, D7.out, hw7⟩
                case measure =>
                  have := HLV.out
                  simp [lenV'] at *
                  omega
              · have hd : decide ((M : Int) < (m2 : Int)) = false := by simp; omega
                go_wp2_with fail
                go_ret2
                exact ⟨_, _, rs, zs, rfl, drawn_of HB1.out HGW.out D6.out S6.out I6.out (by omega) hw12 hrl.out hrs.out (by omega) hzs.out⟩
          · have e0 : ¬ (q : Int) = 0 := by omega
            have e1 : ¬ (q : Int) = 1 := by omega
            have e2 : ¬ (q : Int) = 2 := by omega
            have b0 : ((q : Int) == 0) = false := by simp; omega
            have b1 : ((q : Int) == 1) = false := by simp; omega
            have b2 : ((q : Int) == 2) = false := by simp; omega
            go_wp2_with fail
            go_ret2
            exact ⟨_, _, ss, zs, rfl, drawn_of HB1.out HGW.out D5.out S5.out I5.out (by omega) hw12 (by omega) hs13.out (by omega) hzs.out⟩
end Go.Proofs.Ytohagaelenhebaa
