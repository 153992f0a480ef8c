/- The walks over what the law on FeedReader uses, and over the law. -/
import Derived.Test.YtjjaklhpdckppaaDoorF8
import Derived.Test.YtjjaklhpdckppaaDoorM1
import Derived.Test.YtjjaklhpdckppaaDoorMn
namespace Go.Proofs.YtjjaklhpdckppaaDoor
open Go.RowKit Pl
set_option linter.unusedVariables false

/-- the block g is a reader that was handed in. -/
def LrdrAt (w : World) (g : Nat) (r : ByteArray) (b : Bool) : Prop := w.heap[g]? = some (.cells #[.string r, .bool b] 37 (0, 0))
theorem LrdrAt.cells {w : World} {g : Nat} {r : ByteArray} {b : Bool} (h : LrdrAt w g r b) : w.cell? ⟨g, 0, none⟩ = some (.string r) ∧ w.cell? ⟨g, 1, none⟩ = some (.bool b) :=
  ⟨by rw [cell_of_row w g 0 _ 37 (0, 0) h]; rfl, by rw [cell_of_row w g 1 _ 37 (0, 0) h]; rfl⟩
theorem LrdrAt.stays {w w' : World} {B g : Nat} {r : ByteArray} {b : Bool} (h : LrdrAt w g r b) (hb : Below B w w') (hg : g < B) : LrdrAt w' g r b := (hb.block g hg).trans h

set_option maxRecDepth 100000 in
set_option maxHeartbeats 1000000 in
theorem szr_long (a : ByteArray) (b : Bool) (w : World) (h : 1048576 < a.size) (h2 : a.size ≤ 9223372036854775807) :
    Calls Tryd.prog 16 #[.agg #[.string a, .bool b], .int .i64 1048576] w fun e w' => e = .returned (.int .i64 (-1)) ∧ Below w.heap.size w w' := by
  have hd : decide ((1048576 : Int) - (a.size : Int) < 0) = true := by simp; omega
  go_enter Tryd.func16, Tryd.ntmps16
  go_wp2
  go_ret
  exact ⟨rfl, (Below.refl _ _).alloc (Nat.le_refl _) _⟩
set_option maxRecDepth 100000 in
set_option maxHeartbeats 1000000 in
theorem szr_any (a : ByteArray) (b : Bool) (w : World) (h : a.size ≤ 1048576) :
    Calls Tryd.prog 16 #[.agg #[.string a, .bool b], .int .i64 1048576] w fun e w' => (∃ z : Nat, e = .returned (.int .i64 z)) ∧ Below w.heap.size w w' := by
  have hd : decide ((1048576 : Int) - (a.size : Int) < 0) = false := by simp; omega
  go_enter Tryd.func16, Tryd.ntmps16
  go_wp2
  go_ret
  refine ⟨⟨1048576 - a.size, ?_⟩, (Below.refl _ _).alloc (Nat.le_refl _) _⟩
  rw [show ((1048576 - a.size : Nat) : Int) = 1048576 - (a.size : Int) by omega]
  rfl
set_option maxRecDepth 100000 in
set_option maxHeartbeats 1000000 in
theorem tor_any (a : ByteArray) (b : Bool) (w : World) :
    Calls Tryd.prog 17 #[.agg #[.string a, .bool b]] w fun e w' => e = .returned (.agg #[.string a, .bool b]) ∧ Below w.heap.size w w' := by
  go_enter Tryd.func17, Tryd.ntmps17
  go_wp2
  refine bodyPost_ret (v := .agg #[.string a, .bool b]) (by simp [results, Tryd.results17, go_sem]) rfl ⟨rfl, ?_⟩
  exact (((Below.refl _ w).alloc (Nat.le_refl _) _).alloc (by simp) _).alloc (by simp; omega) _
set_option maxRecDepth 100000 in
set_option maxHeartbeats 1000000 in
theorem eqr_same (a : ByteArray) (b : Bool) (w : World) :
    Calls Tryd.prog 18 #[.agg #[.string a, .bool b], .agg #[.string a, .bool b]] w fun e w' => e = .returned (.bool true) ∧ Below w.heap.size w w' := by
  go_enter Tryd.func18, Tryd.ntmps18
  go_wp2
  go_ret
  exact ⟨rfl, ((Below.refl _ _).alloc (Nat.le_refl _) _).alloc (by simp) _⟩

/-- what both FeedReaders answer. -/
theorem feed_pair (a m : ByteArray) (b : Bool) (ha : a.size ≤ 1048576) (hm : m.size ≤ 1048576) : ∃ (ss : List ByteArray) (r : ByteArray) (b' : Bool), ss.length ≤ 20000 ∧
    (∀ w, Hid (Tab w) → Calls Tryd.prog 12 #[.agg #[.string a, .bool b], .string m] w fun e w' => ∃ v, e = .returned (.tuple #[.agg #[.string r, .bool b'], v]) ∧ OwnS w' w.heap.size v ss ∧ Below w.heap.size w w') ∧
    (∀ w, Calls Tryd.prog 14 #[.agg #[.string a, .bool b], .string m] w fun e w' => ∃ v, e = .returned (.tuple #[.agg #[.string r, .bool b'], v]) ∧ OwnS w' w.heap.size v ss ∧ Below w.heap.size w w') := by
  by_cases h : b = true ∨ (b = false ∧ 20000 < a.size + m.size)
  · exact ⟨[], a, b, Nat.zero_le _, fun w _ => feed_same a m b w h ha hm, fun w => spfeed_same a m b w h ha hm⟩
  · have hb : b = false := by
      cases b with
      | true => exact absurd (.inl rfl) h
      | false => rfl
    have hs : a.size + m.size ≤ 20000 := by
      rcases Nat.lt_or_ge 20000 (a.size + m.size) with h1 | h1
      · exact absurd (.inr ⟨hb, h1⟩) h
      · exact h1
    subst hb
    obtain ⟨ss, r, b', hf⟩ := fed_some (a ++ m)
    have hl := fed_len hf
    rw [ByteArray.size_append] at hl
    exact ⟨ss, r, b', by omega, fun w ht => feed_any a m ss r b' w hf ht hs, fun w => spfeed_any a m ss r b' w hf hs⟩

set_option maxRecDepth 100000 in
set_option maxHeartbeats 4000000 in
theorem lawFeed (a m : ByteArray) (b : Bool) (w : World) (ha : a.size ≤ maxLen) (hm : m.size ≤ maxLen) (htab : Hid (Tab w)) :
    Calls Tryd.prog 6 #[.agg #[.string a, .bool b], .string m] w fun e w' => e = .returned (.bool true) ∧ Below w.heap.size w w' := by
  unfold maxLen at ha hm
  by_cases hm1 : 1048576 < m.size
  · go_enter Tryd.func6, Tryd.ntmps6
    go_wp2
    go_ret
    exact ⟨rfl, (Below.refl _ _).alloc (Nat.le_refl _) _⟩
  by_cases ha1 : 1048576 < a.size
  · go_enter Tryd.func6, Tryd.ntmps6
    go_wp2_with (first | (go_at_call 16; refine (szr_long a b _ ha1 (by omega)).mono ?_; rintro e w1 ⟨rfl, hb1⟩))
    go_ret
    exact ⟨rfl, ((Below.refl _ _).alloc (Nat.le_refl _) _).trans (hb1.mono (by simp))⟩
  have ha2 : a.size ≤ 1048576 := by omega
  have hm2 : m.size ≤ 1048576 := by omega
  clear ha hm hm1 ha1
  obtain ⟨us, r, b', hul0, himpl0, hspec0⟩ := feed_pair a m b ha2 hm2
  have himpl : Hid _ := himpl0
  have hspec : Hid _ := hspec0
  have hul : us.length ≤ 1048577 := by omega
  clear himpl0 hspec0
  have H0 : Hid (LrdrAt (w.alloc (.cells #[.string a, .bool b] 37)) w.heap.size a b) := heap_alloc_new w _
  have HB0 : Hid (Below w.heap.size w (w.alloc (.cells #[.string a, .bool b] 37))) := (Below.refl _ _).alloc (Nat.le_refl _) _
  have HS0 : (w.alloc (.cells #[.string a, .bool b] 37)).heap.size = w.heap.size + 1 := by simp
  go_enter Tryd.func6, Tryd.ntmps6
  go_wp2_with fail
  generalize w.alloc (.cells #[.string a, .bool b] 37) = W0 at *
  have hN : w.heap.size < W0.heap.size := by omega
  clear HS0
  have htab0 : Hid (Tab W0) := htab.out.below HB0.out
  refine (szr_any a b _ ha2).mono ?_
  rintro e w1 ⟨⟨z, rfl⟩, hb1⟩
  have B1 : Below W0.heap.size W0 w1 := hb1
  have hz : decide ((z : Int) < 0) = false := by simp
  obtain ⟨l0, l1⟩ := (H0.out.stays B1 hN).cells
  clear hb1
  go_wp2_with fail
  refine (tor_any a b _).mono ?_
  rintro e w2 ⟨rfl, hb2⟩
  have B2 : Below W0.heap.size W0 w2 := B1.trans (hb2.mono B1.size)
  clear hb2 l0 l1
  go_wp2_with fail
  refine (hspec.out _).mono ?_
  rintro e w3 ⟨v0, rfl, hv0, hb3⟩
  have M0 := Mine.mk' hv0
  have B3 : Below W0.heap.size W0 w3 := B2.trans (hb3.mono B2.size)
  clear hv0 hb3
  have M0 := M0.stays ((Below.refl w3.heap.size w3).alloc (Nat.le_refl _) (.cells #[.string r, .bool b'] 32))
  have B3' : Below W0.heap.size W0 (w3.alloc (.cells #[.string r, .bool b'] 32)) := B3.alloc B3.size _
  have R0 : Hid (RdrAt (w3.alloc (.cells #[.string r, .bool b'] 32)) w3.heap.size r b') := heap_alloc_new w3 _
  have hS3 : w3.heap.size < (w3.alloc (.cells #[.string r, .bool b'] 32)).heap.size := by simp
  obtain ⟨l0, l1⟩ := (H0.out.stays B3' hN).cells
  go_wp2_with fail
  generalize w3.alloc (.cells #[.string r, .bool b'] 32) = W3 at *
  have hlo3 := M0.le
  refine (tor_any a b _).mono ?_
  rintro e w4 ⟨rfl, hb4⟩
  have C4 : Below W3.heap.size W3 w4 := hb4
  have M0 := M0.stays hb4
  have htab4 : Hid (Tab w4) := htab0.out.keep (B3'.trans (hb4.mono B3'.size)) (Nat.lt_of_le_of_lt (Nat.zero_le _) hN)
  clear hb4 l0 l1
  go_wp2_with fail
  refine (himpl.out _ htab4).mono ?_
  rintro e w5 ⟨vg, rfl, hvg, hb5⟩
  have MG := Mine.mk' hvg
  have M0 := M0.stays hb5
  have C5 : Below W3.heap.size W3 w5 := C4.trans (hb5.mono C4.size)
  have s45 := hb5.size
  have s34 := C4.size
  clear hvg hb5 htab4
  have D5 : Below w5.heap.size w5 (w5.alloc (.cells #[.string r, .bool b'] 32)) := (Below.refl w5.heap.size w5).alloc (Nat.le_refl _) _
  have M0 := M0.stays D5
  have MG := MG.stays D5
  have C5' : Below W3.heap.size W3 (w5.alloc (.cells #[.string r, .bool b'] 32)) := C5.alloc C5.size _
  obtain ⟨f0, f1, _, _⟩ := (R0.out.stays C5' hS3).cells
  have R1 : Hid (RdrAt (w5.alloc (.cells #[.string r, .bool b'] 32)) w5.heap.size r b') := heap_alloc_new w5 _
  obtain ⟨g0, g1, _, _⟩ := R1.out.cells
  clear D5
  go_wp2_with fail
  generalize w5.alloc (.cells #[.string r, .bool b'] 32) = W5 at *
  refine (eqr_same r b' _).mono ?_
  rintro e w6 ⟨rfl, hb6⟩
  have M0 := M0.stays hb6
  have MG := MG.stays hb6
  have C6 : Below W3.heap.size W3 w6 := C5'.trans (hb6.mono C5'.size)
  clear hb6 f0 f1 g0 g1
  go_wp2_with fail
  refine (eqS_same vg v0 us _ _ _ MG.own M0.own hul).mono ?_
  rintro e w7 ⟨rfl, hb7⟩
  have M0 := M0.stays hb7
  have MG := MG.stays hb7
  have C7 : Below W3.heap.size W3 w7 := C6.trans (hb7.mono C6.size)
  clear hb7
  go_wp2_with fail
  refine (markS_any vg us _ _ MG.own hul).mono ?_
  rintro e w8 ⟨rfl, hgr8, xs, hxl, hmk, hown8⟩
  have M0 := M0.grown MG.at' hgr8 (.inl (Nat.le_trans hlo3 s34))
  have MH : Mine w8 vg xs w4.heap.size w5.heap.size := ⟨hown8, MG.at', Nat.le_trans MG.le hgr8.size⟩
  have C8 : Below W3.heap.size W3 w8 := C7.grown hgr8 C7.size (fun k hk => Nat.le_trans s34 (MG.at' k hk).1)
  have hmk2 : Hid (Marked xs 1 xs.length) := by rw [hxl]; exact hmk
  have HXL : Hid (xs.length = us.length) := hxl
  have c9 := heldS_any vg xs _ w8 MH.own (by omega) hmk2
  rw [hxl] at c9
  clear hgr8 MG hmk hown8 hxl
  go_wp2_with fail
  refine c9.mono ?_
  clear c9
  rintro e w9 ⟨rfl, hb9⟩
  have M0 := M0.stays hb9
  have MH := MH.stays hb9
  have C9 : Below W3.heap.size W3 w9 := C8.trans (hb9.mono C8.size)
  have B9 : Below W0.heap.size W0 w9 := B3'.trans (C9.mono B3'.size)
  have hu0 : decide (1 + (us.length : Int) < 0) = false := by simp; omega
  obtain ⟨l0, l1⟩ := (H0.out.stays B9 hN).cells
  clear hb9
  go_wp2_with fail
  refine (tor_any a b _).mono ?_
  rintro e w10 ⟨rfl, hb10⟩
  have M0 := M0.stays hb10
  have MH := MH.stays hb10
  have C10 : Below W3.heap.size W3 w10 := C9.trans (hb10.mono C9.size)
  have htab10 : Hid (Tab w10) := htab0.out.keep (B9.trans (hb10.mono B9.size)) (Nat.lt_of_le_of_lt (Nat.zero_le _) hN)
  clear hb10 l0 l1
  go_wp2_with fail
  refine (himpl.out _ htab10).mono ?_
  rintro e w11 ⟨vh, rfl, hvh, hb11⟩
  have MV := Mine.mk' hvh
  have M0 := M0.stays hb11
  have MH := MH.stays hb11
  have C11 : Below W3.heap.size W3 w11 := C10.trans (hb11.mono C10.size)
  clear hvh hb11 htab10
  have D11 : Below w11.heap.size w11 (w11.alloc (.cells #[.string r, .bool b'] 32)) := (Below.refl w11.heap.size w11).alloc (Nat.le_refl _) _
  have M0 := M0.stays D11
  have MH := MH.stays D11
  have MV := MV.stays D11
  have C11' : Below W3.heap.size W3 (w11.alloc (.cells #[.string r, .bool b'] 32)) := C11.alloc C11.size _
  obtain ⟨f0, f1, _, _⟩ := (R0.out.stays C11' hS3).cells
  have R2 : Hid (RdrAt (w11.alloc (.cells #[.string r, .bool b'] 32)) w11.heap.size r b') := heap_alloc_new w11 _
  obtain ⟨g0, g1, _, _⟩ := R2.out.cells
  clear D11
  go_wp2_with fail
  generalize w11.alloc (.cells #[.string r, .bool b'] 32) = W11 at *
  refine (eqr_same r b' _).mono ?_
  rintro e w12 ⟨rfl, hb12⟩
  have M0 := M0.stays hb12
  have MH := MH.stays hb12
  have MV := MV.stays hb12
  have C12 : Below W3.heap.size W3 w12 := C11'.trans (hb12.mono C11'.size)
  clear hb12 f0 f1 g0 g1
  go_wp2_with fail
  refine (eqS_same vh v0 us _ _ _ MV.own M0.own hul).mono ?_
  rintro e w13 ⟨rfl, hb13⟩
  have MH := MH.stays hb13
  have C13 : Below W3.heap.size W3 w13 := C12.trans (hb13.mono C12.size)
  have c14 := heldS_any vg xs _ w13 MH.own (by rw [HXL.out]; exact hul) hmk2
  rw [HXL.out] at c14
  clear hb13 M0 MV
  go_wp2_with fail
  refine c14.mono ?_
  clear c14
  rintro e w14 ⟨rfl, hb14⟩
  go_wp2
  go_ret
  refine ⟨rfl, HB0.out.trans (Below.mono ?_ HB0.out.size)⟩
  exact B3'.trans ((C13.trans (hb14.mono C13.size)).mono B3'.size)
end Go.Proofs.YtjjaklhpdckppaaDoor
