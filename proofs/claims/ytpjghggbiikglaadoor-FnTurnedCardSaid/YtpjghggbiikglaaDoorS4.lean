/- The walks over the drawn text and the drawn places, and over the law on a turned byte. -/
import Derived.Test.YtpjghggbiikglaaDoorS2
import Derived.Test.YtpjghggbiikglaaDoorS3
namespace Go.Proofs.YtpjghggbiikglaaDoor
open Go.RowKit Pl
set_option linter.unusedVariables false

set_option maxRecDepth 100000 in
set_option maxHeartbeats 1000000 in
theorem big_any (w : World) (n cap : Nat) (ao : Option Addr) (b : Bool) (hb : decide (1048576 < (n : Int)) = b) :
    Calls Tryd.prog 8 #[.slice ao n cap] w fun e w' => e = .returned (.bool b) ∧ w' = w := by
  go_enter Tryd.func8, Tryd.ntmps8
  go_wp2
  go_ret
  exact ⟨by rw [← hb]; rfl, rfl⟩

set_option maxRecDepth 100000 in
set_option maxHeartbeats 1000000 in
theorem drawSum (w : World) (n cap : Nat) (ao : Option Addr) (hn : n ≤ 1048576) (hk : Hid (CodeAt w w.heap.size ao n)) :
    Calls Tryd.prog 9 #[.slice ao n cap] w fun e w' => (∃ t : ByteArray, t.size < 40 ∧ e = .returned (.string t)) ∧ Below w.heap.size w w' := by
  go_enter Tryd.func9, Tryd.ntmps9
  go_wp2_with (first | (go_at_call 19; refine (new_any _ n cap ao hn hk).mono ?_; rintro e w1 ⟨rfl, hc1, hb1, hs1⟩; have hlt1 : w.heap.size < w1.heap.size := (by omega); have hd1 := Drw.start hc1.out (hk.out.stays hb1 (Nat.le_refl _)); clear hs1) | (go_at_call 21; refine (below_small w1 _ w.heap.size w.heap.size n cap 40 ao hn (Nat.le_refl _) (by omega) (by omega) hd1).mono ?_; rintro e w2 ⟨⟨x, hx, rfl⟩, hd2⟩; have hlt2 : w.heap.size < w2.heap.size := (by rw [hd2.out.2.2.size]; exact hlt1)) | (go_at_call 20; refine (text_any _ w.heap.size w.heap.size n cap x ao hn (Nat.le_refl _) hlt2 (by omega) (show Hid _ from hd2.out.1) (show Hid _ from hd2.out.2.1)).mono ?_; rintro e w3 ⟨⟨t, ht, rfl⟩, hc3, hb3⟩))
  go_ret
  exact ⟨⟨t, by omega, rfl⟩, (hb1.trans (hd2.out.2.2.below (Nat.le_refl _))).trans hb3⟩

/-- numbers of 0 .. 9999. -/
def Small (xs : List Int) : Prop := ∀ x ∈ xs, 0 ≤ x ∧ x < 10000

set_option maxRecDepth 100000 in
set_option maxHeartbeats 1000000 in
theorem drawPlaces (w : World) (n cap : Nat) (ao : Option Addr) (hn : n ≤ 1048576) (hk : Hid (CodeAt w w.heap.size ao n)) :
    Calls Tryd.prog 10 #[.slice ao n cap] w fun e w' => (∃ (v : Value) (xs : List Int), e = .returned v ∧ xs.length = 12 ∧ Hid (Small xs) ∧ Hid (OwnI w' (w.heap.size + 1) v xs)) ∧ Below w.heap.size w w' := by
  go_enter Tryd.func10, Tryd.ntmps10
  go_wp2_with (first | (go_at_call 19; refine (new_any _ n cap ao hn hk).mono ?_; rintro e w1 ⟨rfl, hc1, hb1, hs1⟩; have hlt1 : w.heap.size + 1 ≤ w1.heap.size := (by omega); have hd1 := Drw.start hc1.out (hk.out.stays hb1 (Nat.le_refl _)); clear hs1) | (go_at_call 22; refine (byte_any w1 _ w.heap.size w.heap.size n cap ao hn (Nat.le_refl _) hd1).mono ?_; rintro e w2 ⟨⟨x, hx, rfl⟩, hd2⟩; have hlt2 : w.heap.size + 1 ≤ w2.heap.size := (by rw [hd2.out.2.2.size]; exact hlt1)))
  go_loopw [4, 5] (fun v i wr => ∃ (k : Nat) (xs : List Int), i = .int .i64 k ∧ k ≤ 12 ∧ xs.length = k ∧ Hid (Small xs) ∧ Hid (OwnI wr (w.heap.size + 1) v xs) ∧ Hid (CurAt wr 45 w.heap.size ao n cap) ∧ Hid (CodeAt wr w.heap.size ao n) ∧ Hid (Below w.heap.size w wr) ∧ w.heap.size + 1 ≤ wr.heap.size) (fun _ i _ => 12 - (intOf i).toNat)
  case atStart =>
    have hb3 : Below w2.heap.size w2 (w2.alloc (.cells #[] 3)) := (Below.refl _ _).alloc (Nat.le_refl _) _
    have hb2 : Below w.heap.size w w2 := hb1.trans (hd2.out.2.2.below (Nat.le_refl _))
    refine ⟨0, [], rfl, by omega, rfl, (show Small _ from fun x hx => by cases hx), OwnI.made w2 _ hlt2, CurAt.stays hd2.out.1 hb3 (by omega), hd2.out.2.1.stays hb3 (by omega), hb2.trans (hb3.mono (by omega)), ?_⟩
    have := hb3.size
    omega
  case round =>
    obtain ⟨k, xs, rfl, hkN, hxl, hsm, hown, hcr, hkr, hbr, hsz⟩ := hrel
    by_cases h1 : k < 12
    · have hd := Drw.start hcr.out hkr.out
      go_wp2_with (first | (go_at_call 21; refine (below_big wr _ w.heap.size w.heap.size n cap 10000 ao hn (Nat.le_refl _) (by omega) (by omega) (by assumption)).mono ?_; rintro e w3 ⟨⟨y, hy, rfl⟩, hd3⟩; have hs3 : w.heap.size + 1 ≤ w3.heap.size := (by rw [hd3.out.2.2.size]; exact hsz); have hown3 := OwnI.turned hown.out hd3.out.2.2 (Nat.lt_succ_self _)) | (at_builtin; refine wpList_pushI rfl _ _ 25 rfl Tryd.underlying25 Tryd.info3' (w.heap.size + 1) _ xs rfl hown3 _ rfl (by omega) (by omega) ?_; intro v4 w4 hown4 hb4))
      go_roundw
      case rel =>
        have hb3 : Below w.heap.size wr w3 := hd3.out.2.2.below (Nat.le_refl _)
        have hs4 := hb4.size
        refine ⟨k + 1, _, by go_num, by omega, by simp [hxl], ?_, hown4, CurAt.stays hd3.out.1 hb4 (Nat.lt_succ_self _), hd3.out.2.1.stays hb4 (by omega), (show Below w.heap.size w w4 from (hbr.out.trans hb3).trans (hb4.mono (by omega))), by omega⟩
        show Small _
        intro x hx
        rcases List.mem_append.1 hx with hx | hx
        · exact hsm.out x hx
        · obtain rfl := List.mem_singleton.1 hx
          omega
      case measure => simp [intOf]; omega
    · have hkk : k = 12 := by omega
      go_wp2
      go_ret
      exact ⟨⟨_, xs, rfl, by omega, hsm, hown⟩, hbr.out⟩

theorem implUn_seal (s : ByteArray) (w : World) (hl : s.size ≤ 20000) (ht : Hid (Tab w)) :
    Calls Tryd.prog 12 #[.string (sealS s)] w fun e w' => e = .returned (.tuple #[.string s, .bool true]) ∧ Below w.heap.size w w' := by
  have hz := sealS_size s
  have hg := good_seal s
  have he : (sealS s).extract 0 s.size = s := by
    have := hg.2
    rwa [hz, show s.size + 4 - 4 = s.size by omega] at this
  have := implUn_yes (sealS s) s.size w hz hl ht hg.1
  rwa [he] at this
end Go.Proofs.YtpjghggbiikglaaDoor
