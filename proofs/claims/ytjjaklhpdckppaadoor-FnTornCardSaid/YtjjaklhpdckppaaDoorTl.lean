/- The law on torn frames, walked. -/
import Derived.Test.YtjjaklhpdckppaaDoorTn
namespace Go.Proofs.YtjjaklhpdckppaaDoor
open Go.RowKit Pl
set_option linter.unusedVariables false

theorem code_up {w w1 : World} {n : Nat} {ao : Option Addr} (h : CodeAt w w.heap.size ao n) (hb : Below w.heap.size w w1) : CodeAt w1 w1.heap.size ao n := by
  have := h.stays hb (Nat.le_refl _)
  intro i hi
  obtain ⟨b, off, z, h1, h2, h3⟩ := this i hi
  exact ⟨b, off, z, h1, Nat.lt_of_lt_of_le h2 hb.size, h3⟩

set_option maxRecDepth 100000 in
set_option maxHeartbeats 4000000 in
theorem lawTorn (w : World) (n cap : Nat) (ao : Option Addr) (hk : Hid (CodeAt w w.heap.size ao n)) (ht : Hid (Tab w)) :
    Calls Tryd.prog 4 #[.slice ao n cap] w fun e w' => e = .returned (.bool true) ∧ Below w.heap.size w w' := by
  by_cases hn : n ≤ 1048576
  · have hbig : decide (1048576 < (n : Int)) = false := by simp; omega
    go_enter Tryd.func4, Tryd.ntmps4
    go_wp2_with (first | (go_at_call 7; refine (big_any _ n cap ao false hbig).mono ?_; rintro e w1 ⟨rfl, rfl⟩) | (go_at_call 8; refine (drawTexts _ n cap ao hn hk).mono ?_; rintro e w2 ⟨⟨v, ts, rfl, hl, hsh, hown⟩, hb2⟩; have hk2 : Hid (CodeAt w2 w2.heap.size ao n) := code_up hk.out hb2))
    go_wp2_with fail
    refine (drawPlaces _ n cap ao hn hk2).mono ?_
    rintro e w3 ⟨⟨vp, xs, rfl, hxl, hsm, hownp⟩, hb3⟩
    obtain ⟨gp, capp, rfl, hgp, hgp2, hcell, _⟩ := OwnI.some hownp.out (by omega)
    have hp0 := hcell 0 (by omega)
    have hp1 := hcell 1 (by omega)
    have hq0 := hsm.out xs[0] (List.getElem_mem _)
    have hq1 := hsm.out xs[1] (List.getElem_mem _)
    generalize xs[0] = p0 at hp0 hq0
    generalize xs[1] = p1 at hp1 hq1
    have hxl2 : (xs.length : Int) = 12 := by omega
    have hown3 : Hid (OwnS w3 (w1.heap.size + 1) v ts) := hown.out.stays hb3 (fun k hk => (hown.out.lt k hk).2)
    have ht3 : Hid (Tab w3) := (ht.out.below hb2).below hb3
    have hB3 : Hid (Below w1.heap.size w1 w3) := hb2.trans (hb3.mono hb2.size)
    clear hcell hown hownp hsm hb2 hb3
    by_cases h0 : ts.length = 0
    · obtain ⟨aov, capv, rfl⟩ := hown3.out.form
      rw [h0]
      have hfr := fun w => frameOf_any (⟨#[115, 111, 109, 101]⟩ : ByteArray) w (by decide)
      have hS15 : (⟨#[115, 111, 109, 101]⟩ : ByteArray).size ≤ 15 := by decide
      clear hown3 hsh
      go_wp2_with fail
      generalize (⟨#[115, 111, 109, 101]⟩ : ByteArray) = S at hfr hS15 ⊢
      refine (hfr _ ht3).mono ?_
      rintro e w4 ⟨rfl, hb4⟩
      clear hfr
      have hz := frameS_size S
      have ht4 : Hid (Tab w4) := ht3.out.below hb4
      have hB4 : Hid (Below w1.heap.size w1 w4) := hB3.out.trans (hb4.mono hB3.out.size)
      have hp0b := (hb4.cell (p := ⟨gp, 0, none⟩) hgp2).trans hp0
      have hp1b := (hb4.cell (p := ⟨gp, 1, none⟩) hgp2).trans hp1
      have hg4 : gp < w4.heap.size := Nat.lt_of_lt_of_le hgp2 hb4.size
      obtain ⟨capb, w5, hcv, hb5, hrow⟩ := conv_bytes w4 (frameS S)
      rw [hz] at hcv
      have HR : Hid (RowAt w5 w4.heap.size (frameS S)) := hrow
      have hp0c := (hb5.cell (p := ⟨gp, 0, none⟩) hg4).trans hp0b
      have hp1c := (hb5.cell (p := ⟨gp, 1, none⟩) hg4).trans hp1b
      have hB5 : Hid (Below w1.heap.size w1 w5) := hB4.out.trans (hb5.mono hB4.out.size)
      have ht5 : Hid (Tab w5) := ht4.out.below hb5
      clear hrow hp0 hp1 hp0b hp1b hb4
      have hm0 : 0 ≤ p0 % ((S.size : Int) + 3 - 1) := Int.emod_nonneg _ (by omega)
      have hm1 : p0 % ((S.size : Int) + 3 - 1) < (S.size : Int) + 3 - 1 := Int.emod_lt_of_pos _ (by omega)
      go_wp2
      obtain ⟨I, hI⟩ : ∃ I : Nat, 1 + p0 % ((S.size : Int) + 3 - 1) = (I : Int) := ⟨(1 + p0 % ((S.size : Int) + 3 - 1)).toNat, by rw [Int.toNat_of_nonneg (by omega)]⟩
      have hI1 : 1 ≤ I := by omega
      have hI2 : (I : Int) < (S.size : Int) + 3 := by omega
      rw [hI]
      clear hI hm0 hm1
      obtain ⟨hr1, hr2, hr3⟩ := HR.out
      have hIs : I < (frameS S).size := by rw [hz]; omega
      have hbI := hr2 I hIs
      have hbF := hr3 I hIs
      obtain ⟨c0, hc0⟩ : ∃ c0 : Nat, c0 = ((frameS S).data.toList.getD I 0).toNat := ⟨_, rfl⟩
      have hc0l : c0 < 256 := by rw [hc0]; exact UInt8.toNat_lt _
      rw [← hc0] at hbI
      obtain ⟨D, hD⟩ : ∃ D : Nat, 1 + p1 % 255 = (D : Int) := ⟨(1 + p1 % 255).toNat, by rw [Int.toNat_of_nonneg (by omega)]⟩
      have hD1 : 1 ≤ D := by omega
      have hD2 : D ≤ 255 := by omega
      have hdm : Int.tmod p1 255 = p1 % 255 := Int.tmod_eq_emod_of_nonneg hq1.1
      have hdw : IntKind.i64.wrap (D : Int) = (D : Int) := by rw [IntKind.wrap_i64]; omega
      have hdu : IntKind.u8.wrap (D : Int) = (D : Int) := by rw [IntKind.wrap_u8]; omega
      obtain ⟨c1, hc1⟩ : ∃ c1 : Nat, c1 = c0 ^^^ D := ⟨_, rfl⟩
      have hxor : bits .xor .u8 (c0 : Int) (D : Int) = (c1 : Int) := by rw [u8_xor_nat _ _ hc0l (by omega), hc1]
      have hc1l : c1 < 256 := by
        have h8 : c1 < 2 ^ 8 := by rw [hc1]; exact Nat.xor_lt_two_pow (by omega) (by omega)
        omega
      have hI0 : (0 : Int) ≤ (I : Int) := by omega
      have hgne : ¬ gp = w4.heap.size := by omega
      have hgne2 : ¬ w4.heap.size = gp := by omega
      have HR2 : Hid (RowAt (w5.setCell ⟨w4.heap.size, I, none⟩ (.int .u8 c1)).drew w4.heap.size (setT (frameS S) I c1)) := HR.out.set hIs hc1l
      have hb6 : Below w4.heap.size w4 (w5.setCell ⟨w4.heap.size, I, none⟩ (.int .u8 c1)).drew := (hb5.setCell (p := ⟨w4.heap.size, I, none⟩) (Nat.le_refl _) _).drew
      have ht6 : Hid (Tab (w5.setCell ⟨w4.heap.size, I, none⟩ (.int .u8 c1)).drew) := ht4.out.below hb6
      have hB6 : Hid (Below w1.heap.size w1 (w5.setCell ⟨w4.heap.size, I, none⟩ (.int .u8 c1)).drew) := hB4.out.trans (hb6.mono hB4.out.size)
      have hfed := torn_fed (s := S) (I := I) (c := c1) (by omega) hI1
      have hT : (setT (frameS S) I c1).size = S.size + 3 := by rw [setT_size, hz]
      have HFS : Hid (Fed (frameS S) [S] ByteArray.empty false) := frame_fed (by omega)
      clear hc0 hc1 hr2 hr3 hcv HR
      go_region
      generalize (w5.setCell ⟨w4.heap.size, I, none⟩ (.int .u8 c1)).drew = w6 at *
      generalize setT (frameS S) I c1 = T at *
      clear hp0c hp1c hbI hbF hxor hdm hdw hdu hb5 hb6 hD hD1 hD2 ht5 hB5 ht4 hB4
      have hcv2 := conv_back w6 w4.heap.size capb T HR2.out
      rw [hT] at hcv2
      have hg6 : w4.heap.size < w6.heap.size := HR2.out.1
      rcases hfed with hF | ⟨x, hF⟩
      · have hF1 : Hid (Fed ((⟨#[]⟩ : ByteArray) ++ T) [] ⟨#[]⟩ true) := by rw [show (⟨#[]⟩ : ByteArray) ++ T = T from ByteArray.empty_append]; exact hF
        have hF2 : Hid (Fed ((⟨#[]⟩ : ByteArray) ++ frameS S) [S] ⟨#[]⟩ false) := by rw [show (⟨#[]⟩ : ByteArray) ++ frameS S = frameS S from ByteArray.empty_append]; exact HFS.out
        have hT1 : (⟨#[]⟩ : ByteArray).size + T.size ≤ 20000 := by rw [hT]; show 0 + (S.size + 3) ≤ _; omega
        have hT2 : (⟨#[]⟩ : ByteArray).size + (frameS S).size ≤ 20000 := by rw [hz]; show 0 + (S.size + 3) ≤ _; omega
        clear hF HFS
        go_wp2_with fail
        refine (feed_any ⟨#[]⟩ T [] ⟨#[]⟩ true w6 hF1 ht6 hT1).mono ?_
        rintro e w7 ⟨v1, rfl, ho7, hb7⟩
        obtain ⟨ao1, cap1, rfl⟩ := ho7.form
        have hD7 : Below w6.heap.size w6 (w7.alloc (.cells #[.string ⟨#[]⟩, .bool true] 32)) := hb7.alloc hb7.size _
        have R7 : Hid (RdrAt (w7.alloc (.cells #[.string ⟨#[]⟩, .bool true] 32)) w7.heap.size ⟨#[]⟩ true) := heap_alloc_new w7 _
        have ht7 : Hid (Tab (w7.alloc (.cells #[.string ⟨#[]⟩, .bool true] 32))) := ht6.out.below hD7
        have hB7 : Hid (Below w1.heap.size w1 (w7.alloc (.cells #[.string ⟨#[]⟩, .bool true] 32))) := hB6.out.trans (hD7.mono hB6.out.size)
        obtain ⟨a0, a1, _, _⟩ := R7.out.cells
        have row7 : Hid (RowAt (w7.alloc (.cells #[.string ⟨#[]⟩, .bool true] 32)) w4.heap.size T) := HR2.out.stays hD7 hg6
        clear ho7 hb7 hD7 hcv2
        go_wp2_with fail
        generalize w7.alloc (.cells #[.string ⟨#[]⟩, .bool true] 32) = W7 at *
        refine (feed_same ⟨#[]⟩ (frameS S) true W7 (.inl rfl) (by decide) (by rw [hz]; omega)).mono ?_
        rintro e w8 ⟨v2, rfl, ho8, hb8⟩
        obtain ⟨ao2, cap2, rfl⟩ := ho8.form
        have hD8 : Below W7.heap.size W7 (w8.alloc (.cells #[.string ⟨#[]⟩, .bool true] 32)) := hb8.alloc hb8.size _
        have R8 : Hid (RdrAt (w8.alloc (.cells #[.string ⟨#[]⟩, .bool true] 32)) w8.heap.size ⟨#[]⟩ true) := heap_alloc_new w8 _
        have R7b : Hid (RdrAt (w8.alloc (.cells #[.string ⟨#[]⟩, .bool true] 32)) w7.heap.size ⟨#[]⟩ true) := R7.out.stays hD8 R7.out.lt
        have hB8 : Hid (Below w1.heap.size w1 (w8.alloc (.cells #[.string ⟨#[]⟩, .bool true] 32))) := hB7.out.trans (hD8.mono hB7.out.size)
        have row8 : Hid (RowAt (w8.alloc (.cells #[.string ⟨#[]⟩, .bool true] 32)) w4.heap.size T) := row7.out.stays hD8 row7.out.1
        have hcv3 := conv_back _ w4.heap.size capb T row8.out
        rw [hT] at hcv3
        clear ho8 hb8 hD8 a0 a1 R7 row7
        go_wp2_with fail
        generalize w8.alloc (.cells #[.string ⟨#[]⟩, .bool true] 32) = W8 at *
        refine (spfeed_any ⟨#[]⟩ T [] ⟨#[]⟩ true W8 hF1 hT1).mono ?_
        rintro e w9 ⟨v3, rfl, ho9, hb9⟩
        have hD9 : Below W8.heap.size W8 (w9.alloc (.cells #[.string ⟨#[]⟩, .bool true] 32)) := hb9.alloc hb9.size _
        have R9 : RdrAt (w9.alloc (.cells #[.string ⟨#[]⟩, .bool true] 32)) w9.heap.size ⟨#[]⟩ true := heap_alloc_new w9 _
        have R8c := R8.out.stays hD9 R8.out.lt
        have R7c := R7b.out.stays hD9 R7b.out.lt
        have hB9 : Hid (Below w1.heap.size w1 (w9.alloc (.cells #[.string ⟨#[]⟩, .bool true] 32))) := hB8.out.trans (hD9.mono hB8.out.size)
        obtain ⟨a0, a1, _, _⟩ := R7c.cells
        obtain ⟨b0, b1, _, _⟩ := R8c.cells
        obtain ⟨d0, d1, _, _⟩ := R9.cells
        clear ho9 hb9 hD9 R8 R7b R9 R8c R7c hcv3
        go_wp2
        go_ret
        exact ⟨rfl, hB9.out⟩
      · have hF1 : Hid (Fed ((⟨#[]⟩ : ByteArray) ++ T) [x] ⟨#[]⟩ false) := by rw [show (⟨#[]⟩ : ByteArray) ++ T = T from ByteArray.empty_append]; exact hF
        have hF2 : Hid (Fed ((⟨#[]⟩ : ByteArray) ++ frameS S) [S] ⟨#[]⟩ false) := by rw [show (⟨#[]⟩ : ByteArray) ++ frameS S = frameS S from ByteArray.empty_append]; exact HFS.out
        have hT1 : (⟨#[]⟩ : ByteArray).size + T.size ≤ 20000 := by rw [hT]; show 0 + (S.size + 3) ≤ _; omega
        have hT2 : (⟨#[]⟩ : ByteArray).size + (frameS S).size ≤ 20000 := by rw [hz]; show 0 + (S.size + 3) ≤ _; omega
        clear hF HFS
        go_wp2_with fail
        refine (feed_any ⟨#[]⟩ T [x] ⟨#[]⟩ false w6 hF1 ht6 hT1).mono ?_
        rintro e w7 ⟨v1, rfl, ho7, hb7⟩
        obtain ⟨ao1, cap1, rfl⟩ := ho7.form
        have hD7 : Below w6.heap.size w6 (w7.alloc (.cells #[.string ⟨#[]⟩, .bool false] 32)) := hb7.alloc hb7.size _
        have R7 : Hid (RdrAt (w7.alloc (.cells #[.string ⟨#[]⟩, .bool false] 32)) w7.heap.size ⟨#[]⟩ false) := heap_alloc_new w7 _
        have ht7 : Hid (Tab (w7.alloc (.cells #[.string ⟨#[]⟩, .bool false] 32))) := ht6.out.below hD7
        have hB7 : Hid (Below w1.heap.size w1 (w7.alloc (.cells #[.string ⟨#[]⟩, .bool false] 32))) := hB6.out.trans (hD7.mono hB6.out.size)
        obtain ⟨a0, a1, _, _⟩ := R7.out.cells
        have row7 : Hid (RowAt (w7.alloc (.cells #[.string ⟨#[]⟩, .bool false] 32)) w4.heap.size T) := HR2.out.stays hD7 hg6
        clear ho7 hb7 hD7 hcv2
        go_wp2_with fail
        generalize w7.alloc (.cells #[.string ⟨#[]⟩, .bool false] 32) = W7 at *
        refine (feed_any ⟨#[]⟩ (frameS S) [S] ⟨#[]⟩ false W7 hF2 ht7 hT2).mono ?_
        rintro e w8 ⟨v2, rfl, ho8, hb8⟩
        obtain ⟨ao2, cap2, rfl⟩ := ho8.form
        have hD8 : Below W7.heap.size W7 (w8.alloc (.cells #[.string ⟨#[]⟩, .bool false] 32)) := hb8.alloc hb8.size _
        have R8 : Hid (RdrAt (w8.alloc (.cells #[.string ⟨#[]⟩, .bool false] 32)) w8.heap.size ⟨#[]⟩ false) := heap_alloc_new w8 _
        have R7b : Hid (RdrAt (w8.alloc (.cells #[.string ⟨#[]⟩, .bool false] 32)) w7.heap.size ⟨#[]⟩ false) := R7.out.stays hD8 R7.out.lt
        have hB8 : Hid (Below w1.heap.size w1 (w8.alloc (.cells #[.string ⟨#[]⟩, .bool false] 32))) := hB7.out.trans (hD8.mono hB7.out.size)
        have row8 : Hid (RowAt (w8.alloc (.cells #[.string ⟨#[]⟩, .bool false] 32)) w4.heap.size T) := row7.out.stays hD8 row7.out.1
        have hcv3 := conv_back _ w4.heap.size capb T row8.out
        rw [hT] at hcv3
        clear ho8 hb8 hD8 a0 a1 R7 row7
        go_wp2_with fail
        generalize w8.alloc (.cells #[.string ⟨#[]⟩, .bool false] 32) = W8 at *
        refine (spfeed_any ⟨#[]⟩ T [x] ⟨#[]⟩ false W8 hF1 hT1).mono ?_
        rintro e w9 ⟨v3, rfl, ho9, hb9⟩
        have hD9 : Below W8.heap.size W8 (w9.alloc (.cells #[.string ⟨#[]⟩, .bool false] 32)) := hb9.alloc hb9.size _
        have R9 : RdrAt (w9.alloc (.cells #[.string ⟨#[]⟩, .bool false] 32)) w9.heap.size ⟨#[]⟩ false := heap_alloc_new w9 _
        have R8c := R8.out.stays hD9 R8.out.lt
        have R7c := R7b.out.stays hD9 R7b.out.lt
        have hB9 : Hid (Below w1.heap.size w1 (w9.alloc (.cells #[.string ⟨#[]⟩, .bool false] 32))) := hB8.out.trans (hD9.mono hB8.out.size)
        obtain ⟨a0, a1, _, _⟩ := R7c.cells
        obtain ⟨b0, b1, _, _⟩ := R8c.cells
        obtain ⟨d0, d1, _, _⟩ := R9.cells
        clear ho9 hb9 hD9 R8 R7b R9 R8c R7c hcv3
        go_wp2
        go_ret
        exact ⟨rfl, hB9.out⟩
    · obtain ⟨gv, capv, rfl, _, hgv, hcv0, _⟩ := hown3.out.some (by omega)
      have hc0 := hcv0 0 (by omega)
      have ht0 := hsh.out ts[0] (List.getElem_mem _)
      have hlp : (0 : Int) < (ts.length : Int) := by omega
      generalize ts[0] = t0 at hc0 ht0
      have hS15 : ((⟨#[115, 111, 109, 101]⟩ : ByteArray) ++ t0).size ≤ 15 := by
        rw [ByteArray.size_append]
        have : (⟨#[115, 111, 109, 101]⟩ : ByteArray).size = 4 := rfl
        omega
      have hfr := fun w => frameOf_any ((⟨#[115, 111, 109, 101]⟩ : ByteArray) ++ t0) w (by omega)
      clear hcv0 hsh hown3
      go_wp2_with fail
      generalize ((⟨#[115, 111, 109, 101]⟩ : ByteArray) ++ t0) = S at hfr hS15 ⊢
      refine (hfr _ ht3).mono ?_
      rintro e w4 ⟨rfl, hb4⟩
      clear hfr
      have hz := frameS_size S
      have ht4 : Hid (Tab w4) := ht3.out.below hb4
      have hB4 : Hid (Below w1.heap.size w1 w4) := hB3.out.trans (hb4.mono hB3.out.size)
      have hp0b := (hb4.cell (p := ⟨gp, 0, none⟩) hgp2).trans hp0
      have hp1b := (hb4.cell (p := ⟨gp, 1, none⟩) hgp2).trans hp1
      have hg4 : gp < w4.heap.size := Nat.lt_of_lt_of_le hgp2 hb4.size
      obtain ⟨capb, w5, hcv, hb5, hrow⟩ := conv_bytes w4 (frameS S)
      rw [hz] at hcv
      have HR : Hid (RowAt w5 w4.heap.size (frameS S)) := hrow
      have hp0c := (hb5.cell (p := ⟨gp, 0, none⟩) hg4).trans hp0b
      have hp1c := (hb5.cell (p := ⟨gp, 1, none⟩) hg4).trans hp1b
      have hB5 : Hid (Below w1.heap.size w1 w5) := hB4.out.trans (hb5.mono hB4.out.size)
      have ht5 : Hid (Tab w5) := ht4.out.below hb5
      clear hrow hp0 hp1 hp0b hp1b hb4
      have hm0 : 0 ≤ p0 % ((S.size : Int) + 3 - 1) := Int.emod_nonneg _ (by omega)
      have hm1 : p0 % ((S.size : Int) + 3 - 1) < (S.size : Int) + 3 - 1 := Int.emod_lt_of_pos _ (by omega)
      go_wp2
      obtain ⟨I, hI⟩ : ∃ I : Nat, 1 + p0 % ((S.size : Int) + 3 - 1) = (I : Int) := ⟨(1 + p0 % ((S.size : Int) + 3 - 1)).toNat, by rw [Int.toNat_of_nonneg (by omega)]⟩
      have hI1 : 1 ≤ I := by omega
      have hI2 : (I : Int) < (S.size : Int) + 3 := by omega
      rw [hI]
      clear hI hm0 hm1
      obtain ⟨hr1, hr2, hr3⟩ := HR.out
      have hIs : I < (frameS S).size := by rw [hz]; omega
      have hbI := hr2 I hIs
      have hbF := hr3 I hIs
      obtain ⟨c0, hc0⟩ : ∃ c0 : Nat, c0 = ((frameS S).data.toList.getD I 0).toNat := ⟨_, rfl⟩
      have hc0l : c0 < 256 := by rw [hc0]; exact UInt8.toNat_lt _
      rw [← hc0] at hbI
      obtain ⟨D, hD⟩ : ∃ D : Nat, 1 + p1 % 255 = (D : Int) := ⟨(1 + p1 % 255).toNat, by rw [Int.toNat_of_nonneg (by omega)]⟩
      have hD1 : 1 ≤ D := by omega
      have hD2 : D ≤ 255 := by omega
      have hdm : Int.tmod p1 255 = p1 % 255 := Int.tmod_eq_emod_of_nonneg hq1.1
      have hdw : IntKind.i64.wrap (D : Int) = (D : Int) := by rw [IntKind.wrap_i64]; omega
      have hdu : IntKind.u8.wrap (D : Int) = (D : Int) := by rw [IntKind.wrap_u8]; omega
      obtain ⟨c1, hc1⟩ : ∃ c1 : Nat, c1 = c0 ^^^ D := ⟨_, rfl⟩
      have hxor : bits .xor .u8 (c0 : Int) (D : Int) = (c1 : Int) := by rw [u8_xor_nat _ _ hc0l (by omega), hc1]
      have hc1l : c1 < 256 := by
        have h8 : c1 < 2 ^ 8 := by rw [hc1]; exact Nat.xor_lt_two_pow (by omega) (by omega)
        omega
      have hI0 : (0 : Int) ≤ (I : Int) := by omega
      have hgne : ¬ gp = w4.heap.size := by omega
      have hgne2 : ¬ w4.heap.size = gp := by omega
      have HR2 : Hid (RowAt (w5.setCell ⟨w4.heap.size, I, none⟩ (.int .u8 c1)).drew w4.heap.size (setT (frameS S) I c1)) := HR.out.set hIs hc1l
      have hb6 : Below w4.heap.size w4 (w5.setCell ⟨w4.heap.size, I, none⟩ (.int .u8 c1)).drew := (hb5.setCell (p := ⟨w4.heap.size, I, none⟩) (Nat.le_refl _) _).drew
      have ht6 : Hid (Tab (w5.setCell ⟨w4.heap.size, I, none⟩ (.int .u8 c1)).drew) := ht4.out.below hb6
      have hB6 : Hid (Below w1.heap.size w1 (w5.setCell ⟨w4.heap.size, I, none⟩ (.int .u8 c1)).drew) := hB4.out.trans (hb6.mono hB4.out.size)
      have hfed := torn_fed (s := S) (I := I) (c := c1) (by omega) hI1
      have hT : (setT (frameS S) I c1).size = S.size + 3 := by rw [setT_size, hz]
      have HFS : Hid (Fed (frameS S) [S] ByteArray.empty false) := frame_fed (by omega)
      clear hc0 hc1 hr2 hr3 hcv HR
      go_region
      generalize (w5.setCell ⟨w4.heap.size, I, none⟩ (.int .u8 c1)).drew = w6 at *
      generalize setT (frameS S) I c1 = T at *
      clear hp0c hp1c hbI hbF hxor hdm hdw hdu hb5 hb6 hD hD1 hD2 ht5 hB5 ht4 hB4
      have hcv2 := conv_back w6 w4.heap.size capb T HR2.out
      rw [hT] at hcv2
      have hg6 : w4.heap.size < w6.heap.size := HR2.out.1
      rcases hfed with hF | ⟨x, hF⟩
      · have hF1 : Hid (Fed ((⟨#[]⟩ : ByteArray) ++ T) [] ⟨#[]⟩ true) := by rw [show (⟨#[]⟩ : ByteArray) ++ T = T from ByteArray.empty_append]; exact hF
        have hF2 : Hid (Fed ((⟨#[]⟩ : ByteArray) ++ frameS S) [S] ⟨#[]⟩ false) := by rw [show (⟨#[]⟩ : ByteArray) ++ frameS S = frameS S from ByteArray.empty_append]; exact HFS.out
        have hT1 : (⟨#[]⟩ : ByteArray).size + T.size ≤ 20000 := by rw [hT]; show 0 + (S.size + 3) ≤ _; omega
        have hT2 : (⟨#[]⟩ : ByteArray).size + (frameS S).size ≤ 20000 := by rw [hz]; show 0 + (S.size + 3) ≤ _; omega
        clear hF HFS
        go_wp2_with fail
        refine (feed_any ⟨#[]⟩ T [] ⟨#[]⟩ true w6 hF1 ht6 hT1).mono ?_
        rintro e w7 ⟨v1, rfl, ho7, hb7⟩
        obtain ⟨ao1, cap1, rfl⟩ := ho7.form
        have hD7 : Below w6.heap.size w6 (w7.alloc (.cells #[.string ⟨#[]⟩, .bool true] 32)) := hb7.alloc hb7.size _
        have R7 : Hid (RdrAt (w7.alloc (.cells #[.string ⟨#[]⟩, .bool true] 32)) w7.heap.size ⟨#[]⟩ true) := heap_alloc_new w7 _
        have ht7 : Hid (Tab (w7.alloc (.cells #[.string ⟨#[]⟩, .bool true] 32))) := ht6.out.below hD7
        have hB7 : Hid (Below w1.heap.size w1 (w7.alloc (.cells #[.string ⟨#[]⟩, .bool true] 32))) := hB6.out.trans (hD7.mono hB6.out.size)
        obtain ⟨a0, a1, _, _⟩ := R7.out.cells
        have row7 : Hid (RowAt (w7.alloc (.cells #[.string ⟨#[]⟩, .bool true] 32)) w4.heap.size T) := HR2.out.stays hD7 hg6
        clear ho7 hb7 hD7 hcv2
        go_wp2_with fail
        generalize w7.alloc (.cells #[.string ⟨#[]⟩, .bool true] 32) = W7 at *
        refine (feed_same ⟨#[]⟩ (frameS S) true W7 (.inl rfl) (by decide) (by rw [hz]; omega)).mono ?_
        rintro e w8 ⟨v2, rfl, ho8, hb8⟩
        obtain ⟨ao2, cap2, rfl⟩ := ho8.form
        have hD8 : Below W7.heap.size W7 (w8.alloc (.cells #[.string ⟨#[]⟩, .bool true] 32)) := hb8.alloc hb8.size _
        have R8 : Hid (RdrAt (w8.alloc (.cells #[.string ⟨#[]⟩, .bool true] 32)) w8.heap.size ⟨#[]⟩ true) := heap_alloc_new w8 _
        have R7b : Hid (RdrAt (w8.alloc (.cells #[.string ⟨#[]⟩, .bool true] 32)) w7.heap.size ⟨#[]⟩ true) := R7.out.stays hD8 R7.out.lt
        have hB8 : Hid (Below w1.heap.size w1 (w8.alloc (.cells #[.string ⟨#[]⟩, .bool true] 32))) := hB7.out.trans (hD8.mono hB7.out.size)
        have row8 : Hid (RowAt (w8.alloc (.cells #[.string ⟨#[]⟩, .bool true] 32)) w4.heap.size T) := row7.out.stays hD8 row7.out.1
        have hcv3 := conv_back _ w4.heap.size capb T row8.out
        rw [hT] at hcv3
        clear ho8 hb8 hD8 a0 a1 R7 row7
        go_wp2_with fail
        generalize w8.alloc (.cells #[.string ⟨#[]⟩, .bool true] 32) = W8 at *
        refine (spfeed_any ⟨#[]⟩ T [] ⟨#[]⟩ true W8 hF1 hT1).mono ?_
        rintro e w9 ⟨v3, rfl, ho9, hb9⟩
        have hD9 : Below W8.heap.size W8 (w9.alloc (.cells #[.string ⟨#[]⟩, .bool true] 32)) := hb9.alloc hb9.size _
        have R9 : RdrAt (w9.alloc (.cells #[.string ⟨#[]⟩, .bool true] 32)) w9.heap.size ⟨#[]⟩ true := heap_alloc_new w9 _
        have R8c := R8.out.stays hD9 R8.out.lt
        have R7c := R7b.out.stays hD9 R7b.out.lt
        have hB9 : Hid (Below w1.heap.size w1 (w9.alloc (.cells #[.string ⟨#[]⟩, .bool true] 32))) := hB8.out.trans (hD9.mono hB8.out.size)
        obtain ⟨a0, a1, _, _⟩ := R7c.cells
        obtain ⟨b0, b1, _, _⟩ := R8c.cells
        obtain ⟨d0, d1, _, _⟩ := R9.cells
        clear ho9 hb9 hD9 R8 R7b R9 R8c R7c hcv3
        go_wp2
        go_ret
        exact ⟨rfl, hB9.out⟩
      · have hF1 : Hid (Fed ((⟨#[]⟩ : ByteArray) ++ T) [x] ⟨#[]⟩ false) := by rw [show (⟨#[]⟩ : ByteArray) ++ T = T from ByteArray.empty_append]; exact hF
        have hF2 : Hid (Fed ((⟨#[]⟩ : ByteArray) ++ frameS S) [S] ⟨#[]⟩ false) := by rw [show (⟨#[]⟩ : ByteArray) ++ frameS S = frameS S from ByteArray.empty_append]; exact HFS.out
        have hT1 : (⟨#[]⟩ : ByteArray).size + T.size ≤ 20000 := by rw [hT]; show 0 + (S.size + 3) ≤ _; omega
        have hT2 : (⟨#[]⟩ : ByteArray).size + (frameS S).size ≤ 20000 := by rw [hz]; show 0 + (S.size + 3) ≤ _; omega
        clear hF HFS
        go_wp2_with fail
        refine (feed_any ⟨#[]⟩ T [x] ⟨#[]⟩ false w6 hF1 ht6 hT1).mono ?_
        rintro e w7 ⟨v1, rfl, ho7, hb7⟩
        obtain ⟨ao1, cap1, rfl⟩ := ho7.form
        have hD7 : Below w6.heap.size w6 (w7.alloc (.cells #[.string ⟨#[]⟩, .bool false] 32)) := hb7.alloc hb7.size _
        have R7 : Hid (RdrAt (w7.alloc (.cells #[.string ⟨#[]⟩, .bool false] 32)) w7.heap.size ⟨#[]⟩ false) := heap_alloc_new w7 _
        have ht7 : Hid (Tab (w7.alloc (.cells #[.string ⟨#[]⟩, .bool false] 32))) := ht6.out.below hD7
        have hB7 : Hid (Below w1.heap.size w1 (w7.alloc (.cells #[.string ⟨#[]⟩, .bool false] 32))) := hB6.out.trans (hD7.mono hB6.out.size)
        obtain ⟨a0, a1, _, _⟩ := R7.out.cells
        have row7 : Hid (RowAt (w7.alloc (.cells #[.string ⟨#[]⟩, .bool false] 32)) w4.heap.size T) := HR2.out.stays hD7 hg6
        clear ho7 hb7 hD7 hcv2
        go_wp2_with fail
        generalize w7.alloc (.cells #[.string ⟨#[]⟩, .bool false] 32) = W7 at *
        refine (feed_any ⟨#[]⟩ (frameS S) [S] ⟨#[]⟩ false W7 hF2 ht7 hT2).mono ?_
        rintro e w8 ⟨v2, rfl, ho8, hb8⟩
        obtain ⟨ao2, cap2, rfl⟩ := ho8.form
        have hD8 : Below W7.heap.size W7 (w8.alloc (.cells #[.string ⟨#[]⟩, .bool false] 32)) := hb8.alloc hb8.size _
        have R8 : Hid (RdrAt (w8.alloc (.cells #[.string ⟨#[]⟩, .bool false] 32)) w8.heap.size ⟨#[]⟩ false) := heap_alloc_new w8 _
        have R7b : Hid (RdrAt (w8.alloc (.cells #[.string ⟨#[]⟩, .bool false] 32)) w7.heap.size ⟨#[]⟩ false) := R7.out.stays hD8 R7.out.lt
        have hB8 : Hid (Below w1.heap.size w1 (w8.alloc (.cells #[.string ⟨#[]⟩, .bool false] 32))) := hB7.out.trans (hD8.mono hB7.out.size)
        have row8 : Hid (RowAt (w8.alloc (.cells #[.string ⟨#[]⟩, .bool false] 32)) w4.heap.size T) := row7.out.stays hD8 row7.out.1
        have hcv3 := conv_back _ w4.heap.size capb T row8.out
        rw [hT] at hcv3
        clear ho8 hb8 hD8 a0 a1 R7 row7
        go_wp2_with fail
        generalize w8.alloc (.cells #[.string ⟨#[]⟩, .bool false] 32) = W8 at *
        refine (spfeed_any ⟨#[]⟩ T [x] ⟨#[]⟩ false W8 hF1 hT1).mono ?_
        rintro e w9 ⟨v3, rfl, ho9, hb9⟩
        have hD9 : Below W8.heap.size W8 (w9.alloc (.cells #[.string ⟨#[]⟩, .bool false] 32)) := hb9.alloc hb9.size _
        have R9 : RdrAt (w9.alloc (.cells #[.string ⟨#[]⟩, .bool false] 32)) w9.heap.size ⟨#[]⟩ false := heap_alloc_new w9 _
        have R8c := R8.out.stays hD9 R8.out.lt
        have R7c := R7b.out.stays hD9 R7b.out.lt
        have hB9 : Hid (Below w1.heap.size w1 (w9.alloc (.cells #[.string ⟨#[]⟩, .bool false] 32))) := hB8.out.trans (hD9.mono hB8.out.size)
        obtain ⟨a0, a1, _, _⟩ := R7c.cells
        obtain ⟨b0, b1, _, _⟩ := R8c.cells
        obtain ⟨d0, d1, _, _⟩ := R9.cells
        clear ho9 hb9 hD9 R8 R7b R9 R8c R7c hcv3
        go_wp2
        go_ret
        exact ⟨rfl, hB9.out⟩
  · have hbig : decide (1048576 < (n : Int)) = true := by simp; omega
    go_enter Tryd.func4, Tryd.ntmps4
    go_wp2_with (first | (go_at_call 7; refine (big_any _ n cap ao true hbig).mono ?_; rintro e w1 ⟨rfl, rfl⟩))
    go_ret
    exact ⟨rfl, Below.refl _ _⟩
end Go.Proofs.YtjjaklhpdckppaaDoor
