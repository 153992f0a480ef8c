/- The walk over the law on a turned byte. -/
import Derived.Test.YtpjghggbiikglaaDoorS4
import Derived.Lib.ConvBytes
namespace Go.Proofs.YtpjghggbiikglaaDoor
open Go.RowKit Pl
set_option linter.unusedVariables false

/-- a new slice of a text's bytes, at the block g. -/
def RowAt (w : World) (g : Nat) (t : ByteArray) : Prop := g < w.heap.size ∧ (∀ j, j < t.size → w.cell? ⟨g, j, none⟩ = some (.int .u8 (t.data.toList.getD j 0).toNat)) ∧ (∀ j, j < t.size → w.frozen? ⟨g, j, none⟩ = false)

theorem conv_bytes (w : World) (t : ByteArray) : ∃ (cap : Nat) (W : World), (convert 9 22 (.string t)).run Tryd.prog w = .ok (.slice (some ⟨w.heap.size, 0, none⟩) t.size cap) W ∧ Below w.heap.size w W ∧ RowAt W w.heap.size t := by
  refine ⟨_, _, Lib.run_convert_string_bytes (P := Tryd.prog) w 9 22 5 t Tryd.underlying9 Tryd.underlying22 Tryd.underlying5, ⟨?_, ?_, ?_, ?_, ?_⟩, ?_, ?_, ?_⟩
  · rfl
  · rfl
  · rfl
  · rw [Lib.bytesWorld_size]; omega
  · exact fun k hk => Lib.bytesWorld_at_old w 5 t k hk
  · rw [Lib.bytesWorld_size]; omega
  · exact fun j hj => Lib.bytesWorld_cell w 5 t j hj
  · intro j hj
    unfold World.frozen?
    have h1 : (Lib.bytesWorld w 5 t).heap[w.heap.size]? = _ := Lib.bytesWorld_at_new w 5 t
    simp only [h1]
    have h2 : t.size ≤ (Lib.bytesCells w 5 t).size := by
      unfold Lib.bytesCells
      rw [Array.size_append, Array.size_map]
      exact Nat.le_add_right _ _
    have h3 : ¬ (Lib.bytesCells w 5 t).size ≤ j := by omega
    simp [h3]

theorem conv_turned (w : World) (g cap I c : Nat) (t : ByteArray) (hrow : RowAt w g t) (hI : I < t.size) (hc : c < 256) :
    ∃ t' : ByteArray, (convert 22 9 (.slice (some ⟨g, 0, none⟩) t.size cap)).run Tryd.prog (w.setCell ⟨g, I, none⟩ (.int .u8 c)).drew = .ok (.string t') (w.setCell ⟨g, I, none⟩ (.int .u8 c)).drew ∧ t'.data.toList = t.data.toList.set I (UInt8.ofNat c) := by
  obtain ⟨_, hr, _⟩ := hrow
  have hl : (t.data.toList.set I (UInt8.ofNat c)).length = t.size := by rw [List.length_set, size_list]
  have h := run_convert_bytes_back (P := Tryd.prog) (w.setCell ⟨g, I, none⟩ (.int .u8 c)).drew 22 9 5 ⟨g, 0, none⟩ cap (t.data.toList.set I (UInt8.ofNat c)) Tryd.underlying22 Tryd.underlying5 Tryd.underlying9 (by
    intro j hj
    have hj' := hj
    rw [hl] at hj'
    have ha : (⟨g, 0, none⟩ : Addr).add j = ⟨g, j, none⟩ := by unfold Addr.add; split <;> simp_all
    rw [ha]
    show (w.setCell ⟨g, I, none⟩ (.int .u8 c)).cell? ⟨g, j, none⟩ = _
    by_cases hj2 : j = I
    · subst hj2
      rw [World.cell?_setCell_same (h := hr j hj')]
      simp [UInt8.toNat_ofNat', Nat.mod_eq_of_lt hc]
    · rw [World.cell?_setCell_other (h := by intro e; apply hj2; injection e with _ e2; exact e2.symm), hr j hj']
      have hj3 : j < t.data.toList.length := by rw [size_list]; exact hj'
      rw [List.getElem_set_ne (fun e => hj2 e.symm)]
      simp [List.getD, List.getElem?_eq_getElem hj3])
  rw [hl] at h
  exact ⟨_, h, rfl⟩

theorem xor_turned {s : ByteArray} {I c0 c1 D : Nat} (hI : I < (sealS s).size) (h0 : c0 = ((sealS s).data.toList.getD I 0).toNat) (h1 : c1 = c0 ^^^ D) (hD : 1 ≤ D) (hD2 : D ≤ 255) (hc : c1 < 256) :
    UInt8.ofNat c1 ≠ (sealS s).data.toList[I]'(by rw [size_list]; exact hI) := by
  intro e
  have hl : I < (sealS s).data.toList.length := by rw [size_list]; exact hI
  have e2 : (sealS s).data.toList.getD I 0 = (sealS s).data.toList[I] := by simp [List.getD, List.getElem?_eq_getElem hl]
  rw [e2] at h0
  rw [← e, UInt8.toNat_ofNat', Nat.mod_eq_of_lt hc] at h0
  rw [← h0] at h1
  have h2 : c0 ^^^ 0 = c0 ^^^ D := by rw [Nat.xor_zero]; exact h1
  have := xor_inj_right h2
  omega

theorem sum_goes_on (s : ByteArray) : sumL (sumT s) [120] = sumT (s ++ ⟨#[120]⟩) := by
  unfold sumT
  rw [ByteArray.data_append, Array.toList_append, sumL_append]

set_option maxRecDepth 100000 in
set_option maxHeartbeats 1000000 in
theorem lawTurned (w : World) (n cap : Nat) (ao : Option Addr) (hk : Hid (CodeAt w w.heap.size ao n)) (ht : Hid (Tab w)) :
    Calls Tryd.prog 3 #[.slice ao n cap] w fun e w' => e = .returned (.bool true) ∧ Below w.heap.size w w' := by
  by_cases hn : n ≤ 1048576
  · have hbig : decide (1048576 < (n : Int)) = false := by simp; omega
    go_enter Tryd.func3, Tryd.ntmps3
    go_wp2_with (first | (go_at_call 8; refine (big_any _ n cap ao false hbig).mono ?_; rintro e w1 ⟨rfl, rfl⟩) | (go_at_call 9; refine (drawSum _ n cap ao hn hk).mono ?_; rintro e w1 ⟨⟨s, hs, rfl⟩, hb1⟩; have hk1 : Hid (CodeAt w1 w1.heap.size ao n) := (by have := hk.out.stays hb1 (Nat.le_refl _); intro i hi; obtain ⟨b, off, z, h1, h2, h3⟩ := this i hi; exact ⟨b, off, z, h1, Nat.lt_of_lt_of_le h2 hb1.size, h3⟩)) | (go_at_call 10; refine (drawPlaces _ n cap ao hn hk1).mono ?_; rintro e w2 ⟨⟨v, xs, rfl, hxl, hsm, hown⟩, hb2⟩; obtain ⟨gp, capp, rfl, hgp, hgp2, hcell⟩ := OwnI.some hown.out (by omega); have hp0 := hcell 0 (by omega); have hp1 := hcell 1 (by omega); have hq0 := hsm.out xs[0] (List.getElem_mem _); have hq1 := hsm.out xs[1] (List.getElem_mem _); generalize xs[0] = p0 at hp0 hq0; generalize xs[1] = p1 at hp1 hq1; have hxl2 : (xs.length : Int) = 12 := (by omega); clear hcell; have ht2 : Hid (Tab w2) := (ht.out.below hb1).below hb2; have hz4 := sealS_size s) | (go_at_call 11; refine (implSeal_any s _ (by omega) ht2).mono ?_; rintro e w3 ⟨rfl, hb3⟩; have ht3 : Hid (Tab w3) := ht2.out.below hb3; have hp0b := (hb3.cell (p := ⟨gp, 0, none⟩) hgp2).trans hp0; have hp1b := (hb3.cell (p := ⟨gp, 1, none⟩) hgp2).trans hp1; have hs3 := hb3.size) | (go_at_call 12; refine (implUn_seal s _ (by omega) ht3).mono ?_; rintro e w4 ⟨rfl, hb4⟩; have ht4 : Hid (Tab w4) := ht3.out.below hb4; have hp0c := (hb4.cell (p := ⟨gp, 0, none⟩) (by show gp < _; omega)).trans hp0b; have hp1c := (hb4.cell (p := ⟨gp, 1, none⟩) (by show gp < _; omega)).trans hp1b; have hs4 := hb4.size; obtain ⟨capb, w5, hcv, hb5, hrow⟩ := conv_bytes w4 (sealS s); rw [hz4] at hcv; have hrow2 : Hid (RowAt w5 w4.heap.size (sealS s)) := hrow; clear hrow; have hp0d := (hb5.cell (p := ⟨gp, 0, none⟩) (by show gp < _; omega)).trans hp0c; have hp1d := (hb5.cell (p := ⟨gp, 1, none⟩) (by show gp < _; omega)).trans hp1c; have hs5 := hb5.size))
    obtain ⟨I, hI⟩ : ∃ I : Nat, p0 % ((s.size : Int) + 4) = (I : Int) := ⟨(p0 % ((s.size : Int) + 4)).toNat, by rw [Int.toNat_of_nonneg (Int.emod_nonneg _ (by omega))]⟩
    have hIlt : (I : Int) < (s.size : Int) + 4 := by rw [← hI]; exact Int.emod_lt_of_pos _ (by omega)
    rw [hI]
    clear hI
    obtain ⟨hr1, hr2, hr3⟩ := hrow2.out
    have hbI := hr2 I (by omega)
    have hbF := hr3 I (by omega)
    obtain ⟨c0, hc0⟩ : ∃ c0 : Nat, c0 = ((sealS s).data.toList.getD I 0).toNat := ⟨_, rfl⟩
    have hc0l : c0 < 256 := by rw [hc0]; exact UInt8.toNat_lt _
    have HC0 : Hid (c0 = ((sealS s).data.toList.getD I 0).toNat) := hc0
    rw [← hc0] at hbI
    obtain ⟨D, hD⟩ : ∃ D : Nat, 1 + p1 % 255 = (D : Int) := ⟨(1 + p1 % 255).toNat, by rw [Int.toNat_of_nonneg (by omega)]⟩
    have hD1 : 1 ≤ D := by omega
    have hD2 : D ≤ 255 := by omega
    have hdm : Int.tmod p1 255 = p1 % 255 := Int.tmod_eq_emod_of_nonneg hq1.1
    have hdw : IntKind.i64.wrap (D : Int) = (D : Int) := by rw [IntKind.wrap_i64]; omega
    have hdu : IntKind.u8.wrap (D : Int) = (D : Int) := by rw [IntKind.wrap_u8]; omega
    obtain ⟨c1, hc1⟩ : ∃ c1 : Nat, c1 = c0 ^^^ D := ⟨_, rfl⟩
    have hxor : bits .xor .u8 (c0 : Int) (D : Int) = (c1 : Int) := by rw [u8_xor_nat _ _ hc0l (by omega), hc1]
    have HC1 : Hid (c1 = c0 ^^^ D) := hc1
    have hI0 : (0 : Int) ≤ (I : Int) := by omega
    have hgne : ¬ gp = w4.heap.size := by omega
    have hgne2 : ¬ w4.heap.size = gp := by omega
    have HR : Hid (RowAt w5 w4.heap.size (sealS s)) := hrow2
    clear hc0 hc1 hrow2 hr2 hr3 hcv hp0 hp1 hp0b hp1b hp0c hp1c hown hsm
    have hc1l : c1 < 256 := by
      have h8 : c1 < 2 ^ 8 := by rw [HC1.out]; exact Nat.xor_lt_two_pow (by omega) (by omega)
      omega
    have hIs : I < (sealS s).size := by rw [hz4]; omega
    obtain ⟨t', hcv2, ht'⟩ := conv_turned w5 w4.heap.size capb I c1 (sealS s) HR.out hIs hc1l
    rw [hz4] at hcv2
    have hnot : Hid (¬ IsSeal t') := turned_bad s t' I _ hIs (xor_turned hIs HC0.out HC1.out hD1 hD2 hc1l) ht'
    have hsz' : Hid (t'.size = s.size + 4) := by
      show _ = _
      have := congrArg List.length ht'
      rw [List.length_set, size_list, size_list, hz4] at this
      exact this
    have hb6 : Below w4.heap.size w4 (w5.setCell ⟨w4.heap.size, I, none⟩ (.int .u8 c1)).drew := (hb5.setCell (p := ⟨w4.heap.size, I, none⟩) (Nat.le_refl _) _).drew
    have ht6 : Hid (Tab (w5.setCell ⟨w4.heap.size, I, none⟩ (.int .u8 c1)).drew) := ht4.out.below hb6
    have hgo : Hid (sumL (sumT s) [120] = sumT (s ++ ⟨#[120]⟩)) := sum_goes_on s
    have hslt := sumT_lt s
    have hxs : (s ++ (⟨#[120]⟩ : ByteArray)).size ≤ 1048577 := by rw [ByteArray.size_append]; show s.size + 1 ≤ _; omega
    clear ht'
    go_region
    generalize (w5.setCell ⟨w4.heap.size, I, none⟩ (.int .u8 c1)).drew = w6 at *
    go_wp2_with (first | (go_at_call 12; refine (implUn_no t' s.size _ hsz' (by omega) ht6 hnot).mono ?_; rintro e w7 ⟨rfl, hb7⟩; have ht7 : Hid (Tab w7) := ht6.out.below hb7) | (go_at_call 14; refine (implOf _ _ (by first | exact hxs | omega) ht7).mono ?_; rintro e w8 ⟨rfl, rfl⟩) | (go_at_call 13; refine (implMore _ _ _ hslt (by show 1 ≤ _; omega) ht7).mono ?_; rintro e w8 ⟨rfl, rfl⟩))
    go_ret
    have hq : (((sumL (sumT s) [120] : Nat) : Int) == ((sumT (s ++ ⟨#[120]⟩) : Nat) : Int)) = true := by rw [hgo.out]; simp
    have z1 := hb1.size
    have z2 := hb2.size
    have z6 := hb6.size
    exact ⟨congrArg (fun b => Ending.returned (.bool b)) hq, ((((hb1.trans (hb2.mono (by omega))).trans (hb3.mono (by omega))).trans (hb4.mono (by omega))).trans (hb6.mono (by omega))).trans (hb7.mono (by omega))⟩
  · have hbig : decide (1048576 < (n : Int)) = true := by simp; omega
    go_enter Tryd.func3, Tryd.ntmps3
    go_wp2_with (first | (go_at_call 8; refine (big_any _ n cap ao true hbig).mono ?_; rintro e w1 ⟨rfl, rfl⟩))
    go_ret
    exact ⟨rfl, Below.refl _ _⟩
end Go.Proofs.YtpjghggbiikglaaDoor
