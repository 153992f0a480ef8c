/- The walk over the program's Pieces. -/
import Derived.Test.YtfefjkldjaabbaaCu
import Derived.Test.YtfefjkldjaabbaaV1
import Derived.Test.YtfefjkldjaabbaaWn
import Derived.Test.YtfefjkldjaabbaaTx
import Derived.Test.YtfefjkldjaabbaaCt1
import Derived.Lib.ConvBytes
namespace Go.Proofs.Ytfefjkldjaabbaa
open Go.RowKit Pl
set_option linter.unusedVariables false

theorem varS_short (n : Nat) (h : n ≤ 100000) : 0 < (varS n).size ∧ (varS n).size ≤ 3 := by
  rw [rt_size, varS_list]
  by_cases h1 : 127 < n
  · rw [varL_big h1, List.length_cons]
    by_cases h2 : 127 < n / 128
    · rw [varL_big h2, List.length_cons, varL_small (by omega)]; simp
    · rw [varL_small h2]; simp
  · rw [varL_small h1]; simp
theorem app_size (a b : ByteArray) : (a ++ b).size = a.size + b.size := by rw [rt_size, ByteArray.data_append, Array.toList_append, List.length_append, ← rt_size, ← rt_size]
theorem cntN_le {m : Nat} (h : m ≤ 400) : 0 < cntN m ∧ cntN m ≤ 10 := by unfold cntN; split <;> omega
theorem part_size (s : ByteArray) (i : Nat) : (partP s i).size = lenN s.size i := by
  unfold partP; rw [ByteArray.size_extract]; unfold lenN; omega

theorem conv_parts (w : World) (s : ByteArray) : ∃ (cap : Nat) (W : World), (convert 9 22 (.string s)).run Try.prog w = .ok (.slice (some ⟨w.heap.size, 0, none⟩) s.size cap) W ∧ s.size ≤ cap ∧ Below w.heap.size w W ∧ ∀ i, PartAt W w.heap.size (40 * i) (partP s i) := by
  refine ⟨_, _, Lib.run_convert_string_bytes (P := Try.prog) w 9 22 5 s Try.underlying9 Try.underlying22 Try.underlying5, ?_, ⟨rfl, rfl, rfl, ?_, ?_⟩, ?_⟩
  · exact grownCap_ge w s.size 0 5
  · rw [Lib.bytesWorld_size]; omega
  · exact fun k hk => Lib.bytesWorld_at_old w 5 s k hk
  · intro i
    refine ⟨by rw [Lib.bytesWorld_size]; omega, fun j x hj => ?_⟩
    obtain ⟨hj1, hj2⟩ := List.getElem?_eq_some_iff.1 hj
    have hlj : j < lenN s.size i := by rw [← part_size, rt_size]; exact hj1
    have hlt : 40 * i + j < s.size := by unfold lenN at hlj; omega
    rw [Lib.bytesWorld_cell w 5 s (40 * i + j) hlt]
    congr 3
    rw [← hj2]
    have hlt' : 40 * i + j < s.data.toList.length := by rw [← rt_size]; exact hlt
    rw [List.getD, List.getElem?_eq_getElem hlt', Option.getD_some]
    have e := ext_list' s (40 * i) (40 * i + lenN s.size i)
    have : (partP s i).data.toList[j]? = s.data.toList[40 * i + j]? := by
      unfold partP
      rw [e, List.getElem?_take, if_pos (by omega), List.getElem?_drop]
    rw [List.getElem?_eq_getElem hj1, List.getElem?_eq_getElem hlt'] at this
    simp only [Option.some.injEq] at this
    exact congrArg UInt8.toNat this.symm

/-- what is told of the pieces. -/
def PcPost (w : World) (ok : Bool) (ps : List ByteArray) (e : Ending) (w' : World) : Prop := ∃ v, e = .returned (.tuple #[v, .bool ok]) ∧ OwnS w' w.heap.size v ps ∧ Below w.heap.size w w'

set_option maxRecDepth 100000 in
set_option maxHeartbeats 2000000 in
theorem implPieces_no (num : Int) (s : ByteArray) (w : World) (h : ¬ ((0 ≤ num ∧ num ≤ 100000) ∧ s.size ≤ 400)) (hm : s.size ≤ 1048576) :
    Calls Try.prog 11 #[.int .i64 num, .string s] w fun e w' => PcPost w false [] e w' := by
  by_cases h1 : 0 ≤ num ∧ num ≤ 100000
  · have h2 : 400 < s.size := by omega
    have hd : decide (0 ≤ num ∧ num ≤ 100000) = true := decide_eq_true h1
    clear h h1
    go_enter Try.func11, Try.ntmps11
    go_wp2_with (first | (go_at_call 37; refine (within_is _ hd).mono ?_; rintro e w1 ⟨rfl, rfl⟩))
    go_ret2
    exact ⟨_, rfl, OwnS.made _ _ (Nat.le_refl _), (Below.refl _ _).alloc (Nat.le_refl _) _⟩
  · have hd : decide (0 ≤ num ∧ num ≤ 100000) = false := decide_eq_false h1
    clear h h1
    go_enter Try.func11, Try.ntmps11
    go_wp2_with (first | (go_at_call 37; refine (within_is _ hd).mono ?_; rintro e w1 ⟨rfl, rfl⟩))
    go_ret2
    exact ⟨_, rfl, OwnS.made _ _ (Nat.le_refl _), (Below.refl _ _).alloc (Nat.le_refl _) _⟩

theorem pcs_succ (num : Nat) (s : ByteArray) (k : Nat) : (List.range (k + 1)).map (pcS num s) = (List.range k).map (pcS num s) ++ [pcS num s k] := by simp [List.range_succ]

set_option maxRecDepth 100000 in
set_option maxHeartbeats 4000000 in
theorem implPieces_yes (num : Nat) (s : ByteArray) (w : World) (hn : num ≤ 100000) (hs : s.size ≤ 400) :
    Calls Try.prog 11 #[.int .i64 num, .string s] w fun e w' => PcPost w true (pcsL num s) e w' := by
  have hd : decide ((0 : Int) ≤ (num : Int) ∧ (num : Int) ≤ 100000) = true := decide_eq_true (by omega)
  have hs' : ¬ (400 < s.size) := by omega
  obtain ⟨cap, W, hcv, hcap, hbW, hpW⟩ := conv_parts w s
  have HP : Hid (∀ i, PartAt W w.heap.size (40 * i) (partP s i)) := hpW
  have HBW : Hid (Below w.heap.size w W) := hbW
  obtain ⟨hc0, hc1⟩ := cntN_le hs
  clear hpW hbW
  go_enter Try.func11, Try.ntmps11
  go_wp2_with (first | (go_at_call 37; refine (within_is _ hd).mono ?_; rintro e w1 ⟨rfl, rfl⟩))
  refine (cutParts_any w1.heap.size s.size cap W hs hcap).mono ?_
  rintro e w2 ⟨vp, rfl, hSP, hb2⟩
  have hlen := cutR_len w1.heap.size s.size (cntN s.size)
  obtain ⟨gp, off, cp, hvp, hgp, hgl, hr0⟩ := hSP.read (i := 0) (by rw [hlen]; exact hc0)
  rw [hlen] at hvp
  subst hvp
  have HSP : Hid (SlN w2 22 1 W.heap.size (.slice (some ⟨gp, off, none⟩) (cntN s.size) cp) (cutR w1.heap.size s.size (cntN s.size))) := hSP
  have HB2 : Hid (Below w1.heap.size w1 w2) := HBW.out.trans (hb2.mono HBW.out.size)
  have HP2 : Hid (∀ i, PartAt w2 w1.heap.size (40 * i) (partP s i)) := fun i => (HP.out i).later hb2
  obtain ⟨i0, hi, hz0, hz1, hz2⟩ := info_parts Try.info9
  obtain ⟨W3, hmk, own, hgr⟩ := run_make_own (P := Try.prog) w2 w2.heap.size 26 9 i0 _ 1 Try.underlying26 hi hz0 hz1 .i64 .i64 (cntN s.size) (by rw [hz2]; omega) (by unfold maxLen; omega) (Nat.le_refl _)
  have S0 : Hid (OwnS W3 w2.heap.size (.slice (some ⟨w2.heap.size, 0, none⟩) 0 (cntN s.size)) []) := own
  have B0 : Hid (Below w2.heap.size w2 W3) := grown_below hgr
  clear own hgr hi hz0 hz1 hz2 hSP hb2 hr0 hgp hlen HP hcv HBW
  go_wp2_with fail
  generalize hN : cntN s.size = N at *
  have HNN : Hid (cntN s.size = N) := hN
  clear hN
  go_loopw [7, 27] (fun v i wr => ∃ (k : Nat), k ≤ N ∧ i = .int .i64 k ∧ Hid (OwnS wr w2.heap.size v ((List.range k).map (pcS num s))) ∧ Hid (Below w2.heap.size w2 wr)) (fun _ i _ => N - (intOf i).toNat)
  case atStart => exact ⟨0, Nat.zero_le _, rfl, S0, B0⟩
  case round =>
    clear S0 B0 hmk
    obtain ⟨k, hk, rfl, hS, hb⟩ := hrel
    by_cases hlt : k < N
    · obtain ⟨gp', off', cp', hv', _, _, hrk⟩ := HSP.out.read (i := k) (by rw [cutR_len]; exact hlt)
      rw [cutR_len] at hv'
      simp only [Value.slice.injEq, Option.some.injEq, Addr.mk.injEq, and_true, true_and] at hv'
      obtain ⟨⟨rfl, rfl⟩, rfl⟩ := hv'
      have hck : wr.cell? ⟨gp, off + k, none⟩ = some (.slice (some ⟨w1.heap.size, 40 * k, none⟩) (partP s k).size (partP s k).size) := by
        have h := hrk 0 (Value.slice (some ⟨w1.heap.size, 40 * k, none⟩) (lenN s.size k) (lenN s.size k)) (by simp [cutR])
        rw [part_size, (hb.out.cell (p := ⟨gp, off + k, none⟩) hgl)]
        simpa using h
      have HPk : Hid (PartAt wr w1.heap.size (40 * k) (partP s k)) := (HP2.out k).later (hb.out.mono (Nat.le_refl _))
      have hpl : (partP s k).size ≤ 40 := by rw [part_size]; unfold lenN; omega
      obtain ⟨y, hy⟩ : ∃ y, y = partP s k := ⟨_, rfl⟩
      rw [← hy] at hck HPk hpl
      have HY : Hid (y = partP s k) := hy
      clear hy hrk
      have v1 := varS_short num hn
      have v2 := varS_short k (by omega)
      have v3 := varS_short N (by omega)
      have i0' : (0 : Int) ≤ (k : Int) := by omega
      have i1' : (k : Int) < (N : Int) := by omega
      go_wp2_with fail
      refine (varOf_any num wr (by omega)).mono ?_
      rintro e w3 ⟨rfl, hb3⟩
      have b3 : Below w2.heap.size w2 w3 := hb.out.trans (hb3.mono hb.out.size)
      have S3 : Hid (OwnS w3 w2.heap.size u7 ((List.range k).map (pcS num s))) := ownS_later hS.out hb3
      have P3 : Hid (PartAt w3 w1.heap.size (40 * k) y) := HPk.out.later hb3
      have B3 : Hid (Below w2.heap.size w2 w3) := b3
      clear hb3 b3 hck hS HPk hb
      go_wp2_with fail
      refine (varOf_any k w3 (by omega)).mono ?_
      rintro e w4 ⟨rfl, hb4⟩
      have S4 : Hid (OwnS w4 w2.heap.size u7 ((List.range k).map (pcS num s))) := ownS_later S3.out hb4
      have P4 : Hid (PartAt w4 w1.heap.size (40 * k) y) := P3.out.later hb4
      have B4 : Hid (Below w2.heap.size w2 w4) := B3.out.trans (hb4.mono B3.out.size)
      clear hb4 S3 P3 B3
      go_wp2_with fail
      refine (varOf_any N w4 (by omega)).mono ?_
      rintro e w5 ⟨rfl, hb5⟩
      have S5 : Hid (OwnS w5 w2.heap.size u7 ((List.range k).map (pcS num s))) := ownS_later S4.out hb5
      have P5 : Hid (PartAt w5 w1.heap.size (40 * k) y) := P4.out.later hb5
      have B5 : Hid (Below w2.heap.size w2 w5) := B4.out.trans (hb5.mono B4.out.size)
      clear hb5 S4 P4 B4
      have hh1 : 0 < (varS num ++ varS k ++ varS N).size := by rw [app_size, app_size]; omega
      have hh2 : (varS num ++ varS k ++ varS N).size ≤ 100 := by rw [app_size, app_size]; omega
      go_wp2_with fail
      refine (withHead_any (varS num ++ varS k ++ varS N) y w1.heap.size (40 * k) y.size w5 P5 hh1 hh2 hpl).mono ?_
      rintro e w6 ⟨rfl, hb6⟩
      have S6 : OwnS w6 w2.heap.size u7 ((List.range k).map (pcS num s)) := ownS_later S5.out hb6
      have B6 : Below w2.heap.size w2 w6 := B5.out.trans (hb6.mono B5.out.size)
      have z6 : w2.heap.size ≤ w6.heap.size := B6.size
      have hlk : ((List.range k).map (pcS num s)).length < 4000000 := by rw [List.length_map, List.length_range]; omega
      obtain ⟨t6, ht6⟩ : ∃ t6, t6 = varS num ++ varS k ++ varS N ++ y := ⟨_, rfl⟩
      rw [← ht6]
      have HT6 : Hid (t6 = varS num ++ varS k ++ varS N ++ y) := ht6
      clear hb6 S5 P5 B5 hh1 hh2 ht6
      go_wp2_with (at_builtin; refine wpList_pushS rfl _ _ 26 rfl Try.underlying26 Try.info9 w2.heap.size u7 ((List.range k).map (pcS num s)) rfl S6 t6 rfl hlk z6 ?_; intro v7 w7 S7 b7)
      have S7 : Hid (OwnS w7 w2.heap.size v7 ((List.range (k + 1)).map (pcS num s))) := by
        show OwnS _ _ _ _
        rw [pcs_succ]
        unfold pcS
        rw [HNN.out, ← HY.out, ← HT6.out]
        have e : (fun x => varS num ++ varS x ++ varS N ++ partP s x) = pcS num s := by funext x; unfold pcS; rw [HNN.out]
        rw [e]
        exact S7
      have B7 : Hid (Below w2.heap.size w2 w7) := B6.trans b7
      go_roundw
      case rel => exact ⟨k + 1, by omega, by go_num, S7, B7⟩
      case measure => simp [intOf]; omega
    · obtain rfl : k = N := by omega
      go_wp2_with fail
      go_ret2
      refine ⟨_, rfl, ?_, HB2.out.trans (hb.out.mono HB2.out.size)⟩
      unfold pcsL
      rw [HNN.out]
      exact hS.out.down HB2.out.size
end Go.Proofs.Ytfefjkldjaabbaa
