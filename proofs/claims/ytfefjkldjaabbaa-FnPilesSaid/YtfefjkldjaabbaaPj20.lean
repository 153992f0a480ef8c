/- Joined texts: Ip Pq Dp Sp12. -/
import Derived.Test.YtfefjkldjaabbaaPj19
import Derived.Test.YtfefjkldjaabbaaPj3
import Derived.Test.YtfefjkldjaabbaaPj13
import Derived.Test.YtfefjkldjaabbaaPj17
import Derived.Lib.ConvBytes
import Derived.Test.YtfefjkldjaabbaaPj15
import Derived.Test.YtfefjkldjaabbaaPj4
import Derived.Laws.BytesArg
import Derived.Laws.MakeOwn
import Derived.Test.YtfefjkldjaabbaaPj14
import Derived.Deep.RegionHeld3
/- The walk over the program's Pieces. -/
namespace Go.Proofs.Ytfefjkldjaabbaa
open Go.RowKit Pl
set_option linter.unusedVariables false

theorem varS_short (n : Nat) (h : n ≤ 100000) : 0 < (varS n).size ∧ (varS n).size ≤ 3 := by
  rw [rt_size, varS_list]
  by_cases h1 : 127 < n
  · rw [varL_big h1, List.length_cons]
    by_cases h2 : 127 < n / 128
    · rw [varL_big h2, List.length_cons, varL_small (by omega)]; simp
    · rw [varL_small h2]; simp
  · rw [varL_small h1]; simp
theorem app_size (a b : ByteArray) : (a ++ b).size = a.size + b.size := by rw [rt_size, ByteArray.data_append, Array.toList_append, List.length_append, ← rt_size, ← rt_size]
theorem cntN_le {m : Nat} (h : m ≤ 400) : 0 < cntN m ∧ cntN m ≤ 10 := by unfold cntN; split <;> omega
theorem part_size (s : ByteArray) (i : Nat) : (partP s i).size = lenN s.size i := by
  unfold partP; rw [ByteArray.size_extract]; unfold lenN; omega

theorem conv_parts (w : World) (s : ByteArray) : ∃ (cap : Nat) (W : World), (convert 9 22 (.string s)).run Try.prog w = .ok (.slice (some ⟨w.heap.size, 0, none⟩) s.size cap) W ∧ s.size ≤ cap ∧ Below w.heap.size w W ∧ ∀ i, PartAt W w.heap.size (40 * i) (partP s i) := by
  refine ⟨_, _, Lib.run_convert_string_bytes (P := Try.prog) w 9 22 5 s Try.underlying9 Try.underlying22 Try.underlying5, ?_, ⟨rfl, rfl, rfl, ?_, ?_⟩, ?_⟩
  · exact grownCap_ge w s.size 0 5
  · rw [Lib.bytesWorld_size]; omega
  · exact fun k hk => Lib.bytesWorld_at_old w 5 s k hk
  · intro i
    refine ⟨by rw [Lib.bytesWorld_size]; omega, fun j x hj => ?_⟩
    obtain ⟨hj1, hj2⟩ := List.getElem?_eq_some_iff.1 hj
    have hlj : j < lenN s.size i := by rw [← part_size, rt_size]; exact hj1
    have hlt : 40 * i + j < s.size := by unfold lenN at hlj; omega
    rw [Lib.bytesWorld_cell w 5 s (40 * i + j) hlt]
    congr 3
    rw [← hj2]
    have hlt' : 40 * i + j < s.data.toList.length := by rw [← rt_size]; exact hlt
    rw [List.getD, List.getElem?_eq_getElem hlt', Option.getD_some]
    have e := ext_list' s (40 * i) (40 * i + lenN s.size i)
    have : (partP s i).data.toList[j]? = s.data.toList[40 * i + j]? := by
      unfold partP
      rw [e, List.getElem?_take, if_pos (by omega), List.getElem?_drop]
    rw [List.getElem?_eq_getElem hj1, List.getElem?_eq_getElem hlt'] at this
    simp only [Option.some.injEq] at this
    exact congrArg UInt8.toNat this.symm

/-- what is told of the pieces. -/
def PcPost (w : World) (ok : Bool) (ps : List ByteArray) (e : Ending) (w' : World) : Prop := ∃ v, e = .returned (.tuple #[v, .bool ok]) ∧ OwnS w' w.heap.size v ps ∧ Below w.heap.size w w'

set_option maxRecDepth 100000 in
set_option maxHeartbeats 2000000 in
theorem implPieces_no (num : Int) (s : ByteArray) (w : World) (h : ¬ ((0 ≤ num ∧ num ≤ 100000) ∧ s.size ≤ 400)) (hm : s.size ≤ 1048576) :
    Calls Try.prog 11 #[.int .i64 num, .string s] w fun e w' => PcPost w false [] e w' := by
  by_cases h1 : 0 ≤ num ∧ num ≤ 100000
  · have h2 : 400 < s.size := by omega
    have hd : decide (0 ≤ num ∧ num ≤ 100000) = true := decide_eq_true h1
    clear h h1
    go_enter Try.func11, Try.ntmps11
    go_wp2_with (first | (go_at_call 37; refine (within_is _ hd).mono ?_; rintro e w1 ⟨rfl, rfl⟩))
    go_ret2
    exact ⟨_, rfl, OwnS.made _ _ (Nat.le_refl _), (Below.refl _ _).alloc (Nat.le_refl _) _⟩
  · have hd : decide (0 ≤ num ∧ num ≤ 100000) = false := decide_eq_false h1
    clear h h1
    go_enter Try.func11, Try.ntmps11
    go_wp2_with (first | (go_at_call 37; refine (within_is _ hd).mono ?_; rintro e w1 ⟨rfl, rfl⟩))
    go_ret2
    exact ⟨_, rfl, OwnS.made _ _ (Nat.le_refl _), (Below.refl _ _).alloc (Nat.le_refl _) _⟩

theorem pcs_succ (num : Nat) (s : ByteArray) (k : Nat) : (List.range (k + 1)).map (pcS num s) = (List.range k).map (pcS num s) ++ [pcS num s k] := by simp [List.range_succ]

set_option maxRecDepth 100000 in
set_option maxHeartbeats 4000000 in
theorem implPieces_yes (num : Nat) (s : ByteArray) (w : World) (hn : num ≤ 100000) (hs : s.size ≤ 400) :
    Calls Try.prog 11 #[.int .i64 num, .string s] w fun e w' => PcPost w true (pcsL num s) e w' := by
  have hd : decide ((0 : Int) ≤ (num : Int) ∧ (num : Int) ≤ 100000) = true := decide_eq_true (by omega)
  have hs' : ¬ (400 < s.size) := by omega
  obtain ⟨cap, W, hcv, hcap, hbW, hpW⟩ := conv_parts w s
  have HP : Hid (∀ i, PartAt W w.heap.size (40 * i) (partP s i)) := hpW
  have HBW : Hid (Below w.heap.size w W) := hbW
  obtain ⟨hc0, hc1⟩ := cntN_le hs
  clear hpW hbW
  go_enter Try.func11, Try.ntmps11
  go_wp2_with (first | (go_at_call 37; refine (within_is _ hd).mono ?_; rintro e w1 ⟨rfl, rfl⟩))
  refine (cutParts_any w1.heap.size s.size cap W hs hcap).mono ?_
  rintro e w2 ⟨vp, rfl, hSP, hb2⟩
  have hlen := cutR_len w1.heap.size s.size (cntN s.size)
  obtain ⟨gp, off, cp, hvp, hgp, hgl, hr0⟩ := hSP.read (i := 0) (by rw [hlen]; exact hc0)
  rw [hlen] at hvp
  subst hvp
  have HSP : Hid (SlN w2 22 1 W.heap.size (.slice (some ⟨gp, off, none⟩) (cntN s.size) cp) (cutR w1.heap.size s.size (cntN s.size))) := hSP
  have HB2 : Hid (Below w1.heap.size w1 w2) := HBW.out.trans (hb2.mono HBW.out.size)
  have HP2 : Hid (∀ i, PartAt w2 w1.heap.size (40 * i) (partP s i)) := fun i => (HP.out i).later hb2
  obtain ⟨i0, hi, hz0, hz1, hz2⟩ := info_parts Try.info9
  obtain ⟨W3, hmk, own, hgr⟩ := run_make_own (P := Try.prog) w2 w2.heap.size 26 9 i0 _ 1 Try.underlying26 hi hz0 hz1 .i64 .i64 (cntN s.size) (by rw [hz2]; omega) (by unfold maxLen; omega) (Nat.le_refl _)
  have S0 : Hid (OwnS W3 w2.heap.size (.slice (some ⟨w2.heap.size, 0, none⟩) 0 (cntN s.size)) []) := own
  have B0 : Hid (Below w2.heap.size w2 W3) := grown_below hgr
  clear own hgr hi hz0 hz1 hz2 hSP hb2 hr0 hgp hlen HP hcv HBW
  go_wp2_with fail
  generalize hN : cntN s.size = N at *
  have HNN : Hid (cntN s.size = N) := hN
  clear hN
  go_loopw [7, 27] (fun v i wr => ∃ (k : Nat), k ≤ N ∧ i = .int .i64 k ∧ Hid (OwnS wr w2.heap.size v ((List.range k).map (pcS num s))) ∧ Hid (Below w2.heap.size w2 wr)) (fun _ i _ => N - (intOf i).toNat)
  case atStart => exact ⟨0, Nat.zero_le _, rfl, S0, B0⟩
  case round =>
    clear S0 B0 hmk
    obtain ⟨k, hk, rfl, hS, hb⟩ := hrel
    by_cases hlt : k < N
    · obtain ⟨gp', off', cp', hv', _, _, hrk⟩ := HSP.out.read (i := k) (by rw [cutR_len]; exact hlt)
      rw [cutR_len] at hv'
      simp only [Value.slice.injEq, Option.some.injEq, Addr.mk.injEq, and_true, true_and] at hv'
      obtain ⟨⟨rfl, rfl⟩, rfl⟩ := hv'
      have hck : wr.cell? ⟨gp, off + k, none⟩ = some (.slice (some ⟨w1.heap.size, 40 * k, none⟩) (partP s k).size (partP s k).size) := by
        have h := hrk 0 (Value.slice (some ⟨w1.heap.size, 40 * k, none⟩) (lenN s.size k) (lenN s.size k)) (by simp [cutR])
        rw [part_size, (hb.out.cell (p := ⟨gp, off + k, none⟩) hgl)]
        simpa using h
      have HPk : Hid (PartAt wr w1.heap.size (40 * k) (partP s k)) := (HP2.out k).later (hb.out.mono (Nat.le_refl _))
      have hpl : (partP s k).size ≤ 40 := by rw [part_size]; unfold lenN; omega
      obtain ⟨y, hy⟩ : ∃ y, y = partP s k := ⟨_, rfl⟩
      rw [← hy] at hck HPk hpl
      have HY : Hid (y = partP s k) := hy
      clear hy hrk
      have v1 := varS_short num hn
      have v2 := varS_short k (by omega)
      have v3 := varS_short N (by omega)
      have i0' : (0 : Int) ≤ (k : Int) := by omega
      have i1' : (k : Int) < (N : Int) := by omega
      go_wp2_with fail
      refine (varOf_any num wr (by omega)).mono ?_
      rintro e w3 ⟨rfl, hb3⟩
      have b3 : Below w2.heap.size w2 w3 := hb.out.trans (hb3.mono hb.out.size)
      have S3 : Hid (OwnS w3 w2.heap.size u7 ((List.range k).map (pcS num s))) := ownS_later hS.out hb3
      have P3 : Hid (PartAt w3 w1.heap.size (40 * k) y) := HPk.out.later hb3
      have B3 : Hid (Below w2.heap.size w2 w3) := b3
      clear hb3 b3 hck hS HPk hb
      go_wp2_with fail
      refine (varOf_any k w3 (by omega)).mono ?_
      rintro e w4 ⟨rfl, hb4⟩
      have S4 : Hid (OwnS w4 w2.heap.size u7 ((List.range k).map (pcS num s))) := ownS_later S3.out hb4
      have P4 : Hid (PartAt w4 w1.heap.size (40 * k) y) := P3.out.later hb4
      have B4 : Hid (Below w2.heap.size w2 w4) := B3.out.trans (hb4.mono B3.out.size)
      clear hb4 S3 P3 B3
      go_wp2_with fail
      refine (varOf_any N w4 (by omega)).mono ?_
      rintro e w5 ⟨rfl, hb5⟩
      have S5 : Hid (OwnS w5 w2.heap.size u7 ((List.range k).map (pcS num s))) := ownS_later S4.out hb5
      have P5 : Hid (PartAt w5 w1.heap.size (40 * k) y) := P4.out.later hb5
      have B5 : Hid (Below w2.heap.size w2 w5) := B4.out.trans (hb5.mono B4.out.size)
      clear hb5 S4 P4 B4
      have hh1 : 0 < (varS num ++ varS k ++ varS N).size := by rw [app_size, app_size]; omega
      have hh2 : (varS num ++ varS k ++ varS N).size ≤ 100 := by rw [app_size, app_size]; omega
      go_wp2_with fail
      refine (withHead_any (varS num ++ varS k ++ varS N) y w1.heap.size (40 * k) y.size w5 P5 hh1 hh2 hpl).mono ?_
      rintro e w6 ⟨rfl, hb6⟩
      have S6 : OwnS w6 w2.heap.size u7 ((List.range k).map (pcS num s)) := ownS_later S5.out hb6
      have B6 : Below w2.heap.size w2 w6 := B5.out.trans (hb6.mono B5.out.size)
      have z6 : w2.heap.size ≤ w6.heap.size := B6.size
      have hlk : ((List.range k).map (pcS num s)).length < 4000000 := by rw [List.length_map, List.length_range]; omega
      obtain ⟨t6, ht6⟩ : ∃ t6, t6 = varS num ++ varS k ++ varS N ++ y := ⟨_, rfl⟩
      rw [← ht6]
      have HT6 : Hid (t6 = varS num ++ varS k ++ varS N ++ y) := ht6
      clear hb6 S5 P5 B5 hh1 hh2 ht6
      go_wp2_with (at_builtin; refine wpList_pushS rfl _ _ 26 rfl Try.underlying26 Try.info9 w2.heap.size u7 ((List.range k).map (pcS num s)) rfl S6 t6 rfl hlk z6 ?_; intro v7 w7 S7 b7)
      have S7 : Hid (OwnS w7 w2.heap.size v7 ((List.range (k + 1)).map (pcS num s))) := by
        show OwnS _ _ _ _
        rw [pcs_succ]
        unfold pcS
        rw [HNN.out, ← HY.out, ← HT6.out]
        have e : (fun x => varS num ++ varS x ++ varS N ++ partP s x) = pcS num s := by funext x; unfold pcS; rw [HNN.out]
        rw [e]
        exact S7
      have B7 : Hid (Below w2.heap.size w2 w7) := B6.trans b7
      go_roundw
      case rel => exact ⟨k + 1, by omega, by go_num, S7, B7⟩
      case measure => simp [intOf]; omega
    · obtain rfl : k = N := by omega
      go_wp2_with fail
      go_ret2
      refine ⟨_, rfl, ?_, HB2.out.trans (hb.out.mono HB2.out.size)⟩
      unfold pcsL
      rw [HNN.out]
      exact hS.out.down HB2.out.size
end Go.Proofs.Ytfefjkldjaabbaa

/- Pieces are joined to the whole again: in plain words. No program is named here. -/
namespace Go.Proofs.Ytfefjkldjaabbaa
open Go.RowKit Pl
set_option linter.unusedVariables false

theorem app_list (a b : ByteArray) : (a ++ b).data.toList = a.data.toList ++ b.data.toList := by rw [ByteArray.data_append, Array.toList_append]

theorem pcP_of {n i c : Nat} {t : ByteArray} (h1 : n ≤ 100000) (h2 : i ≤ 10) (h3 : c ≤ 10) (hr : rightB n i c t = true) : pcP (varS n ++ varS i ++ varS c ++ t) = some (n, i, c, t) := by
  obtain ⟨s, hs⟩ : ∃ s, s = varS n ++ varS i ++ varS c ++ t := ⟨_, rfl⟩
  have hl : s.data.toList = varL n ++ (varL i ++ (varL c ++ t.data.toList)) := by
    rw [hs, app_list, app_list, app_list, varS_list, varS_list, varS_list]
    simp only [List.append_assoc]
  rw [← hs]
  have e0 : rv s 0 = some (n, (varL n).length) := by
    have := rv_var (s := s) (p := []) (n := n) (by omega) hl
    simpa using this
  have e1 : rv s (varL n).length = some (i, (varL n).length + (varL i).length) := rv_var (s := s) (p := varL n) (n := i) (by omega) hl
  have e2 : rv s ((varL n).length + (varL i).length) = some (c, (varL n).length + (varL i).length + (varL c).length) := by
    have := rv_var (s := s) (p := varL n ++ varL i) (n := c) (q := t.data.toList) (by omega) (by rw [hl, List.append_assoc])
    simpa using this
  have e3 : s.extract ((varL n).length + (varL i).length + (varL c).length) s.size = t := by
    apply rt_ext
    rw [ext_list', rt_size, hl, ← List.append_assoc, ← List.append_assoc, ← List.length_append, ← List.length_append, List.drop_left, List.take_of_length_le]
    simp only [List.length_append]; omega
  have := rawP_some e0 e1 e2
  rw [e3] at this
  exact pcP_good this hr

theorem pcS_piece {num : Nat} {s : ByteArray} {i : Nat} (hn : num ≤ 100000) (hs : s.size ≤ 400) (hi : i < cntN s.size) : pcP (pcS num s i) = some (num, i, cntN s.size, partP s i) := by
  have hc := (cntN_le hs).2
  refine pcP_of hn (by omega) hc (decide_eq_true ⟨hn, hc, hi, ?_⟩)
  rw [part_size]
  unfold lenN
  unfold cntN at hi ⊢
  split at hi
  · right; constructor
    · rw [if_pos (by assumption)]; omega
    · omega
  · rw [if_neg (by assumption)]; omega

theorem parts_cat {s : ByteArray} (k : Nat) (h : 40 * k ≤ s.size + 39 ∨ k ≤ 1) : (catL ((List.range k).map (partP s))).data.toList = s.data.toList.take (40 * k) := by
  induction k with
  | zero => simp [catL_list]
  | succ k ih =>
    rw [List.range_succ, List.map_append, List.map_cons, List.map_nil, catL_snoc, app_list, ih (by omega)]
    unfold partP
    rw [ext_list', show 40 * k + lenN s.size k - 40 * k = lenN s.size k by omega]
    have e : (s.data.toList.drop (40 * k)).take (lenN s.size k) = (s.data.toList.drop (40 * k)).take 40 := by
      unfold lenN
      have h1 : (s.data.toList.drop (40 * k)).take (s.size - 40 * k) = s.data.toList.drop (40 * k) := List.take_of_length_le (by rw [List.length_drop, ← rt_size]; exact Nat.le_refl _)
      rw [← List.take_take, h1]
    rw [e, show 40 * (k + 1) = 40 * k + 40 by omega, List.take_add]
theorem parts_all {s : ByteArray} : catL ((List.range (cntN s.size)).map (partP s)) = s := by
  apply rt_ext
  rw [parts_cat _ (by unfold cntN; split <;> omega), List.take_of_length_le]
  rw [← rt_size]; unfold cntN; split <;> omega

theorem joinP_app : ∀ (a b : List ByteArray) (p : Pi) (out : List ByteArray), joinP p out (a ++ b) = joinP (joinP p out a).1 (joinP p out a).2 b
  | [], b, p, out => rfl
  | x :: a, b, p, out => by rw [List.cons_append, joinP, joinP_app a b]; rfl

/-- the first k pieces of a text, come to any pile: the pile has begun anew. -/
theorem joinP_some {num : Nat} {s : ByteArray} (hn : num ≤ 100000) (hs : s.size ≤ 400) (p : Pi) (out : List ByteArray) : ∀ k, 0 < k → k < cntN s.size → joinP p out ((List.range k).map (pcS num s)) = (⟨num, cntN s.size, (List.range k).map (partP s)⟩, out) := by
  intro k
  induction k with
  | zero => intro h; omega
  | succ k ih =>
    intro _ hk
    rw [pcs_succ, joinP_snoc]
    have hp := pcS_piece (i := k) hn hs (by omega)
    by_cases h0 : k = 0
    · subst h0
      have hf : fitsB p num 0 (cntN s.size) = true := decide_eq_true (.inl rfl)
      show ((addP p (pcS num s 0)).1, if (addP p (pcS num s 0)).2.2 = true then out ++ [(addP p (pcS num s 0)).2.1] else out) = _
      rw [addP_more hp hf (by omega)]
      rfl
    · rw [ih (by omega) (by omega)]
      have hf : fitsB ⟨num, cntN s.size, (List.range k).map (partP s)⟩ num k (cntN s.size) = true := decide_eq_true (.inr ⟨rfl, rfl, by simp⟩)
      rw [addP_more hp hf (by omega)]
      have hb : baseP ⟨num, cntN s.size, (List.range k).map (partP s)⟩ k = (List.range k).map (partP s) := by unfold baseP; rw [if_neg h0]
      rw [hb, List.range_succ, List.map_append]
      rfl
/-- all pieces of a text, come to any pile: the text, and no pile. -/
theorem joinP_all {num : Nat} {s : ByteArray} (hn : num ≤ 100000) (hs : s.size ≤ 400) (p : Pi) (out : List ByteArray) : joinP p out (pcsL num s) = (zPi, out ++ [s]) := by
  obtain ⟨hc0, _⟩ := cntN_le hs
  obtain ⟨k, hk⟩ : ∃ k, cntN s.size = k + 1 := ⟨cntN s.size - 1, by omega⟩
  have hp := pcS_piece (i := k) hn hs (by omega)
  have hall := parts_all (s := s)
  unfold pcsL
  rw [hk, pcs_succ, joinP_snoc]
  rw [hk, List.range_succ, List.map_append] at hall
  rw [hk] at hp
  by_cases h0 : k = 0
  · subst h0
    have hf : fitsB p num 0 (0 + 1) = true := decide_eq_true (.inl rfl)
    show ((addP p (pcS num s 0)).1, if (addP p (pcS num s 0)).2.2 = true then out ++ [(addP p (pcS num s 0)).2.1] else out) = _
    rw [addP_last hp hf rfl]
    show (zPi, out ++ [catL (baseP p 0 ++ [partP s 0])]) = _
    have hb : baseP p 0 = (List.range 0).map (partP s) := rfl
    rw [hb]
    rw [show (List.range 0).map (partP s) ++ [partP s 0] = (List.range 0).map (partP s) ++ List.map (partP s) [0] from rfl, hall]
  · rw [joinP_some hn hs p out k (by omega) (by omega)]
    have hf : fitsB ⟨num, cntN s.size, (List.range k).map (partP s)⟩ num k (k + 1) = true := decide_eq_true (.inr ⟨rfl, by rw [hk], by simp⟩)
    rw [addP_last hp hf rfl]
    have hb : baseP ⟨num, cntN s.size, (List.range k).map (partP s)⟩ k = (List.range k).map (partP s) := by unfold baseP; rw [if_neg h0]
    rw [hb]
    show (zPi, out ++ [catL ((List.range k).map (partP s) ++ [partP s k])]) = _
    rw [show (List.range k).map (partP s) ++ [partP s k] = (List.range k).map (partP s) ++ List.map (partP s) [k] from rfl, hall]
theorem joined_all {num : Nat} {s : ByteArray} (hn : num ≤ 100000) (hs : s.size ≤ 400) : joinedL (pcsL num s) = [s] := by
  unfold joinedL; rw [joinP_all hn hs]; rfl
theorem joined_twice {num : Nat} {s : ByteArray} (hn : num ≤ 100000) (hs : s.size ≤ 400) : joinedL (pcsL num s ++ pcsL num s) = [s, s] := by
  unfold joinedL; rw [joinP_app, joinP_all hn hs, joinP_all hn hs]; rfl
theorem joined_few {num : Nat} {s : ByteArray} (hn : num ≤ 100000) (hs : s.size ≤ 400) (k : Nat) (hk : k < cntN s.size) : joinedL ((pcsL num s).take k) = [] := by
  have e : (pcsL num s).take k = (List.range k).map (pcS num s) := by
    unfold pcsL; rw [← List.map_take, List.take_range]; congr 2; omega
  unfold joinedL
  rw [e]
  rcases Nat.eq_zero_or_pos k with h | h
  · subst h; rfl
  · rw [joinP_some hn hs zPi [] k h hk]
end Go.Proofs.Ytfefjkldjaabbaa

/- Drawn texts and numbers of pieces: l01PickInt, l01Long, l12Long, DrawPieces. -/
namespace Go.Proofs.Ytfefjkldjaabbaa
open Go.RowKit Pl
set_option linter.unusedVariables false

/-- the block b is a row of m numbers, each as P says. -/
def RowZ (P : Int → Prop) (w : World) (b m : Nat) : Prop := ∀ j, j < m → ∃ z : Int, P z ∧ w.cell? ⟨b, j, none⟩ = some (.int .i64 z)
theorem RowZ.stays {P : Int → Prop} {w0 w1 : World} {b g m : Nat} (h : RowZ P w0 b m) (hb : b < w0.heap.size) (hg : b ≠ g) (hk : KeepBut g w0 w1) : RowZ P w1 b m := by
  intro j hj
  obtain ⟨z, h1, h2⟩ := h j hj
  refine ⟨z, h1, ?_⟩
  rw [← h2]
  unfold World.cell?
  rw [hk.block b hb hg]
theorem rowZ_new (P : Int → Prop) (w : World) (ts : List Int) (m : Nat) (hm : m = ts.length) (h : ∀ z ∈ ts, P z) : RowZ P (w.alloc (.cells (ts.map (Value.int .i64)).toArray 3)) w.heap.size m := by
  intro j hj
  subst hm
  refine ⟨ts[j], h _ (List.getElem_mem hj), ?_⟩
  rw [cell_of_row _ w.heap.size j _ 3 (0, 0) (heap_alloc_new w _)]
  simp [hj]

set_option maxRecDepth 100000 in
set_option maxHeartbeats 1000000 in
theorem pickZ_any (P : Int → Prop) (w0 w : World) (B g n cap b m : Nat) (ao : Option Addr) (hn : n ≤ 1048576) (hB : B ≤ g) (hm0 : 0 < m) (hm : m ≤ 256) (hb : b < w.heap.size) (hbg : b ≠ g) (hr : Hid (RowZ P w b m)) (hd : Hid (Drw w0 w B g ao n cap)) :
    Calls Try.prog 34 #[.pointer (some ⟨g, 0, none⟩), .slice (some ⟨b, 0, none⟩) m m] w fun e w' => (∃ z : Int, P z ∧ e = .returned (.int .i64 z)) ∧ Hid (Drw w0 w' B g ao n cap) := by
  have hd0 : Hid (Drw w w B g ao n cap) := Drw.start hd.out.1 hd.out.2.1
  go_enter Try.func34, Try.ntmps34
  go_wp2_with (first | (go_at_call 32; refine (below_small w _ B g n cap m ao hn hB hm0 hm (by assumption)).mono ?_; rintro e w1 ⟨⟨x, hx, rfl⟩, hd1⟩; obtain ⟨z, hPz, hc⟩ := hr.out.stays hb hbg hd1.out.2.2 x hx))
  go_ret
  exact ⟨⟨z, hPz, rfl⟩, show Drw _ _ _ _ _ _ _ from ⟨hd1.out.1, hd1.out.2.1, hd.out.2.2.trans hd1.out.2.2⟩⟩

/-- a row of bytes. -/
def RowB (w : World) (b : Nat) (xs : List Int) : Prop := w.heap[b]? = some (.cells (xs.map (Value.int .u8)).toArray 5 (0, 0))
theorem RowB.cell {w : World} {b : Nat} {xs : List Int} (h : RowB w b xs) (j : Nat) (hj : j < xs.length) : w.cell? ⟨b, j, none⟩ = some (.int .u8 (xs.getD j 0)) := by
  rw [cell_of_row w b j _ 5 (0, 0) h]; simp [hj]
theorem RowB.set {w : World} {b : Nat} {xs : List Int} (h : RowB w b xs) (j : Nat) (z : Int) : RowB (w.setCell ⟨b, j, none⟩ (.int .u8 z)) b (xs.set j z) := by
  have := heap_setCell_same w b j _ 5 (.int .u8 z) h
  unfold RowB; rw [this]; simp [List.map_set]

set_option maxRecDepth 100000 in
set_option maxHeartbeats 1000000 in
theorem longX_any (m : Nat) (x : Int) (w : World) (hm : m ≤ 500) :
    Calls Try.prog 36 #[.int .i64 m, .int .u8 x] w fun e w' => (∃ t : ByteArray, t.size = m ∧ e = .returned (.string t)) ∧ Below w.heap.size w w' := by
  obtain ⟨i0, hi, hz0, hz1, hz2⟩ := info_parts Try.info5'
  have hM : madeCells (Value.int .u8 0).cells m = ((List.replicate m (0 : Int)).map (Value.int .u8)).toArray := by
    apply Array.ext'
    rw [show (Value.int .u8 0).cells = #[Value.int .u8 0] from rfl, toList_madeCells_one]
    simp
  have hmk : ∀ W : World, (Instr.makeSlice 22 (.int .i64 (m : Int)) (.int .i64 (m : Int))).run Try.prog W = .ok (.slice (some ⟨W.heap.size, 0, none⟩) m m) (W.alloc (.cells ((List.replicate m (0 : Int)).map (Value.int .u8)).toArray 5)) := fun W => by
    have h := run_make (P := Try.prog) W 22 5 i0 (.int .u8 0) Try.underlying22 hi hz0 .i64 .i64 (m : Int) (m : Int) (by omega) (by omega) (by rw [hz2]; omega) (by omega)
    rw [hz1, Int.toNat_natCast, Nat.mul_one, hM] at h
    simpa using h
  clear hM
  go_enter Try.func36, Try.ntmps36
  go_wp2
  go_loopw [6] (fun i wr => ∃ (k : Nat) (xs : List Int), i = .int .i64 k ∧ k ≤ m ∧ Hid (xs.length = m) ∧ Hid (RowB wr w.heap.size xs) ∧ Below w.heap.size w wr) (fun i _ => m - (intOf i).toNat)
  case atStart => exact ⟨0, List.replicate m 0, rfl, Nat.zero_le _, List.length_replicate, (by show RowB _ _ _; unfold RowB; rw [heap_alloc_new]; simp), (Below.refl _ _).alloc (Nat.le_refl _) _⟩
  case round =>
    obtain ⟨k, xs, rfl, hk, hxl, hrow, hb⟩ := hrel
    by_cases h1 : k < m
    · have hc := hrow.out.cell k (by rw [hxl.out]; exact h1)
      have hf := frozen_of_row wr w.heap.size k _ 5 hrow.out
      go_wp2
      go_roundw
      case rel =>
        refine ⟨k + 1, xs.set k x, by go_num, by omega, by rw [List.length_set]; exact hxl.out, hrow.out.set k x, ?_⟩
        exact hb.trans (TurnAt.below ((TurnAt.refl w.heap.size wr).setCell k _) (Nat.le_refl _))
      case measure => simp [intOf]; omega
    · have hkm : k = m := by omega
      have hcv := run_convert_bytes_arg (P := Try.prog) wr 22 5 Try.underlying22 Try.underlying5 w.heap.size 0 m m xs hxl.out (fun i hi => by rw [Nat.zero_add]; exact hrow.out.cell i (by rw [hxl.out]; exact hi)) 9 Try.underlying9
      go_wp2
      go_ret
      exact ⟨⟨_, by rw [strOfNums_size]; exact hxl.out, rfl⟩, hb⟩

theorem longX_at (a x : Int) (w : World) (h0 : 0 ≤ a) (h1 : a ≤ 500) :
    Calls Try.prog 36 #[.int .i64 a, .int .u8 x] w fun e w' => (∃ t : ByteArray, t.size ≤ 500 ∧ e = .returned (.string t)) ∧ Below w.heap.size w w' := by
  obtain ⟨m, rfl⟩ : ∃ m : Nat, a = m := ⟨a.toNat, by omega⟩
  exact (longX_any m x w (by omega)).mono fun e w' ⟨⟨t, h, he⟩, hb⟩ => ⟨⟨t, by omega, he⟩, hb⟩

set_option maxRecDepth 100000 in
set_option maxHeartbeats 2000000 in
theorem l12Long_any (w0 w : World) (B g n cap : Nat) (ao : Option Addr) (hn : n ≤ 1048576) (hB : B ≤ g) (hd : Hid (Drw w0 w B g ao n cap)) :
    Calls Try.prog 35 #[.pointer (some ⟨g, 0, none⟩)] w fun e w' => (∃ t : ByteArray, t.size ≤ 500 ∧ e = .returned (.string t)) ∧ Hid (Drw w0 w' B g ao n cap) := by
  have hg := hd.out.lt
  have R0 : Hid (RowZ (fun z => 0 ≤ z ∧ z ≤ 400) (w.alloc (.cells #[.int .i64 0, .int .i64 1, .int .i64 39, .int .i64 40, .int .i64 41, .int .i64 80, .int .i64 95, .int .i64 130, .int .i64 400] 3)) w.heap.size 9) :=
    rowZ_new _ w [0, 1, 39, 40, 41, 80, 95, 130, 400] 9 rfl (by decide)
  have D0 : Hid (Drw w0 (w.alloc (.cells #[.int .i64 0, .int .i64 1, .int .i64 39, .int .i64 40, .int .i64 41, .int .i64 80, .int .i64 95, .int .i64 130, .int .i64 400] 3)) B g ao n cap) := hd.out.alloc hB _
  have hlt : w.heap.size < (w.alloc (.cells #[.int .i64 0, .int .i64 1, .int .i64 39, .int .i64 40, .int .i64 41, .int .i64 80, .int .i64 95, .int .i64 130, .int .i64 400] 3)).heap.size := by simp
  go_enter Try.func35, Try.ntmps35
  go_wp2_with fail
  refine (pickZ_any (fun z => 0 ≤ z ∧ z ≤ 400) w0 _ B g n cap w.heap.size 9 ao hn hB (by omega) (by omega) hlt (by omega) R0 D0).mono ?_
  rintro e w1 ⟨⟨z, hz, rfl⟩, D1⟩
  obtain ⟨m, rfl⟩ : ∃ m : Nat, z = m := ⟨z.toNat, by omega⟩
  have hm : m ≤ 400 := by omega
  clear R0 D0 hlt hz
  go_wp2_with fail
  refine (below_small w0 w1 B g n cap 9 ao hn hB (by omega) (by omega) D1).mono ?_
  rintro e w2 ⟨⟨a, ha, rfl⟩, D2⟩
  go_wp2_with fail
  refine (text_drw w0 w2 B g n cap a ao hn hB (by omega) D2).mono ?_
  rintro e w3 ⟨⟨t, ht, rfl⟩, D3⟩
  go_wp2_with fail
  refine (below_small w0 w3 B g n cap 20 ao hn hB (by omega) (by omega) D3).mono ?_
  rintro e w4 ⟨⟨b, hb, rfl⟩, D4⟩
  have htl : t.size ≤ 8 := by omega
  clear ht ha D1 D2 D3
  go_wp2_with fail
  refine (longX_any m _ w4 (by omega)).mono ?_
  rintro e w5 ⟨⟨u, hu, rfl⟩, hb5⟩
  have hul : u.size ≤ 400 := by omega
  have D5 : Hid (Drw w0 w5 B g ao n cap) := D4.out.step hB hb5
  clear hu D4 hb5
  go_wp2_with fail
  go_ret
  exact ⟨⟨_, by rw [app_size]; omega, rfl⟩, D5⟩

theorem dp_below {w w1 w' : World} {g n cap : Nat} {ao : Option Addr} (hg : w.heap.size = g) (hb : Below g w w1) (h : Drw w1 w' g g ao n cap) : Below g w w' :=
  hb.trans (h.2.2.below (Nat.le_refl _) (by have := hb.size; omega))
set_option maxRecDepth 100000 in
set_option maxHeartbeats 2000000 in
theorem drawPieces (w : World) (n cap : Nat) (ao : Option Addr) (hn : n ≤ 1048576) (hk : Hid (CodeAt w w.heap.size ao n)) :
    Calls Try.prog 10 #[.slice ao n cap] w fun e w' => ∃ (num : Int) (s : ByteArray), e = .returned (.tuple #[.int .i64 num, .string s]) ∧ s.size ≤ 500 ∧ Below w.heap.size w w' := by
  go_enter Try.func10, Try.ntmps10
  go_wp2_with fail
  refine (new_any w n cap ao hn hk).mono ?_
  rintro e w1 ⟨rfl, hc, hb1, hs1⟩
  have D1 : Hid (Drw w1 w1 w.heap.size w.heap.size ao n cap) := Drw.start hc.out (hk.out.stays hb1 (Nat.le_refl _))
  have B1 : Hid (Below w.heap.size w w1) := hb1
  have Z1 : Hid (w1.heap.size = w.heap.size + 1) := hs1
  clear hc hb1 hs1
  generalize hg : w.heap.size = g at *
  have HG : Hid (w.heap.size = g) := hg
  clear hg
  go_wp2_with fail
  refine (below_big w1 w1 g g n cap 300 ao hn (Nat.le_refl _) (by omega) (by omega) D1).mono ?_
  rintro e w2 ⟨⟨num, _, rfl⟩, D2⟩
  go_wp2_with fail
  refine (once_any w1 w2 g g n cap 12 ao hn (Nat.le_refl _) (by omega) (by omega) D2).mono ?_
  rintro e w3 ⟨⟨o, rfl⟩, D3⟩
  clear D1 D2
  cases o with
  | false =>
    go_wp2_with fail
    refine (l12Long_any w1 w3 g g n cap ao hn (Nat.le_refl _) D3).mono ?_
    rintro e w5 ⟨⟨s, hs, rfl⟩, D5⟩
    go_wp2_with fail
    refine (once_any w1 w5 g g n cap 12 ao hn (Nat.le_refl _) (by omega) (by omega) D5).mono ?_
    rintro e w6 ⟨⟨o2, rfl⟩, D6⟩
    clear D3 D5
    cases o2 with
    | false =>
      go_wp2_with fail
      go_ret2
      exact ⟨num, s, rfl, hs, (by have h := dp_below HG.out B1.out D6.out; rw [← HG.out] at h; exact h)⟩
    | true =>
      go_wp2_with fail
      refine (below_small w1 w6 g g n cap 2 ao hn (Nat.le_refl _) (by omega) (by omega) D6).mono ?_
      rintro e w7 ⟨⟨y, hy, rfl⟩, D7⟩
      go_wp2_with fail
      refine (longX_at _ 65 w7 (by omega) (by omega)).mono ?_
      rintro e w8 ⟨⟨u, hu, rfl⟩, hb8⟩
      have D8 : Hid (Drw w1 w8 g g ao n cap) := D7.out.step (Nat.le_refl _) hb8
      clear hb8 D7 D6
      go_wp2_with fail
      go_ret2
      exact ⟨num, u, rfl, hu, (by have h := dp_below HG.out B1.out D8.out; rw [← HG.out] at h; exact h)⟩
  | true =>
    have hlt3 := D3.out.lt
    have R3 : Hid (RowZ (fun _ => True) (w3.alloc (.cells #[.int .i64 (-1), .int .i64 100000, .int .i64 100001] 3)) w3.heap.size 3) := rowZ_new _ w3 [-1, 100000, 100001] 3 rfl (fun _ _ => trivial)
    have E3 : Hid (Drw w1 (w3.alloc (.cells #[.int .i64 (-1), .int .i64 100000, .int .i64 100001] 3)) g g ao n cap) := D3.out.alloc (Nat.le_refl _) _
    have hl3 : w3.heap.size < (w3.alloc (.cells #[.int .i64 (-1), .int .i64 100000, .int .i64 100001] 3)).heap.size := by simp
    go_wp2_with fail
    refine (pickZ_any (fun _ => True) w1 _ g g n cap w3.heap.size 3 ao hn (Nat.le_refl _) (by omega) (by omega) hl3 (by omega) R3 E3).mono ?_
    rintro e w4 ⟨⟨z, _, rfl⟩, D4⟩
    clear R3 E3 hl3 hlt3 D3
    go_wp2_with fail
    refine (l12Long_any w1 w4 g g n cap ao hn (Nat.le_refl _) D4).mono ?_
    rintro e w5 ⟨⟨s, hs, rfl⟩, D5⟩
    go_wp2_with fail
    refine (once_any w1 w5 g g n cap 12 ao hn (Nat.le_refl _) (by omega) (by omega) D5).mono ?_
    rintro e w6 ⟨⟨o2, rfl⟩, D6⟩
    clear D4 D5
    cases o2 with
    | false =>
      go_wp2_with fail
      go_ret2
      exact ⟨z, s, rfl, hs, (by have h := dp_below HG.out B1.out D6.out; rw [← HG.out] at h; exact h)⟩
    | true =>
      go_wp2_with fail
      refine (below_small w1 w6 g g n cap 2 ao hn (Nat.le_refl _) (by omega) (by omega) D6).mono ?_
      rintro e w7 ⟨⟨y, hy, rfl⟩, D7⟩
      go_wp2_with fail
      refine (longX_at _ 65 w7 (by omega) (by omega)).mono ?_
      rintro e w8 ⟨⟨u, hu, rfl⟩, hb8⟩
      have D8 : Hid (Drw w1 w8 g g ao n cap) := D7.out.step (Nat.le_refl _) hb8
      clear hb8 D7 D6
      go_wp2_with fail
      go_ret2
      exact ⟨z, u, rfl, hu, (by have h := dp_below HG.out B1.out D8.out; rw [← HG.out] at h; exact h)⟩
end Go.Proofs.Ytfefjkldjaabbaa

/- The walk over the specification's Pieces. Written by gen_sp12.py. -/
namespace Go.Proofs.Ytfefjkldjaabbaa
open Go.RowKit Pl
set_option linter.unusedVariables false
set_option linter.unusedSimpArgs false

set_option maxRecDepth 100000 in
set_option maxHeartbeats 2000000 in
theorem spPieces_no (num : Int) (s : ByteArray) (w : World) (h : ¬ ((0 ≤ num ∧ num ≤ 100000) ∧ s.size ≤ 400)) (hm : s.size ≤ 1048576) :
    Calls Try.prog 12 #[.int .i64 num, .string s] w fun e w' => PcPost w false [] e w' := by
  by_cases h1 : 0 ≤ num ∧ num ≤ 100000
  · have h2 : 400 < s.size := by omega
    have hd : decide (0 ≤ num ∧ num ≤ 100000) = true := decide_eq_true h1
    clear h h1
    go_enter Try.func12, Try.ntmps12
    go_wp2_with (first | (go_at_call 41; refine (in_is _ hd).mono ?_; rintro e w1 ⟨rfl, rfl⟩))
    go_ret2
    exact ⟨_, rfl, OwnS.made _ _ (Nat.le_refl _), (Below.refl _ _).alloc (Nat.le_refl _) _⟩
  · have hd : decide (0 ≤ num ∧ num ≤ 100000) = false := decide_eq_false h1
    clear h h1
    go_enter Try.func12, Try.ntmps12
    go_wp2_with (first | (go_at_call 41; refine (in_is _ hd).mono ?_; rintro e w1 ⟨rfl, rfl⟩))
    go_ret2
    exact ⟨_, rfl, OwnS.made _ _ (Nat.le_refl _), (Below.refl _ _).alloc (Nat.le_refl _) _⟩

set_option maxRecDepth 100000 in
set_option maxHeartbeats 8000000 in
theorem spPieces_yes (num : Nat) (s : ByteArray) (w : World) (hn : num ≤ 100000) (hs : s.size ≤ 400) :
    Calls Try.prog 12 #[.int .i64 num, .string s] w fun e w' => PcPost w true (pcsL num s) e w' := by
  have hd : decide ((0 : Int) ≤ (num : Int) ∧ (num : Int) ≤ 100000) = true := decide_eq_true (by omega)
  have hs' : ¬ (400 < s.size) := by omega
  obtain ⟨hc0, hc1⟩ := cntN_le hs
  obtain ⟨N, hN⟩ : ∃ N, N = cntN s.size := ⟨_, rfl⟩
  rw [← hN] at hc0 hc1
  have HN : Hid (N = cntN s.size) := hN
  have S0 : Hid (OwnS (w.alloc (.cells #[] 9)) w.heap.size (.slice (some ⟨w.heap.size, 0, none⟩) 0 0) ((List.range 0).map (pcS num s))) := OwnS.made w w.heap.size (Nat.le_refl _)
  have B0 : Hid (Below w.heap.size w (w.alloc (.cells #[] 9))) := (Below.refl _ _).alloc (Nat.le_refl _) _
  by_cases hz : s.size = 0
  · have hq0 : ((s.size : Int) + 40 - 1) / 40 = 0 := by omega
    have hN1 : N = 1 := by rw [hN, hz]; rfl
    have HN1 : Hid (cntN s.size = 1) := by rw [← hN]; exact hN1
    clear hz hN HN hc0 hc1 hN1
    go_enter Try.func12, Try.ntmps12
    go_wp2_with (first | (go_at_call 41; refine (in_is _ hd).mono ?_; rintro e w1 ⟨rfl, rfl⟩))
    go_loopw [6, 8] (fun v i wr => ∃ (k : Nat), k ≤ 1 ∧ i = .int .i64 k ∧ Hid (OwnS wr w.heap.size v ((List.range k).map (pcS num s))) ∧ Hid (Below w.heap.size w wr)) (fun _ i _ => 1 - (intOf i).toNat)
    case atStart => exact ⟨0, Nat.zero_le _, rfl, S0, B0⟩
    case round =>
      clear S0 B0 hq0
      obtain ⟨k, hk, rfl, hS, hb⟩ := hrel
      by_cases hlt : k < 1
      · have hkm : 40 * k ≤ s.size := by have := HN1.out; unfold cntN at this; split at this <;> omega
        have hlk : ((List.range k).map (pcS num s)).length < 4000000 := by rw [List.length_map, List.length_range]; omega
        by_cases hE : s.size < 40 * k + 40
        · have hel : 40 * k + lenN s.size k = s.size := by unfold lenN; omega
          have HEL : Hid (40 * k + lenN s.size k = s.size) := hel
          have hE1 : (s.size : Int) < ((k : Int) + 1) * 40 := by omega
          clear hel
          have v1 := varS_short num hn
          have v2 := varS_short k (by omega)
          have v3 := varS_short 1 (by omega)
          have m0 : (0 : Int) ≤ (k : Int) * 40 := by omega
          have p0 : (0 : Int) ≤ ((k : Int) + 1) * 40 := by omega
          have p1 : (k : Int) ≤ (k : Int) + 1 := by omega
          have gA : Hid (¬ (9223372036854775807 < (varS num).size + (varS k).size)) := by show ¬ _; omega
          have gB : Hid (¬ (9223372036854775807 < (varS num ++ varS k).size + (varS 1).size)) := by show ¬ _; rw [app_size]; omega
          have gB2 : Hid (¬ (9223372036854775807 < (varS num).size + (varS k).size + (varS 1).size)) := by show ¬ _; omega
          have gC : Hid (¬ (9223372036854775807 < (varS num ++ varS k ++ varS 1).size + (s.extract ((k : Int) * 40).toNat s.size).size)) := by show ¬ _; rw [app_size, app_size, ByteArray.size_extract]; omega
          have gC2 : Hid (¬ (9223372036854775807 < (varS num).size + (varS k).size + (varS 1).size + (s.size - ((k : Int) * 40).toNat))) := by show ¬ _; omega
          have m1 : (k : Int) * 40 ≤ (s.size : Int) := by omega
          have m2 : IntKind.i64.wrap ((k : Int) * 40) = (k : Int) * 40 := by rw [IntKind.wrap_i64]; omega
          go_wp2_with fail
          skip
          have HTR : Hid (Hid True) := trivial
          have c : Below wr.heap.size wr wr.drew := (Below.refl _ _).drew
          refine wp_region_held_drew (S := fun w' => Hid True) (by kernel_rfl) HTR.out (fun hHeld => ?_)
          refine wpAnyH_take (i := 0) (v := ?v0b14) rfl (by kernel_rfl) (by kernel_rfl) (by kernel_rfl) (fun _ _ _ h => h) (Or.inl ⟨by rfl, ?hy0b14⟩) (by assumption) ?_
          case hy0b14 => (intro w hSw; (try dsimp only at hSw); simp only [List.getElem_toArray, List.getElem_cons_zero, List.getElem_cons_succ]; go_simp; try with_reducible rfl)
          try simp only [Act.put, List.getElem_toArray, List.getElem_cons_zero, List.getElem_cons_succ, List.setIfInBounds_toArray, List.set_cons_zero, List.set_cons_succ]
          refine wpAnyH_take (i := 1) (v := ?v1b15) rfl (by kernel_rfl) (by kernel_rfl) (by kernel_rfl) (fun _ _ _ h => h) (Or.inl ⟨by rfl, ?hy1b15⟩) (by assumption) ?_
          case hy1b15 => (intro w hSw; (try dsimp only at hSw); simp only [List.getElem_toArray, List.getElem_cons_zero, List.getElem_cons_succ]; go_simp; try with_reducible rfl)
          try simp only [Act.put, List.getElem_toArray, List.getElem_cons_zero, List.getElem_cons_succ, List.setIfInBounds_toArray, List.set_cons_zero, List.set_cons_succ]
          refine wpAnyH_take (i := 3) (v := ?v3b16) rfl (by kernel_rfl) (by kernel_rfl) (by kernel_rfl) (fun _ _ _ h => h) (Or.inl ⟨by rfl, ?hy3b16⟩) (by assumption) ?_
          case hy3b16 => (intro w hSw; (try dsimp only at hSw); simp only [List.getElem_toArray, List.getElem_cons_zero, List.getElem_cons_succ]; go_simp; try with_reducible rfl)
          try simp only [Act.put, List.getElem_toArray, List.getElem_cons_zero, List.getElem_cons_succ, List.setIfInBounds_toArray, List.set_cons_zero, List.set_cons_succ]
          refine wpAnyH_take (i := 6) (v := ?v6b17) rfl (by kernel_rfl) (by kernel_rfl) (by kernel_rfl) (fun _ _ _ h => h) (Or.inl ⟨by rfl, ?hy6b17⟩) (by assumption) ?_
          case hy6b17 => (intro w hSw; (try dsimp only at hSw); simp only [List.getElem_toArray, List.getElem_cons_zero, List.getElem_cons_succ]; go_simp; try with_reducible rfl)
          try simp only [Act.put, List.getElem_toArray, List.getElem_cons_zero, List.getElem_cons_succ, List.setIfInBounds_toArray, List.set_cons_zero, List.set_cons_succ]
          refine wpAnyH_take (i := 9) (v := ?v9b18) rfl (by kernel_rfl) (by kernel_rfl) (by kernel_rfl) (fun _ _ _ h => h) (Or.inl ⟨by rfl, ?hy9b18⟩) (by assumption) ?_
          case hy9b18 => (intro w hSw; (try dsimp only at hSw); simp only [List.getElem_toArray, List.getElem_cons_zero, List.getElem_cons_succ]; go_simp; try with_reducible rfl)
          try simp only [Act.put, List.getElem_toArray, List.getElem_cons_zero, List.getElem_cons_succ, List.setIfInBounds_toArray, List.set_cons_zero, List.set_cons_succ]
          refine wpAnyH_take (i := 10) (v := ?v10b19) rfl (by kernel_rfl) (by kernel_rfl) (by kernel_rfl) (fun _ _ _ h => h) (Or.inl ⟨by rfl, ?hy10b19⟩) (by assumption) ?_
          case hy10b19 => (intro w hSw; (try dsimp only at hSw); simp only [List.getElem_toArray, List.getElem_cons_zero, List.getElem_cons_succ]; go_simp; try with_reducible rfl)
          try simp only [Act.put, List.getElem_toArray, List.getElem_cons_zero, List.getElem_cons_succ, List.setIfInBounds_toArray, List.set_cons_zero, List.set_cons_succ]
          refine wpAnyH_take (i := 11) (v := ?v11b20) rfl (by kernel_rfl) (by kernel_rfl) (by kernel_rfl) (fun _ _ _ h => h) (Or.inl ⟨by rfl, ?hy11b20⟩) (by assumption) ?_
          case hy11b20 => (intro w hSw; (try dsimp only at hSw); simp only [List.getElem_toArray, List.getElem_cons_zero, List.getElem_cons_succ]; go_simp; try with_reducible rfl)
          try simp only [Act.put, List.getElem_toArray, List.getElem_cons_zero, List.getElem_cons_succ, List.setIfInBounds_toArray, List.set_cons_zero, List.set_cons_succ]
          refine wpAnyH_take (i := 12) (v := ?v12b21) rfl (by kernel_rfl) (by kernel_rfl) (by kernel_rfl) (fun _ _ _ h => h) (Or.inl ⟨by rfl, ?hy12b21⟩) (by assumption) ?_
          case hy12b21 => (intro w hSw; (try dsimp only at hSw); simp only [List.getElem_toArray, List.getElem_cons_zero, List.getElem_cons_succ]; go_simp; try with_reducible rfl)
          try simp only [Act.put, List.getElem_toArray, List.getElem_cons_zero, List.getElem_cons_succ, List.setIfInBounds_toArray, List.set_cons_zero, List.set_cons_succ]
          refine wpAnyH_take (i := 13) (v := ?v13b22) rfl (by kernel_rfl) (by kernel_rfl) (by kernel_rfl) (fun _ _ _ h => h) (Or.inl ⟨by rfl, ?hy13b22⟩) (by assumption) ?_
          case hy13b22 => (intro w hSw; (try dsimp only at hSw); simp only [List.getElem_toArray, List.getElem_cons_zero, List.getElem_cons_succ]; go_simp; try with_reducible rfl)
          try simp only [Act.put, List.getElem_toArray, List.getElem_cons_zero, List.getElem_cons_succ, List.setIfInBounds_toArray, List.set_cons_zero, List.set_cons_succ]
          refine wpAnyH_ready (rs := [2]) (by kernel_rfl) (by simp) ?_
          refine AllReadyH.cons (i := 2) rfl (fun K hK => ?_) AllReadyH.nil
          rw [if_pos (by rfl)]
          simp only [List.getElem_toArray, List.getElem_cons_zero, List.getElem_cons_succ]
          go_simp
          refine (l01Var_any num wr.drew (by omega)).mono ?_
          rintro e y1 ⟨rfl, b⟩
          have c : Below wr.heap.size wr y1 := bl_next c b
          refine hK.out _ _ (HTR.out) (fun hHeld => ?_)
          clear hK K
          try simp only [Act.put, List.getElem_toArray, List.getElem_cons_zero, List.getElem_cons_succ, List.setIfInBounds_toArray, List.set_cons_zero, List.set_cons_succ]
          clear b
          refine wpAnyH_ready (rs := [4]) (by kernel_rfl) (by simp) ?_
          refine AllReadyH.cons (i := 4) rfl (fun K hK => ?_) AllReadyH.nil
          rw [if_pos (by rfl)]
          simp only [List.getElem_toArray, List.getElem_cons_zero, List.getElem_cons_succ]
          go_simp
          refine (l01Var_any k y1 (by omega)).mono ?_
          rintro e y2 ⟨rfl, b⟩
          have c : Below wr.heap.size wr y2 := bl_next c b
          refine hK.out _ _ (HTR.out) (fun hHeld => ?_)
          clear hK K
          try simp only [Act.put, List.getElem_toArray, List.getElem_cons_zero, List.getElem_cons_succ, List.setIfInBounds_toArray, List.set_cons_zero, List.set_cons_succ]
          clear b
          refine wpAnyH_take (i := 5) (v := ?v5c1) rfl (by kernel_rfl) (by kernel_rfl) (by kernel_rfl) (fun _ _ _ h => h) (Or.inl ⟨by rfl, ?hy5c1⟩) (by assumption) ?_
          case hy5c1 => (intro w hSw; (try dsimp only at hSw); simp only [List.getElem_toArray, List.getElem_cons_zero, List.getElem_cons_succ]; go_simp; refine if_neg ?_; exact gA.out)
          try simp only [Act.put, List.getElem_toArray, List.getElem_cons_zero, List.getElem_cons_succ, List.setIfInBounds_toArray, List.set_cons_zero, List.set_cons_succ]
          refine wpAnyH_ready (rs := [7]) (by kernel_rfl) (by simp) ?_
          refine AllReadyH.cons (i := 7) rfl (fun K hK => ?_) AllReadyH.nil
          rw [if_pos (by rfl)]
          simp only [List.getElem_toArray, List.getElem_cons_zero, List.getElem_cons_succ]
          go_simp
          refine (l01Var_any 1 y2 (by omega)).mono ?_
          rintro e y3 ⟨rfl, b⟩
          have c : Below wr.heap.size wr y3 := bl_next c b
          refine hK.out _ _ (HTR.out) (fun hHeld => ?_)
          clear hK K
          try simp only [Act.put, List.getElem_toArray, List.getElem_cons_zero, List.getElem_cons_succ, List.setIfInBounds_toArray, List.set_cons_zero, List.set_cons_succ]
          clear b
          refine wpAnyH_take (i := 8) (v := ?v8c2) rfl (by kernel_rfl) (by kernel_rfl) (by kernel_rfl) (fun _ _ _ h => h) (Or.inl ⟨by rfl, ?hy8c2⟩) (by assumption) ?_
          case hy8c2 => (intro w hSw; (try dsimp only at hSw); simp only [List.getElem_toArray, List.getElem_cons_zero, List.getElem_cons_succ]; go_simp; refine if_neg ?_; first | exact gB.out | exact gB2.out)
          try simp only [Act.put, List.getElem_toArray, List.getElem_cons_zero, List.getElem_cons_succ, List.setIfInBounds_toArray, List.set_cons_zero, List.set_cons_succ]
          refine wpAnyH_take (i := 14) (v := ?v14c3) rfl (by kernel_rfl) (by kernel_rfl) (by kernel_rfl) (fun _ _ _ h => h) (Or.inl ⟨by rfl, ?hy14c3⟩) (by assumption) ?_
          case hy14c3 => (intro w hSw; (try dsimp only at hSw); simp only [List.getElem_toArray, List.getElem_cons_zero, List.getElem_cons_succ]; go_simp; refine if_neg ?_; first | exact gC.out | exact gC2.out)
          try simp only [Act.put, List.getElem_toArray, List.getElem_cons_zero, List.getElem_cons_succ, List.setIfInBounds_toArray, List.set_cons_zero, List.set_cons_succ]
          refine wpAnyH_ready (rs := [15]) (by kernel_rfl) (by simp) ?_
          refine AllReadyH.cons (i := 15) rfl (fun K hK => ?_) AllReadyH.nil
          rw [if_pos (by rfl)]
          simp only [List.getElem_toArray, List.getElem_cons_zero, List.getElem_cons_succ]
          go_simp
          have c0 := c
          have c : Below wr.heap.size wr (y3.alloc (.cells #[.string (varS num ++ varS k ++ varS 1 ++ s.extract ((k : Int) * 40).toNat s.size)] 9)) := c.alloc c.size _
          refine hK.out _ _ (HTR.out) (fun hHeld => ?_)
          clear hK K
          try simp only [Act.put, List.getElem_toArray, List.getElem_cons_zero, List.getElem_cons_succ, List.setIfInBounds_toArray, List.set_cons_zero, List.set_cons_succ]
          refine wpAnyH_ready (rs := [16]) (by kernel_rfl) (by simp) ?_
          refine AllReadyH.cons (i := 16) rfl (fun K hK => ?_) AllReadyH.nil
          rw [if_pos (by rfl)]
          simp only [List.getElem_toArray, List.getElem_cons_zero, List.getElem_cons_succ]
          refine wp_pushSb _ _ 26 rfl Try.underlying26 Try.info9 w.heap.size u6 ((List.range k).map (pcS num s)) (by rfl) (ownS_later hS.out c0) (varS num ++ varS k ++ varS 1 ++ s.extract ((k : Int) * 40).toNat s.size) (by rfl) hlk (Nat.le_trans hb.out.size c0.size) ?_
          intro v9 w9 S9 G9 N9
          have B9 : Below w.heap.size w w9 := ((hb.out.trans (c0.mono hb.out.size)).alloc (Nat.le_trans hb.out.size c0.size) _).grown G9 (by simp; have := hb.out.size; have := c0.size; omega) (fun j hj => (hS.out.lt j hj).1)
          have c9 : Hid (True) := trivial
          refine hK.out _ _ (HTR.out) (fun hHeld => ?_)
          clear hK K
          try simp only [Act.put, List.getElem_toArray, List.getElem_cons_zero, List.getElem_cons_succ, List.setIfInBounds_toArray, List.set_cons_zero, List.set_cons_succ]
          refine wpAnyH_take (i := 17) (v := ?v17b26) rfl (by kernel_rfl) (by kernel_rfl) (by kernel_rfl) (fun _ _ _ h => h) (Or.inl ⟨by rfl, ?hy17b26⟩) (by assumption) ?_
          case hy17b26 => (intro w hSw; (try dsimp only at hSw); simp only [List.getElem_toArray, List.getElem_cons_zero, List.getElem_cons_succ]; go_simp; try with_reducible rfl)
          try simp only [Act.put, List.getElem_toArray, List.getElem_cons_zero, List.getElem_cons_succ, List.setIfInBounds_toArray, List.set_cons_zero, List.set_cons_succ]
          refine wpAnyH_done (by kernel_rfl) ?_ _
          have S10 : Hid (OwnS w9 w.heap.size v9 ((List.range (k + 1)).map (pcS num s))) := by
            show OwnS _ _ _ _
            rw [pcs_succ]
            have e : pcS num s k = varS num ++ varS k ++ varS 1 ++ s.extract ((k : Int) * 40).toNat s.size := by unfold pcS partP; rw [HN1.out, HEL.out, show ((k : Int) * 40).toNat = 40 * k by omega]
            rw [e]
            exact S9
          have B10 : Hid (Below w.heap.size w w9) := B9
          clear S9 G9 N9 B9 c c0 HTR
          go_wp2_with fail
          go_roundw
          case rel => exact ⟨k + 1, by omega, by go_num, S10, B10⟩
          case measure => simp [intOf]; omega
        · have hel : 40 * k + lenN s.size k = 40 * k + 40 := by unfold lenN; omega
          have HEL : Hid (40 * k + lenN s.size k = 40 * k + 40) := hel
          have hE1 : ¬ ((s.size : Int) < ((k : Int) + 1) * 40) := by omega
          clear hel
          have v1 := varS_short num hn
          have v2 := varS_short k (by omega)
          have v3 := varS_short 1 (by omega)
          have m0 : (0 : Int) ≤ (k : Int) * 40 := by omega
          have p0 : (0 : Int) ≤ ((k : Int) + 1) * 40 := by omega
          have p1 : (k : Int) ≤ (k : Int) + 1 := by omega
          have gA : Hid (¬ (9223372036854775807 < (varS num).size + (varS k).size)) := by show ¬ _; omega
          have gB : Hid (¬ (9223372036854775807 < (varS num ++ varS k).size + (varS 1).size)) := by show ¬ _; rw [app_size]; omega
          have gB2 : Hid (¬ (9223372036854775807 < (varS num).size + (varS k).size + (varS 1).size)) := by show ¬ _; omega
          have gC : Hid (¬ (9223372036854775807 < (varS num ++ varS k ++ varS 1).size + (s.extract ((k : Int) * 40).toNat (((k : Int) + 1) * 40).toNat).size)) := by show ¬ _; rw [app_size, app_size, ByteArray.size_extract]; omega
          have gC2 : Hid (¬ (9223372036854775807 < (varS num).size + (varS k).size + (varS 1).size + ((((k : Int) + 1) * 40).toNat - ((k : Int) * 40).toNat))) := by show ¬ _; omega
          have m1 : (k : Int) * 40 ≤ (s.size : Int) := by omega
          have m2 : IntKind.i64.wrap ((k : Int) * 40) = (k : Int) * 40 := by rw [IntKind.wrap_i64]; omega
          go_wp2_with fail
          skip
          have HTR : Hid (Hid True) := trivial
          have c : Below wr.heap.size wr wr.drew := (Below.refl _ _).drew
          refine wp_region_held_drew (S := fun w' => Hid True) (by kernel_rfl) HTR.out (fun hHeld => ?_)
          refine wpAnyH_take (i := 0) (v := ?v0b27) rfl (by kernel_rfl) (by kernel_rfl) (by kernel_rfl) (fun _ _ _ h => h) (Or.inl ⟨by rfl, ?hy0b27⟩) (by assumption) ?_
          case hy0b27 => (intro w hSw; (try dsimp only at hSw); simp only [List.getElem_toArray, List.getElem_cons_zero, List.getElem_cons_succ]; go_simp; try with_reducible rfl)
          try simp only [Act.put, List.getElem_toArray, List.getElem_cons_zero, List.getElem_cons_succ, List.setIfInBounds_toArray, List.set_cons_zero, List.set_cons_succ]
          refine wpAnyH_take (i := 1) (v := ?v1b28) rfl (by kernel_rfl) (by kernel_rfl) (by kernel_rfl) (fun _ _ _ h => h) (Or.inl ⟨by rfl, ?hy1b28⟩) (by assumption) ?_
          case hy1b28 => (intro w hSw; (try dsimp only at hSw); simp only [List.getElem_toArray, List.getElem_cons_zero, List.getElem_cons_succ]; go_simp; try with_reducible rfl)
          try simp only [Act.put, List.getElem_toArray, List.getElem_cons_zero, List.getElem_cons_succ, List.setIfInBounds_toArray, List.set_cons_zero, List.set_cons_succ]
          refine wpAnyH_take (i := 3) (v := ?v3b29) rfl (by kernel_rfl) (by kernel_rfl) (by kernel_rfl) (fun _ _ _ h => h) (Or.inl ⟨by rfl, ?hy3b29⟩) (by assumption) ?_
          case hy3b29 => (intro w hSw; (try dsimp only at hSw); simp only [List.getElem_toArray, List.getElem_cons_zero, List.getElem_cons_succ]; go_simp; try with_reducible rfl)
          try simp only [Act.put, List.getElem_toArray, List.getElem_cons_zero, List.getElem_cons_succ, List.setIfInBounds_toArray, List.set_cons_zero, List.set_cons_succ]
          refine wpAnyH_take (i := 6) (v := ?v6b30) rfl (by kernel_rfl) (by kernel_rfl) (by kernel_rfl) (fun _ _ _ h => h) (Or.inl ⟨by rfl, ?hy6b30⟩) (by assumption) ?_
          case hy6b30 => (intro w hSw; (try dsimp only at hSw); simp only [List.getElem_toArray, List.getElem_cons_zero, List.getElem_cons_succ]; go_simp; try with_reducible rfl)
          try simp only [Act.put, List.getElem_toArray, List.getElem_cons_zero, List.getElem_cons_succ, List.setIfInBounds_toArray, List.set_cons_zero, List.set_cons_succ]
          refine wpAnyH_take (i := 9) (v := ?v9b31) rfl (by kernel_rfl) (by kernel_rfl) (by kernel_rfl) (fun _ _ _ h => h) (Or.inl ⟨by rfl, ?hy9b31⟩) (by assumption) ?_
          case hy9b31 => (intro w hSw; (try dsimp only at hSw); simp only [List.getElem_toArray, List.getElem_cons_zero, List.getElem_cons_succ]; go_simp; try with_reducible rfl)
          try simp only [Act.put, List.getElem_toArray, List.getElem_cons_zero, List.getElem_cons_succ, List.setIfInBounds_toArray, List.set_cons_zero, List.set_cons_succ]
          refine wpAnyH_take (i := 10) (v := ?v10b32) rfl (by kernel_rfl) (by kernel_rfl) (by kernel_rfl) (fun _ _ _ h => h) (Or.inl ⟨by rfl, ?hy10b32⟩) (by assumption) ?_
          case hy10b32 => (intro w hSw; (try dsimp only at hSw); simp only [List.getElem_toArray, List.getElem_cons_zero, List.getElem_cons_succ]; go_simp; try with_reducible rfl)
          try simp only [Act.put, List.getElem_toArray, List.getElem_cons_zero, List.getElem_cons_succ, List.setIfInBounds_toArray, List.set_cons_zero, List.set_cons_succ]
          refine wpAnyH_take (i := 11) (v := ?v11b33) rfl (by kernel_rfl) (by kernel_rfl) (by kernel_rfl) (fun _ _ _ h => h) (Or.inl ⟨by rfl, ?hy11b33⟩) (by assumption) ?_
          case hy11b33 => (intro w hSw; (try dsimp only at hSw); simp only [List.getElem_toArray, List.getElem_cons_zero, List.getElem_cons_succ]; go_simp; try with_reducible rfl)
          try simp only [Act.put, List.getElem_toArray, List.getElem_cons_zero, List.getElem_cons_succ, List.setIfInBounds_toArray, List.set_cons_zero, List.set_cons_succ]
          refine wpAnyH_take (i := 12) (v := ?v12b34) rfl (by kernel_rfl) (by kernel_rfl) (by kernel_rfl) (fun _ _ _ h => h) (Or.inl ⟨by rfl, ?hy12b34⟩) (by assumption) ?_
          case hy12b34 => (intro w hSw; (try dsimp only at hSw); simp only [List.getElem_toArray, List.getElem_cons_zero, List.getElem_cons_succ]; go_simp; try with_reducible rfl)
          try simp only [Act.put, List.getElem_toArray, List.getElem_cons_zero, List.getElem_cons_succ, List.setIfInBounds_toArray, List.set_cons_zero, List.set_cons_succ]
          refine wpAnyH_take (i := 13) (v := ?v13b35) rfl (by kernel_rfl) (by kernel_rfl) (by kernel_rfl) (fun _ _ _ h => h) (Or.inl ⟨by rfl, ?hy13b35⟩) (by assumption) ?_
          case hy13b35 => (intro w hSw; (try dsimp only at hSw); simp only [List.getElem_toArray, List.getElem_cons_zero, List.getElem_cons_succ]; go_simp; try with_reducible rfl)
          try simp only [Act.put, List.getElem_toArray, List.getElem_cons_zero, List.getElem_cons_succ, List.setIfInBounds_toArray, List.set_cons_zero, List.set_cons_succ]
          refine wpAnyH_ready (rs := [2]) (by kernel_rfl) (by simp) ?_
          refine AllReadyH.cons (i := 2) rfl (fun K hK => ?_) AllReadyH.nil
          rw [if_pos (by rfl)]
          simp only [List.getElem_toArray, List.getElem_cons_zero, List.getElem_cons_succ]
          go_simp
          refine (l01Var_any num wr.drew (by omega)).mono ?_
          rintro e y1 ⟨rfl, b⟩
          have c : Below wr.heap.size wr y1 := bl_next c b
          refine hK.out _ _ (HTR.out) (fun hHeld => ?_)
          clear hK K
          try simp only [Act.put, List.getElem_toArray, List.getElem_cons_zero, List.getElem_cons_succ, List.setIfInBounds_toArray, List.set_cons_zero, List.set_cons_succ]
          clear b
          refine wpAnyH_ready (rs := [4]) (by kernel_rfl) (by simp) ?_
          refine AllReadyH.cons (i := 4) rfl (fun K hK => ?_) AllReadyH.nil
          rw [if_pos (by rfl)]
          simp only [List.getElem_toArray, List.getElem_cons_zero, List.getElem_cons_succ]
          go_simp
          refine (l01Var_any k y1 (by omega)).mono ?_
          rintro e y2 ⟨rfl, b⟩
          have c : Below wr.heap.size wr y2 := bl_next c b
          refine hK.out _ _ (HTR.out) (fun hHeld => ?_)
          clear hK K
          try simp only [Act.put, List.getElem_toArray, List.getElem_cons_zero, List.getElem_cons_succ, List.setIfInBounds_toArray, List.set_cons_zero, List.set_cons_succ]
          clear b
          refine wpAnyH_take (i := 5) (v := ?v5c4) rfl (by kernel_rfl) (by kernel_rfl) (by kernel_rfl) (fun _ _ _ h => h) (Or.inl ⟨by rfl, ?hy5c4⟩) (by assumption) ?_
          case hy5c4 => (intro w hSw; (try dsimp only at hSw); simp only [List.getElem_toArray, List.getElem_cons_zero, List.getElem_cons_succ]; go_simp; refine if_neg ?_; exact gA.out)
          try simp only [Act.put, List.getElem_toArray, List.getElem_cons_zero, List.getElem_cons_succ, List.setIfInBounds_toArray, List.set_cons_zero, List.set_cons_succ]
          refine wpAnyH_ready (rs := [7]) (by kernel_rfl) (by simp) ?_
          refine AllReadyH.cons (i := 7) rfl (fun K hK => ?_) AllReadyH.nil
          rw [if_pos (by rfl)]
          simp only [List.getElem_toArray, List.getElem_cons_zero, List.getElem_cons_succ]
          go_simp
          refine (l01Var_any 1 y2 (by omega)).mono ?_
          rintro e y3 ⟨rfl, b⟩
          have c : Below wr.heap.size wr y3 := bl_next c b
          refine hK.out _ _ (HTR.out) (fun hHeld => ?_)
          clear hK K
          try simp only [Act.put, List.getElem_toArray, List.getElem_cons_zero, List.getElem_cons_succ, List.setIfInBounds_toArray, List.set_cons_zero, List.set_cons_succ]
          clear b
          refine wpAnyH_take (i := 8) (v := ?v8c5) rfl (by kernel_rfl) (by kernel_rfl) (by kernel_rfl) (fun _ _ _ h => h) (Or.inl ⟨by rfl, ?hy8c5⟩) (by assumption) ?_
          case hy8c5 => (intro w hSw; (try dsimp only at hSw); simp only [List.getElem_toArray, List.getElem_cons_zero, List.getElem_cons_succ]; go_simp; refine if_neg ?_; first | exact gB.out | exact gB2.out)
          try simp only [Act.put, List.getElem_toArray, List.getElem_cons_zero, List.getElem_cons_succ, List.setIfInBounds_toArray, List.set_cons_zero, List.set_cons_succ]
          refine wpAnyH_take (i := 14) (v := ?v14c6) rfl (by kernel_rfl) (by kernel_rfl) (by kernel_rfl) (fun _ _ _ h => h) (Or.inl ⟨by rfl, ?hy14c6⟩) (by assumption) ?_
          case hy14c6 => (intro w hSw; (try dsimp only at hSw); simp only [List.getElem_toArray, List.getElem_cons_zero, List.getElem_cons_succ]; go_simp; refine if_neg ?_; first | exact gC.out | exact gC2.out)
          try simp only [Act.put, List.getElem_toArray, List.getElem_cons_zero, List.getElem_cons_succ, List.setIfInBounds_toArray, List.set_cons_zero, List.set_cons_succ]
          refine wpAnyH_ready (rs := [15]) (by kernel_rfl) (by simp) ?_
          refine AllReadyH.cons (i := 15) rfl (fun K hK => ?_) AllReadyH.nil
          rw [if_pos (by rfl)]
          simp only [List.getElem_toArray, List.getElem_cons_zero, List.getElem_cons_succ]
          go_simp
          have c0 := c
          have c : Below wr.heap.size wr (y3.alloc (.cells #[.string (varS num ++ varS k ++ varS 1 ++ s.extract ((k : Int) * 40).toNat (((k : Int) + 1) * 40).toNat)] 9)) := c.alloc c.size _
          refine hK.out _ _ (HTR.out) (fun hHeld => ?_)
          clear hK K
          try simp only [Act.put, List.getElem_toArray, List.getElem_cons_zero, List.getElem_cons_succ, List.setIfInBounds_toArray, List.set_cons_zero, List.set_cons_succ]
          refine wpAnyH_ready (rs := [16]) (by kernel_rfl) (by simp) ?_
          refine AllReadyH.cons (i := 16) rfl (fun K hK => ?_) AllReadyH.nil
          rw [if_pos (by rfl)]
          simp only [List.getElem_toArray, List.getElem_cons_zero, List.getElem_cons_succ]
          refine wp_pushSb _ _ 26 rfl Try.underlying26 Try.info9 w.heap.size u6 ((List.range k).map (pcS num s)) (by rfl) (ownS_later hS.out c0) (varS num ++ varS k ++ varS 1 ++ s.extract ((k : Int) * 40).toNat (((k : Int) + 1) * 40).toNat) (by rfl) hlk (Nat.le_trans hb.out.size c0.size) ?_
          intro v9 w9 S9 G9 N9
          have B9 : Below w.heap.size w w9 := ((hb.out.trans (c0.mono hb.out.size)).alloc (Nat.le_trans hb.out.size c0.size) _).grown G9 (by simp; have := hb.out.size; have := c0.size; omega) (fun j hj => (hS.out.lt j hj).1)
          have c9 : Hid (True) := trivial
          refine hK.out _ _ (HTR.out) (fun hHeld => ?_)
          clear hK K
          try simp only [Act.put, List.getElem_toArray, List.getElem_cons_zero, List.getElem_cons_succ, List.setIfInBounds_toArray, List.set_cons_zero, List.set_cons_succ]
          refine wpAnyH_take (i := 17) (v := ?v17b39) rfl (by kernel_rfl) (by kernel_rfl) (by kernel_rfl) (fun _ _ _ h => h) (Or.inl ⟨by rfl, ?hy17b39⟩) (by assumption) ?_
          case hy17b39 => (intro w hSw; (try dsimp only at hSw); simp only [List.getElem_toArray, List.getElem_cons_zero, List.getElem_cons_succ]; go_simp; try with_reducible rfl)
          try simp only [Act.put, List.getElem_toArray, List.getElem_cons_zero, List.getElem_cons_succ, List.setIfInBounds_toArray, List.set_cons_zero, List.set_cons_succ]
          refine wpAnyH_done (by kernel_rfl) ?_ _
          have S10 : Hid (OwnS w9 w.heap.size v9 ((List.range (k + 1)).map (pcS num s))) := by
            show OwnS _ _ _ _
            rw [pcs_succ]
            have e : pcS num s k = varS num ++ varS k ++ varS 1 ++ s.extract ((k : Int) * 40).toNat (((k : Int) + 1) * 40).toNat := by unfold pcS partP; rw [HN1.out, HEL.out, show ((k : Int) * 40).toNat = 40 * k by omega]; rw [show (((k : Int) + 1) * 40).toNat = 40 * k + 40 by omega]
            rw [e]
            exact S9
          have B10 : Hid (Below w.heap.size w w9) := B9
          clear S9 G9 N9 B9 c c0 HTR
          go_wp2_with fail
          go_roundw
          case rel => exact ⟨k + 1, by omega, by go_num, S10, B10⟩
          case measure => simp [intOf]; omega
      · obtain rfl : k = 1 := by omega
        go_wp2_with fail
        go_ret2
        refine ⟨_, rfl, ?_, hb.out⟩
        unfold pcsL
        rw [HN1.out]
        exact hS.out
  · have hq0 : ((s.size : Int) + 40 - 1) / 40 = (N : Int) := by
      rw [hN]; unfold cntN; rw [if_neg hz]; omega
    have HN1 : Hid (cntN s.size = N) := hN.symm
    clear hz hN HN
    have hN0 : ((N : Int) == 0) = false := by simp; omega
    go_enter Try.func12, Try.ntmps12
    go_wp2_with (first | (go_at_call 41; refine (in_is _ hd).mono ?_; rintro e w1 ⟨rfl, rfl⟩))
    simp only [hq0, hN0]
    go_loopw [6, 8] (fun v i wr => ∃ (k : Nat), k ≤ N ∧ i = .int .i64 k ∧ Hid (OwnS wr w.heap.size v ((List.range k).map (pcS num s))) ∧ Hid (Below w.heap.size w wr)) (fun _ i _ => N - (intOf i).toNat)
    case atStart => exact ⟨0, Nat.zero_le _, rfl, S0, B0⟩
    case round =>
      clear S0 B0 hq0
      obtain ⟨k, hk, rfl, hS, hb⟩ := hrel
      by_cases hlt : k < N
      · have hkm : 40 * k ≤ s.size := by have := HN1.out; unfold cntN at this; split at this <;> omega
        have hlk : ((List.range k).map (pcS num s)).length < 4000000 := by rw [List.length_map, List.length_range]; omega
        by_cases hE : s.size < 40 * k + 40
        · have hel : 40 * k + lenN s.size k = s.size := by unfold lenN; omega
          have HEL : Hid (40 * k + lenN s.size k = s.size) := hel
          have hE1 : (s.size : Int) < ((k : Int) + 1) * 40 := by omega
          clear hel
          have v1 := varS_short num hn
          have v2 := varS_short k (by omega)
          have v3 := varS_short N (by omega)
          have m0 : (0 : Int) ≤ (k : Int) * 40 := by omega
          have p0 : (0 : Int) ≤ ((k : Int) + 1) * 40 := by omega
          have p1 : (k : Int) ≤ (k : Int) + 1 := by omega
          have gA : Hid (¬ (9223372036854775807 < (varS num).size + (varS k).size)) := by show ¬ _; omega
          have gB : Hid (¬ (9223372036854775807 < (varS num ++ varS k).size + (varS N).size)) := by show ¬ _; rw [app_size]; omega
          have gB2 : Hid (¬ (9223372036854775807 < (varS num).size + (varS k).size + (varS N).size)) := by show ¬ _; omega
          have gC : Hid (¬ (9223372036854775807 < (varS num ++ varS k ++ varS N).size + (s.extract ((k : Int) * 40).toNat s.size).size)) := by show ¬ _; rw [app_size, app_size, ByteArray.size_extract]; omega
          have gC2 : Hid (¬ (9223372036854775807 < (varS num).size + (varS k).size + (varS N).size + (s.size - ((k : Int) * 40).toNat))) := by show ¬ _; omega
          have m1 : (k : Int) * 40 ≤ (s.size : Int) := by omega
          have m2 : IntKind.i64.wrap ((k : Int) * 40) = (k : Int) * 40 := by rw [IntKind.wrap_i64]; omega
          go_wp2_with fail
          skip
          have HTR : Hid (Hid True) := trivial
          have c : Below wr.heap.size wr wr.drew := (Below.refl _ _).drew
          refine wp_region_held_drew (S := fun w' => Hid True) (by kernel_rfl) HTR.out (fun hHeld => ?_)
          refine wpAnyH_take (i := 0) (v := ?v0b40) rfl (by kernel_rfl) (by kernel_rfl) (by kernel_rfl) (fun _ _ _ h => h) (Or.inl ⟨by rfl, ?hy0b40⟩) (by assumption) ?_
          case hy0b40 => (intro w hSw; (try dsimp only at hSw); simp only [List.getElem_toArray, List.getElem_cons_zero, List.getElem_cons_succ]; go_simp; try with_reducible rfl)
          try simp only [Act.put, List.getElem_toArray, List.getElem_cons_zero, List.getElem_cons_succ, List.setIfInBounds_toArray, List.set_cons_zero, List.set_cons_succ]
          refine wpAnyH_take (i := 1) (v := ?v1b41) rfl (by kernel_rfl) (by kernel_rfl) (by kernel_rfl) (fun _ _ _ h => h) (Or.inl ⟨by rfl, ?hy1b41⟩) (by assumption) ?_
          case hy1b41 => (intro w hSw; (try dsimp only at hSw); simp only [List.getElem_toArray, List.getElem_cons_zero, List.getElem_cons_succ]; go_simp; try with_reducible rfl)
          try simp only [Act.put, List.getElem_toArray, List.getElem_cons_zero, List.getElem_cons_succ, List.setIfInBounds_toArray, List.set_cons_zero, List.set_cons_succ]
          refine wpAnyH_take (i := 3) (v := ?v3b42) rfl (by kernel_rfl) (by kernel_rfl) (by kernel_rfl) (fun _ _ _ h => h) (Or.inl ⟨by rfl, ?hy3b42⟩) (by assumption) ?_
          case hy3b42 => (intro w hSw; (try dsimp only at hSw); simp only [List.getElem_toArray, List.getElem_cons_zero, List.getElem_cons_succ]; go_simp; try with_reducible rfl)
          try simp only [Act.put, List.getElem_toArray, List.getElem_cons_zero, List.getElem_cons_succ, List.setIfInBounds_toArray, List.set_cons_zero, List.set_cons_succ]
          refine wpAnyH_take (i := 6) (v := ?v6b43) rfl (by kernel_rfl) (by kernel_rfl) (by kernel_rfl) (fun _ _ _ h => h) (Or.inl ⟨by rfl, ?hy6b43⟩) (by assumption) ?_
          case hy6b43 => (intro w hSw; (try dsimp only at hSw); simp only [List.getElem_toArray, List.getElem_cons_zero, List.getElem_cons_succ]; go_simp; try with_reducible rfl)
          try simp only [Act.put, List.getElem_toArray, List.getElem_cons_zero, List.getElem_cons_succ, List.setIfInBounds_toArray, List.set_cons_zero, List.set_cons_succ]
          refine wpAnyH_take (i := 9) (v := ?v9b44) rfl (by kernel_rfl) (by kernel_rfl) (by kernel_rfl) (fun _ _ _ h => h) (Or.inl ⟨by rfl, ?hy9b44⟩) (by assumption) ?_
          case hy9b44 => (intro w hSw; (try dsimp only at hSw); simp only [List.getElem_toArray, List.getElem_cons_zero, List.getElem_cons_succ]; go_simp; try with_reducible rfl)
          try simp only [Act.put, List.getElem_toArray, List.getElem_cons_zero, List.getElem_cons_succ, List.setIfInBounds_toArray, List.set_cons_zero, List.set_cons_succ]
          refine wpAnyH_take (i := 10) (v := ?v10b45) rfl (by kernel_rfl) (by kernel_rfl) (by kernel_rfl) (fun _ _ _ h => h) (Or.inl ⟨by rfl, ?hy10b45⟩) (by assumption) ?_
          case hy10b45 => (intro w hSw; (try dsimp only at hSw); simp only [List.getElem_toArray, List.getElem_cons_zero, List.getElem_cons_succ]; go_simp; try with_reducible rfl)
          try simp only [Act.put, List.getElem_toArray, List.getElem_cons_zero, List.getElem_cons_succ, List.setIfInBounds_toArray, List.set_cons_zero, List.set_cons_succ]
          refine wpAnyH_take (i := 11) (v := ?v11b46) rfl (by kernel_rfl) (by kernel_rfl) (by kernel_rfl) (fun _ _ _ h => h) (Or.inl ⟨by rfl, ?hy11b46⟩) (by assumption) ?_
          case hy11b46 => (intro w hSw; (try dsimp only at hSw); simp only [List.getElem_toArray, List.getElem_cons_zero, List.getElem_cons_succ]; go_simp; try with_reducible rfl)
          try simp only [Act.put, List.getElem_toArray, List.getElem_cons_zero, List.getElem_cons_succ, List.setIfInBounds_toArray, List.set_cons_zero, List.set_cons_succ]
          refine wpAnyH_take (i := 12) (v := ?v12b47) rfl (by kernel_rfl) (by kernel_rfl) (by kernel_rfl) (fun _ _ _ h => h) (Or.inl ⟨by rfl, ?hy12b47⟩) (by assumption) ?_
          case hy12b47 => (intro w hSw; (try dsimp only at hSw); simp only [List.getElem_toArray, List.getElem_cons_zero, List.getElem_cons_succ]; go_simp; try with_reducible rfl)
          try simp only [Act.put, List.getElem_toArray, List.getElem_cons_zero, List.getElem_cons_succ, List.setIfInBounds_toArray, List.set_cons_zero, List.set_cons_succ]
          refine wpAnyH_take (i := 13) (v := ?v13b48) rfl (by kernel_rfl) (by kernel_rfl) (by kernel_rfl) (fun _ _ _ h => h) (Or.inl ⟨by rfl, ?hy13b48⟩) (by assumption) ?_
          case hy13b48 => (intro w hSw; (try dsimp only at hSw); simp only [List.getElem_toArray, List.getElem_cons_zero, List.getElem_cons_succ]; go_simp; try with_reducible rfl)
          try simp only [Act.put, List.getElem_toArray, List.getElem_cons_zero, List.getElem_cons_succ, List.setIfInBounds_toArray, List.set_cons_zero, List.set_cons_succ]
          refine wpAnyH_ready (rs := [2]) (by kernel_rfl) (by simp) ?_
          refine AllReadyH.cons (i := 2) rfl (fun K hK => ?_) AllReadyH.nil
          rw [if_pos (by rfl)]
          simp only [List.getElem_toArray, List.getElem_cons_zero, List.getElem_cons_succ]
          go_simp
          refine (l01Var_any num wr.drew (by omega)).mono ?_
          rintro e y1 ⟨rfl, b⟩
          have c : Below wr.heap.size wr y1 := bl_next c b
          refine hK.out _ _ (HTR.out) (fun hHeld => ?_)
          clear hK K
          try simp only [Act.put, List.getElem_toArray, List.getElem_cons_zero, List.getElem_cons_succ, List.setIfInBounds_toArray, List.set_cons_zero, List.set_cons_succ]
          clear b
          refine wpAnyH_ready (rs := [4]) (by kernel_rfl) (by simp) ?_
          refine AllReadyH.cons (i := 4) rfl (fun K hK => ?_) AllReadyH.nil
          rw [if_pos (by rfl)]
          simp only [List.getElem_toArray, List.getElem_cons_zero, List.getElem_cons_succ]
          go_simp
          refine (l01Var_any k y1 (by omega)).mono ?_
          rintro e y2 ⟨rfl, b⟩
          have c : Below wr.heap.size wr y2 := bl_next c b
          refine hK.out _ _ (HTR.out) (fun hHeld => ?_)
          clear hK K
          try simp only [Act.put, List.getElem_toArray, List.getElem_cons_zero, List.getElem_cons_succ, List.setIfInBounds_toArray, List.set_cons_zero, List.set_cons_succ]
          clear b
          refine wpAnyH_take (i := 5) (v := ?v5c7) rfl (by kernel_rfl) (by kernel_rfl) (by kernel_rfl) (fun _ _ _ h => h) (Or.inl ⟨by rfl, ?hy5c7⟩) (by assumption) ?_
          case hy5c7 => (intro w hSw; (try dsimp only at hSw); simp only [List.getElem_toArray, List.getElem_cons_zero, List.getElem_cons_succ]; go_simp; refine if_neg ?_; exact gA.out)
          try simp only [Act.put, List.getElem_toArray, List.getElem_cons_zero, List.getElem_cons_succ, List.setIfInBounds_toArray, List.set_cons_zero, List.set_cons_succ]
          refine wpAnyH_ready (rs := [7]) (by kernel_rfl) (by simp) ?_
          refine AllReadyH.cons (i := 7) rfl (fun K hK => ?_) AllReadyH.nil
          rw [if_pos (by rfl)]
          simp only [List.getElem_toArray, List.getElem_cons_zero, List.getElem_cons_succ]
          go_simp
          refine (l01Var_any N y2 (by omega)).mono ?_
          rintro e y3 ⟨rfl, b⟩
          have c : Below wr.heap.size wr y3 := bl_next c b
          refine hK.out _ _ (HTR.out) (fun hHeld => ?_)
          clear hK K
          try simp only [Act.put, List.getElem_toArray, List.getElem_cons_zero, List.getElem_cons_succ, List.setIfInBounds_toArray, List.set_cons_zero, List.set_cons_succ]
          clear b
          refine wpAnyH_take (i := 8) (v := ?v8c8) rfl (by kernel_rfl) (by kernel_rfl) (by kernel_rfl) (fun _ _ _ h => h) (Or.inl ⟨by rfl, ?hy8c8⟩) (by assumption) ?_
          case hy8c8 => (intro w hSw; (try dsimp only at hSw); simp only [List.getElem_toArray, List.getElem_cons_zero, List.getElem_cons_succ]; go_simp; refine if_neg ?_; first | exact gB.out | exact gB2.out)
          try simp only [Act.put, List.getElem_toArray, List.getElem_cons_zero, List.getElem_cons_succ, List.setIfInBounds_toArray, List.set_cons_zero, List.set_cons_succ]
          refine wpAnyH_take (i := 14) (v := ?v14c9) rfl (by kernel_rfl) (by kernel_rfl) (by kernel_rfl) (fun _ _ _ h => h) (Or.inl ⟨by rfl, ?hy14c9⟩) (by assumption) ?_
          case hy14c9 => (intro w hSw; (try dsimp only at hSw); simp only [List.getElem_toArray, List.getElem_cons_zero, List.getElem_cons_succ]; go_simp; refine if_neg ?_; first | exact gC.out | exact gC2.out)
          try simp only [Act.put, List.getElem_toArray, List.getElem_cons_zero, List.getElem_cons_succ, List.setIfInBounds_toArray, List.set_cons_zero, List.set_cons_succ]
          refine wpAnyH_ready (rs := [15]) (by kernel_rfl) (by simp) ?_
          refine AllReadyH.cons (i := 15) rfl (fun K hK => ?_) AllReadyH.nil
          rw [if_pos (by rfl)]
          simp only [List.getElem_toArray, List.getElem_cons_zero, List.getElem_cons_succ]
          go_simp
          have c0 := c
          have c : Below wr.heap.size wr (y3.alloc (.cells #[.string (varS num ++ varS k ++ varS N ++ s.extract ((k : Int) * 40).toNat s.size)] 9)) := c.alloc c.size _
          refine hK.out _ _ (HTR.out) (fun hHeld => ?_)
          clear hK K
          try simp only [Act.put, List.getElem_toArray, List.getElem_cons_zero, List.getElem_cons_succ, List.setIfInBounds_toArray, List.set_cons_zero, List.set_cons_succ]
          refine wpAnyH_ready (rs := [16]) (by kernel_rfl) (by simp) ?_
          refine AllReadyH.cons (i := 16) rfl (fun K hK => ?_) AllReadyH.nil
          rw [if_pos (by rfl)]
          simp only [List.getElem_toArray, List.getElem_cons_zero, List.getElem_cons_succ]
          refine wp_pushSb _ _ 26 rfl Try.underlying26 Try.info9 w.heap.size u6 ((List.range k).map (pcS num s)) (by rfl) (ownS_later hS.out c0) (varS num ++ varS k ++ varS N ++ s.extract ((k : Int) * 40).toNat s.size) (by rfl) hlk (Nat.le_trans hb.out.size c0.size) ?_
          intro v9 w9 S9 G9 N9
          have B9 : Below w.heap.size w w9 := ((hb.out.trans (c0.mono hb.out.size)).alloc (Nat.le_trans hb.out.size c0.size) _).grown G9 (by simp; have := hb.out.size; have := c0.size; omega) (fun j hj => (hS.out.lt j hj).1)
          have c9 : Hid (True) := trivial
          refine hK.out _ _ (HTR.out) (fun hHeld => ?_)
          clear hK K
          try simp only [Act.put, List.getElem_toArray, List.getElem_cons_zero, List.getElem_cons_succ, List.setIfInBounds_toArray, List.set_cons_zero, List.set_cons_succ]
          refine wpAnyH_take (i := 17) (v := ?v17b52) rfl (by kernel_rfl) (by kernel_rfl) (by kernel_rfl) (fun _ _ _ h => h) (Or.inl ⟨by rfl, ?hy17b52⟩) (by assumption) ?_
          case hy17b52 => (intro w hSw; (try dsimp only at hSw); simp only [List.getElem_toArray, List.getElem_cons_zero, List.getElem_cons_succ]; go_simp; try with_reducible rfl)
          try simp only [Act.put, List.getElem_toArray, List.getElem_cons_zero, List.getElem_cons_succ, List.setIfInBounds_toArray, List.set_cons_zero, List.set_cons_succ]
          refine wpAnyH_done (by kernel_rfl) ?_ _
          have S10 : Hid (OwnS w9 w.heap.size v9 ((List.range (k + 1)).map (pcS num s))) := by
            show OwnS _ _ _ _
            rw [pcs_succ]
            have e : pcS num s k = varS num ++ varS k ++ varS N ++ s.extract ((k : Int) * 40).toNat s.size := by unfold pcS partP; rw [HN1.out, HEL.out, show ((k : Int) * 40).toNat = 40 * k by omega]
            rw [e]
            exact S9
          have B10 : Hid (Below w.heap.size w w9) := B9
          clear S9 G9 N9 B9 c c0 HTR
          go_wp2_with fail
          go_roundw
          case rel => exact ⟨k + 1, by omega, by go_num, S10, B10⟩
          case measure => simp [intOf]; omega
        · have hel : 40 * k + lenN s.size k = 40 * k + 40 := by unfold lenN; omega
          have HEL : Hid (40 * k + lenN s.size k = 40 * k + 40) := hel
          have hE1 : ¬ ((s.size : Int) < ((k : Int) + 1) * 40) := by omega
          clear hel
          have v1 := varS_short num hn
          have v2 := varS_short k (by omega)
          have v3 := varS_short N (by omega)
          have m0 : (0 : Int) ≤ (k : Int) * 40 := by omega
          have p0 : (0 : Int) ≤ ((k : Int) + 1) * 40 := by omega
          have p1 : (k : Int) ≤ (k : Int) + 1 := by omega
          have gA : Hid (¬ (9223372036854775807 < (varS num).size + (varS k).size)) := by show ¬ _; omega
          have gB : Hid (¬ (9223372036854775807 < (varS num ++ varS k).size + (varS N).size)) := by show ¬ _; rw [app_size]; omega
          have gB2 : Hid (¬ (9223372036854775807 < (varS num).size + (varS k).size + (varS N).size)) := by show ¬ _; omega
          have gC : Hid (¬ (9223372036854775807 < (varS num ++ varS k ++ varS N).size + (s.extract ((k : Int) * 40).toNat (((k : Int) + 1) * 40).toNat).size)) := by show ¬ _; rw [app_size, app_size, ByteArray.size_extract]; omega
          have gC2 : Hid (¬ (9223372036854775807 < (varS num).size + (varS k).size + (varS N).size + ((((k : Int) + 1) * 40).toNat - ((k : Int) * 40).toNat))) := by show ¬ _; omega
          have m1 : (k : Int) * 40 ≤ (s.size : Int) := by omega
          have m2 : IntKind.i64.wrap ((k : Int) * 40) = (k : Int) * 40 := by rw [IntKind.wrap_i64]; omega
          go_wp2_with fail
          skip
          have HTR : Hid (Hid True) := trivial
          have c : Below wr.heap.size wr wr.drew := (Below.refl _ _).drew
          refine wp_region_held_drew (S := fun w' => Hid True) (by kernel_rfl) HTR.out (fun hHeld => ?_)
          refine wpAnyH_take (i := 0) (v := ?v0b53) rfl (by kernel_rfl) (by kernel_rfl) (by kernel_rfl) (fun _ _ _ h => h) (Or.inl ⟨by rfl, ?hy0b53⟩) (by assumption) ?_
          case hy0b53 => (intro w hSw; (try dsimp only at hSw); simp only [List.getElem_toArray, List.getElem_cons_zero, List.getElem_cons_succ]; go_simp; try with_reducible rfl)
          try simp only [Act.put, List.getElem_toArray, List.getElem_cons_zero, List.getElem_cons_succ, List.setIfInBounds_toArray, List.set_cons_zero, List.set_cons_succ]
          refine wpAnyH_take (i := 1) (v := ?v1b54) rfl (by kernel_rfl) (by kernel_rfl) (by kernel_rfl) (fun _ _ _ h => h) (Or.inl ⟨by rfl, ?hy1b54⟩) (by assumption) ?_
          case hy1b54 => (intro w hSw; (try dsimp only at hSw); simp only [List.getElem_toArray, List.getElem_cons_zero, List.getElem_cons_succ]; go_simp; try with_reducible rfl)
          try simp only [Act.put, List.getElem_toArray, List.getElem_cons_zero, List.getElem_cons_succ, List.setIfInBounds_toArray, List.set_cons_zero, List.set_cons_succ]
          refine wpAnyH_take (i := 3) (v := ?v3b55) rfl (by kernel_rfl) (by kernel_rfl) (by kernel_rfl) (fun _ _ _ h => h) (Or.inl ⟨by rfl, ?hy3b55⟩) (by assumption) ?_
          case hy3b55 => (intro w hSw; (try dsimp only at hSw); simp only [List.getElem_toArray, List.getElem_cons_zero, List.getElem_cons_succ]; go_simp; try with_reducible rfl)
          try simp only [Act.put, List.getElem_toArray, List.getElem_cons_zero, List.getElem_cons_succ, List.setIfInBounds_toArray, List.set_cons_zero, List.set_cons_succ]
          refine wpAnyH_take (i := 6) (v := ?v6b56) rfl (by kernel_rfl) (by kernel_rfl) (by kernel_rfl) (fun _ _ _ h => h) (Or.inl ⟨by rfl, ?hy6b56⟩) (by assumption) ?_
          case hy6b56 => (intro w hSw; (try dsimp only at hSw); simp only [List.getElem_toArray, List.getElem_cons_zero, List.getElem_cons_succ]; go_simp; try with_reducible rfl)
          try simp only [Act.put, List.getElem_toArray, List.getElem_cons_zero, List.getElem_cons_succ, List.setIfInBounds_toArray, List.set_cons_zero, List.set_cons_succ]
          refine wpAnyH_take (i := 9) (v := ?v9b57) rfl (by kernel_rfl) (by kernel_rfl) (by kernel_rfl) (fun _ _ _ h => h) (Or.inl ⟨by rfl, ?hy9b57⟩) (by assumption) ?_
          case hy9b57 => (intro w hSw; (try dsimp only at hSw); simp only [List.getElem_toArray, List.getElem_cons_zero, List.getElem_cons_succ]; go_simp; try with_reducible rfl)
          try simp only [Act.put, List.getElem_toArray, List.getElem_cons_zero, List.getElem_cons_succ, List.setIfInBounds_toArray, List.set_cons_zero, List.set_cons_succ]
          refine wpAnyH_take (i := 10) (v := ?v10b58) rfl (by kernel_rfl) (by kernel_rfl) (by kernel_rfl) (fun _ _ _ h => h) (Or.inl ⟨by rfl, ?hy10b58⟩) (by assumption) ?_
          case hy10b58 => (intro w hSw; (try dsimp only at hSw); simp only [List.getElem_toArray, List.getElem_cons_zero, List.getElem_cons_succ]; go_simp; try with_reducible rfl)
          try simp only [Act.put, List.getElem_toArray, List.getElem_cons_zero, List.getElem_cons_succ, List.setIfInBounds_toArray, List.set_cons_zero, List.set_cons_succ]
          refine wpAnyH_take (i := 11) (v := ?v11b59) rfl (by kernel_rfl) (by kernel_rfl) (by kernel_rfl) (fun _ _ _ h => h) (Or.inl ⟨by rfl, ?hy11b59⟩) (by assumption) ?_
          case hy11b59 => (intro w hSw; (try dsimp only at hSw); simp only [List.getElem_toArray, List.getElem_cons_zero, List.getElem_cons_succ]; go_simp; try with_reducible rfl)
          try simp only [Act.put, List.getElem_toArray, List.getElem_cons_zero, List.getElem_cons_succ, List.setIfInBounds_toArray, List.set_cons_zero, List.set_cons_succ]
          refine wpAnyH_take (i := 12) (v := ?v12b60) rfl (by kernel_rfl) (by kernel_rfl) (by kernel_rfl) (fun _ _ _ h => h) (Or.inl ⟨by rfl, ?hy12b60⟩) (by assumption) ?_
          case hy12b60 => (intro w hSw; (try dsimp only at hSw); simp only [List.getElem_toArray, List.getElem_cons_zero, List.getElem_cons_succ]; go_simp; try with_reducible rfl)
          try simp only [Act.put, List.getElem_toArray, List.getElem_cons_zero, List.getElem_cons_succ, List.setIfInBounds_toArray, List.set_cons_zero, List.set_cons_succ]
          refine wpAnyH_take (i := 13) (v := ?v13b61) rfl (by kernel_rfl) (by kernel_rfl) (by kernel_rfl) (fun _ _ _ h => h) (Or.inl ⟨by rfl, ?hy13b61⟩) (by assumption) ?_
          case hy13b61 => (intro w hSw; (try dsimp only at hSw); simp only [List.getElem_toArray, List.getElem_cons_zero, List.getElem_cons_succ]; go_simp; try with_reducible rfl)
          try simp only [Act.put, List.getElem_toArray, List.getElem_cons_zero, List.getElem_cons_succ, List.setIfInBounds_toArray, List.set_cons_zero, List.set_cons_succ]
          refine wpAnyH_ready (rs := [2]) (by kernel_rfl) (by simp) ?_
          refine AllReadyH.cons (i := 2) rfl (fun K hK => ?_) AllReadyH.nil
          rw [if_pos (by rfl)]
          simp only [List.getElem_toArray, List.getElem_cons_zero, List.getElem_cons_succ]
          go_simp
          refine (l01Var_any num wr.drew (by omega)).mono ?_
          rintro e y1 ⟨rfl, b⟩
          have c : Below wr.heap.size wr y1 := bl_next c b
          refine hK.out _ _ (HTR.out) (fun hHeld => ?_)
          clear hK K
          try simp only [Act.put, List.getElem_toArray, List.getElem_cons_zero, List.getElem_cons_succ, List.setIfInBounds_toArray, List.set_cons_zero, List.set_cons_succ]
          clear b
          refine wpAnyH_ready (rs := [4]) (by kernel_rfl) (by simp) ?_
          refine AllReadyH.cons (i := 4) rfl (fun K hK => ?_) AllReadyH.nil
          rw [if_pos (by rfl)]
          simp only [List.getElem_toArray, List.getElem_cons_zero, List.getElem_cons_succ]
          go_simp
          refine (l01Var_any k y1 (by omega)).mono ?_
          rintro e y2 ⟨rfl, b⟩
          have c : Below wr.heap.size wr y2 := bl_next c b
          refine hK.out _ _ (HTR.out) (fun hHeld => ?_)
          clear hK K
          try simp only [Act.put, List.getElem_toArray, List.getElem_cons_zero, List.getElem_cons_succ, List.setIfInBounds_toArray, List.set_cons_zero, List.set_cons_succ]
          clear b
          refine wpAnyH_take (i := 5) (v := ?v5c10) rfl (by kernel_rfl) (by kernel_rfl) (by kernel_rfl) (fun _ _ _ h => h) (Or.inl ⟨by rfl, ?hy5c10⟩) (by assumption) ?_
          case hy5c10 => (intro w hSw; (try dsimp only at hSw); simp only [List.getElem_toArray, List.getElem_cons_zero, List.getElem_cons_succ]; go_simp; refine if_neg ?_; exact gA.out)
          try simp only [Act.put, List.getElem_toArray, List.getElem_cons_zero, List.getElem_cons_succ, List.setIfInBounds_toArray, List.set_cons_zero, List.set_cons_succ]
          refine wpAnyH_ready (rs := [7]) (by kernel_rfl) (by simp) ?_
          refine AllReadyH.cons (i := 7) rfl (fun K hK => ?_) AllReadyH.nil
          rw [if_pos (by rfl)]
          simp only [List.getElem_toArray, List.getElem_cons_zero, List.getElem_cons_succ]
          go_simp
          refine (l01Var_any N y2 (by omega)).mono ?_
          rintro e y3 ⟨rfl, b⟩
          have c : Below wr.heap.size wr y3 := bl_next c b
          refine hK.out _ _ (HTR.out) (fun hHeld => ?_)
          clear hK K
          try simp only [Act.put, List.getElem_toArray, List.getElem_cons_zero, List.getElem_cons_succ, List.setIfInBounds_toArray, List.set_cons_zero, List.set_cons_succ]
          clear b
          refine wpAnyH_take (i := 8) (v := ?v8c11) rfl (by kernel_rfl) (by kernel_rfl) (by kernel_rfl) (fun _ _ _ h => h) (Or.inl ⟨by rfl, ?hy8c11⟩) (by assumption) ?_
          case hy8c11 => (intro w hSw; (try dsimp only at hSw); simp only [List.getElem_toArray, List.getElem_cons_zero, List.getElem_cons_succ]; go_simp; refine if_neg ?_; first | exact gB.out | exact gB2.out)
          try simp only [Act.put, List.getElem_toArray, List.getElem_cons_zero, List.getElem_cons_succ, List.setIfInBounds_toArray, List.set_cons_zero, List.set_cons_succ]
          refine wpAnyH_take (i := 14) (v := ?v14c12) rfl (by kernel_rfl) (by kernel_rfl) (by kernel_rfl) (fun _ _ _ h => h) (Or.inl ⟨by rfl, ?hy14c12⟩) (by assumption) ?_
          case hy14c12 => (intro w hSw; (try dsimp only at hSw); simp only [List.getElem_toArray, List.getElem_cons_zero, List.getElem_cons_succ]; go_simp; refine if_neg ?_; first | exact gC.out | exact gC2.out)
          try simp only [Act.put, List.getElem_toArray, List.getElem_cons_zero, List.getElem_cons_succ, List.setIfInBounds_toArray, List.set_cons_zero, List.set_cons_succ]
          refine wpAnyH_ready (rs := [15]) (by kernel_rfl) (by simp) ?_
          refine AllReadyH.cons (i := 15) rfl (fun K hK => ?_) AllReadyH.nil
          rw [if_pos (by rfl)]
          simp only [List.getElem_toArray, List.getElem_cons_zero, List.getElem_cons_succ]
          go_simp
          have c0 := c
          have c : Below wr.heap.size wr (y3.alloc (.cells #[.string (varS num ++ varS k ++ varS N ++ s.extract ((k : Int) * 40).toNat (((k : Int) + 1) * 40).toNat)] 9)) := c.alloc c.size _
          refine hK.out _ _ (HTR.out) (fun hHeld => ?_)
          clear hK K
          try simp only [Act.put, List.getElem_toArray, List.getElem_cons_zero, List.getElem_cons_succ, List.setIfInBounds_toArray, List.set_cons_zero, List.set_cons_succ]
          refine wpAnyH_ready (rs := [16]) (by kernel_rfl) (by simp) ?_
          refine AllReadyH.cons (i := 16) rfl (fun K hK => ?_) AllReadyH.nil
          rw [if_pos (by rfl)]
          simp only [List.getElem_toArray, List.getElem_cons_zero, List.getElem_cons_succ]
          refine wp_pushSb _ _ 26 rfl Try.underlying26 Try.info9 w.heap.size u6 ((List.range k).map (pcS num s)) (by rfl) (ownS_later hS.out c0) (varS num ++ varS k ++ varS N ++ s.extract ((k : Int) * 40).toNat (((k : Int) + 1) * 40).toNat) (by rfl) hlk (Nat.le_trans hb.out.size c0.size) ?_
          intro v9 w9 S9 G9 N9
          have B9 : Below w.heap.size w w9 := ((hb.out.trans (c0.mono hb.out.size)).alloc (Nat.le_trans hb.out.size c0.size) _).grown G9 (by simp; have := hb.out.size; have := c0.size; omega) (fun j hj => (hS.out.lt j hj).1)
          have c9 : Hid (True) := trivial
          refine hK.out _ _ (HTR.out) (fun hHeld => ?_)
          clear hK K
          try simp only [Act.put, List.getElem_toArray, List.getElem_cons_zero, List.getElem_cons_succ, List.setIfInBounds_toArray, List.set_cons_zero, List.set_cons_succ]
          refine wpAnyH_take (i := 17) (v := ?v17b65) rfl (by kernel_rfl) (by kernel_rfl) (by kernel_rfl) (fun _ _ _ h => h) (Or.inl ⟨by rfl, ?hy17b65⟩) (by assumption) ?_
          case hy17b65 => (intro w hSw; (try dsimp only at hSw); simp only [List.getElem_toArray, List.getElem_cons_zero, List.getElem_cons_succ]; go_simp; try with_reducible rfl)
          try simp only [Act.put, List.getElem_toArray, List.getElem_cons_zero, List.getElem_cons_succ, List.setIfInBounds_toArray, List.set_cons_zero, List.set_cons_succ]
          refine wpAnyH_done (by kernel_rfl) ?_ _
          have S10 : Hid (OwnS w9 w.heap.size v9 ((List.range (k + 1)).map (pcS num s))) := by
            show OwnS _ _ _ _
            rw [pcs_succ]
            have e : pcS num s k = varS num ++ varS k ++ varS N ++ s.extract ((k : Int) * 40).toNat (((k : Int) + 1) * 40).toNat := by unfold pcS partP; rw [HN1.out, HEL.out, show ((k : Int) * 40).toNat = 40 * k by omega]; rw [show (((k : Int) + 1) * 40).toNat = 40 * k + 40 by omega]
            rw [e]
            exact S9
          have B10 : Hid (Below w.heap.size w w9) := B9
          clear S9 G9 N9 B9 c c0 HTR
          go_wp2_with fail
          go_roundw
          case rel => exact ⟨k + 1, by omega, by go_num, S10, B10⟩
          case measure => simp [intOf]; omega
      · obtain rfl : k = N := by omega
        go_wp2_with fail
        go_ret2
        refine ⟨_, rfl, ?_, hb.out⟩
        unfold pcsL
        rw [HN1.out]
        exact hS.out
end Go.Proofs.Ytfefjkldjaabbaa

