/- The walk over the specification's CutAt. -/
import Derived.Test.YtjjaklhpdckppaaC2
import Derived.Test.YtjjaklhpdckppaaOwT
import Derived.Laws.MakeOwn
namespace Go.Proofs.Ytjjaklhpdckppaa
open Go.RowKit Go.Sort Pl
set_option linter.unusedVariables false

theorem Try.info4 : (Try.prog.info? 4).map (fun i => (i.zero, i.size, i.bytes)) = some (some (.bool false), 1, 1) := by kernel_rfl

/-- which of the places 0 .. n the first k cut. -/
def marks (n : Nat) (zs : List Int) (k : Nat) : List Bool := (List.range (n + 1)).map (isCut n (zs.take k))
theorem marks_len (n : Nat) (zs : List Int) (k : Nat) : (marks n zs k).length = n + 1 := by simp [marks]
theorem marks_zero (n : Nat) (zs : List Int) : marks n zs 0 = List.replicate (n + 1) false := by
  unfold marks
  rw [List.eq_replicate_iff]
  refine ⟨by simp, fun b hb => ?_⟩
  obtain ⟨j, _, rfl⟩ := List.mem_map.1 hb
  simp [isCut]
theorem marks_next {n : Nat} {zs : List Int} {k : Nat} (hk : k < zs.length) : marks n zs (k + 1) = (marks n zs k).set (cutN n zs[k]) true := by
  apply List.ext_getElem
  · simp [marks]
  · intro j h1 h2
    have hj : j < n + 1 := by rwa [marks_len] at h1
    rw [List.getElem_set]
    simp only [marks, List.getElem_map, List.getElem_range]
    rw [List.take_succ_eq_append_getElem hk, isCut, isCut, List.any_append]
    by_cases e : cutN n zs[k] = j
    · rw [if_pos e]
      simp [e]
    · rw [if_neg e]
      simp [e]
theorem marks_at {n : Nat} {zs : List Int} {j : Nat} (hj : j < (marks n zs zs.length).length) : (marks n zs zs.length)[j] = isCut n zs j := by
  simp [marks]

set_option maxRecDepth 100000 in
set_option maxHeartbeats 2000000 in
theorem spcut_any (w : World) (s : ByteArray) (ao : Option Addr) (cap : Nat) (zs : List Int) (hx : Hid (IntsAt w ao zs)) (hl : zs.length ≤ 1048576) (hs : s.size ≤ 1048576) :
    Calls Try.prog 9 #[.string s, .slice ao zs.length cap] w fun e w' => ∃ v, e = .returned v ∧ OwnS w' w.heap.size v (pieces s (cutsL s.size zs)) ∧ Below w.heap.size w w' := by
  obtain ⟨i0, hi, hz0, hz1, hz2⟩ := info_parts Try.info4
  have hM : madeCells (Value.bool false).cells (s.size + 1) = ((List.replicate (s.size + 1) false).map Value.bool).toArray := by
    apply Array.ext'
    rw [show (Value.bool false).cells = #[Value.bool false] from rfl, toList_madeCells_one]
    simp
  have hmk : ∀ W : World, (Instr.makeSlice 41 (.int .i64 ((s.size : Int) + 1)) (.int .i64 ((s.size : Int) + 1))).run Try.prog W = .ok (.slice (some ⟨W.heap.size, 0, none⟩) (s.size + 1) (s.size + 1)) (W.alloc (.cells ((List.replicate (s.size + 1) false).map Value.bool).toArray 4)) := fun W => by
    have h := run_make (P := Try.prog) W 41 4 i0 (.bool false) Try.underlying41 hi hz0 .i64 .i64 ((s.size : Int) + 1) ((s.size : Int) + 1) (by omega) (by omega) (by rw [hz2]; omega) (by omega)
    rw [hz1, show ((s.size : Int) + 1).toNat = s.size + 1 by omega, Nat.mul_one, hM] at h
    simpa using h
  clear hM
  have H0 : Hid (OwnT (w.alloc (.cells ((List.replicate (s.size + 1) false).map Value.bool).toArray 4)) w.heap.size (.slice (some ⟨w.heap.size, 0, none⟩) (s.size + 1) (s.size + 1)) (List.replicate (s.size + 1) false)) := by
    have := OwnT.lit w w.heap.size (List.replicate (s.size + 1) false) (Nat.le_refl _) (by rw [List.length_replicate]; omega)
    rw [List.length_replicate] at this
    exact this
  generalize hA : ((List.replicate (s.size + 1) false).map Value.bool).toArray = A at hmk H0
  clear hA
  rw [← marks_zero s.size zs] at H0
  go_enter Try.func9, Try.ntmps9
  go_wp2
  go_loopw [6, 7] (fun i _ wr => ∃ k : Nat, k ≤ zs.length ∧ i = .int .i64 k ∧ Hid (OwnT wr w.heap.size (.slice (some ⟨w.heap.size, 0, none⟩) (s.size + 1) (s.size + 1)) (marks s.size zs k)) ∧ w.heap.size < wr.heap.size ∧ Below w.heap.size w wr) (fun i _ _ => zs.length - (intOf i).toNat)
  case atStart => exact ⟨0, by omega, rfl, H0, by simp, (Below.refl _ _).alloc (Nat.le_refl _) _⟩
  case round =>
    obtain ⟨k, hk, rfl, hown, hsz, hb⟩ := hrel
    by_cases hlt : k < zs.length
    · obtain ⟨p, off, rfl, hpb, hc⟩ := hx.out k hlt
      have hc' : wr.cell? ⟨p, off + k, none⟩ = some (.int .i64 zs[k]) := (hb.cell (p := ⟨p, off + k, none⟩) hpb).trans hc
      have HN := marks_next (n := s.size) hlt
      obtain ⟨z, hz⟩ : ∃ z, z = zs[k] := ⟨_, rfl⟩
      rw [← hz] at hc' HN
      have HN : Hid (marks s.size zs (k + 1) = (marks s.size zs k).set (cutN s.size z) true) := HN
      clear hz hc
      have ht1 := Int.tmod_lt_of_pos z (show (0 : Int) < (s.size : Int) + 1 by omega)
      have ht2 := neg_lt_tmod s.size z
      have hcl := cutN_le s.size z
      have hml := marks_len s.size zs k
      have hown2 : OwnT wr w.heap.size (.slice (some ⟨w.heap.size, 0, none⟩) (marks s.size zs k).length (s.size + 1)) (marks s.size zs k) := by rw [hml]; exact hown.out
      have HO := hown2.store (cutN s.size z) true
      obtain ⟨x, hce⟩ : ∃ x, wr.cell? ⟨w.heap.size, cutN s.size z, none⟩ = some (.bool x) := ⟨(marks s.size zs k)[cutN s.size z]'(by rw [hml]; omega), by
        have := World.ownsRow.cellAt hown2 (cutN s.size z) (by rw [hml]; omega)
        rw [this]
        simp [hml, show cutN s.size z < s.size + 1 by omega]⟩
      have hfz : wr.frozen? ⟨w.heap.size, cutN s.size z, none⟩ = false := World.ownsRow.frozenAt hown2 _
      rw [hml] at HO
      have HO : Hid _ := HO
      clear hown2 hml
      by_cases h0 : 0 ≤ Int.tmod z ((s.size : Int) + 1)
      · have hq : Int.tmod z ((s.size : Int) + 1) = ((cutN s.size z : Nat) : Int) := (cutN_pos h0).symm
        generalize cutN s.size z = c at *
        clear ht1 ht2 h0
        have hd : decide (((c : Nat) : Int) < 0) = false := by simp
        go_wp2
        go_roundw
        case rel => exact ⟨k + 1, by omega, by go_num, (show OwnT _ _ _ _ by rw [HN.out]; exact HO.out.1), by have := HO.out.2.size; omega, hb.setCell (Nat.le_refl _) _⟩
        case measure => simp [intOf]; omega
      · have hd : decide (Int.tmod z ((s.size : Int) + 1) < 0) = true := by simp; omega
        have hq : Int.tmod z ((s.size : Int) + 1) + (s.size : Int) + 1 = ((cutN s.size z : Nat) : Int) := by rw [cutN_neg (show Int.tmod z ((s.size : Int) + 1) < 0 by omega)]; omega
        generalize cutN s.size z = c at *
        go_wp2
        go_roundw
        case rel => exact ⟨k + 1, by omega, by go_num, (show OwnT _ _ _ _ by rw [HN.out]; exact HO.out.1), by have := HO.out.2.size; omega, hb.setCell (Nat.le_refl _) _⟩
        case measure => simp [intOf]; omega
    · obtain rfl : k = zs.length := by omega
      have HMC : Hid (∀ j, j ≤ s.size → wr.cell? ⟨w.heap.size, j, none⟩ = some (.bool (isCut s.size zs j))) := by
        have hml := marks_len s.size zs zs.length
        have hown2 : OwnT wr w.heap.size (.slice (some ⟨w.heap.size, 0, none⟩) (marks s.size zs zs.length).length (s.size + 1)) (marks s.size zs zs.length) := by rw [hml]; exact hown.out
        intro j hj
        have := World.ownsRow.cellAt hown2 j (by rw [hml]; omega)
        rw [this, List.getElem?_map, List.getElem?_eq_getElem (by rw [hml]; omega), marks_at]; rfl
      clear hown H0 hmk hx hi hz0 hz1 hz2
      have HW1 : Hid (Below w.heap.size w wr) := hb
      clear hb hk hlt
      obtain ⟨B, hB⟩ : ∃ B, B = w.heap.size := ⟨_, rfl⟩
      rw [← hB] at hsz HMC
      have hBw : B ≤ wr.heap.size := by omega
      generalize wr = W1 at *
      go_wp2
      rw [← hB]
      clear hB
      go_loopw [8, 9, 10] (fun v f i w2 => ∃ (m b : Nat) (xs : List ByteArray), m ≤ s.size + 1 ∧ i = .int .i64 m ∧ f = .int .i64 b ∧ OwnS w2 W1.heap.size v xs ∧ Hid (cutF s (cutsUp s.size zs m) = (xs, b)) ∧ Below W1.heap.size W1 w2) (fun _ _ i _ => s.size + 1 - (intOf i).toNat)
      case atStart => exact ⟨0, 0, [], by omega, rfl, rfl, OwnS.made W1 _ (Nat.le_refl _), rfl, (Below.refl _ _).alloc (Nat.le_refl _) _⟩
      case round =>
        obtain ⟨m, b, xs, hm, rfl, rfl, hown, hst, hb⟩ := hrel
        have hsz2 := hb.size
        have hxl : xs.length ≤ m := by
          have := cutF_len s (cutsUp s.size zs m)
          rw [hst.out] at this
          simp only at this
          rw [this]
          unfold cutsUp
          exact Nat.le_trans (List.length_filter_le _ _) (by rw [List.length_range]; exact Nat.le_refl _)
        have hbm : b ≤ m := by
          have := cutF_end s (l := cutsUp s.size zs m) (n := m) (fun c hc => Nat.le_of_lt (cutsUp_lt hc))
          rw [hst.out] at this
          exact this
        by_cases hlt : m ≤ s.size
        · have hce := (hb.cell (p := ⟨B, m, none⟩) hsz).trans (HMC.out m hlt)
          cases hcut : isCut s.size zs m with
          | true =>
            have HN : Hid (cutF s (cutsUp s.size zs (m + 1)) = (xs ++ [s.extract b m], m)) := by
              show _ = _
              rw [cutsUp_yes hcut, cutF_snoc, hst.out]
            rw [hcut] at hce
            clear hcut
            go_wp2_with (first
              | (at_builtin; refine wpList_pushS rfl _ _ 27 rfl Try.underlying27 Try.info9 W1.heap.size _ xs rfl hown _ rfl (by omega) (by omega) ?_; intro v4 w4 hown4 hb4))
            go_roundw
            case rel => exact ⟨m + 1, m, _, by omega, by go_num, rfl, hown4, HN, hb.trans hb4⟩
            case measure => simp [intOf]; omega
          | false =>
            have HN : Hid (cutF s (cutsUp s.size zs (m + 1)) = (xs, b)) := by
              show _ = _
              rw [cutsUp_no hcut, hst.out]
            rw [hcut] at hce
            clear hcut
            go_wp2
            go_roundw
            case rel => exact ⟨m + 1, b, _, by omega, by go_num, rfl, hown, HN, hb⟩
            case measure => simp [intOf]; omega
        · obtain rfl : m = s.size + 1 := by omega
          have hbs : b ≤ s.size := by
            have := cutF_end s (l := cutsUp s.size zs (s.size + 1)) (n := s.size) (fun c hc => Nat.le_of_lt_succ (cutsUp_lt hc))
            rw [hst.out] at this
            exact this
          have HP : Hid (pieces s (cutsL s.size zs) = xs ++ [s.extract b s.size]) := by
            show _ = _
            rw [pieces, cutsL, hst.out]
          clear hst
          go_wp2_with (first
            | (at_builtin; refine wpList_pushS rfl _ _ 27 rfl Try.underlying27 Try.info9 W1.heap.size _ xs rfl hown _ rfl (by omega) (by omega) ?_; intro v4 w4 hown4 hb4))
          go_ret
          refine ⟨_, rfl, by rw [HP.out]; exact hown4.down HW1.out.size, ?_⟩
          exact HW1.out.trans ((hb.trans hb4).mono HW1.out.size)
end Go.Proofs.Ytjjaklhpdckppaa
