/- The walk over the specification's PutItem. -/
import Derived.Test.YtjijpcfdkmbgpaaPt
import Derived.BigQuiet
namespace Go.Proofs.Ytjijpcfdkmbgpaa
open Go.RowKit Pl
set_option linter.unusedVariables false

/-- where a walk is to stand. -/
def Stop (p : Prop) : Prop := p
theorem Stop.mk {p : Prop} (h : Stop p) : p := h
theorem Stop.go {p : Prop} (h : p) : Stop p := h

theorem filt_step {ts : List It} {k : Nat} (hk : k < ts.length) (g : It → Bool) : (ts.take (k + 1)).filter g = (ts.take k).filter g ++ if g ts[k] = true then [ts[k]] else [] := by
  rw [List.take_succ_eq_append_getElem hk, List.filter_append]
  congr 1
  by_cases h : g ts[k] = true <;> simp [h]
theorem filt_len (ts : List It) (k : Nat) (g : It → Bool) : ((ts.take k).filter g).length ≤ ts.length :=
  Nat.le_trans (List.length_filter_le _ _) (by rw [List.length_take]; omega)

theorem both_le (q : Int) : ∀ l : List It, (l.filter (fun x => decide (x.1 < q))).length + (l.filter (fun x => decide (q < x.1))).length ≤ l.length
  | [] => by simp
  | a :: l => by
    have ih := both_le q l
    rw [List.filter_cons, List.filter_cons]
    by_cases h1 : a.1 < q
    · have : ¬ q < a.1 := by omega
      simp [h1, this]; omega
    · by_cases h2 : q < a.1
      · simp [h1, h2]; omega
      · simp [h1, h2]; omega
theorem both_len (ts : List It) (q : Int) (y : It) (k : Nat) (h : ts.length ≤ 1048575) : (ts.filter (fun x => decide (x.1 < q)) ++ y :: (ts.take k).filter fun x => decide (q < x.1)).length ≤ 1048576 := by
  have h1 := both_le q ts
  have h2 : ((ts.take k).filter fun x => decide (q < x.1)).length ≤ (ts.filter fun x => decide (q < x.1)).length := ((List.take_sublist k ts).filter _).length_le
  simp only [List.length_append, List.length_cons]
  omega

set_option maxRecDepth 100000 in
set_option maxHeartbeats 4000000 in
theorem spPutItem_any (ao : Option Addr) (cap : Nat) (ts : List It) (q f l : Int) (t : ByteArray) (w : World) (hx : Hid (ItemsAt w ao ts)) (hl : ts.length ≤ 1048576) :
    Calls Try.prog 15 #[.slice ao ts.length cap, .agg #[.int .i64 q, .int .i64 f, .int .i64 l, .string t]] w fun e w' => ∃ v, e = .returned v ∧ SlI w' w.heap.size v (putP ts (q, f, l, t)) ∧ Below w.heap.size w w' := by
  obtain ⟨W0, hW0⟩ : ∃ W0, W0 = (w.alloc (.cells #[.int .i64 q, .int .i64 f, .int .i64 l, .string t] 26)).alloc (.cells #[] 26) := ⟨_, rfl⟩
  have I0 : Hid (ItAt W0 w.heap.size q f l t) := by
    rw [hW0]
    exact ItAt.stays (show ItAt (w.alloc (.cells #[.int .i64 q, .int .i64 f, .int .i64 l, .string t] 26)) w.heap.size q f l t from heap_alloc_new w _) ((Below.refl _ _).alloc (Nat.le_refl _) _) (by simp)
  have B0 : Hid (Below w.heap.size w W0) := by
    rw [hW0]
    exact ((Below.refl _ _).alloc (Nat.le_refl _) _).alloc (by simp) _
  have S0 : Hid (Sl W0 26 4 w.heap.size (.slice (some ⟨w.heap.size + 1, 0, none⟩) 0 0) 0 []) := by
    rw [hW0]
    have h := Sl.made (w.alloc (.cells #[.int .i64 q, .int .i64 f, .int .i64 l, .string t] 26)) 26 4 w.heap.size (by simp)
    rw [show (w.alloc (.cells #[.int .i64 q, .int .i64 f, .int .i64 l, .string t] 26)).heap.size = w.heap.size + 1 by simp] at h
    exact h
  have X0 : Hid (ItemsAt W0 ao ts) := hx.out.stays B0.out
  have N0 : Hid (∀ b off, ao = some ⟨b, off, none⟩ → 0 < ts.length → b < w.heap.size) := fun b off e h0 => by
    obtain ⟨b', off', e', hb', _⟩ := hx.out 0 h0
    rw [e] at e'
    simp at e'
    omega
  have R0 : Hid (Src Try.prog 4 24 (.slice ao ts.length cap) ts.length (cels ts) W0) := src_items 24 Try.underlying24 cap X0.out
  have zw0 : w.heap.size + 2 ≤ W0.heap.size := by rw [hW0]; simp
  have HW : Hid (W0 = (w.alloc (.cells #[.int .i64 q, .int .i64 f, .int .i64 l, .string t] 26)).alloc (.cells #[] 26)) := hW0
  clear hW0
  go_enter Try.func15, Try.ntmps15
  go_wp2_with (at_builtin; refine Stop.mk ?_)
  refine Stop.go ?_
  rw [← HW.out]
  clear HW
  refine wpList_appendS rfl _ _ 24 rfl _ 40 Try.underlying24 Try.infoI rfl rfl S0.out _ ts.length (cels ts) rfl R0.out (by unfold maxLen; omega) (by omega) (by omega) ?_
  intro v1 w1 S1 g1 o1
  have g1 : W0.grownBy w1 (some (w.heap.size + 1)) := g1
  have S1 : Hid (SlI w1 w.heap.size v1 ts) := by
    unfold SlI
    rw [show ts.length = 0 + ts.length by omega]
    exact S1
  have I1 : Hid (ItAt w1 w.heap.size q f l t) := (g1.block w.heap.size I0.out.lt (by simp)).trans I0.out
  have B1 : Hid (Below w.heap.size w w1) := B0.out.grown g1 (by omega) (fun k hk => by simp at hk; omega)
  have X1 : Hid (ItemsAt w1 ao ts) := hx.out.stays B1.out
  clear S0 g1 o1 I0 B0 X0 N0 R0 zw0
  cases hi : iGo 0 ts with
  | false =>
    have HR : Hid (putP ts (q, f, l, t) = ts) := by show _ = _; unfold putP; rw [if_neg (by rw [hi]; simp)]
    go_wp2_with fail
    refine (spItemsB_is ao cap w1 X1 (by omega) hi).mono ?_
    rintro e w2 ⟨rfl, b2⟩
    have S2 : Hid (SlI w2 w.heap.size v1 ts) := S1.out.below b2
    have B2 : Hid (Below w.heap.size w w2) := B1.out.trans (b2.mono B1.out.size)
    clear b2 hi
    go_wp2_with fail
    go_ret
    exact ⟨_, rfl, by rw [HR.out]; exact S2.out, B2.out⟩
  | true =>
    go_wp2_with fail
    refine (spItemsB_is ao cap w1 X1 (by omega) hi).mono ?_
    rintro e w2 ⟨rfl, b2⟩
    have S2 : Hid (SlI w2 w.heap.size v1 ts) := S1.out.below b2
    have I2 := I1.out.stays b2 I1.out.lt
    have B2 : Hid (Below w.heap.size w w2) := B1.out.trans (b2.mono B1.out.size)
    obtain ⟨c0, c1, c2, c3⟩ := I2.cells
    have I2 : Hid (ItAt w2 w.heap.size q f l t) := I2
    clear b2 S1 I1 X1 B1
    cases hm : itB q f l t with
    | false =>
      have HR : Hid (putP ts (q, f, l, t) = ts) := by show _ = _; unfold putP; rw [if_neg (by dsimp only; rw [hm]; simp)]
      clear hi
      go_wp2_with fail
      refine (spItB_is _ hm).mono ?_
      rintro e w3 ⟨rfl, b3⟩
      have S3 : Hid (SlI w3 w.heap.size v1 ts) := S2.out.below b3
      have B3 : Hid (Below w.heap.size w w3) := B2.out.trans (b3.mono B2.out.size)
      clear b3 hm
      go_wp2_with fail
      go_ret
      exact ⟨_, rfl, by rw [HR.out]; exact S3.out, B3.out⟩
    | true =>
      have HR : Hid (putP ts (q, f, l, t) = ins1 ts (q, f, l, t)) := by show _ = _; unfold putP; rw [if_pos ⟨hi, hm⟩]
      have hl60 : ts.length ≤ 60 := iGo_short hi
      clear hi
      go_wp2_with fail
      refine (spItB_is _ hm).mono ?_
      rintro e w3 ⟨rfl, b3⟩
      have S3 : Hid (SlI w3 w.heap.size v1 ts) := S2.out.below b3
      have I3 : Hid (ItAt w3 w.heap.size q f l t) := I2.out.stays b3 I2.out.lt
      have B3 : Hid (Below w.heap.size w w3) := B2.out.trans (b3.mono B2.out.size)
      have O0 : Hid (SlI (w3.alloc (.cells #[] 26)) w3.heap.size (.slice (some ⟨w3.heap.size, 0, none⟩) 0 0) []) := SlI.made w3 w3.heap.size (Nat.le_refl _)
      have C0 : Hid (Below w3.heap.size w3 (w3.alloc (.cells #[] 26))) := (Below.refl _ _).alloc (Nat.le_refl _) _
      have z3 : w.heap.size < w3.heap.size := I3.out.lt
      clear c0 c1 c2 c3 b3 hm S2 I2 B2
      go_wp2
      go_loopw [6, 7] (fun u i wr => ∃ (k : Nat), k ≤ ts.length ∧ i = .int .i64 k ∧ Hid (∀ x ∈ ts.take k, ¬ x.1 = q) ∧ Hid (SlI wr w3.heap.size u ((ts.take k).filter fun x => decide (x.1 < q))) ∧ Hid (Below w3.heap.size w3 wr)) (fun _ i _ => ts.length - (intOf i).toNat)
      case atStart => exact ⟨0, Nat.zero_le _, rfl, (fun x hx => by simp at hx : ∀ x ∈ ts.take 0, ¬ x.1 = q), O0, C0⟩
      case round =>
        clear O0 C0
        obtain ⟨k, hk, rfl, hst, hS, hb⟩ := hrel
        have Br : Below w.heap.size w wr := B3.out.trans (hb.out.mono (by omega))
        have zr : w3.heap.size ≤ wr.heap.size := hb.out.size
        by_cases hlt : k < ts.length
        · obtain ⟨b, off, rfl, hbb, h0, h1, h2, h3⟩ := hx.out.stays Br k hlt
          have HP : Hid (∃ x : It, x = ts[k]) := ⟨_, rfl⟩
          obtain ⟨⟨q', f', lv, tx⟩, hp⟩ := HP.out
          rw [← hp] at h0 h1 h2 h3
          have HQ : Hid ((q', f', lv, tx) = ts[k]) := hp
          have hfs := filt_step hlt (fun x => decide (x.1 < q))
          rw [← hp] at hfs
          have HFS : Hid _ := hfs
          clear hp HP hfs
          dsimp only at h0 h1 h2 h3
          obtain ⟨m0, m1, m2, m3⟩ := (I3.out.stays hb.out (by omega)).cells
          have i0 : (0 : Int) ≤ (k : Int) := by omega
          have i1 : (k : Int) < (ts.length : Int) := by omega
          by_cases hq : q' = q
          · subst hq
            have HHA : Hid (hasP ts q' = true) := hasP_iff.2 ⟨ts[k], List.getElem_mem hlt, by rw [← HQ.out]⟩
            have S4 : Hid (SlI wr w.heap.size v1 ts) := S3.out.keep (fun k hk hl => hb.out.block k hl)
            go_wp2_with fail
            go_region
            go_wp2_with fail
            go_ret
            refine ⟨_, rfl, ?_, (Br.drew : Below w.heap.size w wr.drew)⟩
            rw [HR.out, ins1_has HHA.out]
            exact S4.out.drew
          · have HST : Hid (∀ x ∈ ts.take (k + 1), ¬ x.1 = q) := take_step hlt hst.out (by rw [← HQ.out]; exact hq)
            have S4 : Hid (SlI wr.drew.drew w3.heap.size u6 ((ts.take k).filter fun x => decide (x.1 < q))) := hS.out.drew.drew
            have B4 : Hid (Below w3.heap.size w3 wr.drew.drew) := hb.out.drew.drew
            have z4 : w3.heap.size ≤ wr.drew.drew.heap.size := zr
            have e0 : wr.drew.drew.cell? ⟨b, off + k * 4, none⟩ = some (.int .i64 q') := h0
            have e1 : wr.drew.drew.cell? ⟨b, off + k * 4 + 1, none⟩ = some (.int .i64 f') := h1
            have e2 : wr.drew.drew.cell? ⟨b, off + k * 4 + 2, none⟩ = some (.int .i64 lv) := h2
            have e3 : wr.drew.drew.cell? ⟨b, off + k * 4 + 3, none⟩ = some (.string tx) := h3
            have hlk : ((ts.take k).filter fun x => decide (x.1 < q)).length ≤ 1048576 := Nat.le_trans (filt_len ts k _) (by omega)
            by_cases hq2 : q' < q
            · have HLS : Hid ((ts.take (k + 1)).filter (fun x => decide (x.1 < q)) = (ts.take k).filter (fun x => decide (x.1 < q)) ++ [(q', f', lv, tx)]) := by
                have := HFS.out
                rwa [if_pos (by simpa using hq2)] at this
              go_wp2_with fail
              go_region
              go_wp2_with fail
              go_region
              clear h0 h1 h2 h3 m0 m1 m2 m3 HFS
              generalize wr.drew.drew = W4 at *
              go_wp2_with (at_builtin; refine wpList_pushIt rfl _ _ 24 rfl Try.underlying24 w3.heap.size u6 _ rfl S4.out (q', f', lv, tx) rfl hlk z4 ?_; intro v2 w5 S5 g5 b5 _)
              have S5 : Hid (SlI w5 w3.heap.size v2 ((ts.take (k + 1)).filter fun x => decide (x.1 < q))) := by
                rw [HLS.out]
                exact S5
              have B5 : Hid (Below w3.heap.size w3 w5) := B4.out.trans b5
              go_roundw
              case rel => exact ⟨k + 1, by omega, by go_num, HST, S5, B5⟩
              case measure => simp [intOf]; omega
            · have HLS : Hid ((ts.take (k + 1)).filter (fun x => decide (x.1 < q)) = (ts.take k).filter (fun x => decide (x.1 < q))) := by
                have := HFS.out
                rwa [if_neg (by simpa using hq2), List.append_nil] at this
              have S5 : Hid (SlI wr.drew.drew w3.heap.size u6 ((ts.take (k + 1)).filter fun x => decide (x.1 < q))) := by
                rw [HLS.out]
                exact S4
              go_wp2_with fail
              go_region
              go_wp2_with fail
              go_region
              clear h0 h1 h2 h3 m0 m1 m2 m3 HFS e0 e1 e2 e3 S4
              generalize wr.drew.drew = W4 at *
              go_wp2_with fail
              go_roundw
              case rel => exact ⟨k + 1, by omega, by go_num, HST, S5, B4⟩
              case measure => simp [intOf]; omega
        · have HNO : Hid (hasP ts q = false) := hasP_false.2 (by have := hst.out; rwa [List.take_of_length_le (by omega)] at this)
          have S4 : Hid (SlI wr w3.heap.size u6 (ts.filter fun x => decide (x.1 < q))) := by
            have := hS.out
            rw [List.take_of_length_le (by omega)] at this
            exact this
          obtain ⟨m0, m1, m2, m3⟩ := (I3.out.stays hb.out (by omega)).cells
          have hlk : (ts.filter fun x => decide (x.1 < q)).length ≤ 1048576 := Nat.le_trans (List.length_filter_le _ _) (by omega)
          clear hst hS
          go_wp2_with (at_builtin; refine wpList_pushIt rfl _ _ 24 rfl Try.underlying24 w3.heap.size u6 _ rfl S4.out (q, f, l, t) rfl hlk zr ?_; intro v5 w5 S5 g5 b5 _)
          have S5 : Hid (SlI w5 w3.heap.size v5 (ts.filter (fun x => decide (x.1 < q)) ++ (q, f, l, t) :: (ts.take 0).filter fun x => decide (q < x.1))) := S5
          have B5 : Hid (Below w3.heap.size w3 w5) := hb.out.trans b5
          clear S4 m0 m1 m2 m3 g5 b5 hb Br zr hlt hlk
          go_loopw [6, 8] (fun u i wr => ∃ (k : Nat), k ≤ ts.length ∧ i = .int .i64 k ∧ Hid (SlI wr w3.heap.size u (ts.filter (fun x => decide (x.1 < q)) ++ (q, f, l, t) :: (ts.take k).filter fun x => decide (q < x.1))) ∧ Hid (Below w3.heap.size w3 wr)) (fun _ i _ => ts.length - (intOf i).toNat)
          case atStart => exact ⟨0, Nat.zero_le _, rfl, S5, B5⟩
          case round =>
            clear S5 B5
            obtain ⟨k, hk, rfl, hS, hb⟩ := hrel
            have Br : Below w.heap.size w wr := B3.out.trans (hb.out.mono (by omega))
            have zr : w3.heap.size ≤ wr.heap.size := hb.out.size
            have hlk : (ts.filter (fun x => decide (x.1 < q)) ++ (q, f, l, t) :: (ts.take k).filter fun x => decide (q < x.1)).length ≤ 1048576 := both_len ts q (q, f, l, t) k (by omega)
            by_cases hlt : k < ts.length
            · obtain ⟨b, off, rfl, hbb, h0, h1, h2, h3⟩ := hx.out.stays Br k hlt
              have HP : Hid (∃ x : It, x = ts[k]) := ⟨_, rfl⟩
              obtain ⟨⟨q', f', lv, tx⟩, hp⟩ := HP.out
              rw [← hp] at h0 h1 h2 h3
              have hfs := filt_step hlt (fun x => decide (q < x.1))
              rw [← hp] at hfs
              have HFS : Hid _ := hfs
              clear hp HP hfs
              dsimp only at h0 h1 h2 h3
              obtain ⟨m0, m1, m2, m3⟩ := (I3.out.stays hb.out (by omega)).cells
              have i0 : (0 : Int) ≤ (k : Int) := by omega
              have i1 : (k : Int) < (ts.length : Int) := by omega
              have S4 : Hid (SlI wr.drew w3.heap.size u6 (ts.filter (fun x => decide (x.1 < q)) ++ (q, f, l, t) :: (ts.take k).filter fun x => decide (q < x.1))) := hS.out.drew
              have B4 : Hid (Below w3.heap.size w3 wr.drew) := hb.out.drew
              have z4 : w3.heap.size ≤ wr.drew.heap.size := zr
              have e0 : wr.drew.cell? ⟨b, off + k * 4, none⟩ = some (.int .i64 q') := h0
              have e1 : wr.drew.cell? ⟨b, off + k * 4 + 1, none⟩ = some (.int .i64 f') := h1
              have e2 : wr.drew.cell? ⟨b, off + k * 4 + 2, none⟩ = some (.int .i64 lv) := h2
              have e3 : wr.drew.cell? ⟨b, off + k * 4 + 3, none⟩ = some (.string tx) := h3
              by_cases hq2 : q < q'
              · have HLS : Hid (ts.filter (fun x => decide (x.1 < q)) ++ (q, f, l, t) :: (ts.take (k + 1)).filter (fun x => decide (q < x.1)) = (ts.filter (fun x => decide (x.1 < q)) ++ (q, f, l, t) :: (ts.take k).filter (fun x => decide (q < x.1))) ++ [(q', f', lv, tx)]) := by
                  have := HFS.out
                  rw [if_pos (by simpa using hq2)] at this
                  show _ = _
                  rw [this]
                  simp
                go_wp2_with fail
                go_region
                clear h0 h1 h2 h3 m0 m1 m2 m3 HFS
                generalize wr.drew = W4 at *
                go_wp2_with (at_builtin; refine wpList_pushIt rfl _ _ 24 rfl Try.underlying24 w3.heap.size u6 _ rfl S4.out (q', f', lv, tx) rfl hlk z4 ?_; intro v2 w5 S5 g5 b5 _)
                have S5 : Hid (SlI w5 w3.heap.size v2 (ts.filter (fun x => decide (x.1 < q)) ++ (q, f, l, t) :: (ts.take (k + 1)).filter (fun x => decide (q < x.1)))) := by
                  rw [HLS.out]
                  exact S5
                have B5 : Hid (Below w3.heap.size w3 w5) := B4.out.trans b5
                go_roundw
                case rel => exact ⟨k + 1, by omega, by go_num, S5, B5⟩
                case measure => simp [intOf]; omega
              · have HLS : Hid ((ts.take (k + 1)).filter (fun x => decide (q < x.1)) = (ts.take k).filter (fun x => decide (q < x.1))) := by
                  have := HFS.out
                  rwa [if_neg (by simpa using hq2), List.append_nil] at this
                have S5 : Hid (SlI wr.drew w3.heap.size u6 (ts.filter (fun x => decide (x.1 < q)) ++ (q, f, l, t) :: (ts.take (k + 1)).filter (fun x => decide (q < x.1)))) := by
                  rw [HLS.out]
                  exact S4
                go_wp2_with fail
                go_region
                clear h0 h1 h2 h3 m0 m1 m2 m3 HFS e0 e1 e2 e3 S4
                generalize wr.drew = W4 at *
                go_wp2_with fail
                go_roundw
                case rel => exact ⟨k + 1, by omega, by go_num, S5, B4⟩
                case measure => simp [intOf]; omega
            · go_wp2_with fail
              go_ret
              refine ⟨_, rfl, ?_, Br⟩
              have := hS.out
              rw [List.take_of_length_le (by omega)] at this
              rw [HR.out]
              unfold ins1
              rw [if_neg (by dsimp only; rw [HNO.out]; simp)]
              exact this.down (by omega)
end Go.Proofs.Ytjijpcfdkmbgpaa
