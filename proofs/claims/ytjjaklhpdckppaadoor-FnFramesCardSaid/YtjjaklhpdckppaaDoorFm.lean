/- The law on frames, walked. -/
import Derived.Test.YtjjaklhpdckppaaDoorF9
import Derived.Test.YtjjaklhpdckppaaDoorDT
import Derived.Laws.AppendOwnNone
namespace Go.Proofs.YtjjaklhpdckppaaDoor
open Go.RowKit Pl
set_option linter.unusedVariables false

theorem code_up {w w1 : World} {n : Nat} {ao : Option Addr} (h : CodeAt w w.heap.size ao n) (hb : Below w.heap.size w w1) : CodeAt w1 w1.heap.size ao n := by
  have := h.stays hb (Nat.le_refl _)
  intro i hi
  obtain ⟨b, off, z, h1, h2, h3⟩ := this i hi
  exact ⟨b, off, z, h1, Nat.lt_of_lt_of_le h2 hb.size, h3⟩

theorem wpList_catS {P : Program} {w : World} {ops : Array Oper} {rest : List Oper} {o : Oper} {a : Act} {Q : Exit → Act → World → Prop}
    (hgd : o.guard = none) (s x : Operand) (t : TypeId) (ho : o.op = .call { callee := .builtin .append, args := #[s, x], argTypes := #[t, t] })
    (ht : P.underlying t = some (.slice 9)) (hinfo : (P.info? 9).map (fun i => (i.zero, i.size, i.bytes)) = some (some (.string ⟨#[]⟩), 1, 16))
    (B : Nat) (v : Value) (xs : List ByteArray) (hs : a.eval s = v) (hown : OwnS w B v xs)
    (B2 : Nat) (u : Value) (ys : List ByteArray) (hx : a.eval x = u) (hu : OwnS w B2 u ys) (hn : xs.length + ys.length < 4000000) (hB : B ≤ w.heap.size)
    (h : ∀ v' w', OwnS w' B v' (xs ++ ys) → w.grownBy w' v.ownBlock → wpList P ops Q rest (a.put o.dst v') w') :
    wpList P ops Q (o :: rest) a w := by
  obtain ⟨i0, hi, hz0, hz1, hz2⟩ := info_parts hinfo
  have hcells := fun (g : Nat) (hg : u.ownBlock = some g) => World.ownsRow.cells hu hg
  rcases hu.2 with ⟨rfl, h0⟩ | ⟨g, cap, cur, rfl, _⟩
  · have e : ys = [] := List.eq_nil_of_length_eq_zero h0
    subst e
    refine wpList_append_own_none hgd s x t ho B 9 i0 1 ht hi v xs.length (xs.map Value.string) hs hown hx ?_
    exact h v w (by rw [List.append_nil]; exact hown) (World.grownBy.refl _ _)
  · refine wpList_append_own _ hgd s x t ho B 9 i0 (.string ⟨#[]⟩) 1 16 ht hi hz0 hz1 hz2 rfl (by decide) v xs.length (xs.map Value.string) hs hown ⟨g, 0, none⟩ ys.length cap (ys.map Value.string) hx (by simp) (fun j u hj => hcells g rfl j u hj) ?_ (by unfold maxLen; omega) (by omega) hB ?_
    · intro u hu'
      obtain ⟨y, _, rfl⟩ := List.mem_map.1 hu'
      rfl
    · intro v' w' hown' hg _
      exact h v' w' (by simpa [OwnS] using hown') hg

theorem RdrAt.grown {w w' : World} {B g : Nat} {v : Value} {xs : List ByteArray} {r : ByteArray} {b : Bool} (h : RdrAt w g r b) (ho : OwnS w B v xs) (hg : w.grownBy w' v.ownBlock) : RdrAt w' g r b := by
  refine (hg.block g h.lt (fun e => ?_)).trans h
  rcases ho.2 with ⟨rfl, _⟩ | ⟨k, cap, cur, rfl, _, hk, _⟩
  · cases e
  · cases e
    unfold RdrAt at h
    rw [hk] at h
    simp at h

theorem RdrAt.other {w : World} {g h : Nat} {r : ByteArray} {b : Bool} (hr : RdrAt w g r b) (hne : ¬ g = h) (x y : Value) : RdrAt ((w.setCell ⟨h, 0, none⟩ x).setCell ⟨h, 1, none⟩ y) g r b :=
  ((((TurnAt.refl h w).setCell 0 x).setCell 1 y).block g hne).trans hr

/-- the frames of the first k texts. -/
def framesL (ts : List ByteArray) (k : Nat) : ByteArray := catL ((ts.take k).map frameS)
theorem framesL_next {ts : List ByteArray} {k : Nat} (hk : k < ts.length) : framesL ts (k + 1) = framesL ts k ++ frameS ts[k] := by
  unfold framesL
  rw [List.take_succ_eq_append_getElem hk, List.map_append, List.map_cons, List.map_nil, catL_snoc]
theorem framesL_size {ts : List ByteArray} (hs : Short ts) : ∀ k, k ≤ ts.length → (framesL ts k).size ≤ 15 * k
  | 0, _ => Nat.le_refl _
  | k + 1, hk => by
    have h := framesL_size hs k (by omega)
    have h2 := hs ts[k] (List.getElem_mem _)
    rw [framesL_next (by omega), ByteArray.size_append, frameS_size]
    omega

set_option maxRecDepth 100000 in
set_option maxHeartbeats 4000000 in
theorem lawFrames (w : World) (n cap : Nat) (ao : Option Addr) (hk : Hid (CodeAt w w.heap.size ao n)) (ht : Hid (Tab w)) :
    Calls Tryd.prog 3 #[.slice ao n cap] w fun e w' => e = .returned (.bool true) ∧ Below w.heap.size w w' := by
  by_cases hn : n ≤ 1048576
  · have hbig : decide (1048576 < (n : Int)) = false := by simp; omega
    go_enter Tryd.func3, Tryd.ntmps3
    go_wp2_with (first | (go_at_call 7; refine (big_any _ n cap ao false hbig).mono ?_; rintro e w1 ⟨rfl, rfl⟩) | (go_at_call 8; refine (drawTexts _ n cap ao hn hk).mono ?_; rintro e w2 ⟨⟨v, ts, rfl, hl, hsh, hown⟩, hb2⟩; have hk2 : Hid (CodeAt w2 w2.heap.size ao n) := code_up hk.out hb2))
    obtain ⟨aov, capv, rfl, htx0⟩ := hown.out.texts
    have htx : Hid (TextsAt w2 aov ts) := htx0
    have ht2 : Hid (Tab w2) := ht.out.below hb2
    have HB2 : Hid (Below w1.heap.size w1 w2) := hb2
    clear htx0 hb2
    go_wp2
    go_loopw [4, 5, 6, 7] (fun s i _ _ wr => ∃ k : Nat, k ≤ ts.length ∧ i = .int .i64 k ∧ s = .string (framesL ts k) ∧ Hid (Below w2.heap.size w2 wr)) (fun _ i _ _ _ => ts.length - (intOf i).toNat)
    case atStart => exact ⟨0, by omega, rfl, rfl, Below.refl _ _⟩
    case round =>
      obtain ⟨k, hk1, rfl, rfl, hbr⟩ := hrel
      have hfs := framesL_size hsh.out k hk1
      by_cases hlt : k < ts.length
      · obtain ⟨b, off, rfl, hbb, hc0⟩ := (htx.out.stays hbr.out) k hlt
        have ht0 := hsh.out ts[k] (List.getElem_mem _)
        have HN : Hid (framesL ts (k + 1) = framesL ts k ++ frameS ts[k]) := framesL_next hlt
        generalize ts[k] = t at *
        have hz := frameS_size t
        have htr : Hid (Tab wr) := ht2.out.below hbr.out
        generalize framesL ts k = X at *
        go_wp2_with (first | (go_at_call 9; refine (frameOf_any t _ (by omega) htr).mono ?_; rintro e w3 ⟨rfl, hb3⟩))
        go_roundw
        case rel => exact ⟨k + 1, by omega, by go_num, by rw [HN.out], hbr.out.trans (hb3.mono hbr.out.size)⟩
        case measure => simp [intOf]; omega
      · obtain rfl : k = ts.length := by omega
        have hfed := fed_frames ts (fun t h => by have := hsh.out t h; omega)
        have HFED : Hid (Fed (framesL ts ts.length) ts ByteArray.empty false) := by
          show Fed _ _ _ _
          rw [framesL, List.take_length]; exact hfed
        have htr : Hid (Tab wr) := ht2.out.below hbr.out
        have hBr : Hid (Below w1.heap.size w1 wr) := HB2.out.trans (hbr.out.mono HB2.out.size)
        have hown2 : Hid (OwnS wr (w1.heap.size + 1) (.slice aov ts.length capv) ts) := hown.out.stays hbr.out (fun k hk => (hown.out.lt k hk).2)
        have hkr : Hid (CodeAt wr wr.heap.size ao n) := code_up hk2.out hbr.out
        clear hfed hbr hown HB2 ht2 hk2 htx hlt hk1
        generalize hS : framesL ts ts.length = S at *
        clear hS
        have hSs : S.size ≤ 120 := by omega
        clear hfs
        generalize wr = W1 at *
        go_wp2_with fail
        refine (drawPlaces _ n cap ao hn hkr).mono ?_
        rintro e w4 ⟨⟨vp, xs, rfl, hxl, hsm, hownp⟩, hb4⟩
        obtain ⟨aop, capp, rfl, hip⟩ := hownp.out.ints
        have hc := cutat_any w4 S aop capp xs hip (by omega) (by omega)
        obtain ⟨us, hus⟩ : ∃ us, us = pieces S (cutsL S.size xs) := ⟨_, rfl⟩
        have hul0 := pieces_len S (cutsL S.size xs)
        have hul1 := cutsL_length S.size xs
        rw [← hus, hxl] at hc
        rw [← hus] at hul0
        have HCAT : Hid (catL us = S) := by rw [hus]; exact cat_cuts S xs
        have hu2 : us.length ≤ 13 := by omega
        clear hus hul0 hul1 hsm
        go_wp2_with fail
        refine hc.mono ?_
        clear hc
        rintro e w5 ⟨vu, rfl, hou, hb5⟩
        have hB5 : Hid (Below w1.heap.size w1 w5) := (hBr.out.trans (hb4.mono hBr.out.size)).trans (hb5.mono (Nat.le_trans hBr.out.size hb4.size))
        have hown5 : Hid (OwnS w5 (w1.heap.size + 1) (.slice aov ts.length capv) ts) := (hown2.out.stays hb4 (fun k hk => (hown2.out.lt k hk).2)).stays hb5 (fun k hk => Nat.lt_of_lt_of_le (hown2.out.lt k hk).2 hb4.size)
        have ht5 : Hid (Tab w5) := (htr.out.below hb4).below hb5
        obtain ⟨aou, capu, rfl, htu0⟩ := hou.texts
        have htu : Hid (TextsAt w5 aou us) := htu0
        clear htu0 hou hb4 hb5 hip hownp hown2 htr hBr hkr
        have R0 : Hid (RdrAt ((w5.alloc (.cells #[.string ⟨#[]⟩, .bool false] 32)).alloc (.cells #[] 9)) w5.heap.size ⟨#[]⟩ false) := RdrAt.alloc (heap_alloc_new w5 _) _
        have O0 : Hid (OwnS ((w5.alloc (.cells #[.string ⟨#[]⟩, .bool false] 32)).alloc (.cells #[] 9)) (w5.heap.size + 1) (.slice (some ⟨w5.heap.size + 1, 0, none⟩) 0 0) []) := by
          have := OwnS.made (w5.alloc (.cells #[.string ⟨#[]⟩, .bool false] 32)) (w5.heap.size + 1) (by simp)
          show OwnS _ _ _ _
          simpa using this
        have HB0 : Hid (Below w5.heap.size w5 ((w5.alloc (.cells #[.string ⟨#[]⟩, .bool false] 32)).alloc (.cells #[] 9))) := ((Below.refl _ w5).alloc (Nat.le_refl _) _).alloc (by simp) _
        go_wp2
        go_loopw [9, 11, 12, 13, 14] (fun t v i _ _ wr => ∃ (k : Nat) (rest : ByteArray) (ys zs : List ByteArray), k ≤ us.length ∧ i = .int .i64 k ∧ t = .string (catL (us.take k)) ∧ Hid (RdrAt wr w5.heap.size rest false) ∧ Hid (OwnS wr (w5.heap.size + 1) v ys) ∧ Hid (Fed rest [] rest false) ∧ Hid (Fed (rest ++ catL (us.drop k)) zs ByteArray.empty false) ∧ Hid (ys ++ zs = ts) ∧ rest.size ≤ (catL (us.take k)).size ∧ Hid (Below w5.heap.size w5 wr)) (fun _ _ i _ _ _ => us.length - (intOf i).toNat)
        case atStart =>
          refine ⟨0, ⟨#[]⟩, [], ts, by omega, rfl, rfl, R0, O0, Fed.none _ rfl, ?_, rfl, Nat.zero_le _, HB0⟩
          show Fed _ _ _ _
          rw [show (⟨#[]⟩ : ByteArray) ++ catL (us.drop 0) = catL us from ByteArray.empty_append, HCAT.out]
          exact HFED.out
        case round =>
          obtain ⟨k, rest, ys, zs, hk1, rfl, rfl, hR, hO, hst, hF, he, hrs, hbr⟩ := hrel
          have hcs := catL_take_size us k
          rw [HCAT.out] at hcs
          by_cases hlt : k < us.length
          · obtain ⟨gu, off, rfl, hgu, hc0⟩ := htu.out k hlt
            have hp0 := (hbr.out.cell (p := ⟨gu, off + k, none⟩) hgu).trans hc0
            have HN : Hid (catL (us.take (k + 1)) = catL (us.take k) ++ us[k]) := catL_take hlt
            have hcs2 := catL_take_size us (k + 1)
            rw [HN.out, HCAT.out, ByteArray.size_append] at hcs2
            have hDr : us.drop k = us[k] :: us.drop (k + 1) := List.drop_eq_getElem_cons hlt
            have hF2 := hF.out
            rw [hDr, catL_cons, ← ByteArray.append_assoc] at hF2
            generalize us[k] = p at *
            generalize catL (us.take k) = X at *
            obtain ⟨ss1, r1, b1, hf1⟩ := fed_some (rest ++ p)
            obtain ⟨rfl, zs2, hzs, hF3⟩ := fed_split hf1 hF2
            have hfl := fed_len hf1
            have hfr := fed_rest hf1
            rw [ByteArray.size_append] at hfl hfr
            have HF1 : Hid (Fed (rest ++ p) ss1 r1 false) := hf1
            have HST : Hid (Fed r1 [] r1 false) := fed_still hf1 rfl
            have HF3 : Hid (Fed (r1 ++ catL (us.drop (k + 1))) zs2 ByteArray.empty false) := hF3
            have HE : Hid ((ys ++ ss1) ++ zs2 = ts) := by rw [← he.out, hzs]; show _ = _; simp
            have hyl : ys.length ≤ 8 := by
              have := congrArg List.length he.out
              rw [List.length_append] at this
              omega
            have hD6 : Below wr.heap.size wr (wr.alloc (.cells #[.string ⟨#[]⟩, .bool false] 32)).drew := ((Below.refl _ wr).alloc (Nat.le_refl _) _).drew
            have htr : Hid (Tab (wr.alloc (.cells #[.string ⟨#[]⟩, .bool false] 32)).drew) := (ht5.out.below hbr.out).below hD6
            have HR6 : Hid (RdrAt (wr.alloc (.cells #[.string ⟨#[]⟩, .bool false] 32)).drew w5.heap.size rest false) := hR.out.stays hD6 hR.out.lt
            have HX6 : Hid (RdrAt (wr.alloc (.cells #[.string ⟨#[]⟩, .bool false] 32)).drew wr.heap.size ⟨#[]⟩ false) := RdrAt.drew (heap_alloc_new wr _)
            have HO6 : Hid (OwnS (wr.alloc (.cells #[.string ⟨#[]⟩, .bool false] 32)).drew (w5.heap.size + 1) u11 ys) := hO.out.stays hD6 (fun k hk => (hO.out.lt k hk).2)
            have HB6 : Hid (Below w5.heap.size w5 (wr.alloc (.cells #[.string ⟨#[]⟩, .bool false] 32)).drew) := hbr.out.trans (hD6.mono hbr.out.size)
            have hs6 : (wr.alloc (.cells #[.string ⟨#[]⟩, .bool false] 32)).drew.heap.size = wr.heap.size + 1 := by simp
            obtain ⟨c0, c1, z0, z1⟩ := hR.out.cells
            have hwl := hR.out.lt
            have hgw : gu < wr.heap.size := Nat.lt_trans hgu hwl
            have hq1 : (0 : Int) ≤ (k : Int) := by omega
            have hq2 : (k : Int) < (us.length : Int) := by omega
            have hs7 : rest.size + p.size ≤ 20000 := by omega
            have hne1 : ¬ w5.heap.size = wr.heap.size := by omega
            have hne2 : ¬ wr.heap.size = w5.heap.size := by omega
            have hne3 : ¬ gu = wr.heap.size := by omega
            have hne4 : ¬ wr.heap.size = gu := by omega
            have hp6 : (wr.alloc (.cells #[.string ⟨#[]⟩, .bool false] 32)).drew.cell? ⟨gu, off + k, none⟩ = some (.string p) := (hD6.cell (p := ⟨gu, off + k, none⟩) hgw).trans hp0
            obtain ⟨e0, e1, _, _⟩ := HR6.out.cells
            clear hF hF2 hF3 hf1 hzs he hst hDr hc0
            go_wp2
            have htrB : Hid (Tab wr.drew) := (ht5.out.below hbr.out).drew
            have HOB : Hid (OwnS wr.drew (w5.heap.size + 1) u11 ys) := OwnS_drew hO.out
            have HBB : Hid (Below w5.heap.size w5 wr.drew) := hbr.out.drew
            go_region_held3 (fun w' => w'.cell? ⟨w5.heap.size, 0, none⟩ = some (.string rest) ∧ w'.cell? ⟨w5.heap.size, 1, none⟩ = some (.bool false) ∧ w'.cell? ⟨gu, off + k, none⟩ = some (.string p)) (first | exact ⟨c0, c1, hp0⟩ | exact ⟨e0, e1, hp6⟩ | exact ⟨c0', c1', hp0'⟩ | go_keep) (first | (go_at_call 12; refine (feed_any rest p ss1 r1 false _ HF1 htr hs7).mono ?_; rintro e w7 ⟨v1, rfl, ho7, hb7⟩; have hR7 := RdrAt.stays HR6.out hb7 HR6.out.lt; have hX7 := RdrAt.stays HX6.out hb7 HX6.out.lt; have hO7 := OwnS.stays HO6.out hb7 (fun k hk => (HO6.out.lt k hk).2); have hB7 := Below.trans HB6.out (hb7.mono HB6.out.size); obtain ⟨c0', c1', z0', z1'⟩ := hR7.cells; obtain ⟨x0', x1', y0', y1'⟩ := hX7.cells; have hp0' := (hb7.cell (p := ⟨gu, off + k, none⟩) (show gu < _ by omega)).trans hp6) | (go_at_call 12; refine (feed_any rest p ss1 r1 false _ HF1 htrB hs7).mono ?_; rintro e w7 ⟨v1, rfl, ho7, hb7⟩; have hR7 := RdrAt.stays hR.out.drew hb7 hwl; have hO7 := OwnS.stays HOB.out hb7 (fun k hk => (hO.out.lt k hk).2); have hB7 := Below.trans HBB.out (hb7.mono HBB.out.size); have hw7 : wr.heap.size ≤ w7.heap.size := hb7.size; obtain ⟨c0', c1', z0', z1'⟩ := hR7.cells; have hp0' := (hb7.cell (p := ⟨gu, off + k, none⟩) hgw).trans hp0))
            · have RW := hR7.alloc (.cells #[.string r1, .bool false] 32)
              have NW : RdrAt (w7.alloc (.cells #[.string r1, .bool false] 32)) w7.heap.size r1 false := heap_alloc_new w7 _
              have OW := hO7.alloc (.cells #[.string r1, .bool false] 32)
              have O1 := ho7.alloc (.cells #[.string r1, .bool false] 32)
              have BW : Below w5.heap.size w5 (w7.alloc (.cells #[.string r1, .bool false] 32)) := hB7.alloc hB7.size _
              clear c0 c1 z0 z1 c0' c1' z0' z1' hp0 hp0' hp6 e0 e1 hb7 hR7 hO7 ho7 hB7 HR6 HX6 HO6 HB6 htr htrB HOB HBB hD6 hs6
              generalize w7.alloc (.cells #[.string r1, .bool false] 32) = W at *
              generalize hB1 : wr.drew.heap.size = B1 at O1
              clear hB1
              obtain ⟨f0, f1, f2, f3⟩ := RW.cells
              obtain ⟨n0, n1, _, _⟩ := NW.cells
              have hWs : w5.heap.size + 1 ≤ W.heap.size := RW.lt
              have HR2 : Hid (RdrAt ((W.setCell ⟨w5.heap.size, 0, none⟩ (.string r1)).setCell ⟨w5.heap.size, 1, none⟩ (.bool false)) w5.heap.size r1 false) := RW.set r1 false
              have HO2 : Hid (OwnS ((W.setCell ⟨w5.heap.size, 0, none⟩ (.string r1)).setCell ⟨w5.heap.size, 1, none⟩ (.bool false)) (w5.heap.size + 1) u11 ys) := own_rdr OW RW _ _
              have HO12 : Hid (OwnS ((W.setCell ⟨w5.heap.size, 0, none⟩ (.string r1)).setCell ⟨w5.heap.size, 1, none⟩ (.bool false)) B1 v1 ss1) := own_rdr O1 RW _ _
              have HB2 : Hid (Below w5.heap.size w5 ((W.setCell ⟨w5.heap.size, 0, none⟩ (.string r1)).setCell ⟨w5.heap.size, 1, none⟩ (.bool false))) := (BW.setCell (Nat.le_refl _) _).setCell (Nat.le_refl _) _
              have hW2s : w5.heap.size + 1 ≤ ((W.setCell ⟨w5.heap.size, 0, none⟩ (.string r1)).setCell ⟨w5.heap.size, 1, none⟩ (.bool false)).heap.size := HR2.out.lt
              clear RW NW OW O1 BW hWs
              go_wp2_with (first | (at_builtin; refine wpList_catS rfl _ _ 24 rfl Tryd.underlying24 Tryd.info9 (w5.heap.size + 1) _ ys rfl HO2.out B1 _ ss1 rfl HO12.out (by omega) hW2s ?_; intro v8 w8 hown8 hgr8))
              go_roundw
              case rel =>
                refine ⟨k + 1, r1, ys ++ ss1, zs2, by omega, by go_num, by rw [HN.out], RdrAt.grown HR2.out HO2.out hgr8, hown8, HST, HF3, HE, ?_, ?_⟩
                · rw [HN.out, ByteArray.size_append]; omega
                · exact HB2.out.grown hgr8 (by omega) (fun q hq => Nat.le_of_succ_le (HO2.out.lt q hq).1)
              case measure => simp [intOf]; omega
            · have RW := RdrAt.other hR7 hne1 (.string r1) (.bool false)
              have NW := hX7.set r1 false
              have OW := own_rdr hO7 hX7 (.string r1) (.bool false)
              have O1 := own_rdr ho7 hX7 (.string r1) (.bool false)
              have BW : Below w5.heap.size w5 ((w7.setCell ⟨wr.heap.size, 0, none⟩ (.string r1)).setCell ⟨wr.heap.size, 1, none⟩ (.bool false)) := (hB7.setCell (Nat.le_of_lt hwl) _).setCell (Nat.le_of_lt hwl) _
              clear c0 c1 z0 z1 c0' c1' z0' z1' x0' x1' y0' y1' hp0 hp0' hp6 e0 e1 hb7 hR7 hX7 hO7 ho7 hB7 HR6 HX6 HO6 HB6 htr htrB HOB HBB hD6 hs6
              generalize ((w7.setCell ⟨wr.heap.size, 0, none⟩ (.string r1)).setCell ⟨wr.heap.size, 1, none⟩ (.bool false)) = W at *
              generalize hB1 : (wr.alloc (.cells #[.string ⟨#[]⟩, .bool false] 32)).drew.heap.size = B1 at O1
              clear hB1
              obtain ⟨f0, f1, f2, f3⟩ := RW.cells
              obtain ⟨n0, n1, _, _⟩ := NW.cells
              have hWs : w5.heap.size + 1 ≤ W.heap.size := RW.lt
              have HR2 : Hid (RdrAt ((W.setCell ⟨w5.heap.size, 0, none⟩ (.string r1)).setCell ⟨w5.heap.size, 1, none⟩ (.bool false)) w5.heap.size r1 false) := RW.set r1 false
              have HO2 : Hid (OwnS ((W.setCell ⟨w5.heap.size, 0, none⟩ (.string r1)).setCell ⟨w5.heap.size, 1, none⟩ (.bool false)) (w5.heap.size + 1) u11 ys) := own_rdr OW RW _ _
              have HO12 : Hid (OwnS ((W.setCell ⟨w5.heap.size, 0, none⟩ (.string r1)).setCell ⟨w5.heap.size, 1, none⟩ (.bool false)) B1 v1 ss1) := own_rdr O1 RW _ _
              have HB2 : Hid (Below w5.heap.size w5 ((W.setCell ⟨w5.heap.size, 0, none⟩ (.string r1)).setCell ⟨w5.heap.size, 1, none⟩ (.bool false))) := (BW.setCell (Nat.le_refl _) _).setCell (Nat.le_refl _) _
              have hW2s : w5.heap.size + 1 ≤ ((W.setCell ⟨w5.heap.size, 0, none⟩ (.string r1)).setCell ⟨w5.heap.size, 1, none⟩ (.bool false)).heap.size := HR2.out.lt
              clear RW NW OW O1 BW hWs
              go_wp2_with (first | (at_builtin; refine wpList_catS rfl _ _ 24 rfl Tryd.underlying24 Tryd.info9 (w5.heap.size + 1) _ ys rfl HO2.out B1 _ ss1 rfl HO12.out (by omega) hW2s ?_; intro v8 w8 hown8 hgr8))
              go_roundw
              case rel =>
                refine ⟨k + 1, r1, ys ++ ss1, zs2, by omega, by go_num, by rw [HN.out], RdrAt.grown HR2.out HO2.out hgr8, hown8, HST, HF3, HE, ?_, ?_⟩
                · rw [HN.out, ByteArray.size_append]; omega
                · exact HB2.out.grown hgr8 (by omega) (fun q hq => Nat.le_of_succ_le (HO2.out.lt q hq).1)
              case measure => simp [intOf]; omega
          · obtain rfl : k = us.length := by omega
            have hT : us.take us.length = us := List.take_length
            rw [hT, HCAT.out]
            have hF2 := hF.out
            rw [List.drop_length, catL_nil, ByteArray.append_empty] at hF2
            obtain ⟨rfl, hre⟩ := fed_done hst.out hF2
            have hre2 : rest = ⟨#[]⟩ := hre
            subst hre2
            have hyt : ys = ts := by rw [← he.out, List.append_nil]
            have X8 := same_same u11 _ ts _ _ wr (by rw [← hyt]; exact hO.out) (hown5.out.stays hbr.out (fun k hk => (hown5.out.lt k hk).2)) (by omega)
            obtain ⟨c0, c1, _, _⟩ := hR.out.cells
            have hsame : (S.toList == S.toList) = true := by simp
            have HBf : Hid (Below w1.heap.size w1 wr) := hB5.out.trans (hbr.out.mono hB5.out.size)
            clear hF hF2 hst he hre hyt hR hO hbr hrs hcs hT
            go_wp2_with (first | (go_at_call 13; refine X8.mono ?_; rintro e w9 ⟨rfl, hb9⟩))
            go_ret
            exact ⟨rfl, HBf.out.trans (hb9.mono HBf.out.size)⟩
  · have hbig : decide (1048576 < (n : Int)) = true := by simp; omega
    go_enter Tryd.func3, Tryd.ntmps3
    go_wp2_with (first | (go_at_call 7; refine (big_any _ n cap ao true hbig).mono ?_; rintro e w1 ⟨rfl, rfl⟩))
    go_ret
    exact ⟨rfl, Below.refl _ _⟩
end Go.Proofs.YtjjaklhpdckppaaDoor
