/- The walk over the law on links. -/
import Derived.Test.YtohagaelenhebaaDT
import Derived.Test.YtohagaelenhebaaBg
import Derived.Test.YtohagaelenhebaaTp
import Derived.Test.YtohagaelenhebaaL6
namespace Go.Proofs.Ytohagaelenhebaa
open Go.RowKit Pl
set_option linter.unusedVariables false

/-- a list of ints, anywhere in its block. -/
def SlN (w : World) (B : Nat) (v : Value) (zs : List Int) : Prop := Sl w 3 1 B v zs.length (zs.map (Value.int .i64))
theorem SlN.ints {w : World} {B : Nat} {v : Value} {zs : List Int} (h : SlN w B v zs) : ∃ ao cap, v = .slice ao zs.length cap ∧ IntsAt w ao zs := by
  by_cases h0 : 0 < zs.length
  · obtain ⟨g, off, cap, rfl, h1, h2, h3, h4⟩ := Sl.read h h0
    refine ⟨_, cap, rfl, fun i hi => ⟨g, off, rfl, h2, h3 i _ ?_⟩⟩
    simp [hi]
  · obtain ⟨ao, cap, rfl⟩ := Sl.form h
    exact ⟨ao, cap, rfl, fun i hi => by omega⟩
theorem wpList_pushN {P : Program} {W : World} {B H : Nat} {v : Value} {ops : Array Oper} {rest : List Oper} {o : Oper} {a : Act} {Q : Exit → Act → World → Prop} {zs : List Int} (hgd : o.guard = none) (s x : Operand) (t : TypeId) (ho : o.op = .call { callee := .builtin .append, args := #[s, x], argTypes := #[t, t] })
    (ht : P.underlying t = some (.slice 3)) (hinfo : (P.info? 3).map (fun i => (i.zero, i.size, i.bytes)) = some (some (.int .i64 0), 1, 8)) (hs : a.eval s = v) (h : SlN W B v zs) (b : Int)
    (hH : W.heap.size = H) (hx : a.eval x = .slice (some ⟨H, 0, none⟩) 1 1) (hn : zs.length < 4000000) (hB : B ≤ W.heap.size)
    (hh : ∀ v' w', SlN w' B v' (zs ++ [b]) → W.grownBy w' v.ownBlock → W.heap.size + 1 ≤ w'.heap.size → wpList P ops Q rest (a.put o.dst v') w') : wpList P ops Q (o :: rest) a (W.alloc (.cells #[.int .i64 b] 3)) := by
  refine wpList_plain hgd fun _ hK => wp_pushE s x ho (.int .i64 0) 8 ht hinfo rfl hs h [.int .i64 b] rfl (fun u hu => by simp at hu; subst hu; rfl) hH hx hn (by omega) hB fun v' w' h2 h3 h4 h5 => hK _ _ (hh v' w' ?_ h3 h4)
  unfold SlN
  simpa using h2
theorem talkB_snoc {L : List ByteArray} {zs qs : List Int} (h : talkB L zs = true) (hl : (zs ++ qs).length ≤ 200) (hq : ∀ q ∈ qs, 0 ≤ q) : talkB L (zs ++ qs) = true := by
  obtain ⟨h1, h2, h3, h4⟩ := talkB_true h
  unfold talkB
  rw [show decide (L.length ≤ 20) = true by simpa using h1, show decide ((zs ++ qs).length ≤ 200) = true by simpa using hl, fitB_true.2 h3]
  simp only [Bool.true_and]
  refine List.all_eq_true.2 fun x hx => ?_
  rcases List.mem_append.1 hx with hx | hx
  · simpa using h4 x hx
  · simpa using hq x hx

set_option maxRecDepth 100000 in
set_option maxHeartbeats 8000000 in
theorem lawLinks (w : World) (n cap : Nat) (ao : Option Addr) (hk : Hid (CodeAt w w.heap.size ao n)) :
    Calls Try.prog 3 #[.slice ao n cap] w fun r w' => r = .returned (.bool true) ∧ Below w.heap.size w w' := by

  by_cases hbg : 1048576 < n
  · go_enter Try.func3, Try.ntmps3
    go_wp2_with fail
    refine (big_any w n cap ao true (by simp; omega)).mono ?_
    rintro e w1 ⟨rfl, rfl⟩
    go_wp2_with fail
    go_ret
    exact ⟨rfl, Below.refl _ _⟩
  have hn : n ≤ 1048576 := by omega
  go_enter Try.func3, Try.ntmps3
  go_wp2_with fail
  refine (big_any w n cap ao false (by simp; omega)).mono ?_
  rintro e w1 ⟨rfl, rfl⟩
  clear hbg
  go_wp2_with fail
  refine (drawTalk_any w1 n cap ao hn hk).mono ?_
  rintro e w2 ⟨v, u, L, zs, rfl, hDr⟩
  have HI : Hid (∀ x ∈ zs, x ≤ 9223372036854775807) := fun x hx => by have := hDr.ib x hx; omega
  have hLl := hDr.sl
  have hzl := hDr.il
  have B2 : Hid (Below w1.heap.size w1 w2) := hDr.b
  have S2 : Hid (SlT w2 w1.heap.size v L) := hDr.l
  have I2 : Hid (SlN w2 w1.heap.size u zs) := Sl.ofOwn hDr.i
  clear hDr hk
  obtain ⟨O, hO⟩ : ∃ O, O = talkO L zs := ⟨_, rfl⟩
  obtain ⟨R, hR⟩ : ∃ R, R = talkB L zs := ⟨_, rfl⟩
  have hOl : O.length ≤ 1000 := by rw [hO]; exact talkO_len L zs
  have HO : Hid (talkO L zs = O) := hO.symm
  have HR : Hid (talkR L zs = R) := by show talkR L zs = R; rw [talk_right, hR]
  have HRB : Hid (R = talkB L zs) := hR
  clear hO hR
  obtain ⟨va, vc, rfl, vt⟩ := SlT.texts S2.out
  obtain ⟨ia, ic, rfl, it⟩ := SlN.ints I2.out
  have hvc : L.length ≤ vc := slice_cap S2.out
  have VT : Hid (TextsAt w2 va L) := vt
  have IT : Hid (IntsAt w2 ia zs) := it
  clear vt it
  go_wp2_with fail
  refine (talk_any va ia vc ic L zs w2 VT IT (by omega) (by omega) hvc HI).mono ?_
  rintro e w3 ⟨⟨o, rfl, ho⟩, hb3⟩
  rw [HO.out] at ho
  rw [HR.out]
  have z3 : w2.heap.size ≤ w3.heap.size := hb3.size
  have B3 : Hid (Below w1.heap.size w1 w3) := B2.out.trans (hb3.mono B2.out.size)
  have S3 : Hid (SlT w3 w1.heap.size (.slice va L.length vc) L) := Sl.below S2.out hb3
  have I3 : Hid (SlN w3 w1.heap.size (.slice ia zs.length ic) zs) := Sl.below I2.out hb3
  have VT3 : Hid (TextsAt w3 va L) := VT.out.stays hb3
  have IT3 : Hid (IntsAt w3 ia zs) := IT.out.stays hb3
  obtain ⟨oa, oc, rfl, ot⟩ := SlT.texts ho
  have O3 : Hid (SlT w3 w2.heap.size (.slice oa O.length oc) O) := ho
  have OT3 : Hid (TextsAt w3 oa O) := ot
  clear B2 S2 I2 VT IT ho ot hb3
  go_wp2_with fail
  refine (spTalk_any va ia vc ic L zs w3 VT3 IT3 (by omega) (by omega) HI).mono ?_
  rintro e w4 ⟨⟨p, rfl, hp⟩, hb4⟩
  rw [HO.out] at hp
  rw [HR.out]
  have z4 : w3.heap.size ≤ w4.heap.size := hb4.size
  have B4 : Hid (Below w1.heap.size w1 w4) := B3.out.trans (hb4.mono B3.out.size)
  have S4 : Hid (SlT w4 w1.heap.size (.slice va L.length vc) L) := Sl.below S3.out hb4
  have I4 : Hid (SlN w4 w1.heap.size (.slice ia zs.length ic) zs) := Sl.below I3.out hb4
  have VT4 : Hid (TextsAt w4 va L) := VT3.out.stays hb4
  have O4 : Hid (SlT w4 w2.heap.size (.slice oa O.length oc) O) := Sl.below O3.out hb4
  have OT4 : Hid (TextsAt w4 oa O) := OT3.out.stays hb4
  obtain ⟨pa, pc, rfl, pt⟩ := SlT.texts hp
  have PT4 : Hid (TextsAt w4 pa O) := pt
  clear B3 S3 I3 VT3 IT3 O3 OT3 hp pt hb4
  go_wp2_with fail
  refine (sameT_any oa pa oc pc O w4 OT4 PT4 (by omega)).mono ?_
  rintro e w5 ⟨rfl, hb5⟩
  have z5 : w4.heap.size ≤ w5.heap.size := hb5.size
  have B5 : Hid (Below w1.heap.size w1 w5) := B4.out.trans (hb5.mono B4.out.size)
  have S5 : Hid (SlT w5 w1.heap.size (.slice va L.length vc) L) := Sl.below S4.out hb5
  have I5 : Hid (SlN w5 w1.heap.size (.slice ia zs.length ic) zs) := Sl.below I4.out hb5
  have VT5 : Hid (TextsAt w5 va L) := VT4.out.stays hb5
  have O5 : Hid (SlT w5 w2.heap.size (.slice oa O.length oc) O) := Sl.below O4.out hb5
  have OT5 : Hid (TextsAt w5 oa O) := OT4.out.stays hb5
  clear B4 S4 I4 VT4 O4 OT4 PT4 hb5
  cases R with
  | false =>
    have hO0 : O.length = 0 := by
      rw [← HO.out]
      unfold talkO
      rw [← HRB.out]
      rfl
    go_wp2_with fail
    go_ret
    exact ⟨rfl, B5.out⟩
  | true =>
    have hbeg : O.length ≤ L.length ∧ O = L.take O.length := by
      have h := HR.out
      unfold talkR at h
      rw [← HRB.out, Bool.true_and] at h
      have hO : (Pl.runT L (natsOf zs)).b.o = O := by rw [← HO.out]; unfold talkO; rw [← HRB.out]; rfl
      rw [hO] at h
      unfold begB at h
      simp only [Bool.and_eq_true, decide_eq_true_eq] at h
      exact h
    obtain ⟨hOL, hOt⟩ := hbeg
    have HOt : Hid (O = L.take O.length) := hOt
    clear hOt
    have TT : Hid (TextsAt w5 va O) := by
      have := TextsAt.take VT5.out O.length
      rw [← HOt.out] at this
      exact this
    have hd1 : decide ((L.length : Int) < (O.length : Int)) = false := by simp; omega
    have q1 : (0 : Int) ≤ (O.length : Int) := by omega
    have q2 : (O.length : Int) ≤ (vc : Int) := by omega
    have q3 : O.length ≤ vc := by omega
    go_wp2_with fail
    refine (sameT_any oa va oc vc O w5 OT5 TT (by omega)).mono ?_
    rintro e w6 ⟨rfl, hb6⟩
    have z6 : w5.heap.size ≤ w6.heap.size := hb6.size
    have bO : Below w6.heap.size w6 (w6.alloc (.cells #[] 3)) := (Below.refl _ _).alloc (Nat.le_refl _) _
    have B6 : Hid (Below w1.heap.size w1 w6) := B5.out.trans (hb6.mono B5.out.size)
    have VT6 : Hid (TextsAt w6 va L) := VT5.out.stays hb6
    have I6 : SlN (w6.alloc (.cells #[] 3)) w1.heap.size (.slice ia zs.length ic) zs := Sl.below (Sl.below I5.out hb6) bO
    have S6 : Hid (SlT w6 w1.heap.size (.slice va L.length vc) L) := Sl.below S5.out hb6
    have hw6 : w1.heap.size ≤ w6.heap.size := B6.out.size
    have hm6 : Sl (w6.alloc (.cells #[] 3)) 3 1 w6.heap.size (.slice (some ⟨w6.heap.size, 0, none⟩) 0 0) 0 [] := Sl.made w6 3 1 w6.heap.size (Nat.le_refl _)
    have HM : Hid (Sl (w6.alloc (.cells #[] 3)) 3 1 w6.heap.size (.slice (some ⟨w6.heap.size, 0, none⟩) 0 0) 0 []) := hm6
    have HI6 : Hid (SlN (w6.alloc (.cells #[] 3)) w1.heap.size (.slice ia zs.length ic) zs) := I6
    have hz6 : (w6.alloc (.cells #[] 3)).heap.size = w6.heap.size + 1 := by simp
    clear hm6 I6 B5 VT5 I5 S5 O5 OT5 TT hb6
    go_wp2_with (at_builtin; refine Stop.mk ?_)
    refine Stop.go ?_
    refine wpList_appendS rfl _ _ 25 rfl (.int .i64 0) 8 Try.underlying25 Try.info3' rfl (by rfl) (show Sl (w6.alloc (.cells #[] 3)) 3 1 w6.heap.size (.slice (some ⟨w6.heap.size, 0, none⟩) 0 0) 0 [] from HM.out) _ zs.length (zs.map (Value.int .i64)) (by rfl) (Sl.src (show Sl (w6.alloc (.cells #[] 3)) 3 1 w1.heap.size (.slice ia zs.length ic) zs.length (zs.map (Value.int .i64)) from HI6.out) Try.underlying25 (fun x hx => by obtain ⟨t, _, rfl⟩ := List.mem_map.1 hx; rfl)) (by unfold maxLen; omega) (by omega) (by rw [hz6]; omega) ?_
    intro v7 w7 s7 g7 l7
    rw [Nat.zero_add, List.nil_append] at s7
    have b7 : Below w6.heap.size w6 w7 := bO.trans (grown_to_below (show World.grownBy _ w7 (some w6.heap.size) from g7) (Nat.le_refl _) (by rw [hz6]; omega))
    have N7 : Hid (SlN w7 w6.heap.size v7 (zs ++ [])) := by show SlN _ _ _ _; rw [List.append_nil]; exact s7
    have B7 : Hid (Below w6.heap.size w6 w7) := b7
    clear s7 g7 l7 b7 HM HI6 hz6 bO
    go_wp2_with fail
    go_loopw [9, 10] (fun v i wr => ∃ (k : Nat) (qs : List Int), k ≤ 60 ∧ i = .int .i64 k ∧ Hid ((zs ++ qs).length ≤ 200) ∧ Hid (∀ q ∈ qs, 0 ≤ q ∧ q ≤ 3) ∧ Hid (SlN wr w6.heap.size v (zs ++ qs)) ∧ Hid (Below w6.heap.size w6 wr)) (fun _ i _ => 60 - (intOf i).toNat)
    case atStart => exact ⟨0, [], by omega, rfl, (by show (zs ++ []).length ≤ 200; simp; omega), (fun q hq => by cases hq), N7.out, B7.out⟩
    case round =>
      obtain ⟨k, qs, hk60, rfl, hcl, hqs, hN, hB⟩ := hrel
      clear N7 B7
      obtain ⟨ca, cc, rfl, ct⟩ := SlN.ints hN.out
      obtain ⟨M, hM⟩ : ∃ M, M = (zs ++ qs).length := ⟨_, rfl⟩
      have HMe : Hid (M = (zs ++ qs).length) := hM
      rw [← hM] at hN ⊢
      have hM2 : M ≤ 200 := by have := hcl.out; omega
      have CT : Hid (IntsAt wr ca (zs ++ qs)) := ct
      have hw : w6.heap.size ≤ wr.heap.size := hB.out.size
      clear ct hM
      by_cases hgo : k < 60 ∧ M < 200
      · obtain ⟨h60, h200⟩ := hgo
        have hd1' : decide ((k : Int) < 60) = true := by simp; omega
        have hd2 : decide ((M : Int) < 200) = true := by simp; omega
        have hc4 : k % 4 = 0 ∨ k % 4 = 1 ∨ k % 4 = 2 ∨ k % 4 = 3 := by omega
        rcases hc4 with hc | hc | hc | hc
        · have m4 : (k : Int) % 4 = 0 := by omega
          clear hc
          have N1 : SlN (wr.alloc (.cells #[.int .i64 1, .int .i64 2, .int .i64 3, .int .i64 0] 3)) w6.heap.size (.slice ca M cc) (zs ++ qs) := Sl.alloc hN.out _
          have hz1 : (wr.alloc (.cells #[.int .i64 1, .int .i64 2, .int .i64 3, .int .i64 0] 3)).heap.size = wr.heap.size + 1 := by simp
          go_wp2_with (at_builtin; refine Stop.mk ?_)
          refine Stop.go ?_
          refine wpList_pushN rfl _ _ 25 rfl Try.underlying25 Try.info3' (by rfl) N1 (1 : Int) hz1 (by rfl) (by have := HMe.out; omega) (by omega) ?_
          intro v8 w8 N8 G8 Z8
          have N9 : Hid (SlN w8 w6.heap.size v8 (zs ++ (qs ++ [(1 : Int)]))) := by show SlN _ _ _ _; rw [← List.append_assoc]; exact N8
          have B9 : Hid (Below w6.heap.size w6 w8) := (hB.out.alloc hw _).trans ⟨G8.os, G8.tape, G8.output, G8.size, fun j hj => G8.block j (by omega) (fun he => by have := (Sl.lt hN.out j he.symm).1; omega)⟩
          clear N1 N8 G8 Z8 hz1 hN hB CT
          go_wp2_with fail
          go_roundw
          case rel => exact ⟨k + 1, qs ++ [(1 : Int)], by omega, by go_num, (by show (zs ++ (qs ++ [(1 : Int)])).length ≤ 200; rw [← List.append_assoc, List.length_append]; have := HMe.out; simp only [List.length_singleton]; omega), all_snoc hqs.out (by omega), N9.out, B9.out⟩
          case measure => simp [intOf]; omega
        · have m4 : (k : Int) % 4 = 1 := by omega
          clear hc
          have N1 : SlN (wr.alloc (.cells #[.int .i64 1, .int .i64 2, .int .i64 3, .int .i64 0] 3)) w6.heap.size (.slice ca M cc) (zs ++ qs) := Sl.alloc hN.out _
          have hz1 : (wr.alloc (.cells #[.int .i64 1, .int .i64 2, .int .i64 3, .int .i64 0] 3)).heap.size = wr.heap.size + 1 := by simp
          go_wp2_with (at_builtin; refine Stop.mk ?_)
          refine Stop.go ?_
          refine wpList_pushN rfl _ _ 25 rfl Try.underlying25 Try.info3' (by rfl) N1 (2 : Int) hz1 (by rfl) (by have := HMe.out; omega) (by omega) ?_
          intro v8 w8 N8 G8 Z8
          have N9 : Hid (SlN w8 w6.heap.size v8 (zs ++ (qs ++ [(2 : Int)]))) := by show SlN _ _ _ _; rw [← List.append_assoc]; exact N8
          have B9 : Hid (Below w6.heap.size w6 w8) := (hB.out.alloc hw _).trans ⟨G8.os, G8.tape, G8.output, G8.size, fun j hj => G8.block j (by omega) (fun he => by have := (Sl.lt hN.out j he.symm).1; omega)⟩
          clear N1 N8 G8 Z8 hz1 hN hB CT
          go_wp2_with fail
          go_roundw
          case rel => exact ⟨k + 1, qs ++ [(2 : Int)], by omega, by go_num, (by show (zs ++ (qs ++ [(2 : Int)])).length ≤ 200; rw [← List.append_assoc, List.length_append]; have := HMe.out; simp only [List.length_singleton]; omega), all_snoc hqs.out (by omega), N9.out, B9.out⟩
          case measure => simp [intOf]; omega
        · have m4 : (k : Int) % 4 = 2 := by omega
          clear hc
          have N1 : SlN (wr.alloc (.cells #[.int .i64 1, .int .i64 2, .int .i64 3, .int .i64 0] 3)) w6.heap.size (.slice ca M cc) (zs ++ qs) := Sl.alloc hN.out _
          have hz1 : (wr.alloc (.cells #[.int .i64 1, .int .i64 2, .int .i64 3, .int .i64 0] 3)).heap.size = wr.heap.size + 1 := by simp
          go_wp2_with (at_builtin; refine Stop.mk ?_)
          refine Stop.go ?_
          refine wpList_pushN rfl _ _ 25 rfl Try.underlying25 Try.info3' (by rfl) N1 (3 : Int) hz1 (by rfl) (by have := HMe.out; omega) (by omega) ?_
          intro v8 w8 N8 G8 Z8
          have N9 : Hid (SlN w8 w6.heap.size v8 (zs ++ (qs ++ [(3 : Int)]))) := by show SlN _ _ _ _; rw [← List.append_assoc]; exact N8
          have B9 : Hid (Below w6.heap.size w6 w8) := (hB.out.alloc hw _).trans ⟨G8.os, G8.tape, G8.output, G8.size, fun j hj => G8.block j (by omega) (fun he => by have := (Sl.lt hN.out j he.symm).1; omega)⟩
          clear N1 N8 G8 Z8 hz1 hN hB CT
          go_wp2_with fail
          go_roundw
          case rel => exact ⟨k + 1, qs ++ [(3 : Int)], by omega, by go_num, (by show (zs ++ (qs ++ [(3 : Int)])).length ≤ 200; rw [← List.append_assoc, List.length_append]; have := HMe.out; simp only [List.length_singleton]; omega), all_snoc hqs.out (by omega), N9.out, B9.out⟩
          case measure => simp [intOf]; omega
        · have m4 : (k : Int) % 4 = 3 := by omega
          clear hc
          have N1 : SlN (wr.alloc (.cells #[.int .i64 1, .int .i64 2, .int .i64 3, .int .i64 0] 3)) w6.heap.size (.slice ca M cc) (zs ++ qs) := Sl.alloc hN.out _
          have hz1 : (wr.alloc (.cells #[.int .i64 1, .int .i64 2, .int .i64 3, .int .i64 0] 3)).heap.size = wr.heap.size + 1 := by simp
          go_wp2_with (at_builtin; refine Stop.mk ?_)
          refine Stop.go ?_
          refine wpList_pushN rfl _ _ 25 rfl Try.underlying25 Try.info3' (by rfl) N1 (0 : Int) hz1 (by rfl) (by have := HMe.out; omega) (by omega) ?_
          intro v8 w8 N8 G8 Z8
          have N9 : Hid (SlN w8 w6.heap.size v8 (zs ++ (qs ++ [(0 : Int)]))) := by show SlN _ _ _ _; rw [← List.append_assoc]; exact N8
          have B9 : Hid (Below w6.heap.size w6 w8) := (hB.out.alloc hw _).trans ⟨G8.os, G8.tape, G8.output, G8.size, fun j hj => G8.block j (by omega) (fun he => by have := (Sl.lt hN.out j he.symm).1; omega)⟩
          clear N1 N8 G8 Z8 hz1 hN hB CT
          go_wp2_with fail
          go_roundw
          case rel => exact ⟨k + 1, qs ++ [(0 : Int)], by omega, by go_num, (by show (zs ++ (qs ++ [(0 : Int)])).length ≤ 200; rw [← List.append_assoc, List.length_append]; have := HMe.out; simp only [List.length_singleton]; omega), all_snoc hqs.out (by omega), N9.out, B9.out⟩
          case measure => simp [intOf]; omega
      · have hd12 : (decide ((k : Int) < 60) && decide ((M : Int) < 200)) = false := by
          cases h1 : decide ((k : Int) < 60) with
          | false => rfl
          | true =>
            simp at h1
            simp
            omega
        have hTB : talkB L (zs ++ qs) = true := talkB_snoc HRB.out.symm hcl.out (fun q hq => (hqs.out q hq).1)
        have hgood : talkR L (zs ++ qs) = true := by rw [talk_right]; exact hTB
        obtain ⟨O2, hO2⟩ : ∃ O2, O2 = talkO L (zs ++ qs) := ⟨_, rfl⟩
        have hmore : O.length ≤ O2.length := by rw [hO2, ← HO.out]; exact talk_more hTB HRB.out.symm
        have T9 := talk_any va ca vc cc L (zs ++ qs) wr (show Hid (TextsAt wr va L) from VT6.out.stays hB.out) CT (by omega) (by have := HMe.out; omega) hvc (show Hid (∀ x ∈ zs ++ qs, x ≤ 9223372036854775807) from fun x hx => by
          rcases List.mem_append.1 hx with hx | hx
          · exact HI.out x hx
          · have := (hqs.out x hx).2; omega)
        rw [← HMe.out] at T9
        have HT9 : Hid _ := T9
        have HO2 : Hid (talkO L (zs ++ qs) = O2) := hO2.symm
        have HG : Hid (talkR L (zs ++ qs) = true) := hgood
        have hO2l : O2.length ≤ 1000 := by rw [hO2]; exact talkO_len _ _
        clear T9 hO2 hgood hTB
        have hdm : decide ((O.length : Int) ≤ (O2.length : Int)) = true := by simp; omega
        by_cases h60 : k < 60
        · have hd1' : decide ((k : Int) < 60) = true := by simp; omega
          have hd2 : decide ((M : Int) < 200) = false := by simp; omega
          go_wp2_with fail
          refine Calls.mono HT9.out ?_
          rintro e w9 ⟨⟨m9, rfl, hm9⟩, hb9⟩
          rw [HO2.out] at hm9
          rw [HG.out]
          obtain ⟨ma, mc, rfl⟩ := Sl.form hm9
          have B9 : Hid (Below w1.heap.size w1 w9) := (B6.out.trans (hB.out.mono hw6)).trans (hb9.mono (by omega))
          clear hm9 hb9 HT9
          go_wp2_with fail
          go_ret
          exact ⟨rfl, B9.out⟩
        · have hd1' : decide ((k : Int) < 60) = false := by simp; omega
          go_wp2_with fail
          refine Calls.mono HT9.out ?_
          rintro e w9 ⟨⟨m9, rfl, hm9⟩, hb9⟩
          rw [HO2.out] at hm9
          rw [HG.out]
          obtain ⟨ma, mc, rfl⟩ := Sl.form hm9
          have B9 : Hid (Below w1.heap.size w1 w9) := (B6.out.trans (hB.out.mono hw6)).trans (hb9.mono (by omega))
          clear hm9 hb9 HT9
          go_wp2_with fail
          go_ret
          exact ⟨rfl, B9.out⟩
end Go.Proofs.Ytohagaelenhebaa
