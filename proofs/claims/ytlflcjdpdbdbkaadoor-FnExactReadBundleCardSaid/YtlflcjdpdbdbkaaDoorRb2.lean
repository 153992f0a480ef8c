/- The walk over the program's ReadBundle. -/
import Derived.Test.YtlflcjdpdbdbkaaDoorRb1
namespace Go.Proofs.YtlflcjdpdbdbkaaDoor
open Go.RowKit Pl
set_option linter.unusedVariables false
set_option linter.unusedSimpArgs false

/-- both Unsealed, at whatever text. -/
theorem un_two (t : ByteArray) (ht : t.size ≤ 1048576) : ∃ (s : ByteArray) (k : Bool), s.size ≤ 20000 ∧ ((k = true ∧ t = sealS s) ∨ (k = false ∧ s = ByteArray.empty ∧ ∀ s : ByteArray, s.size ≤ 20000 → t ≠ sealS s)) ∧
    (∀ w, Hid (Tab w) → Calls Tryd.prog 26 #[.string t] w fun e w' => e = .returned (.tuple #[.string s, .bool k]) ∧ Below w.heap.size w w') ∧
    (∀ w, Calls Tryd.prog 41 #[.string t] w fun e w' => e = .returned (.tuple #[.string s, .bool k]) ∧ Below w.heap.size w w') := by
  rcases seal_cases t with ⟨s, hs, rfl⟩ | ⟨h, hn⟩
  · obtain ⟨h1, h2⟩ := good_seal s
    have hz := sealS_size s
    rw [hz, Nat.add_sub_cancel] at h2
    refine ⟨s, true, hs, .inl ⟨rfl, rfl⟩, fun w htab => ?_, fun w => ?_⟩
    · have := implUn_yes (sealS s) s.size w hz hs htab h1
      rw [h2] at this
      exact this
    · have := specUn_yes (sealS s) s.size w hz hs h1
      rw [h2] at this
      exact this
  · refine ⟨ByteArray.empty, false, by decide, .inr ⟨rfl, rfl, hn⟩, fun w htab => ?_, fun w => ?_⟩
    · rcases h with h | h | ⟨n, h1, h2, h3⟩
      · exact implUn_short t w h
      · exact implUn_long t w h ht
      · exact implUn_no t n w h1 h2 htab h3
    · rcases h with h | h | ⟨n, h1, h2, h3⟩
      · exact specUn_short t w h
      · exact specUn_long t w h ht
      · exact specUn_no t n w h1 h2 h3


set_option maxRecDepth 100000 in
set_option maxHeartbeats 8000000 in
theorem readBundle_any (t : ByteArray) (w : World) (hs : t.size ≤ 1048576) (htab : Hid (Tab w)) :
    Calls Tryd.prog 9 #[.string t] w fun e w' => ∃ (f n o : Nat) (ts : List It) (k : Bool) (u : Sv), e = .returned (.tuple #[.agg #[.int .i64 f, .int .i64 n, .int .i64 o, .slice u.a u.n u.c], .bool k]) ∧ AnsB t f n o ts k ∧ SlI w' w.heap.size u.v ts ∧ Below w.heap.size w w' := by
  have hmf : ∀ (fn : Fn) (first cap : Array Value) (w : World), (Instr.makeFunc fn first cap).run Tryd.prog w = .ok (.func fn first cap) w := fun _ _ _ _ => rfl
  obtain ⟨s, k, hs20, hcase, himpl, _⟩ := un_two t hs
  have HIMPL : Hid _ := himpl
  have R0 : Hid (Bx (w.alloc (.cells #[.int .i64 0, .int .i64 0, .int .i64 0, .slice none 0 0] 26)) w.heap.size 26 [.int .i64 0, .int .i64 0, .int .i64 0, .slice none 0 0]) := Bx.new w 26 _
  have B0 : Hid (Below w.heap.size w (w.alloc (.cells #[.int .i64 0, .int .i64 0, .int .i64 0, .slice none 0 0] 26))) := (Below.refl _ _).alloc (Nat.le_refl _) _
  clear himpl
  go_enter Tryd.func9, Tryd.ntmps9
  go_wp2_with fail
  generalize (w.alloc (.cells #[.int .i64 0, .int .i64 0, .int .i64 0, .slice none 0 0] 26)) = W0 at *
  have T0 : Hid (Tab W0) := htab.out.below B0.out
  refine (HIMPL.out _ T0).mono ?_
  rintro e w1 ⟨rfl, hb1⟩
  have R1 : Hid (Bx w1 w.heap.size 26 [.int .i64 0, .int .i64 0, .int .i64 0, .slice none 0 0]) := R0.out.later hb1
  have B1 : Hid (Below w.heap.size w w1) := bl_nxt B0.out hb1
  clear hb1 R0 B0 HIMPL
  rcases hcase with ⟨rfl, hseal⟩ | ⟨rfl, _, hopen⟩
  case inr =>
    have HO : Hid _ := hopen
    clear hopen
    go_wp2_with (first | (with_reducible refine wpList_haltS 26 _ _ rfl ?_))
    refine Stp.go ?_
    refine wpList_stB rfl 26 _ _ rfl w.heap.size 0 rfl 26 _ R1.out [.int .i64 0, .int .i64 0, .int .i64 0, .slice none 0 0] rfl (by simp) Tryd.sizeBu rfl [.int .i64 0, .int .i64 0, .int .i64 0, .slice none 0 0] rfl ?_
    intro W9 R9 T9
    have B9 : Hid (Below w.heap.size w W9) := B1.out.trans (T9.below (Nat.le_refl _))
    clear T9
    go_wp2_with fail
    refine bodyPost_ret (results_bt Tryd.results9 w.heap.size 26 [.int .i64 0, .int .i64 0, .int .i64 0, .slice none 0 0] _ rfl R9 Tryd.underlying26 rfl Tryd.sizeBu) rfl ?_
    exact ⟨0, 0, 0, [], false, ⟨none, 0, 0⟩, rfl, ansB_open HO.out, SlI.zero _ _, B9.out⟩
  case inl =>
    have HS : Hid (t = sealS s) := hseal
    clear hseal
    have hN1 := R1.out.lt
    have D1 : Below w1.heap.size w1 (w1.alloc (.cells #[.int .i64 0, .int .i64 0, .int .i64 0, .slice none 0 0] 26)) := (Below.refl _ _).alloc (Nat.le_refl _) _
    have R2 : Hid (Bx (w1.alloc (.cells #[.int .i64 0, .int .i64 0, .int .i64 0, .slice none 0 0] 26)) w.heap.size 26 [.int .i64 0, .int .i64 0, .int .i64 0, .slice none 0 0]) := R1.out.later D1
    have M2 : Hid (Bx (w1.alloc (.cells #[.int .i64 0, .int .i64 0, .int .i64 0, .slice none 0 0] 26)) w1.heap.size 26 [.int .i64 0, .int .i64 0, .int .i64 0, .slice none 0 0]) := Bx.new w1 26 _
    have B2 : Hid (Below w.heap.size w (w1.alloc (.cells #[.int .i64 0, .int .i64 0, .int .i64 0, .slice none 0 0] 26))) := bl_nxt B1.out D1
    clear D1
    go_wp2_with fail
    generalize (w1.alloc (.cells #[.int .i64 0, .int .i64 0, .int .i64 0, .slice none 0 0] 26)) = W1 at *
    generalize w1.heap.size = gm at *
    clear R1 B1
    refine (readPB_any s gm W1 M2 (by omega)).mono ?_
    rintro e w2 (⟨rfl, hn, hk⟩ | ⟨f, n, o, A, ts, u, rfl, hq, hl, hi, hv, hk⟩)
    · have R3 : Hid (Bx w2 w.heap.size 26 [.int .i64 0, .int .i64 0, .int .i64 0, .slice none 0 0]) := R2.out.keepb hk (by omega)
      have B3 : Hid (Below w.heap.size w w2) := B2.out.trans (hk.below (by omega) B2.out.size)
      have HN : Hid (bunP s = none) := hn
      clear hn hk R2 B2 M2
      go_wp2_with (first | (with_reducible refine wpList_haltS 26 _ _ rfl ?_))
      refine Stp.go ?_
      refine wpList_stB rfl 26 _ _ rfl w.heap.size 0 rfl 26 _ R3.out [.int .i64 0, .int .i64 0, .int .i64 0, .slice none 0 0] rfl (by simp) Tryd.sizeBu rfl [.int .i64 0, .int .i64 0, .int .i64 0, .slice none 0 0] rfl ?_
      intro W9 R9 T9
      have B9 : Hid (Below w.heap.size w W9) := B3.out.trans (T9.below (Nat.le_refl _))
      clear T9
      go_wp2_with fail
      refine bodyPost_ret (results_bt Tryd.results9 w.heap.size 26 [.int .i64 0, .int .i64 0, .int .i64 0, .slice none 0 0] _ rfl R9 Tryd.underlying26 rfl Tryd.sizeBu) rfl ?_
      exact ⟨0, 0, 0, [], false, ⟨none, 0, 0⟩, rfl, by rw [HS.out]; exact (ansV_none HN.out).seal, SlI.zero _ _, B9.out⟩
    · have R3 : Hid (Bx w2 w.heap.size 26 [.int .i64 0, .int .i64 0, .int .i64 0, .slice none 0 0]) := R2.out.keepb hk (by omega)
      have B3 : Hid (Below w.heap.size w w2) := B2.out.trans (hk.below (by omega) B2.out.size)
      have HQ : Hid (bunP s = some ((f, n, o), ts, A)) := hq
      have M3 : Hid (Bx w2 gm 26 [.int .i64 f, .int .i64 n, .int .i64 o, .slice u.a u.n u.c]) := hi
      have V3 : Hid (SlI w2 w.heap.size u.v ts) := hv.down B2.out.size
      clear hq hk hi hv R2 B2 M2
      by_cases hA : A = s.size
      · have hb : ((A : Int) == (s.size : Int)) = true := by rw [hA]; simp
        rw [hb]
        have HA : Hid (A = s.size) := hA
        have c0 := M3.out.cell 0
        have c1 := M3.out.cell 1
        have c2 := M3.out.cell 2
        have c3 := M3.out.cell 3
        simp only [List.getElem?_cons_succ, List.getElem?_cons_zero] at c0 c1 c2 c3
        clear hb hA
        go_wp2_with fail
        have hct := bundleOk_r f n o u ts w2 V3.out.rit hl
        cases ho : bunB f n o ts with
        | true =>
          have HO : Hid (BnOk f n o ts) := ho
          rw [ho] at hct
          refine hct.mono ?_
          rintro e w3 ⟨rfl, hb3⟩
          have R4 : Hid (Bx w3 w.heap.size 26 [.int .i64 0, .int .i64 0, .int .i64 0, .slice none 0 0]) := R3.out.later hb3
          have M4 : Hid (Bx w3 gm 26 [.int .i64 f, .int .i64 n, .int .i64 o, .slice u.a u.n u.c]) := M3.out.later hb3
          have B4 : Hid (Below w.heap.size w w3) := bl_nxt B3.out hb3
          have V4 : Hid (SlI w3 w.heap.size u.v ts) := V3.out.below hb3
          clear ho hb3 hct R3 M3 B3 V3 c0 c1 c2 c3
          have c0 := M4.out.cell 0
          have c1 := M4.out.cell 1
          have c2 := M4.out.cell 2
          have c3 := M4.out.cell 3
          simp only [List.getElem?_cons_succ, List.getElem?_cons_zero] at c0 c1 c2 c3
          go_wp2_with (first | (with_reducible refine wpList_haltS 26 _ _ rfl ?_))
          refine Stp.go ?_
          refine wpList_stB rfl 26 _ _ rfl w.heap.size 0 rfl 26 _ R4.out [.int .i64 f, .int .i64 n, .int .i64 o, .slice u.a u.n u.c] rfl (by simp) Tryd.sizeBu rfl [.int .i64 f, .int .i64 n, .int .i64 o, .slice u.a u.n u.c] rfl ?_
          intro W9 R9 T9
          have B9 : Hid (Below w.heap.size w W9) := B4.out.trans (T9.below (Nat.le_refl _))
          have O9 : Hid (SlI W9 w.heap.size u.v ts) := V4.out.past R4.out T9 (by decide)
          clear T9 c0 c1 c2 c3
          go_wp2_with fail
          refine bodyPost_ret (results_bt Tryd.results9 w.heap.size 26 [.int .i64 f, .int .i64 n, .int .i64 o, .slice u.a u.n u.c] _ rfl R9 Tryd.underlying26 rfl Tryd.sizeBu) rfl ?_
          exact ⟨f, n, o, ts, true, u, rfl, by rw [HS.out]; exact (ansV_good (by rw [← HA.out]; exact HQ.out) HO.out).seal, O9.out, B9.out⟩
        | false =>
          have HO : Hid (¬ BnOk f n o ts) := by
            show ¬ _
            unfold BnOk
            rw [ho]
            exact Bool.false_ne_true
          rw [ho] at hct
          refine hct.mono ?_
          rintro e w3 ⟨rfl, hb3⟩
          have R4 : Hid (Bx w3 w.heap.size 26 [.int .i64 0, .int .i64 0, .int .i64 0, .slice none 0 0]) := R3.out.later hb3
          have B4 : Hid (Below w.heap.size w w3) := bl_nxt B3.out hb3
          clear ho hb3 hct R3 M3 B3 V3 c0 c1 c2 c3
          go_wp2_with (first | (with_reducible refine wpList_haltS 26 _ _ rfl ?_))
          refine Stp.go ?_
          refine wpList_stB rfl 26 _ _ rfl w.heap.size 0 rfl 26 _ R4.out [.int .i64 0, .int .i64 0, .int .i64 0, .slice none 0 0] rfl (by simp) Tryd.sizeBu rfl [.int .i64 0, .int .i64 0, .int .i64 0, .slice none 0 0] rfl ?_
          intro W9 R9 T9
          have B9 : Hid (Below w.heap.size w W9) := B4.out.trans (T9.below (Nat.le_refl _))
          clear T9
          go_wp2_with fail
          refine bodyPost_ret (results_bt Tryd.results9 w.heap.size 26 [.int .i64 0, .int .i64 0, .int .i64 0, .slice none 0 0] _ rfl R9 Tryd.underlying26 rfl Tryd.sizeBu) rfl ?_
          exact ⟨0, 0, 0, [], false, ⟨none, 0, 0⟩, rfl, by rw [HS.out]; exact (ansV_bad HQ.out (.inr HO.out)).seal, SlI.zero _ _, B9.out⟩
      · have hb : ((A : Int) == (s.size : Int)) = false := by simp; omega
        rw [hb]
        have HA : Hid (A ≠ s.size) := hA
        clear hA hb M3 V3
        go_wp2_with (first | (with_reducible refine wpList_haltS 26 _ _ rfl ?_))
        refine Stp.go ?_
        refine wpList_stB rfl 26 _ _ rfl w.heap.size 0 rfl 26 _ R3.out [.int .i64 0, .int .i64 0, .int .i64 0, .slice none 0 0] rfl (by simp) Tryd.sizeBu rfl [.int .i64 0, .int .i64 0, .int .i64 0, .slice none 0 0] rfl ?_
        intro W9 R9 T9
        have B9 : Hid (Below w.heap.size w W9) := B3.out.trans (T9.below (Nat.le_refl _))
        clear T9
        go_wp2_with fail
        refine bodyPost_ret (results_bt Tryd.results9 w.heap.size 26 [.int .i64 0, .int .i64 0, .int .i64 0, .slice none 0 0] _ rfl R9 Tryd.underlying26 rfl Tryd.sizeBu) rfl ?_
        exact ⟨0, 0, 0, [], false, ⟨none, 0, 0⟩, rfl, by rw [HS.out]; exact (ansV_bad HQ.out (.inl HA.out)).seal, SlI.zero _ _, B9.out⟩
end Go.Proofs.YtlflcjdpdbdbkaaDoor
