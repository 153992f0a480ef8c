/- Drawn pieces: the walk over the specification's l12Stream, and what DrawJoin answers. -/
import Derived.Test.YtfefjkldjaabbaaLpl
import Derived.Test.YtfefjkldjaabbaaDp
import Derived.Test.YtfefjkldjaabbaaSp12
import Derived.Test.YtfefjkldjaabbaaHlt
import Derived.Test.YtfefjkldjaabbaaDX
import Derived.Deep.RegionHeld
namespace Go.Proofs.Ytfefjkldjaabbaa
open Go.RowKit Pl
set_option linter.unusedVariables false
set_option linter.unusedSimpArgs false

/-- append(a, b...), where a is not nil: neither is what comes of it. -/
theorem wp_catZ {P : Program} {w : World} {o : Oper} {a : Act} {K : Act → World → Prop} {Q : Exit → Act → World → Prop}
    (s x : Operand) (t : TypeId) (ho : o.op = .call { callee := .builtin .append, args := #[s, x], argTypes := #[t, t] })
    (ht : P.underlying t = some (.slice 9)) (hinfo : (P.info? 9).map (fun i => (i.zero, i.size, i.bytes)) = some (some (.string ⟨#[]⟩), 1, 16))
    (B : Nat) (v : Value) (xs : List ByteArray) (hs : a.eval s = v) (hown : OwnS w B v xs)
    (u : Value) (ys : List ByteArray) (hx : a.eval x = u) (hu : RT w u ys) (hn : xs.length + ys.length < 4000000) (hB : B ≤ w.heap.size) (hv : v ≠ .slice none 0 0)
    (h : ∀ v' w', OwnS w' B v' (xs ++ ys) → v' ≠ .slice none 0 0 → w.grownBy w' v.ownBlock → K (a.put o.dst v') w') : o.wp P a w K Q := by
  obtain ⟨i0, hi, hz0, hz1, hz2⟩ := info_parts hinfo
  obtain ⟨ao, cap, rfl, hr⟩ := hu
  have hcat : ∀ (ad : Addr), ao = some ad → (∀ j u, (ys.map Value.string)[j]? = some u → w.cell? (ad.add j) = some u) → o.wp P a w K Q := by
    intro ad had hcell
    subst had
    refine wp_append_own w s x t ho B 9 i0 (.string ⟨#[]⟩) 1 16 ht hi hz0 hz1 hz2 rfl (by decide) v xs.length (xs.map Value.string) hs hown ad ys.length cap (ys.map Value.string) hx (by simp) hcell ?_ (by unfold maxLen; omega) (by omega) hB ?_
    · intro u hu'
      obtain ⟨y, _, rfl⟩ := List.mem_map.1 hu'
      rfl
    · intro v' w' hown' hg hiff
      exact h v' w' (by simpa [OwnS] using hown') (fun e => hv (hiff.1 e).1) hg
  by_cases h0 : 0 < ys.length
  · obtain ⟨b, off, rfl, _, _⟩ := hr 0 h0
    refine hcat ⟨b, off, none⟩ rfl fun j u hj => ?_
    have hjl : j < ys.length := by have := (List.getElem?_eq_some_iff.1 hj).1; simpa using this
    obtain ⟨b', off', e, _, hc⟩ := hr j hjl
    simp at e
    obtain ⟨rfl, rfl⟩ := e
    rw [Addr.add_lit, hc]
    simp [hjl] at hj
    rw [hj]
  · have e : ys = [] := List.eq_nil_of_length_eq_zero (by omega)
    subst e
    cases ao with
    | some ad => exact hcat ad rfl fun j u hj => by simp at hj
    | none =>
      have hc0 := h v w (by rw [List.append_nil]; exact hown) hv (World.grownBy.refl _ _)
      rcases hown.2 with ⟨hv0, _⟩ | ⟨g, cp, cur, hvv, _⟩
      · exact absurd hv0 hv
      · have hs' : Sl w 9 1 B v xs.length (xs.map Value.string) := Sl.ofOwn hown
        have hsrc : Src P i0.size t (.slice none 0 cap) 0 [] w := Src.ofNil _ ht cap
        subst hvv
        have hroom : xs.length + 0 ≤ cp := by
          rcases hs'.2 with ⟨h1, _⟩ | ⟨g', off', cap', cur', h1, _, _, hle, _⟩
          · cases h1
          · simp at h1; omega
        unfold Oper.wp execOp
        have hr := run_append_room_src (P := P) w t t o.type 9 i0 ht hi g 0 xs.length cp (.slice none 0 cap) 0 [] hsrc hroom (fun j hj => by simp at hj) (fun j hj => by simp at hj)
        simp only [ho, resolve, invoke, builtin, Sem.run_bind, Sem.run_pure, Result.andThen_ok, List.map_toArray, List.map_cons, List.map_nil, hs, hx, List.length_nil, hr]
        exact hc0
theorem wpList_catZ {P : Program} {w : World} {ops : Array Oper} {rest : List Oper} {o : Oper} {a : Act} {Q : Exit → Act → World → Prop} (hgd : o.guard = none)
    (s x : Operand) (t : TypeId) (ho : o.op = .call { callee := .builtin .append, args := #[s, x], argTypes := #[t, t] })
    (ht : P.underlying t = some (.slice 9)) (hinfo : (P.info? 9).map (fun i => (i.zero, i.size, i.bytes)) = some (some (.string ⟨#[]⟩), 1, 16))
    (B : Nat) (v : Value) (xs : List ByteArray) (hs : a.eval s = v) (hown : OwnS w B v xs)
    (u : Value) (ys : List ByteArray) (hx : a.eval x = u) (hu : RT w u ys) (hn : xs.length + ys.length < 4000000) (hB : B ≤ w.heap.size) (hv : v ≠ .slice none 0 0)
    (h : ∀ v' w', OwnS w' B v' (xs ++ ys) → v' ≠ .slice none 0 0 → w.grownBy w' v.ownBlock → wpList P ops Q rest (a.put o.dst v') w') : wpList P ops Q (o :: rest) a w :=
  wpList_plain hgd fun _ hK => wp_catZ s x t ho ht hinfo B v xs hs hown u ys hx hu hn hB hv fun v' w' h1 h2 h3 => hK _ _ (h v' w' h1 h2 h3)

/-- what lies behind the beginning has turned. -/
theorem Drw.push {w0 w w' : World} {B g n cap : Nat} {ao : Option Addr} (h : Drw w0 w B g ao n cap) (hb : Below w0.heap.size w w') (hg : g < w0.heap.size) (hB : B ≤ g) : Hid (Drw w0 w' B g ao n cap) :=
  ⟨CurAt.stays h.1 hb hg, h.2.1.stays hb (by omega), ⟨hb.os.trans h.2.2.os, hb.tape.trans h.2.2.tape, hb.output.trans h.2.2.output, Nat.le_trans h.2.2.size hb.size, fun k hk hkg => (hb.block k hk).trans (h.2.2.block k hk hkg)⟩⟩
theorem OwnS_keepg {w w' : World} {B g : Nat} {v : Value} {ss : List ByteArray} (h : OwnS w B v ss) (hk : KeepBut g w w') (hg : g < B) : OwnS w' B v ss :=
  Pl.OwnS.keep' h fun k hb hl => hk.block k hl (by have := (h.lt k hb).1; omega)
theorem keep_rest {w0 a b : World} {B g n cap : Nat} {ao : Option Addr} (h : Drw a b B g ao n cap) : KeepBut g a b := h.2.2
theorem Drw.again {w0 a b : World} {B g n cap : Nat} {ao : Option Addr} (h0 : Drw w0 a B g ao n cap) (h : Drw a b B g ao n cap) : Hid (Drw w0 b B g ao n cap) := ⟨h.1, h.2.1, h0.2.2.trans h.2.2⟩
theorem pcsL_tiny {m : Nat} {s : ByteArray} (hm : m ≤ 100000) (hs : s.size ≤ 400) : ∀ x ∈ pcsL m s, x.size ≤ 60 := by
  intro x hx
  unfold pcsL at hx
  obtain ⟨i, hi, rfl⟩ := List.mem_map.1 hx
  have hi' := List.mem_range.1 hi
  have hc := (cntN_le hs).2
  unfold pcS
  rw [app_size, app_size, app_size, part_size]
  have v1 := varS_short m hm
  have v2 := varS_short i (by omega)
  have v3 := varS_short (cntN s.size) (by omega)
  unfold lenN; omega
/-- whatever is cut, few pieces come of it. -/
theorem spPieces_few (num : Nat) (s : ByteArray) (w : World) (hn : num ≤ 100000) (hs : s.size ≤ 1048576) :
    Calls Try.prog 12 #[.int .i64 num, .string s] w fun e w' => ∃ (v : Value) (b : Bool) (ps : List ByteArray), e = .returned (.tuple #[v, .bool b]) ∧ ps.length ≤ 10 ∧ (∀ x ∈ ps, x.size ≤ 60) ∧ OwnS w' w.heap.size v ps ∧ Below w.heap.size w w' := by
  by_cases h : s.size ≤ 400
  · refine (spPieces_yes num s w hn h).mono ?_
    rintro e w' ⟨v, rfl, h1, h2⟩
    exact ⟨v, true, _, rfl, by unfold pcsL; rw [List.length_map, List.length_range]; exact (cntN_le h).2, pcsL_tiny hn h, h1, h2⟩
  · refine (spPieces_no num s w (by omega) hs).mono ?_
    rintro e w' ⟨v, rfl, h1, h2⟩
    exact ⟨v, false, [], rfl, by simp, (fun x hx => absurd hx (by simp)), h1, h2⟩
theorem TextsAt.take {w : World} {ao : Option Addr} {ts : List ByteArray} (h : TextsAt w ao ts) (k : Nat) : TextsAt w ao (ts.take k) := by
  intro i hi
  have hi' : i < ts.length := by rw [List.length_take] at hi; omega
  obtain ⟨b, off, h1, h2, h3⟩ := h i hi'
  exact ⟨b, off, h1, h2, by rw [h3]; simp⟩
theorem TextsAt.drop {w : World} {b off : Nat} {ts : List ByteArray} (h : TextsAt w (some ⟨b, off, none⟩) ts) (k : Nat) : TextsAt w (some ⟨b, off + k, none⟩) (ts.drop k) := by
  intro i hi
  have hi' : k + i < ts.length := by rw [List.length_drop] at hi; omega
  obtain ⟨b', off', h1, h2, h3⟩ := h (k + i) hi'
  simp only [Option.some.injEq, Addr.mk.injEq] at h1
  obtain ⟨rfl, rfl, _⟩ := h1
  exact ⟨b, off + k, rfl, h2, by rw [Nat.add_assoc, h3]; simp⟩

theorem rt_rest {w : World} {gl c k : Nat} {ts : List ByteArray} (h : TextsAt w (some ⟨gl, 0, none⟩) ts) (hk : k < ts.length) (hcap : ts.length ≤ c) : RT w (.slice (if c = k + 1 then some ⟨gl, 0, none⟩ else some ⟨gl, k + 1, none⟩) (ts.length - (k + 1)) (c - (k + 1))) (ts.drop (k + 1)) := by
  by_cases hl : ts.length = k + 1
  · have e : ts.drop (k + 1) = [] := List.drop_eq_nil_of_le (by omega)
    rw [e, hl, Nat.sub_self]
    exact ⟨_, _, rfl, fun i hi => absurd hi (by simp)⟩
  · by_cases hc : c = k + 1
    · omega
    · rw [if_neg hc]
      refine ⟨_, _, by rw [List.length_drop], ?_⟩
      have := TextsAt.drop h (k + 1)
      rw [Nat.zero_add] at this
      exact this
theorem ownS_cap {w : World} {B n c : Nat} {a : Option Addr} {ss : List ByteArray} (h : OwnS w B (.slice a n c) ss) : n ≤ c := by
  rcases h.2 with ⟨h1, h2⟩ | ⟨g, cap, cur, h1, _, _, h2, _⟩
  · simp only [Value.slice.injEq] at h1; omega
  · simp only [Value.slice.injEq] at h1; omega
set_option maxRecDepth 100000 in
set_option maxHeartbeats 8000000 in
theorem stream_any (w : World) (B g n cap : Nat) (ao : Option Addr) (hn : n ≤ 1048576) (hB : B ≤ g) (hd : Hid (Drw w w B g ao n cap)) :
    Calls Try.prog 45 #[.pointer (some ⟨g, 0, none⟩)] w fun e w' => ∃ v ts, e = .returned v ∧ OwnS w' w.heap.size v ts ∧ ts.length ≤ 1000 ∧ (∀ x ∈ ts, x.size ≤ 1048576) ∧ KeepBut g w w' := by
  have hg := hd.out.lt
  have V0 : Hid (OwnS (w.alloc (.cells #[] 9)) w.heap.size (.slice (some ⟨w.heap.size, 0, none⟩) 0 0) []) := OwnS.made w w.heap.size (Nat.le_refl _)
  have D0 : Hid (Drw w (w.alloc (.cells #[] 9)) B g ao n cap) := hd.out.alloc hB _
  go_enter Try.func45, Try.ntmps45
  go_wp2_with fail
  generalize w.alloc (.cells #[] 9) = W0 at *
  go_loopw [3, 4] (fun v ix wr => ∃ (j : Nat) (ts : List ByteArray), j ≤ 3 ∧ ix = .int .i64 j ∧ v ≠ .slice none 0 0 ∧ ts.length ≤ 10 * j ∧ Hid (∀ x ∈ ts, x.size ≤ 60) ∧ Hid (OwnS wr w.heap.size v ts) ∧ Hid (Drw w wr B g ao n cap)) (fun _ ix _ => 4 - (intOf ix).toNat)
  case atStart => exact ⟨0, [], by omega, rfl, by simp, by simp, (fun x hx => absurd hx (by simp) : ∀ x ∈ ([] : List ByteArray), x.size ≤ 60), V0.out, D0.out⟩
  case round =>
    clear V0 D0
    obtain ⟨j, ts, hj, rfl, hvn, htl, htz, hV, hD⟩ := hrel
    go_wp2_with fail
    refine (below_small _ _ B g n cap 4 ao hn hB (by omega) (by omega) (Drw.start hD.out.1 hD.out.2.1)).mono ?_
    rintro e w1 ⟨⟨x, hx, rfl⟩, hd1⟩
    have D1 : Hid (Drw w w1 B g ao n cap) := hD.out.again hd1.out
    have V1 : Hid (OwnS w1 w.heap.size u3 ts) := OwnS_keepg hV.out hd1.out.2.2 hg
    clear hd1 hD hV
    by_cases hlt : j < x
    · go_wp2_with fail
      refine (below_small _ _ B g n cap 9 ao hn hB (by omega) (by omega) (Drw.start D1.out.1 D1.out.2.1)).mono ?_
      rintro e w2 ⟨⟨y, hy, rfl⟩, hd2⟩
      have D2 : Hid (Drw w w2 B g ao n cap) := D1.out.again hd2.out
      have V2 : Hid (OwnS w2 w.heap.size u3 ts) := OwnS_keepg V1.out hd2.out.2.2 hg
      clear hd2 D1 V1
      go_wp2_with fail
      refine (l12Long_any _ _ B g n cap ao hn hB (Drw.start D2.out.1 D2.out.2.1)).mono ?_
      rintro e w3 ⟨⟨t, ht, rfl⟩, hd3⟩
      have D3 : Hid (Drw w w3 B g ao n cap) := D2.out.again hd3.out
      have V3 : Hid (OwnS w3 w.heap.size u3 ts) := OwnS_keepg V2.out hd3.out.2.2 hg
      clear hd3 D2 V2
      go_wp2_with fail
      refine (spPieces_few y t _ (by omega) (by omega)).mono ?_
      rintro e w4 ⟨v4, b4, ps, rfl, hpl, hpz, hv4, hb4⟩
      have D4 : Hid (Drw w w4 B g ao n cap) := D3.out.step hB hb4
      have V4 : Hid (OwnS w4 w.heap.size u3 ts) := Pl.OwnS.keep' V3.out fun k hk hl => hb4.block k hl
      have R4 : Hid (RT w4 v4 ps) := hv4.rt
      have HPZ : Hid (∀ x ∈ ps, x.size ≤ 60) := hpz
      have hs4 := D4.out.2.2.size
      clear hb4 hv4 hpz D3 V3
      go_wp2_with (first | (with_reducible refine wpList_haltZ _ _ _ rfl ?_))
      refine Stp.go ?_
      refine wpList_catZ rfl _ _ 26 rfl Try.underlying26 Try.info9 w.heap.size _ ts rfl V4.out _ ps rfl R4.out (by omega) hs4 hvn ?_
      intro v5 w5 O5 n5 g5
      have hb5 : Below w.heap.size w4 w5 := (Below.refl _ _).grown g5 hs4 (fun k hk => (V4.out.lt k hk).1)
      have D5 : Hid (Drw w w5 B g ao n cap) := D4.out.push hb5 hg hB
      have O5 : Hid (OwnS w5 w.heap.size v5 (ts ++ ps)) := O5
      clear g5 hb5 D4 V4 R4
      go_wp2_with fail
      go_roundw
      case rel =>
        refine ⟨j + 1, ts ++ ps, by omega, by go_num, n5, by rw [List.length_append]; omega, ?_, O5.out, D5.out⟩
        intro z hz
        rcases List.mem_append.1 hz with h | h
        · exact htz.out z h
        · exact HPZ.out z h
      case measure => simp [intOf]; omega
    · obtain ⟨a3, c3, hform⟩ := V1.out.form
      subst hform
      by_cases h0 : ts.length = 0
      · have hd0 : decide ((0 : Int) < (ts.length : Int)) = false := decide_eq_false (by omega)
        have hle : ¬ (0 < ts.length) := by omega
        have H0 : Hid (ts.length = 0) := h0
        clear h0
        go_wp2_with fail
        go_ret
        exact ⟨_, ts, rfl, V1.out, by omega, fun z hz => by have := htz.out z hz; omega, D1.out.2.2⟩
      have hd0 : decide ((0 : Int) < (ts.length : Int)) = true := decide_eq_true (by omega)
      have h0' : 0 < ts.length := by omega
      go_wp2_with fail
      refine (once_any _ _ B g n cap 3 ao hn hB (by omega) (by omega) (Drw.start D1.out.1 D1.out.2.1)).mono ?_
      rintro e w2 ⟨⟨b, rfl⟩, hd2⟩
      have D2 : Hid (Drw w w2 B g ao n cap) := D1.out.again hd2.out
      have V2 : Hid (OwnS w2 w.heap.size (.slice a3 ts.length c3) ts) := OwnS_keepg V1.out hd2.out.2.2 hg
      clear hd2 D1 V1 hd0
      cases b with
      | false =>
        go_wp2_with fail
        go_ret
        exact ⟨_, ts, rfl, V2.out, by omega, fun z hz => by have := htz.out z hz; omega, D2.out.2.2⟩
      | true =>
        go_wp2_with fail
        refine (below_small _ _ B g n cap ts.length ao hn hB h0' (by omega) (Drw.start D2.out.1 D2.out.2.1)).mono ?_
        rintro e w3 ⟨⟨k, hk, rfl⟩, hd3⟩
        have D3 : Hid (Drw w w3 B g ao n cap) := D2.out.again hd3.out
        have V3 : Hid (OwnS w3 w.heap.size (.slice a3 ts.length c3) ts) := OwnS_keepg V2.out hd3.out.2.2 hg
        clear hd3 D2 V2
        go_wp2_with fail
        refine (below_small _ _ B g n cap 3 ao hn hB (by omega) (by omega) (Drw.start D3.out.1 D3.out.2.1)).mono ?_
        rintro e w4 ⟨⟨y, hy, rfl⟩, hd4⟩
        have D4 : Hid (Drw w w4 B g ao n cap) := D3.out.again hd4.out
        have V4 : Hid (OwnS w4 w.heap.size (.slice a3 ts.length c3) ts) := OwnS_keepg V3.out hd4.out.2.2 hg
        clear hd4 D3 V3
        obtain ⟨gl, cl, hvf, hgB, hgl, hcl, hcell⟩ := V4.out.some h0'
        simp only [Value.slice.injEq] at hvf
        obtain ⟨rfl, _, rfl⟩ := hvf
        have hs4 := D4.out.2.2.size
        have X4 : Hid (TextsAt w4 (some ⟨gl, 0, none⟩) ts) := by
          obtain ⟨ao', cap', he, hx⟩ := V4.out.texts
          simp only [Value.slice.injEq] at he
          rw [he.1]; exact hx
        match y, hy with
        | 0, _ =>
          have hcap : ts.length ≤ c3 := ownS_cap V4.out
          have hkc : (k : Int) ≤ (c3 : Int) := by omega
          have hkc2 : ((k : Int) + 1) ≤ (ts.length : Int) := by omega
          have hw1 : IntKind.i64.wrap ((k : Int) + 1) = (k : Int) + 1 := by rw [IntKind.wrap_i64]; omega
          go_wp2_with fail
          have c : Below w4.heap.size w4 w4.drew := (Below.refl _ _).drew
          refine wp_region_held_drew (S := fun w' => Below w4.heap.size w4 w') (by kernel_rfl) c (fun hHeld => ?_)
          refine wpAnyH_take (i := 1) (v := ?v1) rfl (by kernel_rfl) (by kernel_rfl) (by kernel_rfl) (fun _ _ _ h => h) (Or.inl ⟨by rfl, ?hy1⟩) (by assumption) ?_
          case hy1 => (intro w hSw; (try dsimp only at hSw); simp only [List.getElem_toArray, List.getElem_cons_zero, List.getElem_cons_succ]; go_simp; try with_reducible rfl)
          try simp only [Act.put, List.getElem_toArray, List.getElem_cons_zero, List.getElem_cons_succ, List.setIfInBounds_toArray, List.set_cons_zero, List.set_cons_succ]
          refine wpAnyH_take (i := 2) (v := ?v2) rfl (by kernel_rfl) (by kernel_rfl) (by kernel_rfl) (fun _ _ _ h => h) (Or.inl ⟨by rfl, ?hy2⟩) (by assumption) ?_
          case hy2 => (intro w hSw; (try dsimp only at hSw); simp only [List.getElem_toArray, List.getElem_cons_zero, List.getElem_cons_succ]; go_simp; try with_reducible rfl)
          try simp only [Act.put, List.getElem_toArray, List.getElem_cons_zero, List.getElem_cons_succ, List.setIfInBounds_toArray, List.set_cons_zero, List.set_cons_succ]
          refine wpAnyH_take (i := 3) (v := ?v3) rfl (by kernel_rfl) (by kernel_rfl) (by kernel_rfl) (fun _ _ _ h => h) (Or.inl ⟨by rfl, ?hy3⟩) (by assumption) ?_
          case hy3 => (intro w hSw; (try dsimp only at hSw); simp only [List.getElem_toArray, List.getElem_cons_zero, List.getElem_cons_succ]; go_simp; try with_reducible rfl)
          try simp only [Act.put, List.getElem_toArray, List.getElem_cons_zero, List.getElem_cons_succ, List.setIfInBounds_toArray, List.set_cons_zero, List.set_cons_succ]
          refine wpAnyH_take (i := 5) (v := ?v5) rfl (by kernel_rfl) (by kernel_rfl) (by kernel_rfl) (fun _ _ _ h => h) (Or.inl ⟨by rfl, ?hy5⟩) (by assumption) ?_
          case hy5 => (intro w hSw; (try dsimp only at hSw); simp only [List.getElem_toArray, List.getElem_cons_zero, List.getElem_cons_succ]; go_simp; try with_reducible rfl)
          try simp only [Act.put, List.getElem_toArray, List.getElem_cons_zero, List.getElem_cons_succ, List.setIfInBounds_toArray, List.set_cons_zero, List.set_cons_succ]
          refine wpAnyH_take (i := 6) (v := ?v6) rfl (by kernel_rfl) (by kernel_rfl) (by kernel_rfl) (fun _ _ _ h => h) (Or.inl ⟨by rfl, ?hy6⟩) (by assumption) ?_
          case hy6 => (intro w hSw; (try dsimp only at hSw); simp only [List.getElem_toArray, List.getElem_cons_zero, List.getElem_cons_succ]; go_simp; try with_reducible rfl)
          try simp only [Act.put, List.getElem_toArray, List.getElem_cons_zero, List.getElem_cons_succ, List.setIfInBounds_toArray, List.set_cons_zero, List.set_cons_succ]
          refine wpAnyH_take (i := 7) (v := ?v7) rfl (by kernel_rfl) (by kernel_rfl) (by kernel_rfl) (fun _ _ _ h => h) (Or.inl ⟨by rfl, ?hy7⟩) (by assumption) ?_
          case hy7 => (intro w hSw; (try dsimp only at hSw); simp only [List.getElem_toArray, List.getElem_cons_zero, List.getElem_cons_succ]; go_simp; try with_reducible rfl)
          try simp only [Act.put, List.getElem_toArray, List.getElem_cons_zero, List.getElem_cons_succ, List.setIfInBounds_toArray, List.set_cons_zero, List.set_cons_succ]
          refine wpAnyH_take (i := 8) (v := ?v8q) rfl (by kernel_rfl) (by kernel_rfl) (by kernel_rfl) (fun _ _ _ h => h) (Or.inl ⟨by rfl, ?hy8q⟩) (by assumption) ?_
          case hy8q => (intro w hSw; (try dsimp only at hSw); simp only [List.getElem_toArray, List.getElem_cons_zero, List.getElem_cons_succ]; go_simp; (exact if_pos (by omega : (0 : Int) ≤ (k : Int) + 1)))
          try simp only [Act.put, List.getElem_toArray, List.getElem_cons_zero, List.getElem_cons_succ, List.setIfInBounds_toArray, List.set_cons_zero, List.set_cons_succ]
          refine wpAnyH_ready (rs := [0]) (by kernel_rfl) (by simp) ?_
          refine AllReadyH.cons (i := 0) rfl (fun K hK => ?_) AllReadyH.nil
          rw [if_pos (by rfl)]
          simp only [List.getElem_toArray, List.getElem_cons_zero, List.getElem_cons_succ]
          go_simp
          have O0 : Hid (OwnS (w4.drew.alloc (.cells #[] 9)) w4.heap.size (.slice (some ⟨w4.heap.size, 0, none⟩) 0 0) []) := OwnS.made w4.drew w4.heap.size (Nat.le_refl _)
          have c : Below w4.heap.size w4 (w4.drew.alloc (.cells #[] 9)) := c.alloc c.size _
          refine hK.out _ _ (c) (fun hHeld => ?_)
          clear hK K
          try simp only [Act.put, List.getElem_toArray, List.getElem_cons_zero, List.getElem_cons_succ, List.setIfInBounds_toArray, List.set_cons_zero, List.set_cons_succ]
          refine wpAnyH_ready (rs := [4]) (by kernel_rfl) (by simp) ?_
          refine AllReadyH.cons (i := 4) rfl (fun K hK => ?_) AllReadyH.nil
          rw [if_pos (by rfl)]
          simp only [List.getElem_toArray, List.getElem_cons_zero, List.getElem_cons_succ]
          refine wp_catZ _ _ 26 rfl Try.underlying26 Try.info9 w4.heap.size _ [] (by rfl) O0.out _ (ts.take k) (by rfl) ⟨some ⟨gl, 0, none⟩, c3, by rw [List.length_take, Nat.min_eq_left (by omega)]; rfl, TextsAt.take (X4.out.stays c) k⟩ (by rw [List.length_take]; simp; omega) c.size (by simp) ?_
          intro v6 w6 O6 n6 g6
          have c : Below w4.heap.size w4 w6 := c.grown g6 c.size (fun q hq => by cases hq; exact Nat.le_refl _)
          refine hK.out _ _ (c) (fun hHeld => ?_)
          clear hK K
          try simp only [Act.put, List.getElem_toArray, List.getElem_cons_zero, List.getElem_cons_succ, List.setIfInBounds_toArray, List.set_cons_zero, List.set_cons_succ]
          clear g6 O0
          rw [List.nil_append] at O6
          refine wpAnyH_ready (rs := [9]) (by kernel_rfl) (by simp) ?_
          refine AllReadyH.cons (i := 9) rfl (fun K hK => ?_) AllReadyH.nil
          rw [if_pos (by rfl)]
          simp only [List.getElem_toArray, List.getElem_cons_zero, List.getElem_cons_succ]
          refine wp_catZ _ _ 26 rfl Try.underlying26 Try.info9 w4.heap.size _ (ts.take k) (by rfl) O6 _ (ts.drop (k + 1)) (by rfl) (rt_rest (X4.out.stays c) hk hcap) (by rw [List.length_take, List.length_drop]; omega) c.size n6 ?_
          intro v7 w7 O7 n7 g7
          have c : Below w4.heap.size w4 w7 := c.grown g7 c.size (fun q hq => (O6.lt q hq).1)
          refine hK.out _ _ (c) (fun hHeld => ?_)
          clear hK K
          try simp only [Act.put, List.getElem_toArray, List.getElem_cons_zero, List.getElem_cons_succ, List.setIfInBounds_toArray, List.set_cons_zero, List.set_cons_succ]
          clear g7 O6 n6
          refine wpAnyH_take (i := 10) (v := ?v10) rfl (by kernel_rfl) (by kernel_rfl) (by kernel_rfl) (fun _ _ _ h => h) (Or.inl ⟨by rfl, ?hy10⟩) (by assumption) ?_
          case hy10 => (intro w hSw; (try dsimp only at hSw); simp only [List.getElem_toArray, List.getElem_cons_zero, List.getElem_cons_succ]; go_simp; try with_reducible rfl)
          try simp only [Act.put, List.getElem_toArray, List.getElem_cons_zero, List.getElem_cons_succ, List.setIfInBounds_toArray, List.set_cons_zero, List.set_cons_succ]
          refine wpAnyH_done (by kernel_rfl) ?_ _
          have O7 : Hid (OwnS w7 w.heap.size v7 (ts.take k ++ ts.drop (k + 1))) := O7.down hs4
          have D7 : Hid (Drw w w7 B g ao n cap) := D4.out.step hB c
          clear c hHeld V4 X4 hcl hcell D4
          generalize (if c3 = k + 1 then some (⟨gl, 0, none⟩ : Addr) else some ⟨gl, k + 1, none⟩) = az at *
          go_wp2_with fail
          go_ret
          refine ⟨_, ts.take k ++ ts.drop (k + 1), rfl, O7.out, by rw [List.length_append, List.length_take, List.length_drop]; omega, fun z hz => ?_, D7.out.2.2⟩
          rcases List.mem_append.1 hz with h | h
          · have := htz.out z (List.mem_of_mem_take h); omega
          · have := htz.out z (List.mem_of_mem_drop h); omega
        | 1, _ =>
          have c0 := hcl k hk
          have hkz := htz.out _ (List.getElem_mem hk)
          go_wp2_with fail
          generalize hX : ts[k] = X at *
          clear hX c0
          refine (spoilt_any _ _ B g n cap ao X hn hB (by omega) (Drw.start D4.out.1 D4.out.2.1)).mono ?_
          rintro e w5 ⟨⟨t, ht, rfl⟩, hd5⟩
          have D5 : Hid (Drw w w5 B g ao n cap) := D4.out.again hd5.out
          have V5 : Hid (OwnS w5 w.heap.size (.slice (some ⟨gl, 0, none⟩) ts.length c3) ts) := OwnS_keepg V4.out hd5.out.2.2 hg
          clear hd5 D4 V4 X4 hcell hcl
          obtain ⟨gl', cl', hvf, _, _, hc5, hf5⟩ := V5.out.some h0'
          simp only [Value.slice.injEq, Option.some.injEq, Addr.mk.injEq] at hvf
          obtain ⟨⟨rfl, _⟩, _, rfl⟩ := hvf
          have c0 := hc5 k hk
          have f0 := hf5 k
          obtain ⟨O6, g6⟩ := V5.out.store k t
          have hb6 : Below w.heap.size w5 (w5.setCell ⟨gl, k, none⟩ (.string t)) := (Below.refl _ _).grown g6 D5.out.2.2.size (fun q hq => by cases hq; exact hgB)
          have D6 := D5.out.push hb6 hg hB
          clear g6 hb6 hc5 hf5
          go_wp2_with fail
          go_ret
          refine ⟨_, ts.set k t, rfl, O6, by rw [List.length_set]; omega, fun z hz => ?_, D6.out.2.2⟩
          rcases List.mem_or_eq_of_mem_set hz with h | h
          · have := htz.out z h; omega
          · rw [h]; omega
        | 2, _ =>
          have c0 := hcl k hk
          have hkz := htz.out _ (List.getElem_mem hk)
          go_wp2_with (first | (with_reducible refine wpList_haltZ _ _ _ rfl ?_))
          refine Stp.go ?_
          refine wpList_pushS rfl _ _ 26 rfl Try.underlying26 Try.info9 w.heap.size _ ts rfl V4.out (ts[k]) rfl (by omega) hs4 ?_
          intro v6 w6 O6 hb6
          have D6 := D4.out.push hb6 hg hB
          have O6 : Hid (OwnS w6 w.heap.size v6 (ts ++ [ts[k]])) := O6
          clear hb6 c0
          go_wp2_with fail
          go_ret
          refine ⟨_, ts ++ [ts[k]], rfl, O6.out, by rw [List.length_append]; simp; omega, fun z hz => ?_, D6.out.2.2⟩
          rcases List.mem_append.1 hz with h | h
          · have := htz.out z h; omega
          · rw [List.mem_singleton.1 h]; omega

set_option maxRecDepth 100000 in
set_option maxHeartbeats 2000000 in
theorem drawJoin (w : World) (n cap : Nat) (ao : Option Addr) (hn : n ≤ 1048576) (hk : Hid (CodeAt w w.heap.size ao n)) :
    Calls Try.prog 16 #[.slice ao n cap] w fun e w' => Drawn w e w' := by
  go_enter Try.func16, Try.ntmps16
  go_wp2_with fail
  refine (new_any w n cap ao hn hk).mono ?_
  rintro e w1 ⟨rfl, hc, hb, hz⟩
  have D1 : Hid (Drw w1 w1 w.heap.size w.heap.size ao n cap) := Drw.start hc.out (hk.out.stays hb (Nat.le_refl _))
  have B1 : Hid (Below w.heap.size w w1) := hb
  clear hc hb hz
  go_wp2_with fail
  refine (stream_any w1 w.heap.size w.heap.size n cap ao hn (Nat.le_refl _) D1).mono ?_
  rintro e w2 ⟨v, ts, rfl, h1, h2, h3, h4⟩
  have HO : Hid (OwnS w2 w.heap.size v ts) := h1.down B1.out.size
  have HB : Hid (Below w.heap.size w w2) := B1.out.trans (h4.below (Nat.le_refl _) B1.out.size)
  have H3 : Hid (∀ x ∈ ts, x.size ≤ 1048576) := h3
  clear h1 h3 h4 D1 B1
  obtain ⟨a, c, rfl⟩ := HO.out.form
  go_wp2_with fail
  go_ret
  exact ⟨_, ts, rfl, HO.out, h2, H3.out, HB.out⟩
theorem lawPiles (w : World) (n cap : Nat) (ao : Option Addr) (hk : Hid (CodeAt w w.heap.size ao n)) :
    Calls Try.prog 4 #[.slice ao n cap] w fun e w' => e = .returned (.bool true) ∧ Below w.heap.size w w' := lawPiles_of w n cap ao fun hn => drawJoin w n cap ao hn hk
end Go.Proofs.Ytfefjkldjaabbaa
