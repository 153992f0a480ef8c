/- Joined texts: CSvd CImb CLmb. -/
import Derived.Test.YtmbjflhhffcjdaaMbq19
import Derived.Test.YtmbjflhhffcjdaaMbq25
import Derived.Test.YtmbjflhhffcjdaaMbq18
import Derived.Test.YtmbjflhhffcjdaaMbq21
import Derived.Test.YtmbjflhhffcjdaaMbq16
/- The specification's MembersOf, l17Without, l03Has. -/
namespace Go.Proofs.Ytmbjflhhffcjdaa
open Go.RowKit Pl
set_option linter.unusedVariables false
set_option linter.unusedSimpArgs false

theorem OwnS.svs {w : World} {B : Nat} {v : Value} {ss : List ByteArray} (h : OwnS w B v ss) : ∃ u : Sv, v = .slice u.a u.n u.c := by
  obtain ⟨ao, cap, rfl⟩ := OwnS.form h
  exact ⟨⟨ao, ss.length, cap⟩, rfl⟩
theorem wpList_dupS {P : Program} {w : World} {ops : Array Oper} {rest : List Oper} {o : Oper} {a : Act} {Q : Exit → Act → World → Prop}
    (hgd : o.guard = none) (s x : Operand) (t : TypeId) (ho : o.op = .call { callee := .builtin .append, args := #[s, x], argTypes := #[t, t] })
    (ht : P.underlying t = some (.slice 9)) (hinfo : (P.info? 9).map (fun i => (i.zero, i.size, i.bytes)) = some (some (.string ⟨#[]⟩), 1, 16))
    (hs : a.eval s = .slice (some ⟨w.heap.size, 0, none⟩) 0 0) (u : Sv) (ys : List ByteArray) (hx : a.eval x = .slice u.a u.n u.c) (hu : RT w u.v ys) (hn : ys.length ≤ 1048576)
    (h : ∀ (v : Sv) w', OwnS w' w.heap.size v.v ys → Below w.heap.size w w' → wpList P ops Q rest (a.put o.dst (.slice v.a v.n v.c)) w') :
    wpList P ops Q (o :: rest) a (w.alloc (.cells #[] 9)) := by
  have b : Below w.heap.size w (w.alloc (.cells #[] 9)) := (Below.refl _ _).alloc (Nat.le_refl _) _
  have o1 : OwnS (w.alloc (.cells #[] 9)) w.heap.size (.slice (some ⟨w.heap.size, 0, none⟩) 0 0) [] := OwnS.made w w.heap.size (Nat.le_refl _)
  refine wpList_catT hgd s x t ho ht hinfo w.heap.size _ [] hs o1 (.slice u.a u.n u.c) ys hx (hu.stays b) (by simp; omega) b.size (fun h => by cases h) ?_
  intro v' w' h1 h2
  rw [List.nil_append] at h1
  obtain ⟨v, rfl⟩ := OwnS.svs h1
  exact h v w' h1 (b.grown h2 b.size (fun k hk => (OwnS.lt o1 k hk).1))
theorem memP_hit : ∀ {t : Tb} {x : ByteArray} {k : Nat} (hk : k < t.length), (t[k].1.toList == x.toList) = true → (∀ j (hj : j < t.length), j < k → (t[j].1.toList == x.toList) = false) → memP t x = t[k].2
  | p :: t, x, 0, hk, h, ha => by
    unfold memP
    rw [List.find?_cons, show (p.1.toList == x.toList) = true from h]
    rfl
  | p :: t, x, k + 1, hk, h, ha => by
    have h0 : (p.1.toList == x.toList) = false := ha 0 (by simp) (by omega)
    have := memP_hit (t := t) (x := x) (k := k) (by simpa using hk) (by simpa using h) (fun j hj hjk => by have := ha (j + 1) (by simpa using hj) (by omega); simpa using this)
    unfold memP at this ⊢
    rw [List.find?_cons, h0]
    simpa using this
theorem memP_none {t : Tb} {x : ByteArray} (ha : ∀ j (hj : j < t.length), (t[j].1.toList == x.toList) = false) : memP t x = [] := by
  unfold memP
  rw [List.find?_eq_none.2 fun p hp => by obtain ⟨j, hj, rfl⟩ := List.getElem_of_mem hp; simp [ha j hj]]
set_option maxRecDepth 100000 in
set_option maxHeartbeats 8000000 in
theorem spMembers_any (s : Sv) (es : List Gn) (x : ByteArray) (w : World) (hx : Hid (GnsR w s es)) (hl : es.length ≤ 1048576) (hs : Hid (∀ e ∈ es, e.M)) :
    Calls Try.prog 5 #[.agg #[.slice s.a s.n s.c], .string x] w fun e w' => ∃ u : Sv, e = .returned (.slice u.a u.n u.c) ∧ OwnS w' w.heap.size u.v (memP (es.map Gn.pl) x) ∧ Below w.heap.size w w' := by
  obtain ⟨a, n, c⟩ := s
  dsimp only
  have HN : Hid (n = es.length) := hx.out.1
  have hn : n ≤ 1048576 := by have := HN.out; omega
  have LA : Hid (Bx (w.alloc (.cells #[.slice a n c] 30)) w.heap.size 30 [.slice a n c]) := by
    have h := Bx.new w 30 [.slice a n c]
    exact h
  have BW : Hid (Below w.heap.size w (w.alloc (.cells #[.slice a n c] 30))) := ((Below.refl _ _).alloc (by simp) _)
  have HX : Hid (GnsR (w.alloc (.cells #[.slice a n c] 30)) ⟨a, n, c⟩ es) := hx.out.stays BW.out
  obtain ⟨T, hT⟩ : ∃ T, es.map Gn.pl = T := ⟨_, rfl⟩
  have HT : Hid (es.map Gn.pl = T) := hT
  have HTn : Hid (T.length = n) := (by rw [← hT, List.length_map]; exact HN.out.symm : T.length = n)
  rw [hT]
  clear hx hl hT
  have c0 := LA.out.cell 0
  simp only [List.getElem?_cons_zero] at c0
  go_enter Try.func5, Try.ntmps5
  go_wp2_with fail
  generalize (w.alloc (.cells #[.slice a n c] 30)) = W at *
  clear c0
  go_loopw [5] (fun kk wr => ∃ k : Nat, k ≤ n ∧ kk = .int .i64 k ∧ wr = W ∧ Hid (∀ j (hj : j < T.length), j < k → (T[j].1.toList == x.toList) = false)) (fun kk _ => n - (intOf kk).toNat)
  case atStart => exact ⟨0, Nat.zero_le _, rfl, rfl, fun j hj h => absurd h (by omega)⟩
  case round =>
    obtain ⟨k, hk, rfl, rfl, HA⟩ := hrel
    by_cases hlt : k < n
    · have hlt2 : k < es.length := by have := HN.out; omega
      have hltT : k < T.length := by have := HTn.out; omega
      obtain ⟨g, off, ha, hg, _, hr⟩ := HX.out.2.1 k (by simpa using hlt2)
      obtain ⟨e, he⟩ : ∃ e, e = es[k] := ⟨_, rfl⟩
      have hr2 : wr.rangeAt g (off + k * 2) e.row := by rw [he]; simpa using hr
      have RR : Hid (e.R wr) := by rw [he]; exact HX.out.2.2 _ (List.getElem_mem hlt2)
      have SS : Hid e.M := by rw [he]; exact hs.out _ (List.getElem_mem hlt2)
      have TE : Hid (T[k] = e.pl) := (by simp only [← HT.out, List.getElem_map, he] : T[k] = e.pl)
      obtain ⟨nm, ms, sv⟩ := e
      have hms : ms.length ≤ 1048576 := SS.out
      have h0 : wr.cell? ⟨g, off + k * 2, none⟩ = some (.string nm) := hr2 0 _ rfl
      have h1 : wr.cell? ⟨g, off + k * 2 + 1, none⟩ = some (.slice sv.a sv.n sv.c) := hr2 1 _ rfl
      have ha : a = some ⟨g, off, none⟩ := ha
      subst ha
      have i0 : (0 : Int) ≤ (k : Int) := by omega
      have i1 : (k : Int) < (n : Int) := by omega
      have c0 := LA.out.cell 0
      simp only [List.getElem?_cons_zero] at c0
      have hgl : g < wr.heap.size := by have := hg; omega
      clear hr hr2 he hg
      cases hq : (nm.toList == x.toList) with
      | false =>
        have HA1 : Hid (∀ j (hj : j < T.length), j < k + 1 → (T[j].1.toList == x.toList) = false) := fun j hj h => by
          by_cases e : j = k
          · subst e; rw [TE.out]; exact hq
          · exact HA.out j hj (by omega)
        go_wp2_with fail
        go_roundw
        case rel => exact ⟨k + 1, by omega, by go_num, by trivial, HA1⟩
        case measure => simp [intOf]; omega
      | true =>
        have HV : Hid (memP T x = ms) := (by rw [memP_hit hltT (by rw [TE.out]; exact hq) HA.out, TE.out]; rfl : memP T x = ms)
        have BA : Below wr.heap.size wr (wr.alloc (.cells #[] 9)) := (Below.refl _ _).alloc (Nat.le_refl _) _
        have c0a := (LA.out.later BA).cell 0
        simp only [List.getElem?_cons_zero] at c0a
        have h1a : (wr.alloc (.cells #[] 9)).cell? ⟨g, off + k * 2 + 1, none⟩ = some (.slice sv.a sv.n sv.c) := (BA.cell (p := ⟨g, off + k * 2 + 1, none⟩) hgl).trans h1
        go_wp2_with (first | (at_builtin; refine wpList_dupS rfl _ _ 26 rfl Try.underlying26 Try.info9 rfl sv ms rfl (show RT _ sv.v ms from RR.out) hms ?_; intro v1 w1 own1 hb1))
        go_ret
        exact ⟨v1, rfl, by rw [HV.out]; exact own1.down BW.out.size, bl_next BW.out hb1⟩
    · have HV : Hid (memP T x = []) := memP_none fun j hj => HA.out j hj (by have := HTn.out; omega)
      have c0 := LA.out.cell 0
      simp only [List.getElem?_cons_zero] at c0
      go_wp2_with fail
      go_ret
      refine ⟨⟨some ⟨wr.heap.size, 0, none⟩, 0, 0⟩, rfl, ?_, bl_next BW.out ((Below.refl _ _).alloc (Nat.le_refl _) _)⟩
      rw [HV.out]
      exact OwnS.made wr _ BW.out.size
end Go.Proofs.Ytmbjflhhffcjdaa


/- The program's MembersOf. Written by gen_imb.py. -/
namespace Go.Proofs.Ytmbjflhhffcjdaa
open Go.RowKit Pl
set_option linter.unusedVariables false
set_option linter.unusedSimpArgs false

set_option maxRecDepth 100000 in
set_option maxHeartbeats 8000000 in
theorem members_any (s : Sv) (es : List Gn) (x : ByteArray) (w : World) (hx : Hid (GnsR w s es)) (hl : es.length ≤ 1048576) (hs : Hid (∀ e ∈ es, e.S)) :
    Calls Try.prog 7 #[.agg #[.slice s.a s.n s.c], .string x] w fun e w' => ∃ u : Sv, e = .returned (.slice u.a u.n u.c) ∧ OwnS w' w.heap.size u.v (memP (es.map Gn.pl) x) ∧ Below w.heap.size w w' := by
  obtain ⟨a, n, c⟩ := s
  dsimp only
  have HN : Hid (n = es.length) := hx.out.1
  have hn : n ≤ 1048576 := by have := HN.out; omega
  have LA : Hid (Bx (w.alloc (.cells #[.slice a n c] 30)) w.heap.size 30 [.slice a n c]) := by
    have h := Bx.new w 30 [.slice a n c]
    exact h
  have BW0 : Hid (Below w.heap.size w (w.alloc (.cells #[.slice a n c] 30))) := ((Below.refl _ _).alloc (by simp) _)
  have HX : Hid (GnsR (w.alloc (.cells #[.slice a n c] 30)) ⟨a, n, c⟩ es) := hx.out.stays BW0.out
  obtain ⟨T, hT⟩ : ∃ T, es.map Gn.pl = T := ⟨_, rfl⟩
  have HT : Hid (es.map Gn.pl = T) := hT
  have HTn : Hid (T.length = n) := (by rw [← hT, List.length_map]; exact HN.out.symm : T.length = n)
  rw [hT]
  clear hx hl hT
  have c0 := LA.out.cell 0
  simp only [List.getElem?_cons_zero] at c0
  go_enter Try.func7, Try.ntmps7
  go_wp2_with fail
  generalize (w.alloc (.cells #[.slice a n c] 30)) = W at *
  clear c0 LA
  go_loopw [10] (fun kk wr => ∃ k : Nat, k ≤ n ∧ kk = .int .i64 k ∧ Hid (Below w.heap.size w wr) ∧ Hid (Below W.heap.size W wr) ∧ Hid (∀ j (hj : j < T.length), j < k → (T[j].1.toList == x.toList) = false)) (fun kk _ => n - (intOf kk).toNat)
  case atStart => exact ⟨0, Nat.zero_le _, rfl, BW0, Below.refl _ _, fun j hj h => absurd h (by omega)⟩
  case round =>
    obtain ⟨k, hk, rfl, BW, B1, HA⟩ := hrel
    by_cases hlt : k < n
    · have hlt2 : k < es.length := by have := HN.out; omega
      have hltT : k < T.length := by have := HTn.out; omega
      obtain ⟨g, off, ha, hg, _, hr⟩ := (HX.out.stays B1.out).2.1 k (by simpa using hlt2)
      obtain ⟨e, he⟩ : ∃ e, e = es[k] := ⟨_, rfl⟩
      have hr2 : wr.rangeAt g (off + k * 2) e.row := by rw [he]; simpa using hr
      have RR : Hid (e.R wr) := by rw [he]; exact (HX.out.stays B1.out).2.2 _ (List.getElem_mem hlt2)
      have SS : Hid e.S := by rw [he]; exact hs.out _ (List.getElem_mem hlt2)
      have TE : Hid (T[k] = e.pl) := (by simp only [← HT.out, List.getElem_map, he] : T[k] = e.pl)
      obtain ⟨nm, ms, sv⟩ := e
      have hms : Hid (ms.length ≤ 1048576) := SS.out.m
      have hmz : Hid (∀ x ∈ ms, x.size ≤ 1048576) := fun x h => Nat.le_trans (sumS_mem h) SS.out.2
      have RR : Hid (RT wr sv.v ms) := RR.out
      have HR : Hid (wr.rangeAt g (off + k * 2) [.string nm, .slice sv.a sv.n sv.c]) := hr2
      have ha : a = some ⟨g, off, none⟩ := ha
      subst ha
      have i0 : (0 : Int) ≤ (k : Int) := by omega
      have i1 : (k : Int) < (n : Int) := by omega
      have hz : Hid (Bx (wr.alloc (.cells #[.string ⟨#[]⟩, .slice none 0 0] 39)) wr.heap.size 39 [.string ⟨#[]⟩, .slice none 0 0]) := Bx.new wr 39 _
      clear hr hr2 he hg
      go_wp2_with (first | (refine wpList_ldN rfl 39 _ rfl g (off + k * 2) (by rfl) [.string nm, .slice sv.a sv.n sv.c] HR.out _ Try.underlying39 rfl Try.sizeGn ?_) | (refine wpList_stB rfl 39 _ _ rfl wr.heap.size 0 rfl 39 _ hz.out [.string nm, .slice sv.a sv.n sv.c] rfl (by simp) Try.sizeGn rfl [.string nm, .slice sv.a sv.n sv.c] rfl ?_; intro v1 OB TB; have b : Below wr.heap.size wr v1 := ((Below.refl _ _).alloc (Nat.le_refl _) _).trans (TB.below (Nat.le_refl _)); have VB : Hid (Bx v1 wr.heap.size 39 [.string nm, .slice sv.a sv.n sv.c]) := OB; have BW : Hid (Below w.heap.size w v1) := bl_next BW.out b; have B1 : Hid (Below W.heap.size W v1) := bl_next B1.out b; have RR : Hid (RT v1 sv.v ms) := RR.out.stays b; clear OB TB b; refine Stp.here ?_))
      refine Stp.go ?_
      clear hz HR
      generalize hg_VB : wr.heap.size = gVB at *
      have c0 := VB.out.cell 0
      simp only [List.getElem?_cons_zero] at c0
      cases hq : (nm.toList == x.toList) with
      | false =>
        have HA1 : Hid (∀ j (hj : j < T.length), j < k + 1 → (T[j].1.toList == x.toList) = false) := fun j hj h => by
          by_cases e : j = k
          · subst e; rw [TE.out]; exact hq
          · exact HA.out j hj (by omega)
        go_wp2_with fail
        go_roundw
        case rel => exact ⟨k + 1, by omega, by go_num, BW, B1, HA1⟩
        case measure => simp [intOf]; omega
      | true =>
        have HV : Hid (memP T x = ms) := (by rw [memP_hit hltT (by rw [TE.out]; exact hq) HA.out, TE.out]; rfl : memP T x = ms)
        have c1 := VB.out.cell 1
        simp only [List.getElem?_cons_succ, List.getElem?_cons_zero] at c1
        go_wp2_with fail
        refine (copyTexts_s sv ms _ RR hms.out hmz.out).mono ?_
        rintro e w1 ⟨u, rfl, own1, b1⟩
        go_wp2_with fail
        go_ret
        exact ⟨u, rfl, by rw [HV.out]; exact own1.down BW.out.size, bl_next BW.out b1⟩
    · have HV : Hid (memP T x = []) := memP_none fun j hj => HA.out j hj (by have := HTn.out; omega)
      go_wp2_with fail
      go_ret
      refine ⟨⟨some ⟨wr.heap.size, 0, none⟩, 0, 0⟩, rfl, ?_, bl_next BW.out ((Below.refl _ _).alloc (Nat.le_refl _) _)⟩
      rw [HV.out]
      exact OwnS.made wr _ BW.out.size
end Go.Proofs.Ytmbjflhhffcjdaa


/- The law on MembersOf. Written by gen_lmb.py. -/
namespace Go.Proofs.Ytmbjflhhffcjdaa
open Go.RowKit Pl
set_option linter.unusedVariables false
set_option linter.unusedSimpArgs false

theorem bx_gr {S : Nat → Prop} {a b : World} {g T : Nat} {cs : List Value} (h : Bx a g T cs) (k : Gr S a b) (hn : ¬ S g) : Bx b g T cs := (k.block g h.lt hn).trans h
theorem Try.sizeLTb : (Try.prog.info? 24).map (·.size) = some 1 := by kernel_rfl
theorem Gns.same_tot {a b : List Gn} (h : a.map Gn.pl = b.map Gn.pl) : Gns.tot a = Gns.tot b := by
  have e : ∀ (l : List Gn), Gns.tot l = ((l.map Gn.pl).map fun p => p.1.size + totS p.2).sum := fun l => by unfold Gns.tot; rw [List.map_map]; rfl
  rw [e, e, h]
theorem memP_le {t : Tb} {x : ByteArray} (h : ∀ p ∈ t, p.2.length ≤ 1048576) : (memP t x).length ≤ 1048576 := by
  unfold memP
  cases e : t.find? fun p => p.1.toList == x.toList with
  | none => simp
  | some p => exact h p (List.mem_of_find?_eq_some e)
set_option maxRecDepth 100000 in
set_option maxHeartbeats 32000000 in
theorem lawMembersOf (s : Sv) (es : List Gn) (x : ByteArray) (w : World) (h0 : Hid (GnsR w s es)) (hle : es.length ≤ 9223372036854775807) (hL : Hid (∀ e ∈ es, e.L)) (hx : x.size ≤ maxLen) :
    Calls Try.prog 3 #[.agg #[.slice s.a s.n s.c], .string x] w fun e w' => e = .returned (.bool true) ∧ Below w.heap.size w w' := by
  unfold maxLen at hx
  have LA : Hid (Bx (w.alloc (.cells #[.slice s.a s.n s.c] 24)) w.heap.size 24 [.slice s.a s.n s.c]) := by
    have h := Bx.new w 24 [.slice s.a s.n s.c]
    exact h
  have BW : Hid (Below w.heap.size w (w.alloc (.cells #[.slice s.a s.n s.c] 24))) := ((Below.refl _ _).alloc (by simp) _)
  have HR : Hid (GnsR (w.alloc (.cells #[.slice s.a s.n s.c] 24)) s es) := h0.out.stays BW.out
  obtain ⟨R, hR0⟩ : ∃ R, memP (es.map Gn.pl) x = R := ⟨_, rfl⟩
  have HD : Hid (memP (es.map Gn.pl) x = R) := hR0
  clear hR0
  by_cases hm : x.size ≤ 1048576
  case neg =>
    go_enter Try.func3, Try.ntmps3
    go_wp2
    go_ret
    exact ⟨rfl, BW.out⟩
  go_enter Try.func3, Try.ntmps3
  go_wp2_with (first | (refine wpList_ldG rfl 24 _ rfl w.heap.size 0 rfl 24 _ LA.out [.slice s.a s.n s.c] rfl _ Try.underlying24 rfl Try.sizeLTb ?_))
  generalize (w.alloc (.cells #[.slice s.a s.n s.c] 24)) = W0 at *
  refine (szTable_any s es 1048576 _ HR (by omega) hle hL).mono ?_
  rintro e w1 ⟨rfl | ⟨z1, rfl, hz1⟩, b⟩
  · go_wp2_with fail
    go_ret
    exact ⟨rfl, bl_next BW.out b⟩
  have hd1 : decide ((z1 : Int) < 0) = false := by simp
  obtain ⟨hN, hS0⟩ := Gns.small hz1.out (by omega)
  have HN : Hid (es.length ≤ 1048576) := hN
  have HS : Hid (∀ e ∈ es, e.S) := hS0
  have htot : es.length + Gns.tot es ≤ 1048576 := by have := hz1.out; omega
  have hRl : R.length ≤ 1048576 := by rw [← HD.out]; exact memP_le (fun p hp => by obtain ⟨e, he, rfl⟩ := List.mem_map.1 hp; exact (hS0 e he).m)
  clear hS0 hz1
  have LA : Hid (Bx w1 w.heap.size 24 [.slice s.a s.n s.c]) := LA.out.later b
  have BW : Hid (Below w.heap.size w w1) := bl_next BW.out b
  have HR : Hid (GnsR w1 s es) := HR.out.stays b
  clear b
  go_wp2_with (first | (refine wpList_ldG rfl 24 _ rfl w.heap.size 0 rfl 24 _ LA.out [.slice s.a s.n s.c] rfl _ Try.underlying24 rfl Try.sizeLTb ?_))
  clear hd1
  refine (toTable_any s es _ HR hN HS).mono ?_
  rintro e w2 ⟨u2, c2, rfl, e2, o2, _, b⟩
  have O2 : Hid (GnsO w2 w1.heap.size u2 c2) := o2
  have E2 : Hid (c2.map Gn.pl = es.map Gn.pl) := e2
  clear o2 e2
  have z_w2 : w1.heap.size ≤ w2.heap.size := b.size
  have LA : Hid (Bx w2 w.heap.size 24 [.slice s.a s.n s.c]) := LA.out.later b
  have BW : Hid (Below w.heap.size w w2) := bl_next BW.out b
  have HR : Hid (GnsR w2 s es) := HR.out.stays b
  clear b
  go_wp2_with fail
  refine (spMembers_any u2 c2 x _ (show Hid (GnsR _ u2 c2) from O2.out.r) (by rw [Gns.same_len E2.out]; exact hN) (show Hid (∀ e ∈ c2, e.M) from fun e he => (Gns.same_S E2.out HS.out e he).m)).mono ?_
  rintro e w3 ⟨v0, rfl, o3, b⟩
  have KO : Hid (OwnS w3 w2.heap.size v0.v R) := (by rw [← HD.out, ← E2.out]; exact o3 : OwnS w3 w2.heap.size v0.v R)
  clear o3
  have z_w3 : w2.heap.size ≤ w3.heap.size := b.size
  have LA : Hid (Bx w3 w.heap.size 24 [.slice s.a s.n s.c]) := LA.out.later b
  have BW : Hid (Below w.heap.size w w3) := bl_next BW.out b
  have HR : Hid (GnsR w3 s es) := HR.out.stays b
  have O2 : Hid (GnsO w3 w1.heap.size u2 c2) := O2.out.below b
  clear b
  clear O2 E2
  have zw3 : w.heap.size < w3.heap.size := LA.out.lt
  have KL : Hid (∀ y, v0.v.ownBlock = some y → y < w3.heap.size) := fun y hy => (OwnS.lt KO.out y hy).2
  go_wp2_with (first | (refine wpList_ldG rfl 24 _ rfl w.heap.size 0 rfl 24 _ LA.out [.slice s.a s.n s.c] rfl _ Try.underlying24 rfl Try.sizeLTb ?_))
  refine (toTable_any s es _ HR hN HS).mono ?_
  rintro e w4 ⟨ux, cx, rfl, ex, ox, ax, b⟩
  have XO : Hid (GnsO w4 w3.heap.size ux cx) := ox
  have EX : Hid (cx.map Gn.pl = es.map Gn.pl) := ex
  have AX : Hid (GnsA ux cx) := ax
  have NX : cx.length ≤ 1048576 := by rw [Gns.same_len ex]; exact hN
  have TX : Gns.tot cx = Gns.tot es := Gns.same_tot ex
  have SX : Hid (∀ e ∈ cx, e.S) := Gns.same_S ex HS.out
  clear ox ex ax
  have z_w4 : w3.heap.size ≤ w4.heap.size := b.size
  have LA : Hid (Bx w4 w.heap.size 24 [.slice s.a s.n s.c]) := LA.out.later b
  have BW : Hid (Below w.heap.size w w4) := bl_next BW.out b
  have HR : Hid (GnsR w4 s es) := HR.out.stays b
  have KO : Hid (OwnS w4 w2.heap.size v0.v R) := OwnS.keep' KO.out fun y _ hy => Below.block b y hy
  clear b
  have XL : Hid (∀ y, GnsOwn ux cx y → w3.heap.size ≤ y ∧ y < w4.heap.size) := fun y hy => XO.out.olt hy
  have hz : Hid (Bx (w4.alloc (.cells #[.slice none 0 0] 30)) w4.heap.size 30 [.slice none 0 0]) := Bx.new w4 30 _
  go_wp2_with (first | (refine wpList_stB rfl 30 _ _ rfl w4.heap.size 0 rfl 30 _ hz.out [.slice ux.a ux.n ux.c] rfl (by simp) Try.sizeTb rfl [.slice ux.a ux.n ux.c] rfl ?_; intro WX OB TB; have b : Below w4.heap.size w4 WX := ((Below.refl _ _).alloc (Nat.le_refl _) _).trans (TB.below (Nat.le_refl _)); have XB : Hid (Bx WX w4.heap.size 30 [.slice ux.a ux.n ux.c]) := OB; have z_WX : w4.heap.size ≤ WX.heap.size := b.size; have LA : Hid (Bx WX w.heap.size 24 [.slice s.a s.n s.c]) := LA.out.later b; have BW : Hid (Below w.heap.size w WX) := bl_next BW.out b; have HR : Hid (GnsR WX s es) := HR.out.stays b; have KO : Hid (OwnS WX w2.heap.size v0.v R) := OwnS.keep' KO.out fun y _ hy => Below.block b y hy; have XO : Hid (GnsO WX w3.heap.size ux cx) := XO.out.below b; clear OB TB b; refine Stp.here ?_))
  refine Stp.go ?_
  clear hz
  have zl_XB : w4.heap.size < WX.heap.size := XB.out.lt
  generalize hg_XB : w4.heap.size = gXB at *
  go_wp2_with (first | (refine wpList_ldG rfl 30 _ rfl gXB 0 rfl 30 _ XB.out [.slice ux.a ux.n ux.c] rfl _ Try.underlying30 rfl Try.sizeTb ?_))
  refine (members_any ux cx x _ (show Hid (GnsR _ ux cx) from XO.out.r) NX SX).mono ?_
  rintro e w5 ⟨vg, rfl, o5, b⟩
  have GO : Hid (OwnS w5 WX.heap.size vg.v R) := (by rw [← HD.out, ← EX.out]; exact o5 : OwnS w5 WX.heap.size vg.v R)
  clear o5
  have z_w5 : WX.heap.size ≤ w5.heap.size := b.size
  have LA : Hid (Bx w5 w.heap.size 24 [.slice s.a s.n s.c]) := LA.out.later b
  have BW : Hid (Below w.heap.size w w5) := bl_next BW.out b
  have HR : Hid (GnsR w5 s es) := HR.out.stays b
  have KO : Hid (OwnS w5 w2.heap.size v0.v R) := OwnS.keep' KO.out fun y _ hy => Below.block b y hy
  have XO : Hid (GnsO w5 w3.heap.size ux cx) := XO.out.below b
  have XB : Hid (Bx w5 gXB 30 [.slice ux.a ux.n ux.c]) := XB.out.later b
  clear b
  have GL : Hid (∀ y, vg.v.ownBlock = some y → WX.heap.size ≤ y ∧ y < w5.heap.size) := fun y hy => OwnS.lt GO.out y hy
  go_wp2_with fail
  refine (eqS_same _ _ R _ _ _ GO.out KO.out (by omega)).mono ?_
  rintro e w6 ⟨rfl, b⟩
  have z_w6 : w5.heap.size ≤ w6.heap.size := b.size
  have LA : Hid (Bx w6 w.heap.size 24 [.slice s.a s.n s.c]) := LA.out.later b
  have BW : Hid (Below w.heap.size w w6) := bl_next BW.out b
  have HR : Hid (GnsR w6 s es) := HR.out.stays b
  have KO : Hid (OwnS w6 w2.heap.size v0.v R) := OwnS.keep' KO.out fun y _ hy => Below.block b y hy
  have XO : Hid (GnsO w6 w3.heap.size ux cx) := XO.out.below b
  have XB : Hid (Bx w6 gXB 30 [.slice ux.a ux.n ux.c]) := XB.out.later b
  have GO : Hid (OwnS w6 WX.heap.size vg.v R) := OwnS.keep' GO.out fun y _ hy => Below.block b y hy
  clear b
  go_wp2_with fail
  have c : Below w6.heap.size w6 w6.drew := (Below.refl _ _).drew
  refine wp_region_held_drew (S := fun w' => Below w6.heap.size w6 w') (by kernel_rfl) c (fun hHeld => ?_)
  refine wpAnyH_take (i := 0) (v := _) rfl (by kernel_rfl) (by kernel_rfl) (by kernel_rfl) (fun _ _ _ h => h) (ld_yield (by rfl) 30 _ rfl gXB 0 rfl 30 _ (fun w hS => XB.out.later hS) [.slice ux.a ux.n ux.c] rfl _ Try.underlying30 rfl Try.sizeTb) (by assumption) ?_
  try simp only [Act.put, List.getElem_toArray, List.getElem_cons_zero, List.getElem_cons_succ, List.setIfInBounds_toArray, List.set_cons_zero, List.set_cons_succ]
  refine wpAnyH_take (i := 1) (v := _) rfl (by kernel_rfl) (by kernel_rfl) (by kernel_rfl) (fun _ _ _ h => h) (ld_yield (by rfl) 24 _ rfl w.heap.size 0 rfl 24 _ (fun w hS => LA.out.later hS) [.slice s.a s.n s.c] rfl _ Try.underlying24 rfl Try.sizeLTb) (by assumption) ?_
  try simp only [Act.put, List.getElem_toArray, List.getElem_cons_zero, List.getElem_cons_succ, List.setIfInBounds_toArray, List.set_cons_zero, List.set_cons_succ]
  refine wpAnyH_ready (rs := [2]) (by kernel_rfl) (by simp) ?_
  refine AllReadyH.cons (i := 2) rfl (fun K hK => ?_) AllReadyH.nil
  rw [if_pos (by rfl)]
  simp only [List.getElem_toArray, List.getElem_cons_zero, List.getElem_cons_succ]
  go_simp
  refine (toTable_any s es _ (show Hid (GnsR w6.drew s es) from HR.out.stays c) hN HS).mono ?_
  rintro e y1 ⟨ut, ct, rfl, et, ot, _, b1⟩
  have OT : Hid (GnsO y1 _ ut ct) := ot
  have ET : Hid (cx.map Gn.pl = ct.map Gn.pl) := EX.out.trans et.symm
  have c : Below w6.heap.size w6 y1 := bl_next c b1
  refine hK.out _ _ (c) (fun hHeld => ?_)
  clear hK K
  try simp only [Act.put, List.getElem_toArray, List.getElem_cons_zero, List.getElem_cons_succ, List.setIfInBounds_toArray, List.set_cons_zero, List.set_cons_succ]
  clear ot et b1
  refine wpAnyH_ready (rs := [3]) (by kernel_rfl) (by simp) ?_
  refine AllReadyH.cons (i := 3) rfl (fun K hK => ?_) AllReadyH.nil
  rw [if_pos (by rfl)]
  simp only [List.getElem_toArray, List.getElem_cons_zero, List.getElem_cons_succ]
  go_simp
  refine (eqTable_any ux ut cx ct _ _ _ (show Hid (GnsO y1 w3.heap.size ux cx) from XO.out.below c) OT ET NX SX).mono ?_
  rintro e w7 ⟨rfl, b1⟩
  have c : Below w6.heap.size w6 w7 := bl_next c b1
  refine hK.out _ _ (c) (fun hHeld => ?_)
  clear hK K
  try simp only [Act.put, List.getElem_toArray, List.getElem_cons_zero, List.getElem_cons_succ, List.setIfInBounds_toArray, List.set_cons_zero, List.set_cons_succ]
  clear b1
  refine wpAnyH_take (i := 4) (v := ?v4b3) rfl (by kernel_rfl) (by kernel_rfl) (by kernel_rfl) (fun _ _ _ h => h) (Or.inl ⟨by rfl, ?hy4b3⟩) (by assumption) ?_
  case hy4b3 => (intro w hSw; (try dsimp only at hSw); simp only [List.getElem_toArray, List.getElem_cons_zero, List.getElem_cons_succ]; go_simp; try with_reducible rfl)
  try simp only [Act.put, List.getElem_toArray, List.getElem_cons_zero, List.getElem_cons_succ, List.setIfInBounds_toArray, List.set_cons_zero, List.set_cons_succ]
  refine wpAnyH_done (by kernel_rfl) ?_ _
  have z_w7 : w6.heap.size ≤ w7.heap.size := c.size
  have LA : Hid (Bx w7 w.heap.size 24 [.slice s.a s.n s.c]) := LA.out.later c
  have BW : Hid (Below w.heap.size w w7) := bl_next BW.out c
  have HR : Hid (GnsR w7 s es) := HR.out.stays c
  have KO : Hid (OwnS w7 w2.heap.size v0.v R) := OwnS.keep' KO.out fun y _ hy => Below.block c y hy
  have XO : Hid (GnsO w7 w3.heap.size ux cx) := XO.out.below c
  have XB : Hid (Bx w7 gXB 30 [.slice ux.a ux.n ux.c]) := XB.out.later c
  have GO : Hid (OwnS w7 WX.heap.size vg.v R) := OwnS.keep' GO.out fun y _ hy => Below.block c y hy
  clear c hHeld OT ET
  go_wp2_with (first | (refine wpList_ldG rfl 30 _ rfl gXB 0 rfl 30 _ XB.out [.slice ux.a ux.n ux.c] rfl _ Try.underlying30 rfl Try.sizeTb ?_))
  refine (markTable_o ux cx _ 1 _ XO AX (by omega) NX (by omega)).mono ?_
  rintro e w9 ⟨Mx, rfl, m1, m2, _, G⟩
  have hMx : decide ((Mx : Int) < 0) = false := by simp
  have zz : w3.heap.size ≤ w7.heap.size ∧ w4.heap.size ≤ WX.heap.size ∧ WX.heap.size ≤ w7.heap.size := by omega
  have BW : Hid (Below w.heap.size w w9) := BW.out.trans (G.below (fun y hy => by have := (XL.out y hy).1; omega) BW.out.size)
  have HR : Hid (GnsR w9 s es) := h0.out.stays BW.out
  have LA : Hid (Bx w9 w.heap.size 24 [.slice s.a s.n s.c]) := bx_gr LA.out G (fun h => by have := (XL.out _ h).1; omega)
  have KO : Hid (OwnS w9 w2.heap.size v0.v R) := OwnS.keep' KO.out fun b hb hl => G.block b hl (fun h => by have := KL.out b hb; have := (XL.out b h).1; omega)
  have GO : Hid (OwnS w9 WX.heap.size vg.v R) := OwnS.keep' GO.out fun b hb hl => G.block b hl (fun h => by have := (GL.out b hb).1; have := (XL.out b h).2; omega)
  have z_w9 : w7.heap.size ≤ w9.heap.size := G.size
  clear G XO AX SX XB
  go_wp2_with fail
  clear hMx
  refine (eqS_same _ _ R _ _ _ GO.out KO.out (by omega)).mono ?_
  rintro e w10 ⟨rfl, b⟩
  have z_w10 : w9.heap.size ≤ w10.heap.size := b.size
  have LA : Hid (Bx w10 w.heap.size 24 [.slice s.a s.n s.c]) := LA.out.later b
  have BW : Hid (Below w.heap.size w w10) := bl_next BW.out b
  have HR : Hid (GnsR w10 s es) := HR.out.stays b
  have KO : Hid (OwnS w10 w2.heap.size v0.v R) := OwnS.keep' KO.out fun y _ hy => Below.block b y hy
  have GO : Hid (OwnS w10 WX.heap.size vg.v R) := OwnS.keep' GO.out fun y _ hy => Below.block b y hy
  clear b
  go_wp2_with fail
  refine (markSo_any _ R _ 1 _ GO.out (by omega) (by omega)).mono ?_
  rintro e w11 ⟨rfl, hown, G⟩
  have HO : Hid (OwnS w11 WX.heap.size vg.v (mkT 1 R.length)) := hown
  have zy : w.heap.size ≤ WX.heap.size := by omega
  have BW : Hid (Below w.heap.size w w11) := Below.grown BW.out G BW.out.size (fun k hk => by have := (GL.out k hk).1; omega)
  have HR : Hid (GnsR w11 s es) := h0.out.stays BW.out
  have LA : Hid (Bx w11 w.heap.size 24 [.slice s.a s.n s.c]) := bx_gr LA.out (Gr.ofGrown (S := fun y => vg.v.ownBlock = some y) G (fun k hk => hk)) (fun h => by have := (GL.out _ h).1; omega)
  have KO : Hid (OwnS w11 w2.heap.size v0.v R) := OwnS.keep' KO.out fun b hb hl => (Gr.ofGrown (S := fun y => vg.v.ownBlock = some y) G (fun k hk => hk)).block b hl (fun h => by have := KL.out b hb; have := (GL.out b h).1; omega)
  have z_w11 : w10.heap.size ≤ w11.heap.size := G.size
  clear G hown GO
  have hM0 : decide (1 + (R.length : Int) < 0) = false := by simp; omega
  go_wp2_with fail
  refine (heldSo_any _ R.length _ 1 _ HO.out (by omega) (by omega)).mono ?_
  rintro e w12 ⟨rfl, b⟩
  have z_w12 : w11.heap.size ≤ w12.heap.size := b.size
  have LA : Hid (Bx w12 w.heap.size 24 [.slice s.a s.n s.c]) := LA.out.later b
  have BW : Hid (Below w.heap.size w w12) := bl_next BW.out b
  have HR : Hid (GnsR w12 s es) := HR.out.stays b
  have KO : Hid (OwnS w12 w2.heap.size v0.v R) := OwnS.keep' KO.out fun y _ hy => Below.block b y hy
  have HO : Hid (OwnS w12 WX.heap.size vg.v (mkT 1 R.length)) := OwnS.keep' HO.out fun y _ hy => Below.block b y hy
  clear b
  go_wp2_with (first | (refine wpList_ldG rfl 24 _ rfl w.heap.size 0 rfl 24 _ LA.out [.slice s.a s.n s.c] rfl _ Try.underlying24 rfl Try.sizeLTb ?_))
  refine (toTable_any s es _ HR hN HS).mono ?_
  rintro e w13 ⟨u13, c13, rfl, e2, o2, _, b⟩
  have O2 : Hid (GnsO w13 w12.heap.size u13 c13) := o2
  have E2 : Hid (c13.map Gn.pl = es.map Gn.pl) := e2
  clear o2 e2
  have z_w13 : w12.heap.size ≤ w13.heap.size := b.size
  have LA : Hid (Bx w13 w.heap.size 24 [.slice s.a s.n s.c]) := LA.out.later b
  have BW : Hid (Below w.heap.size w w13) := bl_next BW.out b
  have HR : Hid (GnsR w13 s es) := HR.out.stays b
  have KO : Hid (OwnS w13 w2.heap.size v0.v R) := OwnS.keep' KO.out fun y _ hy => Below.block b y hy
  have HO : Hid (OwnS w13 WX.heap.size vg.v (mkT 1 R.length)) := OwnS.keep' HO.out fun y _ hy => Below.block b y hy
  clear b
  go_wp2_with fail
  refine (members_any u13 c13 x _ (show Hid (GnsR _ u13 c13) from O2.out.r) (by rw [Gns.same_len E2.out]; exact hN) (show Hid (∀ e ∈ c13, e.S) from Gns.same_S E2.out HS.out)).mono ?_
  rintro e w14 ⟨vh, rfl, o14, b⟩
  have EO : Hid (OwnS w14 w13.heap.size vh.v R) := (by rw [← HD.out, ← E2.out]; exact o14 : OwnS w14 w13.heap.size vh.v R)
  clear o14
  have z_w14 : w13.heap.size ≤ w14.heap.size := b.size
  have LA : Hid (Bx w14 w.heap.size 24 [.slice s.a s.n s.c]) := LA.out.later b
  have BW : Hid (Below w.heap.size w w14) := bl_next BW.out b
  have HR : Hid (GnsR w14 s es) := HR.out.stays b
  have KO : Hid (OwnS w14 w2.heap.size v0.v R) := OwnS.keep' KO.out fun y _ hy => Below.block b y hy
  have HO : Hid (OwnS w14 WX.heap.size vg.v (mkT 1 R.length)) := OwnS.keep' HO.out fun y _ hy => Below.block b y hy
  have O2 : Hid (GnsO w14 w12.heap.size u13 c13) := O2.out.below b
  clear b
  clear O2 E2
  go_wp2_with fail
  refine (eqS_same _ _ R _ _ _ EO.out KO.out (by omega)).mono ?_
  rintro e w15 ⟨rfl, b⟩
  have z_w15 : w14.heap.size ≤ w15.heap.size := b.size
  have LA : Hid (Bx w15 w.heap.size 24 [.slice s.a s.n s.c]) := LA.out.later b
  have BW : Hid (Below w.heap.size w w15) := bl_next BW.out b
  have HR : Hid (GnsR w15 s es) := HR.out.stays b
  have KO : Hid (OwnS w15 w2.heap.size v0.v R) := OwnS.keep' KO.out fun y _ hy => Below.block b y hy
  have HO : Hid (OwnS w15 WX.heap.size vg.v (mkT 1 R.length)) := OwnS.keep' HO.out fun y _ hy => Below.block b y hy
  have EO : Hid (OwnS w15 w13.heap.size vh.v R) := OwnS.keep' EO.out fun y _ hy => Below.block b y hy
  clear b
  clear EO KO
  go_wp2_with fail
  refine (heldSo_any _ R.length _ 1 _ HO.out (by omega) (by omega)).mono ?_
  rintro e w16 ⟨rfl, b⟩
  have z_w16 : w15.heap.size ≤ w16.heap.size := b.size
  have LA : Hid (Bx w16 w.heap.size 24 [.slice s.a s.n s.c]) := LA.out.later b
  have BW : Hid (Below w.heap.size w w16) := bl_next BW.out b
  have HR : Hid (GnsR w16 s es) := HR.out.stays b
  have HO : Hid (OwnS w16 WX.heap.size vg.v (mkT 1 R.length)) := OwnS.keep' HO.out fun y _ hy => Below.block b y hy
  clear b
  go_wp2_with fail
  go_ret
  exact ⟨rfl, BW.out⟩
end Go.Proofs.Ytmbjflhhffcjdaa


