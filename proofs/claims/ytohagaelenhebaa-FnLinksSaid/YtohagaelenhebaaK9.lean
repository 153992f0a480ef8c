/- The walk over the specification's Talk. -/
import Derived.Test.YtohagaelenhebaaK8
import Derived.Test.YtohagaelenhebaaK7
namespace Go.Proofs.Ytohagaelenhebaa
open Go.RowKit Pl
set_option linter.unusedVariables false

set_option maxRecDepth 100000 in
set_option maxHeartbeats 8000000 in
theorem spTalk_any (ao io : Option Addr) (ac ic : Nat) (ts : List ByteArray) (ps : List Int) (w : World) (hx : Hid (TextsAt w ao ts)) (hy : Hid (IntsAt w io ps)) (hl : ts.length ≤ 1048576) (hm : ps.length ≤ 1048576) (hi64 : Hid (∀ x ∈ ps, x ≤ 9223372036854775807)) :
    Calls Try.prog 15 #[.slice ao ts.length ac, .slice io ps.length ic] w fun r w' => TalkOut w w' ts ps r ∧ Below w.heap.size w w' := by
  go_enter Try.func15, Try.ntmps15
  go_wp2_with fail
  refine (spTalkOk_any ao io ac ic ts ps w hx hy hl hm).mono ?_
  rintro e w1 ⟨rfl, rfl⟩
  cases hok : talkB ts ps with
  | false =>
    have S1 : Hid (SlT (w1.alloc (.cells #[] 9)) w1.heap.size (.slice (some ⟨w1.heap.size, 0, none⟩) 0 0) []) := Sl.made w1 9 1 w1.heap.size (Nat.le_refl _)
    go_wp2_with fail
    go_ret2
    refine ⟨⟨_, by unfold talkR; rw [hok]; rfl, ?_⟩, (Below.refl _ _).alloc (Nat.le_refl _) _⟩
    unfold talkO
    rw [hok]
    exact S1.out
  | true =>
    obtain ⟨t1, t2, t3, t4⟩ := talkB_true hok
    have HF : Hid (∀ t ∈ ts, t.size ≤ 60) := t3
    have HP : Hid (∀ x ∈ ps, 0 ≤ x) := t4
    clear t3 t4
    have Q0 : Hid (SpQ ((w1.alloc (Obj.cells #[Value.int IntKind.i64 0, Value.int IntKind.i64 0, Value.slice none 0 0, Value.int IntKind.i64 0, Value.slice none 0 0] 32)).alloc (Obj.cells #[Value.int IntKind.i64 0, Value.int IntKind.i64 0, Value.slice none 0 0, Value.int IntKind.i64 0, Value.slice none 0 0] 32)) w1.heap.size w1.heap.size (w1.heap.size + 1) (startT (ts.take 0)) (.slice none 0 0) (.slice none 0 0)) := by
      have h1 : EndC ((w1.alloc (Obj.cells #[Value.int IntKind.i64 0, Value.int IntKind.i64 0, Value.slice none 0 0, Value.int IntKind.i64 0, Value.slice none 0 0] 32)).alloc (Obj.cells #[Value.int IntKind.i64 0, Value.int IntKind.i64 0, Value.slice none 0 0, Value.int IntKind.i64 0, Value.slice none 0 0] 32)) 32 w1.heap.size 0 0 (.slice none 0 0) 0 (.slice none 0 0) := (EndC.new w1 32 0 0 0 (.slice none 0 0) (.slice none 0 0)).below ((Below.refl _ _).alloc (Nat.le_refl _) _)
      have h2 : EndC ((w1.alloc (Obj.cells #[Value.int IntKind.i64 0, Value.int IntKind.i64 0, Value.slice none 0 0, Value.int IntKind.i64 0, Value.slice none 0 0] 32)).alloc (Obj.cells #[Value.int IntKind.i64 0, Value.int IntKind.i64 0, Value.slice none 0 0, Value.int IntKind.i64 0, Value.slice none 0 0] 32)) 32 (w1.heap.size + 1) 0 0 (.slice none 0 0) 0 (.slice none 0 0) := by
        have := EndC.new (w1.alloc (Obj.cells #[Value.int IntKind.i64 0, Value.int IntKind.i64 0, Value.slice none 0 0, Value.int IntKind.i64 0, Value.slice none 0 0] 32)) 32 0 0 0 (.slice none 0 0) (.slice none 0 0)
        simpa using this
      have n1 : ∀ k, (Value.slice none 0 0).ownBlock ≠ some k := fun k => by simp [Value.ownBlock]
      exact ⟨fun k => if k = w1.heap.size then 1 else 2, .slice none 0 0, .slice none 0 0, .slice none 0 0, .slice none 0 0, ⟨h1, Sl.zero _ _ _ _, Sl.zero _ _ _ _, fun k hk => absurd hk (n1 k), Nat.le_refl _, n1 _, n1 _⟩, ⟨h2, Sl.zero _ _ _ _, Sl.zero _ _ _ _, fun k hk => absurd hk (n1 k), by omega, n1 _, n1 _⟩, Sl.zero _ _ _ _, Sl.zero _ _ _ _, ⟨by simp, fun k hk => absurd hk (n1 k), fun k hk => absurd hk (n1 k)⟩, ⟨by simp, fun k hk => absurd hk (n1 k), fun k hk => absurd hk (n1 k)⟩, fun k hk => absurd hk (n1 k), fun k hk => absurd hk (n1 k)⟩
    have B0 : Hid (Below w1.heap.size w1 ((w1.alloc (Obj.cells #[Value.int IntKind.i64 0, Value.int IntKind.i64 0, Value.slice none 0 0, Value.int IntKind.i64 0, Value.slice none 0 0] 32)).alloc (Obj.cells #[Value.int IntKind.i64 0, Value.int IntKind.i64 0, Value.slice none 0 0, Value.int IntKind.i64 0, Value.slice none 0 0] 32))) := ((Below.refl _ _).alloc (Nat.le_refl _) _).alloc (by simp) _
    go_wp2_with fail
    generalize ((w1.alloc (Obj.cells #[Value.int IntKind.i64 0, Value.int IntKind.i64 0, Value.slice none 0 0, Value.int IntKind.i64 0, Value.slice none 0 0] 32)).alloc (Obj.cells #[Value.int IntKind.i64 0, Value.int IntKind.i64 0, Value.slice none 0 0, Value.int IntKind.i64 0, Value.slice none 0 0] 32)) = W0 at *
    go_loopw [8] (fun i wr => ∃ k : Nat, k ≤ ts.length ∧ i = .int .i64 k ∧ Hid (SpQ wr w1.heap.size w1.heap.size (w1.heap.size + 1) (startT (ts.take k)) (.slice none 0 0) (.slice none 0 0)) ∧ Hid (Below w1.heap.size w1 wr)) (fun i _ => ts.length - (intOf i).toNat)
    case atStart => exact ⟨0, Nat.zero_le _, rfl, Q0.out, B0.out⟩
    case round =>
      obtain ⟨k, hk, rfl, hQ, hB⟩ := hrel
      clear Q0 B0
      by_cases hlt : k < ts.length
      · obtain ⟨g1, o1, rfl, hg1, hc1⟩ := hx.out k hlt
        obtain ⟨x, hxe⟩ : ∃ x, x = ts[k] := ⟨_, rfl⟩
        rw [← hxe] at hc1
        have d1 : wr.cell? ⟨g1, o1 + k, none⟩ = some (.string x) := (hB.out.cell (p := ⟨g1, o1 + k, none⟩) hg1).trans hc1
        have hxs : x.size ≤ 60 := by rw [hxe]; exact HF.out _ (List.getElem_mem hlt)
        have HX : Hid (ts.take (k + 1) = ts.take k ++ [x]) := by show ts.take (k + 1) = _; rw [List.take_succ_eq_append_getElem hlt, hxe]
        clear hxe hc1
        have hd : decide ((k : Int) < (ts.length : Int)) = true := by simp; omega
        obtain ⟨z, qa, qc, oa, oc, xa, xc, ya, yc, ta, tc, ka, kc, e1, e2, h⟩ := SpQ.form hQ.out
        rw [← e1, ← e2] at h
        obtain ⟨en, hen⟩ : ∃ en : En, en = ⟨0, 0, ts.take k, 0, []⟩ := ⟨_, rfl⟩
        have hql : en.q.length ≤ k := by rw [hen]; simp; omega
        have hol : en.o.length ≤ 0 := by rw [hen]; simp
        have h' : SpS wr w1.heap.size ⟨en, noE, [], []⟩ z w1.heap.size (w1.heap.size + 1) (.slice qa en.q.length qc) (.slice oa en.o.length oc) (.slice xa noE.q.length xc) (.slice ya noE.o.length yc) (.slice none 0 0) (.slice none 0 0) := by rw [hen]; exact h
        have HS : Hid _ := h'
        have HOf : Hid (offB en x = true ∧ offE en x = ⟨0, 0, ts.take (k + 1), 0, []⟩) := by
          have hokk : okB en = true := okB_true.2 (by rw [hen]; exact (startE_ok (by simp; omega) (fun t ht => HF.out t (List.mem_of_mem_take ht))).ok)
          refine ⟨?_, ?_⟩
          · unfold offB
            rw [hokk]
            have ha : en.ak = 0 := by rw [hen]
            simp [ha]
            omega
          · rw [HX.out, hen]
            rfl
        obtain ⟨c0, c1, c2, c3, c4⟩ := h'.a.1.cells
        clear h h' e1 e2 hen hQ
        go_wp2_with fail
        go_region_with (go_at_call 28; refine (spOffer_any (e := en) x _ (show EndR wr.drew _ en from EndQ.r HS.out.a) (by omega) (by omega) (by omega)).mono ?_; rintro r w2 ⟨v, rfl, m, hb2⟩; rw [HOf.out.1, if_pos rfl] at m; have X2 := EndC.below (show EndC wr.drew _ _ _ _ _ _ _ from HS.out.a.1) hb2; obtain ⟨ea, ec, eb, ed, rfl⟩ := endM_form m; have SA := HS.out.set_a (Nat.le_refl _) ((Below.refl _ wr).drew.trans hb2) m; obtain ⟨j0, j1, j2, j3, j4⟩ := X2.cells; have f0 := X2.frozen 0; have f1 := X2.frozen 1; have f2 := X2.frozen 2; have f3 := X2.frozen 3; have f4 := X2.frozen 4)
        all_goals
          have HSA : Hid (SpQ _ w1.heap.size w1.heap.size (w1.heap.size + 1) ⟨offE en x, noE, [], []⟩ (.slice none 0 0) (.slice none 0 0)) := ⟨_, _, _, _, _, SA.1⟩
          have E3 : Hid ((⟨offE en x, noE, [], []⟩ : Tk) = startT (ts.take (k + 1))) := by show (⟨offE en x, noE, [], []⟩ : Tk) = _; rw [HOf.out.2]; rfl
          have HSB : Hid (Below w1.heap.size w1 _) := hB.out.trans SA.2
          clear SA m hb2 X2 HS hB c0 c1 c2 c3 c4 j0 j1 j2 j3 j4 f0 f1 f2 f3 f4 d1
          go_wp2_with fail
          go_roundw
          case rel => exact ⟨k + 1, by omega, by go_num, (by show SpQ _ _ _ _ _ _ _; rw [← E3.out]; exact HSA.out), HSB.out⟩
          case measure => simp [intOf]; omega
      · have hke : k = ts.length := by omega
        subst hke
        clear hk hlt
        have hd : decide ((ts.length : Int) < (ts.length : Int)) = false := by simp
        have Q1 : SpQ wr w1.heap.size w1.heap.size (w1.heap.size + 1) (startT ts) (.slice none 0 0) (.slice none 0 0) := by have := hQ.out; rw [List.take_length] at this; exact this
        obtain ⟨z, qa, oa, qb, ob, h⟩ := Q1
        have hbw : wr.heap.size ≤ (wr.alloc (.cells #[] 41)).heap.size := by simp
        have Q2 : Hid (SpQ ((wr.alloc (.cells #[] 41)).alloc (.cells #[] 41)) w1.heap.size w1.heap.size (w1.heap.size + 1) (startT ts) (.slice (some ⟨wr.heap.size, 0, none⟩) 0 0) (.slice (some ⟨wr.heap.size + 1, 0, none⟩) 0 0)) := by
          have g1 := h.new_t (Nat.le_refl _) (Sl.made wr 41 3 wr.heap.size (Nat.le_refl _)) ((Below.refl _ _).alloc (Nat.le_refl _) _) (ps := [])
          have g2 := g1.new_k (Nat.le_refl _) (Sl.made (wr.alloc (.cells #[] 41)) 41 3 _ (Nat.le_refl _)) ((Below.refl _ _).alloc (Nat.le_refl _) _) (ps := [])
          have := (⟨_, _, _, _, _, g2⟩ : SpQ _ w1.heap.size w1.heap.size (w1.heap.size + 1) (startT ts) _ _)
          show ∃ z qa oa qb ob, SpS _ _ _ z _ _ qa oa qb ob _ _
          simpa using this
        have B2 : Hid (Below w1.heap.size w1 ((wr.alloc (.cells #[] 41)).alloc (.cells #[] 41))) := (hB.out.alloc hB.out.size _).alloc (by have := hB.out.size; simp; omega) _
        clear h hQ hB
        go_wp2_with fail
        generalize ((wr.alloc (.cells #[] 41)).alloc (.cells #[] 41)) = W2 at *
        go_loopw [9, 10, 11] (fun tv bv i wr => ∃ k : Nat, k ≤ ps.length ∧ i = .int .i64 k ∧ Hid (SpQ wr w1.heap.size w1.heap.size (w1.heap.size + 1) (Pl.runT ts (natsOf (ps.take k))) tv bv) ∧ Hid (Below w1.heap.size w1 wr)) (fun _ _ i _ => ps.length - (intOf i).toNat)
        case atStart => exact ⟨0, Nat.zero_le _, rfl, Q2.out, B2.out⟩
        case round =>
          obtain ⟨k, hk, rfl, hQ, hB⟩ := hrel
          clear Q2 B2
          by_cases hlt : k < ps.length
          · obtain ⟨g1, o1, rfl, hg1, hc1⟩ := hy.out k hlt
            have hx0 : 0 ≤ ps[k] := HP.out _ (List.getElem_mem hlt)
            have hx1 : ps[k] ≤ 9223372036854775807 := hi64.out _ (List.getElem_mem hlt)
            obtain ⟨n, hn⟩ : ∃ n : Nat, ps[k] = (n : Int) := ⟨ps[k].toNat, by omega⟩
            rw [hn] at hc1 hx1
            have d1 : wr.cell? ⟨g1, o1 + k, none⟩ = some (.int .i64 n) := (hB.out.cell (p := ⟨g1, o1 + k, none⟩) hg1).trans hc1
            have HN : Hid (Pl.runT ts (natsOf (ps.take (k + 1))) = Pl.stepT (Pl.runT ts (natsOf (ps.take k))) n) := by
              show Pl.runT ts (natsOf (ps.take (k + 1))) = _
              rw [natsOf_take ps hlt hx0, Pl.runT_succ, hn]
              rfl
            obtain ⟨i1, i2, i3⟩ := run_inv (show ts.length ≤ 30 by omega) HF.out (natsOf (ps.take k))
            have hlk : (natsOf (ps.take k)).length ≤ 200 := by unfold natsOf; rw [List.length_map, List.length_take]; omega
            obtain ⟨t, ht⟩ : ∃ t, t = Pl.runT ts (natsOf (ps.take k)) := ⟨_, rfl⟩
            rw [← ht] at HN i1 i2 i3 hQ
            have lth : t.th.length ≤ 800 := by omega
            have lbk : t.bk.length ≤ 800 := by omega
            have HI : Hid (Inv t) := i1
            clear hc1 hn hx0 i1 i2 i3 ht hlk
            have hd : decide ((k : Int) < (ps.length : Int)) = true := by simp; omega
            have hlb : (((n : Int) / 4 % 2) == 1) = lostB n := by
              unfold lostB
              by_cases hh : n / 4 % 2 = 1
              · have : (n : Int) / 4 % 2 = 1 := by omega
                simp [hh, this]
              · have : ¬ (n : Int) / 4 % 2 = 1 := by omega
                simp [hh, this]
            have hc4 : n % 4 = 0 ∨ n % 4 = 1 ∨ n % 4 = 2 ∨ n % 4 = 3 := by omega
            obtain ⟨z, qa, qc, oa, oc, xa, xc, ya, yc, ta, tc, ka, kc, rfl, rfl, h⟩ := SpQ.form hQ.out
            have HS : Hid (SpS wr w1.heap.size t z w1.heap.size (w1.heap.size + 1) (.slice qa t.a.q.length qc) (.slice oa t.a.o.length oc) (.slice xa t.b.q.length xc) (.slice ya t.b.o.length yc) (.slice ta t.th.length tc) (.slice ka t.bk.length kc)) := h
            have la1 : t.a.q.length ≤ 1048576 := by have := HI.out.a.ok.q1; omega
            have la2 : t.a.o.length ≤ 1048576 := by have h1 := HI.out.a.ok.o0; have h2 := HI.out.a.ok.g1; omega
            have lb1 : t.b.q.length ≤ 1048576 := by have := HI.out.b.ok.q1; omega
            have lb2 : t.b.o.length ≤ 1048576 := by have h1 := HI.out.b.ok.o0; have h2 := HI.out.b.ok.g1; omega
            have hws : w1.heap.size ≤ wr.heap.size := hB.out.size
            clear h hQ
            rcases hc4 with hc | hc | hc | hc
            · have m4 : (n : Int) % 4 = 0 := by omega
              have hq : Hid (Pl.runT ts (natsOf (ps.take (k + 1))) = { t with a := newE t.a, th := t.th ++ newP t.a }) := by show Pl.runT ts (natsOf (ps.take (k + 1))) = _; rw [HN.out]; unfold Pl.stepT; rw [if_pos hc]
              clear hc HN
              obtain ⟨c0, c1, c2, c3, c4⟩ := HS.out.a.1.cells
              go_wp2_with fail
              refine (spSendNew_any (e := t.a) wr (EndQ.r HS.out.a) la1 la2).mono ?_
              rintro r w2 ⟨⟨v, u, mid, rfl, hmid, ix, iy⟩, hb2⟩
              rw [(newF_ok HI.out.a.ok).1] at ix
              rw [(newF_ok HI.out.a.ok).2] at iy
              obtain ⟨ea, ec, eb, ed, rfl⟩ := endM_form ix.own
              obtain ⟨ua, uc, rfl⟩ := Sl.form iy.own
              have bO : Below w2.heap.size w2 (w2.alloc (Obj.cells #[Value.int IntKind.i64 (newE t.a).nx, Value.int IntKind.i64 (newE t.a).ak, Value.slice ea (newE t.a).q.length ec, Value.int IntKind.i64 (newE t.a).gt, Value.slice eb (newE t.a).o.length ed] 32)) := (Below.refl _ _).alloc (Nat.le_refl _) _
              have hz2 : wr.heap.size ≤ w2.heap.size := hb2.size
              have bw : Below wr.heap.size wr (w2.alloc (Obj.cells #[Value.int IntKind.i64 (newE t.a).nx, Value.int IntKind.i64 (newE t.a).ak, Value.slice ea (newE t.a).q.length ec, Value.int IntKind.i64 (newE t.a).gt, Value.slice eb (newE t.a).o.length ed] 32)) := hb2.trans (bO.mono hz2)
              have X2 := EndC.below HS.out.a.1 bw
              obtain ⟨j0, j1, j2, j3, j4⟩ := X2.cells
              have f0 := X2.frozen 0
              have f1 := X2.frozen 1
              have f2 := X2.frozen 2
              have f3 := X2.frozen 3
              have f4 := X2.frozen 4
              have SA := HS.out.set_a (Nat.le_refl _) bw (ix.own.stays bO)
              have hpa : w1.heap.size < wr.heap.size := HS.out.a.1.lt
              have U2 : SlP (fillE (w2.alloc (Obj.cells #[Value.int IntKind.i64 (newE t.a).nx, Value.int IntKind.i64 (newE t.a).ak, Value.slice ea (newE t.a).q.length ec, Value.int IntKind.i64 (newE t.a).gt, Value.slice eb (newE t.a).o.length ed] 32)) w1.heap.size (newE t.a).nx (newE t.a).ak (.slice ea (newE t.a).q.length ec) (newE t.a).gt (.slice eb (newE t.a).o.length ed)) mid (.slice ua (newP t.a).length uc) (newP t.a) := Sl.kept (Sl.below iy.own bO) (fill_grown _ _ _ _ _ _ _) (fun j hj he => by have := (iy.at' j hj).1; simp at he; omega)
              have hsz : w2.heap.size + 1 ≤ (fillE (w2.alloc (Obj.cells #[Value.int IntKind.i64 (newE t.a).nx, Value.int IntKind.i64 (newE t.a).ak, Value.slice ea (newE t.a).q.length ec, Value.int IntKind.i64 (newE t.a).gt, Value.slice eb (newE t.a).o.length ed] 32)) w1.heap.size (newE t.a).nx (newE t.a).ak (.slice ea (newE t.a).q.length ec) (newE t.a).gt (.slice eb (newE t.a).o.length ed)).heap.size := by have := (fill_grown (w2.alloc (Obj.cells #[Value.int IntKind.i64 (newE t.a).nx, Value.int IntKind.i64 (newE t.a).ak, Value.slice ea (newE t.a).q.length ec, Value.int IntKind.i64 (newE t.a).gt, Value.slice eb (newE t.a).o.length ed] 32)) w1.heap.size (newE t.a).nx (newE t.a).ak (newE t.a).gt (.slice ea (newE t.a).q.length ec) (.slice eb (newE t.a).o.length ed)).size; simpa using this
              have HSA : Hid (SpS (fillE (w2.alloc (Obj.cells #[Value.int IntKind.i64 (newE t.a).nx, Value.int IntKind.i64 (newE t.a).ak, Value.slice ea (newE t.a).q.length ec, Value.int IntKind.i64 (newE t.a).gt, Value.slice eb (newE t.a).o.length ed] 32)) w1.heap.size (newE t.a).nx (newE t.a).ak (.slice ea (newE t.a).q.length ec) (newE t.a).gt (.slice eb (newE t.a).o.length ed)) w1.heap.size { t with a := newE t.a } (relab z wr.heap.size 1) w1.heap.size (w1.heap.size + 1) (.slice ea (newE t.a).q.length ec) (.slice eb (newE t.a).o.length ed) (.slice xa t.b.q.length xc) (.slice ya t.b.o.length yc) (.slice ta t.th.length tc) (.slice ka t.bk.length kc)) := SA.1
              have HSB : Hid (Below w1.heap.size w1 (fillE (w2.alloc (Obj.cells #[Value.int IntKind.i64 (newE t.a).nx, Value.int IntKind.i64 (newE t.a).ak, Value.slice ea (newE t.a).q.length ec, Value.int IntKind.i64 (newE t.a).gt, Value.slice eb (newE t.a).o.length ed] 32)) w1.heap.size (newE t.a).nx (newE t.a).ak (.slice ea (newE t.a).q.length ec) (newE t.a).gt (.slice eb (newE t.a).o.length ed))) := hB.out.trans SA.2
              have HU2 : Hid (SlP (fillE (w2.alloc (Obj.cells #[Value.int IntKind.i64 (newE t.a).nx, Value.int IntKind.i64 (newE t.a).ak, Value.slice ea (newE t.a).q.length ec, Value.int IntKind.i64 (newE t.a).gt, Value.slice eb (newE t.a).o.length ed] 32)) w1.heap.size (newE t.a).nx (newE t.a).ak (.slice ea (newE t.a).q.length ec) (newE t.a).gt (.slice eb (newE t.a).o.length ed)) mid (.slice ua (newP t.a).length uc) (newP t.a)) := U2
              clear SA U2 X2 bw bO ix iy hb2
              go_wp2_with (at_builtin; refine Stop.mk ?_)
              refine Stop.go ?_
              change wpList _ _ _ _ _ (fillE (w2.alloc (Obj.cells #[Value.int IntKind.i64 (newE t.a).nx, Value.int IntKind.i64 (newE t.a).ak, Value.slice ea (newE t.a).q.length ec, Value.int IntKind.i64 (newE t.a).gt, Value.slice eb (newE t.a).o.length ed] 32)) w1.heap.size (newE t.a).nx (newE t.a).ak (.slice ea (newE t.a).q.length ec) (newE t.a).gt (.slice eb (newE t.a).o.length ed))
              generalize (fillE (w2.alloc (Obj.cells #[Value.int IntKind.i64 (newE t.a).nx, Value.int IntKind.i64 (newE t.a).ak, Value.slice ea (newE t.a).q.length ec, Value.int IntKind.i64 (newE t.a).gt, Value.slice eb (newE t.a).o.length ed] 32)) w1.heap.size (newE t.a).nx (newE t.a).ak (.slice ea (newE t.a).q.length ec) (newE t.a).gt (.slice eb (newE t.a).o.length ed)) = W9 at *
              refine wpList_appP rfl _ _ rfl (by rfl) HSA.out.th (by rfl) HU2.out (by have := newP_len4 t.a; show t.th.length + _ ≤ _; omega) (by omega) ?_
              intro v3 w3 s3 g3 l3
              have A3 := HSA.out.app_t s3 g3 l3
              have HA : Hid (SpQ w3 w1.heap.size w1.heap.size (w1.heap.size + 1) (Pl.runT ts (natsOf (ps.take (k + 1)))) v3 (.slice ka t.bk.length kc)) := by
                show SpQ _ _ _ _ _ _ _
                rw [hq.out]
                exact ⟨_, _, _, _, _, A3.1⟩
              have HB : Hid (Below w1.heap.size w1 w3) := HSB.out.trans A3.2
              clear A3 s3 g3 l3 HSA HSB HU2 hB HS c0 c1 c2 c3 c4 d1 j0 j1 j2 j3 j4 f0 f1 f2 f3 f4
              go_wp2_with fail
              go_roundw
              case rel => exact ⟨k + 1, by omega, by go_num, HA.out, HB.out⟩
              case measure => simp [intOf]; omega
            · have m4 : (n : Int) % 4 = 1 := by omega
              have hq : Hid (Pl.runT ts (natsOf (ps.take (k + 1))) = { t with th := t.th ++ againP t.a }) := by show Pl.runT ts (natsOf (ps.take (k + 1))) = _; rw [HN.out]; unfold Pl.stepT; rw [if_neg (by omega), if_pos hc]
              clear hc HN
              obtain ⟨c0, c1, c2, c3, c4⟩ := HS.out.a.1.cells
              go_wp2_with fail
              refine (spSendAgain_any (e := t.a) wr (EndQ.r HS.out.a) la1 la2).mono ?_
              rintro r w2 ⟨u, rfl, iy, hb2⟩
              rw [againL_ok HI.out.a.ok] at iy
              have S2 := HS.out.below hb2
              go_wp2_with (at_builtin; refine Stop.mk ?_)
              refine Stop.go ?_
              refine wpList_appP rfl _ _ rfl (by rfl) S2.th (by rfl) iy (by have := againP_len4 HI.out.a.ok; omega) (by have := hb2.size; omega) ?_
              intro v3 w3 s3 g3 l3
              have A3 := S2.app_t s3 g3 l3
              have HA : Hid (SpQ w3 w1.heap.size w1.heap.size (w1.heap.size + 1) (Pl.runT ts (natsOf (ps.take (k + 1)))) v3 (.slice ka t.bk.length kc)) := by
                show SpQ _ _ _ _ _ _ _
                rw [hq.out]
                exact ⟨_, _, _, _, _, A3.1⟩
              have HB : Hid (Below w1.heap.size w1 w3) := (hB.out.trans (hb2.mono hws)).trans A3.2
              clear A3 s3 g3 l3 S2 iy hb2 hB HS c0 c1 c2 c3 c4 d1
              go_wp2_with fail
              go_roundw
              case rel => exact ⟨k + 1, by omega, by go_num, HA.out, HB.out⟩
              case measure => simp [intOf]; omega
            · have m4 : (n : Int) % 4 = 2 := by omega
              have hq : Hid (Pl.runT ts (natsOf (ps.take (k + 1))) = comeT t (lostB n)) := by show Pl.runT ts (natsOf (ps.take (k + 1))) = _; rw [HN.out]; unfold Pl.stepT; rw [if_neg (by omega), if_neg (by omega), if_pos hc]
              clear hc HN
              have hcs : t.th = [] ∨ ∃ x r, t.th = x :: r := by cases t.th <;> simp
              rcases hcs with hbk | ⟨x, rest, hbk⟩
              · have hd0 : decide (0 < (t.th.length : Int)) = false := by rw [hbk]; simp
                have i0' : ¬ (0 : Int) < (t.th.length : Int) := by rw [hbk]; simp
                have i1' : ¬ 0 < t.th.length := by rw [hbk]; simp
                have HA : Hid (SpQ wr w1.heap.size w1.heap.size (w1.heap.size + 1) (Pl.runT ts (natsOf (ps.take (k + 1)))) (.slice ta t.th.length tc) (.slice ka t.bk.length kc)) := by
                  show SpQ _ _ _ _ _ _ _
                  rw [hq.out, show comeT t (lostB n) = t by unfold comeT; rw [hbk]]
                  exact ⟨_, _, _, _, _, HS.out⟩
                have HB : Hid (Below w1.heap.size w1 wr) := hB.out
                clear hbk
                clear hB HS
                go_wp2_with fail
                go_roundw
                case rel => exact ⟨k + 1, by omega, by go_num, HA.out, HB.out⟩
                case measure => simp [intOf]; omega
              · obtain ⟨num, ack, s⟩ := x
                have hxo : PcOk (num, ack, s) := HI.out.th _ (by rw [hbk]; simp)
                have hl1 : 1 ≤ t.th.length := by rw [hbk]; simp
                have hlr : rest.length ≤ 800 := by have : t.th.length = rest.length + 1 := by rw [hbk]; rfl
                                                   omega
                have hd0 : decide (0 < (t.th.length : Int)) = true := by simp; omega
                have i0 : (0 : Int) < (t.th.length : Int) := by omega
                have i1 : (1 : Int) ≤ (t.th.length : Int) := by omega
                have hcp : t.th.length ≤ tc := slice_cap HS.out.th
                have i2 : (1 : Int) ≤ (tc : Int) := by omega
                have i3 : 1 ≤ tc := by omega
                obtain ⟨ao', cap', he', hp'⟩ := SlP.parcels HS.out.th
                obtain ⟨g, off, hao, hgl, e0, e1, e2⟩ := hp' 0 (by omega)
                have hka : ta = some ⟨g, off, none⟩ := by injection he' with h1 _ _; rw [h1, hao]
                subst hka
                have hx0 : t.th[0]'(by omega) = (num, ack, s) := by simp [hbk]
                rw [hx0] at e0 e1 e2
                simp only [Nat.zero_mul, Nat.add_zero] at e0 e1 e2
                clear he' hp' hao hx0
                have HBK : Hid (t.th = (num, ack, s) :: rest) := hbk
                clear hbk
                by_cases hkc : tc = 1
                · subst hkc
                  have HV : ∀ W : World, SlP W w1.heap.size (.slice (some ⟨g, off, none⟩) t.th.length 1) t.th → SlP W w1.heap.size (Value.slice (some ⟨g, off, none⟩) 0 0) rest := fun W hW => by
                    have hle : t.th.length = rest.length + 1 := by rw [HBK.out]; rfl
                    have := (cut_slp hW hle HBK.out).1 rfl
                    skip
                    exact this
                  cases hlo : lostB n with
                  | true =>
                    rw [hlo] at hlb
                    have hm : SlP (wr.alloc (.cells #[] 41)) wr.heap.size (.slice (some ⟨wr.heap.size, 0, none⟩) 0 0) [] := Sl.made wr 41 3 wr.heap.size (Nat.le_refl _)
                    have hu : SlP (wr.alloc (.cells #[] 41)) w1.heap.size (Value.slice (some ⟨g, off, none⟩) 0 0) rest := Sl.alloc (HV wr HS.out.th) _
                    have HM : Hid _ := hm
                    have HU : Hid _ := hu
                    have hz9 : (wr.alloc (.cells #[] 41)).heap.size = wr.heap.size + 1 := by simp
                    clear hm hu
                    go_wp2_with (at_builtin; refine Stop.mk ?_)
                    refine Stop.go ?_
                    refine wpList_appP rfl _ _ rfl (by rfl) (show SlP (wr.alloc (.cells #[] 41)) wr.heap.size (.slice (some ⟨wr.heap.size, 0, none⟩) 0 0) [] from HM.out) (by rfl) (show SlP (wr.alloc (.cells #[] 41)) w1.heap.size (Value.slice (some ⟨g, off, none⟩) 0 0) rest from HU.out) (by simp; omega) (by rw [hz9]; omega) ?_
                    intro v9 w9 s9 g9 l9
                    rw [List.nil_append] at s9
                    have b9 : Below wr.heap.size wr w9 := ((Below.refl _ _).alloc (Nat.le_refl _) _).trans (grown_to_below (show World.grownBy _ w9 (some wr.heap.size) from g9) (Nat.le_refl _) (by rw [hz9]; omega))
                    have A9 := HS.out.new_t (Nat.le_refl _) s9 b9
                    have HA : Hid (SpQ w9 w1.heap.size w1.heap.size (w1.heap.size + 1) (Pl.runT ts (natsOf (ps.take (k + 1)))) v9 (.slice ka t.bk.length kc)) := by
                      show SpQ _ _ _ _ _ _ _
                      rw [hq.out, show comeT t (lostB n) = { t with th := rest } by unfold comeT; rw [HBK.out, hlo]; rfl]
                      exact ⟨_, _, _, _, _, A9⟩
                    have HB : Hid (Below w1.heap.size w1 w9) := hB.out.trans (b9.mono (by omega))
                    clear A9 s9 g9 l9 b9 HM HU hz9 hB HS e0 e1 e2 d1
                    go_wp2_with fail
                    go_roundw
                    case rel => exact ⟨k + 1, by omega, by go_num, HA.out, HB.out⟩
                    case measure => simp [intOf]; omega
                  | false =>
                    rw [hlo] at hlb
                    obtain ⟨c0, c1, c2, c3, c4⟩ := HS.out.b.1.cells
                    obtain ⟨f, hf⟩ : ∃ f, f = recvE t.b (num, ack, s) := ⟨_, rfl⟩
                    have HFE : Hid (f = recvE t.b (num, ack, s)) := hf
                    have hokf : OkS f := by rw [hf]; exact recvE_ok HI.out.b hxo
                    clear hf
                    go_wp2_with fail
                    go_region_with (go_at_call 23; refine (spReceive_any (e := t.b) num ack s _ (show EndR wr.drew _ t.b from EndQ.r HS.out.b) lb1 lb2).mono ?_; rintro r w2 ⟨v, rfl, m, hb2⟩; rw [(rcv_yes (may_ok HI.out.b.ok hxo)).2, ← HFE.out] at m; have X2 := EndC.below (show EndC wr.drew _ _ _ _ _ _ _ from HS.out.b.1) hb2; obtain ⟨ea, ec, eb, ed, rfl⟩ := endM_form m; have SA := HS.out.set_b (Nat.le_refl _) ((Below.refl _ wr).drew.trans hb2) m; obtain ⟨j0, j1, j2, j3, j4⟩ := X2.cells; have f0 := X2.frozen 0; have f1 := X2.frozen 1; have f2 := X2.frozen 2; have f3 := X2.frozen 3; have f4 := X2.frozen 4)
                    all_goals
                      have hz2 : wr.heap.size ≤ w2.heap.size := hb2.size
                      have HSA : Hid (SpS (fillE w2 (w1.heap.size + 1) f.nx f.ak (.slice ea f.q.length ec) f.gt (.slice eb f.o.length ed)) w1.heap.size { t with b := f } (relab z wr.heap.size 2) w1.heap.size (w1.heap.size + 1) (.slice qa t.a.q.length qc) (.slice oa t.a.o.length oc) (.slice ea f.q.length ec) (.slice eb f.o.length ed) (.slice (some ⟨g, off, none⟩) t.th.length 1) (.slice ka t.bk.length kc)) := SA.1
                      have HSB : Hid (Below w1.heap.size w1 (fillE w2 (w1.heap.size + 1) f.nx f.ak (.slice ea f.q.length ec) f.gt (.slice eb f.o.length ed))) := hB.out.trans SA.2
                      have hsz : w2.heap.size ≤ (fillE w2 (w1.heap.size + 1) f.nx f.ak (.slice ea f.q.length ec) f.gt (.slice eb f.o.length ed)).heap.size := (fill_grown w2 (w1.heap.size + 1) f.nx f.ak f.gt (.slice ea f.q.length ec) (.slice eb f.o.length ed)).size
                      clear SA m hb2 X2 hB HS c0 c1 c2 c3 c4 e0 e1 e2 d1 j0 j1 j2 j3 j4 f0 f1 f2 f3 f4
                      change Exit.then _ _ _ _ (fillE w2 (w1.heap.size + 1) f.nx f.ak (.slice ea f.q.length ec) f.gt (.slice eb f.o.length ed))
                      generalize (fillE w2 (w1.heap.size + 1) f.nx f.ak (.slice ea f.q.length ec) f.gt (.slice eb f.o.length ed)) = W9 at *
                      obtain ⟨c0, c1, c2, c3, c4⟩ := HSA.out.b.1.cells
                      have lf1 : f.q.length ≤ 1048576 := by have := hokf.ok.q1; omega
                      have lf2 : f.o.length ≤ 1048576 := by have h1 := hokf.ok.o0; have h2 := hokf.ok.g1; omega
                      go_wp2_with fail
                      refine (spSendAgain_any (e := f) W9 (show EndR W9 _ f from EndQ.r HSA.out.b) lf1 lf2).mono ?_
                      rintro r w5 ⟨u, rfl, iy, hb5⟩
                      rw [againL_ok hokf.ok] at iy
                      have S5 := HSA.out.below hb5
                      have hz5 : W9.heap.size ≤ w5.heap.size := hb5.size
                      go_wp2_with (at_builtin; refine Stop.mk ?_)
                      refine Stop.go ?_
                      refine wpList_appP rfl _ _ rfl (by rfl) S5.bk (by rfl) iy (by have := againP_len4 hokf.ok; show t.bk.length + _ ≤ _; omega) (by omega) ?_
                      intro v6 w6 s6 g6 l6
                      have A6 := S5.app_k s6 g6 l6
                      have hz6 : w5.heap.size ≤ w6.heap.size := g6.size
                      have HS6 : Hid (SpS w6 w1.heap.size { t with b := f, bk := t.bk ++ againP f } _ w1.heap.size (w1.heap.size + 1) (.slice qa t.a.q.length qc) (.slice oa t.a.o.length oc) (.slice ea f.q.length ec) (.slice eb f.o.length ed) (.slice (some ⟨g, off, none⟩) t.th.length 1) v6) := A6.1
                      have HB6 : Hid (Below w1.heap.size w1 w6) := (HSB.out.trans (hb5.mono (by omega))).trans A6.2
                      clear A6 s6 g6 l6 S5 iy hb5 HSA HSB c0 c1 c2 c3 c4
                      have hm : SlP (w6.alloc (.cells #[] 41)) w6.heap.size (.slice (some ⟨w6.heap.size, 0, none⟩) 0 0) [] := Sl.made w6 41 3 w6.heap.size (Nat.le_refl _)
                      have hu : SlP (w6.alloc (.cells #[] 41)) w1.heap.size (Value.slice (some ⟨g, off, none⟩) 0 0) rest := Sl.alloc (HV w6 HS6.out.th) _
                      have HM : Hid _ := hm
                      have HU : Hid _ := hu
                      have hz9 : (w6.alloc (.cells #[] 41)).heap.size = w6.heap.size + 1 := by simp
                      clear hm hu
                      go_wp2_with (at_builtin; refine Stop.mk ?_)
                      refine Stop.go ?_
                      refine wpList_appP rfl _ _ rfl (by rfl) (show SlP (w6.alloc (.cells #[] 41)) w6.heap.size (.slice (some ⟨w6.heap.size, 0, none⟩) 0 0) [] from HM.out) (by rfl) (show SlP (w6.alloc (.cells #[] 41)) w1.heap.size (Value.slice (some ⟨g, off, none⟩) 0 0) rest from HU.out) (by simp; omega) (by rw [hz9]; omega) ?_
                      intro v9 w9 s9 g9 l9
                      rw [List.nil_append] at s9
                      have b9 : Below w6.heap.size w6 w9 := ((Below.refl _ _).alloc (Nat.le_refl _) _).trans (grown_to_below (show World.grownBy _ w9 (some w6.heap.size) from g9) (Nat.le_refl _) (by rw [hz9]; omega))
                      have A9 := HS6.out.new_t (Nat.le_refl _) s9 b9
                      have HA : Hid (SpQ w9 w1.heap.size w1.heap.size (w1.heap.size + 1) (Pl.runT ts (natsOf (ps.take (k + 1)))) v9 v6) := by
                        show SpQ _ _ _ _ _ _ _
                        rw [hq.out, show comeT t (lostB n) = { t with b := f, th := rest, bk := t.bk ++ againP f } by unfold comeT; rw [HBK.out, hlo, HFE.out]; rfl]
                        exact ⟨_, _, _, _, _, A9⟩
                      have HB : Hid (Below w1.heap.size w1 w9) := HB6.out.trans (b9.mono (by omega))
                      clear A9 s9 g9 l9 b9 HM HU hz9 HS6 HB6
                      go_wp2_with fail
                      go_roundw
                      case rel => exact ⟨k + 1, by omega, by go_num, HA.out, HB.out⟩
                      case measure => simp [intOf]; omega
                · have HV : ∀ W : World, SlP W w1.heap.size (.slice (some ⟨g, off, none⟩) t.th.length tc) t.th → SlP W w1.heap.size (Value.slice (some ⟨g, off + 3, none⟩) (t.th.length - 1) (tc - 1)) rest := fun W hW => by
                    have hle : t.th.length = rest.length + 1 := by rw [HBK.out]; rfl
                    have := (cut_slp hW hle HBK.out).2
                    rw [show t.th.length - 1 = rest.length by omega]
                    exact this
                  cases hlo : lostB n with
                  | true =>
                    rw [hlo] at hlb
                    have hm : SlP (wr.alloc (.cells #[] 41)) wr.heap.size (.slice (some ⟨wr.heap.size, 0, none⟩) 0 0) [] := Sl.made wr 41 3 wr.heap.size (Nat.le_refl _)
                    have hu : SlP (wr.alloc (.cells #[] 41)) w1.heap.size (Value.slice (some ⟨g, off + 3, none⟩) (t.th.length - 1) (tc - 1)) rest := Sl.alloc (HV wr HS.out.th) _
                    have HM : Hid _ := hm
                    have HU : Hid _ := hu
                    have hz9 : (wr.alloc (.cells #[] 41)).heap.size = wr.heap.size + 1 := by simp
                    clear hm hu
                    go_wp2_with (at_builtin; refine Stop.mk ?_)
                    refine Stop.go ?_
                    refine wpList_appP rfl _ _ rfl (by rfl) (show SlP (wr.alloc (.cells #[] 41)) wr.heap.size (.slice (some ⟨wr.heap.size, 0, none⟩) 0 0) [] from HM.out) (by rfl) (show SlP (wr.alloc (.cells #[] 41)) w1.heap.size (Value.slice (some ⟨g, off + 3, none⟩) (t.th.length - 1) (tc - 1)) rest from HU.out) (by simp; omega) (by rw [hz9]; omega) ?_
                    intro v9 w9 s9 g9 l9
                    rw [List.nil_append] at s9
                    have b9 : Below wr.heap.size wr w9 := ((Below.refl _ _).alloc (Nat.le_refl _) _).trans (grown_to_below (show World.grownBy _ w9 (some wr.heap.size) from g9) (Nat.le_refl _) (by rw [hz9]; omega))
                    have A9 := HS.out.new_t (Nat.le_refl _) s9 b9
                    have HA : Hid (SpQ w9 w1.heap.size w1.heap.size (w1.heap.size + 1) (Pl.runT ts (natsOf (ps.take (k + 1)))) v9 (.slice ka t.bk.length kc)) := by
                      show SpQ _ _ _ _ _ _ _
                      rw [hq.out, show comeT t (lostB n) = { t with th := rest } by unfold comeT; rw [HBK.out, hlo]; rfl]
                      exact ⟨_, _, _, _, _, A9⟩
                    have HB : Hid (Below w1.heap.size w1 w9) := hB.out.trans (b9.mono (by omega))
                    clear A9 s9 g9 l9 b9 HM HU hz9 hB HS e0 e1 e2 d1
                    go_wp2_with fail
                    go_roundw
                    case rel => exact ⟨k + 1, by omega, by go_num, HA.out, HB.out⟩
                    case measure => simp [intOf]; omega
                  | false =>
                    rw [hlo] at hlb
                    obtain ⟨c0, c1, c2, c3, c4⟩ := HS.out.b.1.cells
                    obtain ⟨f, hf⟩ : ∃ f, f = recvE t.b (num, ack, s) := ⟨_, rfl⟩
                    have HFE : Hid (f = recvE t.b (num, ack, s)) := hf
                    have hokf : OkS f := by rw [hf]; exact recvE_ok HI.out.b hxo
                    clear hf
                    go_wp2_with fail
                    go_region_with (go_at_call 23; refine (spReceive_any (e := t.b) num ack s _ (show EndR wr.drew _ t.b from EndQ.r HS.out.b) lb1 lb2).mono ?_; rintro r w2 ⟨v, rfl, m, hb2⟩; rw [(rcv_yes (may_ok HI.out.b.ok hxo)).2, ← HFE.out] at m; have X2 := EndC.below (show EndC wr.drew _ _ _ _ _ _ _ from HS.out.b.1) hb2; obtain ⟨ea, ec, eb, ed, rfl⟩ := endM_form m; have SA := HS.out.set_b (Nat.le_refl _) ((Below.refl _ wr).drew.trans hb2) m; obtain ⟨j0, j1, j2, j3, j4⟩ := X2.cells; have f0 := X2.frozen 0; have f1 := X2.frozen 1; have f2 := X2.frozen 2; have f3 := X2.frozen 3; have f4 := X2.frozen 4)
                    all_goals
                      have hz2 : wr.heap.size ≤ w2.heap.size := hb2.size
                      have HSA : Hid (SpS (fillE w2 (w1.heap.size + 1) f.nx f.ak (.slice ea f.q.length ec) f.gt (.slice eb f.o.length ed)) w1.heap.size { t with b := f } (relab z wr.heap.size 2) w1.heap.size (w1.heap.size + 1) (.slice qa t.a.q.length qc) (.slice oa t.a.o.length oc) (.slice ea f.q.length ec) (.slice eb f.o.length ed) (.slice (some ⟨g, off, none⟩) t.th.length tc) (.slice ka t.bk.length kc)) := SA.1
                      have HSB : Hid (Below w1.heap.size w1 (fillE w2 (w1.heap.size + 1) f.nx f.ak (.slice ea f.q.length ec) f.gt (.slice eb f.o.length ed))) := hB.out.trans SA.2
                      have hsz : w2.heap.size ≤ (fillE w2 (w1.heap.size + 1) f.nx f.ak (.slice ea f.q.length ec) f.gt (.slice eb f.o.length ed)).heap.size := (fill_grown w2 (w1.heap.size + 1) f.nx f.ak f.gt (.slice ea f.q.length ec) (.slice eb f.o.length ed)).size
                      clear SA m hb2 X2 hB HS c0 c1 c2 c3 c4 e0 e1 e2 d1 j0 j1 j2 j3 j4 f0 f1 f2 f3 f4
                      change Exit.then _ _ _ _ (fillE w2 (w1.heap.size + 1) f.nx f.ak (.slice ea f.q.length ec) f.gt (.slice eb f.o.length ed))
                      generalize (fillE w2 (w1.heap.size + 1) f.nx f.ak (.slice ea f.q.length ec) f.gt (.slice eb f.o.length ed)) = W9 at *
                      obtain ⟨c0, c1, c2, c3, c4⟩ := HSA.out.b.1.cells
                      have lf1 : f.q.length ≤ 1048576 := by have := hokf.ok.q1; omega
                      have lf2 : f.o.length ≤ 1048576 := by have h1 := hokf.ok.o0; have h2 := hokf.ok.g1; omega
                      go_wp2_with fail
                      refine (spSendAgain_any (e := f) W9 (show EndR W9 _ f from EndQ.r HSA.out.b) lf1 lf2).mono ?_
                      rintro r w5 ⟨u, rfl, iy, hb5⟩
                      rw [againL_ok hokf.ok] at iy
                      have S5 := HSA.out.below hb5
                      have hz5 : W9.heap.size ≤ w5.heap.size := hb5.size
                      go_wp2_with (at_builtin; refine Stop.mk ?_)
                      refine Stop.go ?_
                      refine wpList_appP rfl _ _ rfl (by rfl) S5.bk (by rfl) iy (by have := againP_len4 hokf.ok; show t.bk.length + _ ≤ _; omega) (by omega) ?_
                      intro v6 w6 s6 g6 l6
                      have A6 := S5.app_k s6 g6 l6
                      have hz6 : w5.heap.size ≤ w6.heap.size := g6.size
                      have HS6 : Hid (SpS w6 w1.heap.size { t with b := f, bk := t.bk ++ againP f } _ w1.heap.size (w1.heap.size + 1) (.slice qa t.a.q.length qc) (.slice oa t.a.o.length oc) (.slice ea f.q.length ec) (.slice eb f.o.length ed) (.slice (some ⟨g, off, none⟩) t.th.length tc) v6) := A6.1
                      have HB6 : Hid (Below w1.heap.size w1 w6) := (HSB.out.trans (hb5.mono (by omega))).trans A6.2
                      clear A6 s6 g6 l6 S5 iy hb5 HSA HSB c0 c1 c2 c3 c4
                      have hm : SlP (w6.alloc (.cells #[] 41)) w6.heap.size (.slice (some ⟨w6.heap.size, 0, none⟩) 0 0) [] := Sl.made w6 41 3 w6.heap.size (Nat.le_refl _)
                      have hu : SlP (w6.alloc (.cells #[] 41)) w1.heap.size (Value.slice (some ⟨g, off + 3, none⟩) (t.th.length - 1) (tc - 1)) rest := Sl.alloc (HV w6 HS6.out.th) _
                      have HM : Hid _ := hm
                      have HU : Hid _ := hu
                      have hz9 : (w6.alloc (.cells #[] 41)).heap.size = w6.heap.size + 1 := by simp
                      clear hm hu
                      go_wp2_with (at_builtin; refine Stop.mk ?_)
                      refine Stop.go ?_
                      refine wpList_appP rfl _ _ rfl (by rfl) (show SlP (w6.alloc (.cells #[] 41)) w6.heap.size (.slice (some ⟨w6.heap.size, 0, none⟩) 0 0) [] from HM.out) (by rfl) (show SlP (w6.alloc (.cells #[] 41)) w1.heap.size (Value.slice (some ⟨g, off + 3, none⟩) (t.th.length - 1) (tc - 1)) rest from HU.out) (by simp; omega) (by rw [hz9]; omega) ?_
                      intro v9 w9 s9 g9 l9
                      rw [List.nil_append] at s9
                      have b9 : Below w6.heap.size w6 w9 := ((Below.refl _ _).alloc (Nat.le_refl _) _).trans (grown_to_below (show World.grownBy _ w9 (some w6.heap.size) from g9) (Nat.le_refl _) (by rw [hz9]; omega))
                      have A9 := HS6.out.new_t (Nat.le_refl _) s9 b9
                      have HA : Hid (SpQ w9 w1.heap.size w1.heap.size (w1.heap.size + 1) (Pl.runT ts (natsOf (ps.take (k + 1)))) v9 v6) := by
                        show SpQ _ _ _ _ _ _ _
                        rw [hq.out, show comeT t (lostB n) = { t with b := f, th := rest, bk := t.bk ++ againP f } by unfold comeT; rw [HBK.out, hlo, HFE.out]; rfl]
                        exact ⟨_, _, _, _, _, A9⟩
                      have HB : Hid (Below w1.heap.size w1 w9) := HB6.out.trans (b9.mono (by omega))
                      clear A9 s9 g9 l9 b9 HM HU hz9 HS6 HB6
                      go_wp2_with fail
                      go_roundw
                      case rel => exact ⟨k + 1, by omega, by go_num, HA.out, HB.out⟩
                      case measure => simp [intOf]; omega
            · have m4 : (n : Int) % 4 = 3 := by omega
              have hq : Hid (Pl.runT ts (natsOf (ps.take (k + 1))) = comeB t (lostB n)) := by show Pl.runT ts (natsOf (ps.take (k + 1))) = _; rw [HN.out]; unfold Pl.stepT; rw [if_neg (by omega), if_neg (by omega), if_neg (by omega)]
              clear hc HN
              have hcs : t.bk = [] ∨ ∃ x r, t.bk = x :: r := by cases t.bk <;> simp
              rcases hcs with hbk | ⟨x, rest, hbk⟩
              · have hd0 : decide (0 < (t.bk.length : Int)) = false := by rw [hbk]; simp
                have i0' : ¬ (0 : Int) < (t.bk.length : Int) := by rw [hbk]; simp
                have i1' : ¬ 0 < t.bk.length := by rw [hbk]; simp
                have HA : Hid (SpQ wr w1.heap.size w1.heap.size (w1.heap.size + 1) (Pl.runT ts (natsOf (ps.take (k + 1)))) (.slice ta t.th.length tc) (.slice ka t.bk.length kc)) := by
                  show SpQ _ _ _ _ _ _ _
                  rw [hq.out, show comeB t (lostB n) = t by unfold comeB; rw [hbk]]
                  exact ⟨_, _, _, _, _, HS.out⟩
                have HB : Hid (Below w1.heap.size w1 wr) := hB.out
                clear hbk
                clear hB HS
                go_wp2_with fail
                go_roundw
                case rel => exact ⟨k + 1, by omega, by go_num, HA.out, HB.out⟩
                case measure => simp [intOf]; omega
              · obtain ⟨num, ack, s⟩ := x
                have hxo : PcOk (num, ack, s) := HI.out.bk _ (by rw [hbk]; simp)
                have hl1 : 1 ≤ t.bk.length := by rw [hbk]; simp
                have hlr : rest.length ≤ 800 := by have : t.bk.length = rest.length + 1 := by rw [hbk]; rfl
                                                   omega
                have hd0 : decide (0 < (t.bk.length : Int)) = true := by simp; omega
                have i0 : (0 : Int) < (t.bk.length : Int) := by omega
                have i1 : (1 : Int) ≤ (t.bk.length : Int) := by omega
                have hcp : t.bk.length ≤ kc := slice_cap HS.out.bk
                have i2 : (1 : Int) ≤ (kc : Int) := by omega
                have i3 : 1 ≤ kc := by omega
                obtain ⟨ao', cap', he', hp'⟩ := SlP.parcels HS.out.bk
                obtain ⟨g, off, hao, hgl, e0, e1, e2⟩ := hp' 0 (by omega)
                have hka : ka = some ⟨g, off, none⟩ := by injection he' with h1 _ _; rw [h1, hao]
                subst hka
                have hx0 : t.bk[0]'(by omega) = (num, ack, s) := by simp [hbk]
                rw [hx0] at e0 e1 e2
                simp only [Nat.zero_mul, Nat.add_zero] at e0 e1 e2
                clear he' hp' hao hx0
                have HBK : Hid (t.bk = (num, ack, s) :: rest) := hbk
                clear hbk
                by_cases hkc : kc = 1
                · subst hkc
                  have HV : ∀ W : World, SlP W w1.heap.size (.slice (some ⟨g, off, none⟩) t.bk.length 1) t.bk → SlP W w1.heap.size (Value.slice (some ⟨g, off, none⟩) 0 0) rest := fun W hW => by
                    have hle : t.bk.length = rest.length + 1 := by rw [HBK.out]; rfl
                    have := (cut_slp hW hle HBK.out).1 rfl
                    skip
                    exact this
                  cases hlo : lostB n with
                  | true =>
                    rw [hlo] at hlb
                    have hm : SlP (wr.alloc (.cells #[] 41)) wr.heap.size (.slice (some ⟨wr.heap.size, 0, none⟩) 0 0) [] := Sl.made wr 41 3 wr.heap.size (Nat.le_refl _)
                    have hu : SlP (wr.alloc (.cells #[] 41)) w1.heap.size (Value.slice (some ⟨g, off, none⟩) 0 0) rest := Sl.alloc (HV wr HS.out.bk) _
                    have HM : Hid _ := hm
                    have HU : Hid _ := hu
                    have hz9 : (wr.alloc (.cells #[] 41)).heap.size = wr.heap.size + 1 := by simp
                    clear hm hu
                    go_wp2_with (at_builtin; refine Stop.mk ?_)
                    refine Stop.go ?_
                    refine wpList_appP rfl _ _ rfl (by rfl) (show SlP (wr.alloc (.cells #[] 41)) wr.heap.size (.slice (some ⟨wr.heap.size, 0, none⟩) 0 0) [] from HM.out) (by rfl) (show SlP (wr.alloc (.cells #[] 41)) w1.heap.size (Value.slice (some ⟨g, off, none⟩) 0 0) rest from HU.out) (by simp; omega) (by rw [hz9]; omega) ?_
                    intro v9 w9 s9 g9 l9
                    rw [List.nil_append] at s9
                    have b9 : Below wr.heap.size wr w9 := ((Below.refl _ _).alloc (Nat.le_refl _) _).trans (grown_to_below (show World.grownBy _ w9 (some wr.heap.size) from g9) (Nat.le_refl _) (by rw [hz9]; omega))
                    have A9 := HS.out.new_k (Nat.le_refl _) s9 b9
                    have HA : Hid (SpQ w9 w1.heap.size w1.heap.size (w1.heap.size + 1) (Pl.runT ts (natsOf (ps.take (k + 1)))) (.slice ta t.th.length tc) v9) := by
                      show SpQ _ _ _ _ _ _ _
                      rw [hq.out, show comeB t (lostB n) = { t with bk := rest } by unfold comeB; rw [HBK.out, hlo]; rfl]
                      exact ⟨_, _, _, _, _, A9⟩
                    have HB : Hid (Below w1.heap.size w1 w9) := hB.out.trans (b9.mono (by omega))
                    clear A9 s9 g9 l9 b9 HM HU hz9 hB HS e0 e1 e2 d1
                    go_wp2_with fail
                    go_roundw
                    case rel => exact ⟨k + 1, by omega, by go_num, HA.out, HB.out⟩
                    case measure => simp [intOf]; omega
                  | false =>
                    rw [hlo] at hlb
                    obtain ⟨c0, c1, c2, c3, c4⟩ := HS.out.a.1.cells
                    obtain ⟨f, hf⟩ : ∃ f, f = recvE t.a (num, ack, s) := ⟨_, rfl⟩
                    have HFE : Hid (f = recvE t.a (num, ack, s)) := hf
                    have hokf : OkS f := by rw [hf]; exact recvE_ok HI.out.a hxo
                    clear hf
                    go_wp2_with fail
                    go_region_with (go_at_call 23; refine (spReceive_any (e := t.a) num ack s _ (show EndR wr.drew _ t.a from EndQ.r HS.out.a) la1 la2).mono ?_; rintro r w2 ⟨v, rfl, m, hb2⟩; rw [(rcv_yes (may_ok HI.out.a.ok hxo)).2, ← HFE.out] at m; have X2 := EndC.below (show EndC wr.drew _ _ _ _ _ _ _ from HS.out.a.1) hb2; obtain ⟨ea, ec, eb, ed, rfl⟩ := endM_form m; have SA := HS.out.set_a (Nat.le_refl _) ((Below.refl _ wr).drew.trans hb2) m; obtain ⟨j0, j1, j2, j3, j4⟩ := X2.cells; have f0 := X2.frozen 0; have f1 := X2.frozen 1; have f2 := X2.frozen 2; have f3 := X2.frozen 3; have f4 := X2.frozen 4)
                    all_goals
                      have hz2 : wr.heap.size ≤ w2.heap.size := hb2.size
                      have HSA : Hid (SpS (fillE w2 w1.heap.size f.nx f.ak (.slice ea f.q.length ec) f.gt (.slice eb f.o.length ed)) w1.heap.size { t with a := f } (relab z wr.heap.size 1) w1.heap.size (w1.heap.size + 1) (.slice ea f.q.length ec) (.slice eb f.o.length ed) (.slice xa t.b.q.length xc) (.slice ya t.b.o.length yc) (.slice ta t.th.length tc) (.slice (some ⟨g, off, none⟩) t.bk.length 1)) := SA.1
                      have HSB : Hid (Below w1.heap.size w1 (fillE w2 w1.heap.size f.nx f.ak (.slice ea f.q.length ec) f.gt (.slice eb f.o.length ed))) := hB.out.trans SA.2
                      have hsz : w2.heap.size ≤ (fillE w2 w1.heap.size f.nx f.ak (.slice ea f.q.length ec) f.gt (.slice eb f.o.length ed)).heap.size := (fill_grown w2 w1.heap.size f.nx f.ak f.gt (.slice ea f.q.length ec) (.slice eb f.o.length ed)).size
                      clear SA m hb2 X2 hB HS c0 c1 c2 c3 c4 e0 e1 e2 d1 j0 j1 j2 j3 j4 f0 f1 f2 f3 f4
                      change Exit.then _ _ _ _ (fillE w2 w1.heap.size f.nx f.ak (.slice ea f.q.length ec) f.gt (.slice eb f.o.length ed))
                      generalize (fillE w2 w1.heap.size f.nx f.ak (.slice ea f.q.length ec) f.gt (.slice eb f.o.length ed)) = W9 at *
                      have hm : SlP (W9.alloc (.cells #[] 41)) W9.heap.size (.slice (some ⟨W9.heap.size, 0, none⟩) 0 0) [] := Sl.made W9 41 3 W9.heap.size (Nat.le_refl _)
                      have hu : SlP (W9.alloc (.cells #[] 41)) w1.heap.size (Value.slice (some ⟨g, off, none⟩) 0 0) rest := Sl.alloc (HV W9 HSA.out.bk) _
                      have HM : Hid _ := hm
                      have HU : Hid _ := hu
                      have hz9 : (W9.alloc (.cells #[] 41)).heap.size = W9.heap.size + 1 := by simp
                      clear hm hu
                      go_wp2_with (at_builtin; refine Stop.mk ?_)
                      refine Stop.go ?_
                      refine wpList_appP rfl _ _ rfl (by rfl) (show SlP (W9.alloc (.cells #[] 41)) W9.heap.size (.slice (some ⟨W9.heap.size, 0, none⟩) 0 0) [] from HM.out) (by rfl) (show SlP (W9.alloc (.cells #[] 41)) w1.heap.size (Value.slice (some ⟨g, off, none⟩) 0 0) rest from HU.out) (by simp; omega) (by rw [hz9]; omega) ?_
                      intro v9 w9 s9 g9 l9
                      rw [List.nil_append] at s9
                      have b9 : Below W9.heap.size W9 w9 := ((Below.refl _ _).alloc (Nat.le_refl _) _).trans (grown_to_below (show World.grownBy _ w9 (some W9.heap.size) from g9) (Nat.le_refl _) (by rw [hz9]; omega))
                      have A9 := HSA.out.new_k (Nat.le_refl _) s9 b9
                      have HA : Hid (SpQ w9 w1.heap.size w1.heap.size (w1.heap.size + 1) (Pl.runT ts (natsOf (ps.take (k + 1)))) (.slice ta t.th.length tc) v9) := by
                        show SpQ _ _ _ _ _ _ _
                        rw [hq.out, show comeB t (lostB n) = { t with a := f, bk := rest } by unfold comeB; rw [HBK.out, hlo, HFE.out]; rfl]
                        exact ⟨_, _, _, _, _, A9⟩
                      have HB : Hid (Below w1.heap.size w1 w9) := HSB.out.trans (b9.mono (by omega))
                      clear A9 s9 g9 l9 b9 HM HU hz9 HSA HSB
                      go_wp2_with fail
                      go_roundw
                      case rel => exact ⟨k + 1, by omega, by go_num, HA.out, HB.out⟩
                      case measure => simp [intOf]; omega
                · have HV : ∀ W : World, SlP W w1.heap.size (.slice (some ⟨g, off, none⟩) t.bk.length kc) t.bk → SlP W w1.heap.size (Value.slice (some ⟨g, off + 3, none⟩) (t.bk.length - 1) (kc - 1)) rest := fun W hW => by
                    have hle : t.bk.length = rest.length + 1 := by rw [HBK.out]; rfl
                    have := (cut_slp hW hle HBK.out).2
                    rw [show t.bk.length - 1 = rest.length by omega]
                    exact this
                  cases hlo : lostB n with
                  | true =>
                    rw [hlo] at hlb
                    have hm : SlP (wr.alloc (.cells #[] 41)) wr.heap.size (.slice (some ⟨wr.heap.size, 0, none⟩) 0 0) [] := Sl.made wr 41 3 wr.heap.size (Nat.le_refl _)
                    have hu : SlP (wr.alloc (.cells #[] 41)) w1.heap.size (Value.slice (some ⟨g, off + 3, none⟩) (t.bk.length - 1) (kc - 1)) rest := Sl.alloc (HV wr HS.out.bk) _
                    have HM : Hid _ := hm
                    have HU : Hid _ := hu
                    have hz9 : (wr.alloc (.cells #[] 41)).heap.size = wr.heap.size + 1 := by simp
                    clear hm hu
                    go_wp2_with (at_builtin; refine Stop.mk ?_)
                    refine Stop.go ?_
                    refine wpList_appP rfl _ _ rfl (by rfl) (show SlP (wr.alloc (.cells #[] 41)) wr.heap.size (.slice (some ⟨wr.heap.size, 0, none⟩) 0 0) [] from HM.out) (by rfl) (show SlP (wr.alloc (.cells #[] 41)) w1.heap.size (Value.slice (some ⟨g, off + 3, none⟩) (t.bk.length - 1) (kc - 1)) rest from HU.out) (by simp; omega) (by rw [hz9]; omega) ?_
                    intro v9 w9 s9 g9 l9
                    rw [List.nil_append] at s9
                    have b9 : Below wr.heap.size wr w9 := ((Below.refl _ _).alloc (Nat.le_refl _) _).trans (grown_to_below (show World.grownBy _ w9 (some wr.heap.size) from g9) (Nat.le_refl _) (by rw [hz9]; omega))
                    have A9 := HS.out.new_k (Nat.le_refl _) s9 b9
                    have HA : Hid (SpQ w9 w1.heap.size w1.heap.size (w1.heap.size + 1) (Pl.runT ts (natsOf (ps.take (k + 1)))) (.slice ta t.th.length tc) v9) := by
                      show SpQ _ _ _ _ _ _ _
                      rw [hq.out, show comeB t (lostB n) = { t with bk := rest } by unfold comeB; rw [HBK.out, hlo]; rfl]
                      exact ⟨_, _, _, _, _, A9⟩
                    have HB : Hid (Below w1.heap.size w1 w9) := hB.out.trans (b9.mono (by omega))
                    clear A9 s9 g9 l9 b9 HM HU hz9 hB HS e0 e1 e2 d1
                    go_wp2_with fail
                    go_roundw
                    case rel => exact ⟨k + 1, by omega, by go_num, HA.out, HB.out⟩
                    case measure => simp [intOf]; omega
                  | false =>
                    rw [hlo] at hlb
                    obtain ⟨c0, c1, c2, c3, c4⟩ := HS.out.a.1.cells
                    obtain ⟨f, hf⟩ : ∃ f, f = recvE t.a (num, ack, s) := ⟨_, rfl⟩
                    have HFE : Hid (f = recvE t.a (num, ack, s)) := hf
                    have hokf : OkS f := by rw [hf]; exact recvE_ok HI.out.a hxo
                    clear hf
                    go_wp2_with fail
                    go_region_with (go_at_call 23; refine (spReceive_any (e := t.a) num ack s _ (show EndR wr.drew _ t.a from EndQ.r HS.out.a) la1 la2).mono ?_; rintro r w2 ⟨v, rfl, m, hb2⟩; rw [(rcv_yes (may_ok HI.out.a.ok hxo)).2, ← HFE.out] at m; have X2 := EndC.below (show EndC wr.drew _ _ _ _ _ _ _ from HS.out.a.1) hb2; obtain ⟨ea, ec, eb, ed, rfl⟩ := endM_form m; have SA := HS.out.set_a (Nat.le_refl _) ((Below.refl _ wr).drew.trans hb2) m; obtain ⟨j0, j1, j2, j3, j4⟩ := X2.cells; have f0 := X2.frozen 0; have f1 := X2.frozen 1; have f2 := X2.frozen 2; have f3 := X2.frozen 3; have f4 := X2.frozen 4)
                    all_goals
                      have hz2 : wr.heap.size ≤ w2.heap.size := hb2.size
                      have HSA : Hid (SpS (fillE w2 w1.heap.size f.nx f.ak (.slice ea f.q.length ec) f.gt (.slice eb f.o.length ed)) w1.heap.size { t with a := f } (relab z wr.heap.size 1) w1.heap.size (w1.heap.size + 1) (.slice ea f.q.length ec) (.slice eb f.o.length ed) (.slice xa t.b.q.length xc) (.slice ya t.b.o.length yc) (.slice ta t.th.length tc) (.slice (some ⟨g, off, none⟩) t.bk.length kc)) := SA.1
                      have HSB : Hid (Below w1.heap.size w1 (fillE w2 w1.heap.size f.nx f.ak (.slice ea f.q.length ec) f.gt (.slice eb f.o.length ed))) := hB.out.trans SA.2
                      have hsz : w2.heap.size ≤ (fillE w2 w1.heap.size f.nx f.ak (.slice ea f.q.length ec) f.gt (.slice eb f.o.length ed)).heap.size := (fill_grown w2 w1.heap.size f.nx f.ak f.gt (.slice ea f.q.length ec) (.slice eb f.o.length ed)).size
                      clear SA m hb2 X2 hB HS c0 c1 c2 c3 c4 e0 e1 e2 d1 j0 j1 j2 j3 j4 f0 f1 f2 f3 f4
                      change Exit.then _ _ _ _ (fillE w2 w1.heap.size f.nx f.ak (.slice ea f.q.length ec) f.gt (.slice eb f.o.length ed))
                      generalize (fillE w2 w1.heap.size f.nx f.ak (.slice ea f.q.length ec) f.gt (.slice eb f.o.length ed)) = W9 at *
                      have hm : SlP (W9.alloc (.cells #[] 41)) W9.heap.size (.slice (some ⟨W9.heap.size, 0, none⟩) 0 0) [] := Sl.made W9 41 3 W9.heap.size (Nat.le_refl _)
                      have hu : SlP (W9.alloc (.cells #[] 41)) w1.heap.size (Value.slice (some ⟨g, off + 3, none⟩) (t.bk.length - 1) (kc - 1)) rest := Sl.alloc (HV W9 HSA.out.bk) _
                      have HM : Hid _ := hm
                      have HU : Hid _ := hu
                      have hz9 : (W9.alloc (.cells #[] 41)).heap.size = W9.heap.size + 1 := by simp
                      clear hm hu
                      go_wp2_with (at_builtin; refine Stop.mk ?_)
                      refine Stop.go ?_
                      refine wpList_appP rfl _ _ rfl (by rfl) (show SlP (W9.alloc (.cells #[] 41)) W9.heap.size (.slice (some ⟨W9.heap.size, 0, none⟩) 0 0) [] from HM.out) (by rfl) (show SlP (W9.alloc (.cells #[] 41)) w1.heap.size (Value.slice (some ⟨g, off + 3, none⟩) (t.bk.length - 1) (kc - 1)) rest from HU.out) (by simp; omega) (by rw [hz9]; omega) ?_
                      intro v9 w9 s9 g9 l9
                      rw [List.nil_append] at s9
                      have b9 : Below W9.heap.size W9 w9 := ((Below.refl _ _).alloc (Nat.le_refl _) _).trans (grown_to_below (show World.grownBy _ w9 (some W9.heap.size) from g9) (Nat.le_refl _) (by rw [hz9]; omega))
                      have A9 := HSA.out.new_k (Nat.le_refl _) s9 b9
                      have HA : Hid (SpQ w9 w1.heap.size w1.heap.size (w1.heap.size + 1) (Pl.runT ts (natsOf (ps.take (k + 1)))) (.slice ta t.th.length tc) v9) := by
                        show SpQ _ _ _ _ _ _ _
                        rw [hq.out, show comeB t (lostB n) = { t with a := f, bk := rest } by unfold comeB; rw [HBK.out, hlo, HFE.out]; rfl]
                        exact ⟨_, _, _, _, _, A9⟩
                      have HB : Hid (Below w1.heap.size w1 w9) := HSB.out.trans (b9.mono (by omega))
                      clear A9 s9 g9 l9 b9 HM HU hz9 HSA HSB
                      go_wp2_with fail
                      go_roundw
                      case rel => exact ⟨k + 1, by omega, by go_num, HA.out, HB.out⟩
                      case measure => simp [intOf]; omega
          · obtain rfl : k = ps.length := by omega
            obtain ⟨t, ht⟩ : ∃ t, t = Pl.runT ts (natsOf ps) := ⟨_, rfl⟩
            have hQ3 := hQ.out
            rw [List.take_length, ← ht] at hQ3
            have hol : t.b.o.length ≤ 1000 := by
              have i1 := (run_inv (show ts.length ≤ 30 by omega) HF.out (natsOf ps)).1
              rw [← ht] at i1
              have a1 := i1.b.ok.o0
              have a2 := i1.b.ok.g1
              omega
            have HO : Hid (talkO ts ps = t.b.o) := by show talkO ts ps = _; unfold talkO; rw [hok, if_pos rfl, ht]
            have HR : Hid (talkR ts ps = begB ts t.b.o) := by show talkR ts ps = _; unfold talkR; rw [hok, ht]; rfl
            obtain ⟨z, qa, qc, oa, oc, xa, xc, ya, yc, ta, tc, ka, kc, rfl, rfl, h⟩ := SpQ.form hQ3
            have HE : Hid (EndC wr 32 (w1.heap.size + 1) t.b.nx t.b.ak (.slice xa t.b.q.length xc) t.b.gt (.slice ya t.b.o.length yc)) := h.b.1
            obtain ⟨ao', cap', he', hp'⟩ := SlT.texts h.b.2.2.1
            have HT : Hid (TextsAt wr ya t.b.o) := by injection he' with h1 _ _; rw [h1]; exact hp'
            clear h hQ3 hQ ht he' hp' hk hlt
            generalize t.b.o = o at *
            have hd : decide ((ps.length : Int) < (ps.length : Int)) = false := by simp
            have c4 := HE.out.cells.2.2.2.2
            go_wp2_with fail
            go_loopw [15, 16] (fun ok i wx => ∃ (j : Nat) (bb : Bool), j ≤ o.length ∧ i = .int .i64 j ∧ ok = .bool bb ∧ Hid (bb = (decide (o.length ≤ ts.length) && decide (o.take j = ts.take j))) ∧ Hid (EndC wx 32 (w1.heap.size + 1) t.b.nx t.b.ak (.slice xa t.b.q.length xc) t.b.gt (.slice ya o.length yc)) ∧ Hid (TextsAt wx ya o) ∧ Hid (Below w1.heap.size w1 wx)) (fun _ i _ => o.length - (intOf i).toNat)
            case atStart => exact ⟨0, decide (o.length ≤ ts.length), Nat.zero_le _, rfl, rfl, (by show _ = _; simp), HE.out, HT.out, hB.out⟩
            case round =>
              obtain ⟨j, b2, hj, rfl, rfl, hb2, hE, hT, hB2⟩ := hrel
              clear HE HT hB c4
              have c4 := hE.out.cells.2.2.2.2
              by_cases hgo : j < o.length ∧ b2 = true
              · obtain ⟨hlt, rfl⟩ := hgo
                have hle : o.length ≤ ts.length ∧ o.take j = ts.take j := by
                  have h := hb2.out
                  simp only [Bool.true_eq, Bool.and_eq_true, decide_eq_true_eq] at h
                  exact h
                have hlt2 : j < ts.length := by omega
                have HLE : Hid (o.length ≤ ts.length ∧ o.take j = ts.take j) := hle
                clear hle hb2
                obtain ⟨g1, o1, rfl, hg1, hc1⟩ := hT.out j hlt
                obtain ⟨g2, o2, rfl, hg2, hc2⟩ := hx.out j hlt2
                obtain ⟨x, hxe⟩ : ∃ x, x = o[j] := ⟨_, rfl⟩
                obtain ⟨y, hye⟩ : ∃ y, y = ts[j] := ⟨_, rfl⟩
                rw [← hxe] at hc1
                rw [← hye] at hc2
                have d2 := (hB2.out.cell (p := ⟨g2, o2 + j, none⟩) hg2).trans hc2
                have HX : Hid (x = o[j]) := hxe
                have HY : Hid (y = ts[j]) := hye
                clear hxe hye hc2
                have q1 : (0 : Int) ≤ (j : Int) := by omega
                have q2 : (j : Int) < (o.length : Int) := by omega
                have q3 : (j : Int) < (ts.length : Int) := by omega
                have hd3 : decide ((j : Int) < (o.length : Int)) = true := by simp; omega
                obtain ⟨b3, hb3⟩ : ∃ b3, b3 = (x.toList == y.toList) := ⟨_, rfl⟩
                have hb3' : (x.toList == y.toList) = b3 := hb3.symm
                have HB3 : Hid (b3 = (decide (o.length ≤ ts.length) && decide (o.take (j + 1) = ts.take (j + 1)))) := by
                  show b3 = _
                  rw [hb3, show decide (o.length ≤ ts.length) = true by simpa using HLE.out.1, Bool.true_and, List.take_succ_eq_append_getElem hlt, List.take_succ_eq_append_getElem hlt2, HLE.out.2, ← HX.out, ← HY.out]
                  by_cases hxy : x = y
                  · subst hxy; simp
                  · rw [show (x.toList == y.toList) = false by
                      cases hh : x.toList == y.toList with
                      | false => rfl
                      | true => exact absurd (bytes_ext (by simpa using hh)) hxy]
                    simp [hxy]
                clear hb3
                go_wp2_with fail
                go_quiet (fail)
                have E3 : Hid (EndC (wr.drewN nq) 32 (w1.heap.size + 1) t.b.nx t.b.ak (.slice xa t.b.q.length xc) t.b.gt (.slice (some ⟨g1, o1, none⟩) o.length yc)) := hE.out
                have T3 : Hid (TextsAt (wr.drewN nq) (some ⟨g1, o1, none⟩) o) := hT.out
                have B3 : Hid (Below w1.heap.size w1 (wr.drewN nq)) := below_drewN hB2.out _
                clear hE hT hB2 c4 hc1 d2
                go_wp2_with fail
                go_roundw
                case rel => exact ⟨j + 1, b3, by omega, by go_num, rfl, HB3.out, E3.out, T3.out, B3.out⟩
                case measure => simp [intOf]; omega
              · have hbeg : Hid (begB ts o = b2) := by
                  show begB ts o = b2
                  have h := hb2.out
                  unfold begB
                  cases b2 with
                  | true =>
                    have hjo : j = o.length := by simp at hgo; omega
                    rw [hjo, List.take_length] at h
                    exact h.symm
                  | false =>
                    cases hc : decide (o.length ≤ ts.length) with
                    | false => rfl
                    | true =>
                      rw [hc, Bool.true_and] at h
                      rw [Bool.true_and]
                      have h' : ¬ o.take j = ts.take j := by simpa using h.symm
                      have : ¬ o = ts.take o.length := fun he => h' (by
                        have h1 : o.take j = (ts.take o.length).take j := congrArg (List.take j) he
                        rw [List.take_take, Nat.min_eq_left hj] at h1
                        exact h1)
                      simpa using this
                have hgo' : (decide ((j : Int) < (o.length : Int)) && b2) = false := by
                  cases b2 with
                  | true => simp at hgo ⊢; omega
                  | false => simp
                have bO : Below wr.heap.size wr (wr.alloc (.cells #[] 9)) := (Below.refl _ _).alloc (Nat.le_refl _) _
                have c4a := (EndC.below hE.out bO).cells.2.2.2.2
                have hm9 : Sl (wr.alloc (.cells #[] 9)) 9 1 wr.heap.size (.slice (some ⟨wr.heap.size, 0, none⟩) 0 0) 0 [] := Sl.made wr 9 1 wr.heap.size (Nat.le_refl _)
                have hz9 : (wr.alloc (.cells #[] 9)).heap.size = wr.heap.size + 1 := by simp
                have HM : Hid (Sl (wr.alloc (.cells #[] 9)) 9 1 wr.heap.size (.slice (some ⟨wr.heap.size, 0, none⟩) 0 0) 0 []) := hm9
                have HTA : Hid (TextsAt (wr.alloc (.cells #[] 9)) ya o) := hT.out.stays bO
                have hwr : w1.heap.size ≤ wr.heap.size := hB2.out.size
                clear hm9 hb2 hgo
                by_cases hlt4 : ¬ j < o.length
                · have hd3 : decide ((j : Int) < (o.length : Int)) = false := by simp; omega
                  have q2 : ¬ (j : Int) < (o.length : Int) := by omega
                  clear hgo'
                  go_wp2_with (at_builtin; refine Stop.mk ?_)
                  refine Stop.go ?_
                  refine wpList_appendS rfl _ _ 24 rfl (.string ⟨#[]⟩) 16 Try.underlying24 Try.info9 rfl (by rfl) (show Sl (wr.alloc (.cells #[] 9)) 9 1 wr.heap.size (.slice (some ⟨wr.heap.size, 0, none⟩) 0 0) 0 [] from HM.out) _ o.length (o.map Value.string) (by rfl) (texts_src HTA.out yc Try.underlying24) (by unfold maxLen; omega) (by omega) (by rw [hz9]; omega) ?_
                  intro v9 w9 s9 g9 l9
                  rw [Nat.zero_add, List.nil_append] at s9
                  have S9 : Hid (SlT w9 w1.heap.size v9 o) := Sl.down (show SlT w9 wr.heap.size v9 o from s9) hwr
                  have b9 : Below wr.heap.size wr w9 := bO.trans (grown_to_below (show World.grownBy _ w9 (some wr.heap.size) from g9) (Nat.le_refl _) (by rw [hz9]; omega))
                  have B9 : Hid (Below w1.heap.size w1 w9) := hB2.out.trans (b9.mono hwr)
                  clear s9 g9 l9 b9 HM HTA hE hT hB2 c4 c4a bO hz9
                  go_wp2_with fail
                  go_ret2
                  refine ⟨⟨_, ?_, by rw [HO.out]; exact S9.out⟩, B9.out⟩
                  rw [HR.out, hbeg.out]
                  rfl
                · have hlt5 : j < o.length := by omega
                  have hd3 : decide ((j : Int) < (o.length : Int)) = true := by simp; omega
                  obtain rfl : b2 = false := by rw [hd3] at hgo'; simpa using hgo'
                  have q2 : (j : Int) < (o.length : Int) := by omega
                  clear hgo' hlt4
                  go_wp2_with (at_builtin; refine Stop.mk ?_)
                  refine Stop.go ?_
                  refine wpList_appendS rfl _ _ 24 rfl (.string ⟨#[]⟩) 16 Try.underlying24 Try.info9 rfl (by rfl) (show Sl (wr.alloc (.cells #[] 9)) 9 1 wr.heap.size (.slice (some ⟨wr.heap.size, 0, none⟩) 0 0) 0 [] from HM.out) _ o.length (o.map Value.string) (by rfl) (texts_src HTA.out yc Try.underlying24) (by unfold maxLen; omega) (by omega) (by rw [hz9]; omega) ?_
                  intro v9 w9 s9 g9 l9
                  rw [Nat.zero_add, List.nil_append] at s9
                  have S9 : Hid (SlT w9 w1.heap.size v9 o) := Sl.down (show SlT w9 wr.heap.size v9 o from s9) hwr
                  have b9 : Below wr.heap.size wr w9 := bO.trans (grown_to_below (show World.grownBy _ w9 (some wr.heap.size) from g9) (Nat.le_refl _) (by rw [hz9]; omega))
                  have B9 : Hid (Below w1.heap.size w1 w9) := hB2.out.trans (b9.mono hwr)
                  clear s9 g9 l9 b9 HM HTA hE hT hB2 c4 c4a bO hz9
                  go_wp2_with fail
                  go_ret2
                  refine ⟨⟨_, ?_, by rw [HO.out]; exact S9.out⟩, B9.out⟩
                  rw [HR.out, hbeg.out]
                  rfl
end Go.Proofs.Ytohagaelenhebaa
