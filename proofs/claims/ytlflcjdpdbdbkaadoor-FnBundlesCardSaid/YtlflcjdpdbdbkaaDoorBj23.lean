/- Joined texts: Sb13 Lbn. -/
import Derived.Test.YtlflcjdpdbdbkaaDoorBj22
import Derived.Test.YtlflcjdpdbdbkaaDoorBj8
import Derived.Test.YtlflcjdpdbdbkaaDoorBj18
import Derived.BigQuiet
/- The specification's ReadBundle: what it finds, in plain words; the walk. -/
namespace Go.Proofs.YtlflcjdpdbdbkaaDoor
open Go.RowKit Pl
set_option linter.unusedVariables false
set_option linter.unusedSimpArgs false

theorem ShF.good {s t t' : ByteArray} {A i j : Nat} {b : Bool} (h : ShF s A false t i b) (hr : shP s A = some (t', j)) : t = t' ∧ i = j ∧ b = false := by
  obtain ⟨n, k, b1, h1, h2⟩ := h
  rcases h0 : rv s A with _ | ⟨m, p⟩
  · rw [shP_none h0] at hr; cases hr
  · obtain ⟨rfl, rfl, rfl⟩ := h1.good h0
    by_cases hb : n ≤ 20000 ∧ k + n ≤ s.size
    · rw [shP_some h0 hb.1 hb.2] at hr
      simp only [Option.some.injEq, Prod.mk.injEq] at hr
      obtain ⟨rfl, rfl⟩ := hr
      exact h2.good hb.2
    · rw [shP_bad h0 (by omega)] at hr; cases hr
theorem ShF.small {s t : ByteArray} {A i : Nat} {b b' : Bool} (h : ShF s A b t i b') : t.size ≤ s.size := by
  obtain ⟨n, k, b1, h1, h2⟩ := h
  rcases h2 with ⟨_, h3, rfl, _, _⟩ | ⟨rfl, _⟩
  · rw [ByteArray.size_extract]; omega
  · exact Nat.zero_le _

/-- the state of the specification's loop behind j items. -/
def SpN (s : ByteArray) (A0 : Nat) (b0 : Bool) (n j Aj : Nat) (bj : Bool) (xs : List It) : Prop :=
  ∀ (ts : List It) (i : Nat), n ≤ 100 → b0 = false → itsP s A0 n = some (ts, i) → bj = false ∧ ∃ l, itsP s Aj (n - j) = some (l, i) ∧ ts = xs ++ l
theorem spn_start (s : ByteArray) (A0 : Nat) (b0 : Bool) (n : Nat) : SpN s A0 b0 n 0 A0 b0 [] := fun ts i _ hb h => ⟨hb, ts, h, rfl⟩
theorem spn_next {s t tx : ByteArray} {A0 n j Aj i2 q f l : Nat} {b0 b2 r : Bool} {xs : List It} (h : SpN s A0 b0 n j Aj false xs) (hj : j < n) (hv : ShF s Aj false t i2 b2) (ha : AnsI t q f l tx r) : SpN s A0 b0 n (j + 1) i2 b2 (xs ++ [((q : Int), (f : Int), (l : Int), tx)]) := by
  intro ts i hn hb hp
  obtain ⟨_, ll, h1, h2⟩ := h ts i hn hb hp
  obtain ⟨d, hd⟩ : ∃ d, n - j = d + 1 := ⟨n - j - 1, by omega⟩
  have hd' : n - (j + 1) = d := by omega
  rw [hd] at h1
  rw [hd']
  rcases h0 : shP s Aj with _ | ⟨t', i'⟩
  · rw [itsP_no1 h0] at h1; cases h1
  · obtain ⟨rfl, rfl, rfl⟩ := hv.good h0
    rcases h4 : rdP t with _ | x
    · rw [itsP_no2 h0 h4] at h1; cases h1
    · rw [itsP_some h0 h4] at h1
      rcases h3 : itsP s i2 d with _ | ⟨l', e⟩
      · rw [h3] at h1; cases h1
      · rw [h3] at h1
        simp only [Option.map_some, Option.some.injEq, Prod.mk.injEq] at h1
        obtain ⟨rfl, rfl⟩ := h1
        cases r with
        | false => rw [ha.rd_no.1] at h4; cases h4
        | true =>
          rw [ha.rd_yes] at h4
          simp only [Option.some.injEq] at h4
          exact ⟨rfl, l', rfl, by rw [h2, ← h4]; simp⟩
theorem spn_end {s : ByteArray} {A0 n j Aj : Nat} {b0 bj : Bool} {xs : List It} (h : SpN s A0 b0 n j Aj bj xs) (hj : j ≤ n) (he : n ≤ j ∨ 100 ≤ j ∨ bj = true) : ∀ (ts : List It) (i : Nat), n ≤ 100 → b0 = false → itsP s A0 n = some (ts, i) → bj = false ∧ xs = ts := by
  intro ts i hn hb hp
  obtain ⟨h0, l, h1, h2⟩ := h ts i hn hb hp
  have : n - j = 0 := by
    rcases he with he | he | he
    · omega
    · omega
    · rw [h0] at he; cases he
  rw [this] at h1
  simp only [itsP, Option.some.injEq, Prod.mk.injEq] at h1
  obtain ⟨rfl, _⟩ := h1
  exact ⟨h0, by rw [h2]; simp⟩

/-- what the specification's reader has found of a bundle. -/
def FndB (s : ByteArray) (b0 : Bool) (f n o : Nat) (ts : List It) (bad : Bool) : Prop :=
  ∃ i0 b1 i1 b2 i2 b3 k i3 b4, OneF s 0 b0 f i0 b1 ∧ OneF s i0 b1 n i1 b2 ∧ OneF s i1 b2 o i2 b3 ∧ VarF s i2 b3 k i3 b4 ∧
    ∀ (ts' : List It) (i : Nat), k ≤ 100 → b4 = false → itsP s i3 k = some (ts', i) → bad = false ∧ ts = ts'
theorem FndB.found {s : ByteArray} {f n o f' n' o' : Nat} {ts ts' : List It} {bad : Bool} (h : FndB s false f n o ts bad) (hs : s.data.toList = bunL f' n' o' ts') (ho : BnOk f' n' o' ts') : f = f' ∧ n = n' ∧ o = o' ∧ ts = ts' ∧ bad = false := by
  obtain ⟨j0, j1, j2, j3, h0, h1, h2, h3, h4⟩ := bun_at hs ho
  obtain ⟨_, _, _, n60, _⟩ := ho.nats
  obtain ⟨i0, b1, i1, b2, i2, b3, k, i3, b4, g0, g1, g2, g3, g4⟩ := h
  obtain ⟨rfl, rfl, rfl⟩ := g0.good h0
  obtain ⟨rfl, rfl, rfl⟩ := g1.good h1
  obtain ⟨rfl, rfl, rfl⟩ := g2.good h2
  obtain ⟨rfl, rfl, rfl⟩ := g3.good h3
  obtain ⟨x, y⟩ := g4 _ _ (by omega) rfl h4
  exact ⟨rfl, rfl, rfl, y, x⟩
/-- nothing is answered. -/
theorem ansB_missed {t s : ByteArray} {k : Bool} {f n o : Nat} {ts : List It} {bad : Bool} (hk : (k = true ∧ t = sealS s) ∨ (k = false ∧ s = ByteArray.empty ∧ ∀ s : ByteArray, s.size ≤ 20000 → t ≠ sealS s))
    (h : FndB s (!k) f n o ts bad) (hb : bad = true ∨ ¬ BnOk f n o ts ∨ sealS (bunS f n o ts) ≠ t) : AnsB t 0 0 0 [] false := by
  rcases hk with ⟨rfl, rfl⟩ | ⟨rfl, _, ho⟩
  · refine .inr ⟨rfl, rfl, rfl, rfl, rfl, fun f' n' o' ts' ho e => ?_⟩
    have e1 := sealS_inj e
    obtain ⟨rfl, rfl, rfl, rfl, rfl⟩ := h.found (by rw [e1, bunS_list]) ho
    rcases hb with hb | hb | hb
    · cases hb
    · exact hb ho
    · exact hb e.symm
  · exact ansB_open ho

/-- what lies ready ahead of the loop and in it. -/
structure LoopB (w wr : World) (gc gm : Nat) (s : ByteArray) (Aj : Nat) (bj : Bool) (f n o : Nat) (u : Sv) (xs : List It) : Prop where
  res : Bx wr w.heap.size 26 [.int .i64 0, .int .i64 0, .int .i64 0, .slice none 0 0]
  bun : Bx wr gm 26 [.int .i64 f, .int .i64 n, .int .i64 o, .slice u.a u.n u.c]
  own : SlI wr w.heap.size u.v xs
  cur : PcAt wr gc s Aj bj
  below : Below w.heap.size w wr
theorem PcAt.bx {w : World} {g A : Nat} {s : ByteArray} {b : Bool} (h : PcAt w g s A b) : Bx w g 65 [.string s, .int .i64 A, .bool b] := h
theorem LoopB.keep {w wr w' : World} {gc gm Aj A' : Nat} {s : ByteArray} {bj b' : Bool} {f n o : Nat} {u : Sv} {xs : List It} (h : LoopB w wr gc gm s Aj bj f n o u xs) (hk : KeepBut gc wr w') (hp : PcAt w' gc s A' b') (h1 : w.heap.size < gc) (h2 : gc < gm) : LoopB w w' gc gm s A' b' f n o u xs :=
  ⟨h.res.keepb hk (by omega), h.bun.keepb hk (by omega), h.own.keepb h.cur.bx hk (by decide), hp, h.below.trans (hk.below (by omega) h.below.size)⟩
theorem LoopB.later {w wr w' : World} {gc gm Aj : Nat} {s : ByteArray} {bj : Bool} {f n o : Nat} {u : Sv} {xs : List It} (h : LoopB w wr gc gm s Aj bj f n o u xs) (hb : Below wr.heap.size wr w') : LoopB w w' gc gm s Aj bj f n o u xs :=
  ⟨h.res.later hb, h.bun.later hb, h.own.below hb, h.cur.stays hb h.cur.lt, bl_nxt h.below hb⟩
theorem LoopB.push {w wr w' : World} {gc gm Aj : Nat} {s : ByteArray} {bj : Bool} {f n o : Nat} {u : Sv} {v' : Value} {xs ys : List It} (h : LoopB w wr gc gm s Aj bj f n o u xs) (hv : SlI w' w.heap.size v' ys) (hg : wr.grownBy w' u.v.ownBlock) (hb : Below w.heap.size wr w') :
    Bx w' w.heap.size 26 [.int .i64 0, .int .i64 0, .int .i64 0, .slice none 0 0] ∧ Bx w' gm 26 [.int .i64 f, .int .i64 n, .int .i64 o, .slice u.a u.n u.c] ∧ PcAt w' gc s Aj bj ∧ Below w.heap.size w w' :=
  ⟨h.res.grown hg (fun e => sl_bx_ne h.own h.res (by decide) e.symm), h.bun.grown hg (fun e => sl_bx_ne h.own h.bun (by decide) e.symm), Bx.grown h.cur.bx hg (fun e => sl_bx_ne h.own h.cur.bx (by decide) e.symm), h.below.trans hb⟩

set_option maxRecDepth 100000 in
set_option maxHeartbeats 8000000 in
theorem spReadBundle_any (t : ByteArray) (w : World) (hs : t.size ≤ 1048576) :
    Calls Tryd.prog 15 #[.string t] w fun e w' => ∃ (f n o : Nat) (ts : List It) (k : Bool) (u : Sv), e = .returned (.tuple #[.agg #[.int .i64 f, .int .i64 n, .int .i64 o, .slice u.a u.n u.c], .bool k]) ∧ AnsB t f n o ts k ∧ SlI w' w.heap.size u.v ts ∧ Below w.heap.size w w' := by
  obtain ⟨s, k, hs20, hcase, _, hspec⟩ := un_two t hs
  have HSPEC : Hid _ := hspec
  have HC : Hid ((k = true ∧ t = sealS s) ∨ (k = false ∧ s = ByteArray.empty ∧ ∀ s : ByteArray, s.size ≤ 20000 → t ≠ sealS s)) := hcase
  have R0 : Hid (Bx (w.alloc (.cells #[.int .i64 0, .int .i64 0, .int .i64 0, .slice none 0 0] 26)) w.heap.size 26 [.int .i64 0, .int .i64 0, .int .i64 0, .slice none 0 0]) := Bx.new w 26 _
  have B0 : Hid (Below w.heap.size w (w.alloc (.cells #[.int .i64 0, .int .i64 0, .int .i64 0, .slice none 0 0] 26))) := (Below.refl _ _).alloc (Nat.le_refl _) _
  clear hspec hcase
  go_enter Tryd.func15, Tryd.ntmps15
  go_wp2_with fail
  generalize (w.alloc (.cells #[.int .i64 0, .int .i64 0, .int .i64 0, .slice none 0 0] 26)) = W0 at *
  refine (HSPEC.out _).mono ?_
  rintro e w1 ⟨rfl, hb1⟩
  have R1 : Hid (Bx w1 w.heap.size 26 [.int .i64 0, .int .i64 0, .int .i64 0, .slice none 0 0]) := R0.out.later hb1
  have B1 : Hid (Below w.heap.size w w1) := bl_nxt B0.out hb1
  clear hb1 R0 B0 HSPEC
  have hN1 := R1.out.lt
  have D1 : Below w1.heap.size w1 (w1.alloc (.cells #[.string s, .int .i64 0, .bool (!k)] 65)) := (Below.refl _ _).alloc (Nat.le_refl _) _
  have R2 : Hid (Bx (w1.alloc (.cells #[.string s, .int .i64 0, .bool (!k)] 65)) w.heap.size 26 [.int .i64 0, .int .i64 0, .int .i64 0, .slice none 0 0]) := R1.out.later D1
  have P2 : Hid (PcAt (w1.alloc (.cells #[.string s, .int .i64 0, .bool (!k)] 65)) w1.heap.size s 0 (!k)) := heap_alloc_new w1 _
  have B2 : Hid (Below w.heap.size w (w1.alloc (.cells #[.string s, .int .i64 0, .bool (!k)] 65))) := bl_nxt B1.out D1
  clear D1
  go_wp2_with fail
  generalize (w1.alloc (.cells #[.string s, .int .i64 0, .bool (!k)] 65)) = W1 at *
  generalize w1.heap.size = gc at *
  clear R1 B1
  generalize hkb : (!k) = kb at *
  have HKB : Hid ((!k) = kb) := hkb
  clear hkb
  refine (one_any s gc 0 kb W1 P2 (by omega) (Nat.zero_le _)).mono ?_
  rintro e w2 ⟨f, i0, b1, rfl, hf, hi0, hp, ht, hF⟩
  have F0 : Hid (OneF s 0 kb f i0 b1) := hF
  have R3 : Hid (Bx w2 w.heap.size 26 [.int .i64 0, .int .i64 0, .int .i64 0, .slice none 0 0]) := R2.out.turn ht (by omega)
  have P3 : Hid (PcAt w2 gc s i0 b1) := hp
  have B3 : Hid (Below w.heap.size w w2) := B2.out.trans (ht.below (by omega))
  have hN3 := P3.out.lt
  clear hF hp ht R2 P2 B2
  have D3 : Below w2.heap.size w2 (w2.alloc (.cells #[.int .i64 f, .int .i64 0, .int .i64 0, .slice none 0 0] 26)) := (Below.refl _ _).alloc (Nat.le_refl _) _
  have L4 : Hid (LoopB w (w2.alloc (.cells #[.int .i64 f, .int .i64 0, .int .i64 0, .slice none 0 0] 26)) gc w2.heap.size s i0 b1 f 0 0 ⟨none, 0, 0⟩ []) := ⟨R3.out.later D3, Bx.new w2 26 _, SlI.zero _ _, P3.out.stays D3 hN3, bl_nxt B3.out D3⟩
  clear D3 R3 P3 B3
  go_wp2_with fail
  generalize w2.alloc (.cells #[.int .i64 f, .int .i64 0, .int .i64 0, .slice none 0 0] 26) = W4 at *
  generalize w2.heap.size = gm at *
  refine (one_any s gc i0 b1 W4 L4.out.cur (by omega) hi0).mono ?_
  rintro e v1 ⟨n, i1, b2, rfl, hn, hi1, hp, ht, hF⟩
  have F1 : Hid (OneF s i0 b1 n i1 b2) := hF
  have L5 : Hid (LoopB w v1 gc gm s i1 b2 f 0 0 ⟨none, 0, 0⟩ []) := L4.out.keep ht.keep hp (by omega) (by omega)
  have c0 := L5.out.bun.cell 1
  simp only [List.getElem?_cons_succ, List.getElem?_cons_zero] at c0
  have f0 := L5.out.bun.frozen 1
  clear hF hp ht L4
  have T5 := (TurnAt.refl gm v1).setCell 1 (.int .i64 n)
  have L6 : Hid (LoopB w (v1.setCell ⟨gm, 1, none⟩ (.int .i64 n)) gc gm s i1 b2 f n 0 ⟨none, 0, 0⟩ []) := ⟨L5.out.res.turn T5 (by omega), L5.out.bun.set 1 (.int .i64 n), SlI.zero _ _, L5.out.cur.keep T5 (by omega), L5.out.below.trans (T5.below (by omega))⟩
  clear T5
  go_wp2_with fail
  generalize (v1.setCell ⟨gm, 1, none⟩ (.int .i64 n)) = V1 at *
  clear L5 c0 f0
  refine (one_any s gc i1 b2 V1 L6.out.cur (by omega) hi1).mono ?_
  rintro e v2 ⟨o, i2, b3, rfl, ho, hi2, hp, ht, hF⟩
  have F2 : Hid (OneF s i1 b2 o i2 b3) := hF
  have L5 : Hid (LoopB w v2 gc gm s i2 b3 f n 0 ⟨none, 0, 0⟩ []) := L6.out.keep ht.keep hp (by omega) (by omega)
  have c0 := L5.out.bun.cell 2
  simp only [List.getElem?_cons_succ, List.getElem?_cons_zero] at c0
  have f0 := L5.out.bun.frozen 2
  clear hF hp ht L6
  have T5 := (TurnAt.refl gm v2).setCell 2 (.int .i64 o)
  have L6 : Hid (LoopB w (v2.setCell ⟨gm, 2, none⟩ (.int .i64 o)) gc gm s i2 b3 f n o ⟨none, 0, 0⟩ []) := ⟨L5.out.res.turn T5 (by omega), L5.out.bun.set 2 (.int .i64 o), SlI.zero _ _, L5.out.cur.keep T5 (by omega), L5.out.below.trans (T5.below (by omega))⟩
  clear T5
  go_wp2_with fail
  generalize (v2.setCell ⟨gm, 2, none⟩ (.int .i64 o)) = V2 at *
  clear L5 c0 f0
  refine (lvar_any s gc i2 b3 V2 L6.out.cur (by omega) hi2).mono ?_
  rintro e v3 ⟨m, i3, b4, rfl, hm, hi3, hp, hk, hF⟩
  have F3 : Hid (VarF s i2 b3 m i3 b4) := hF
  have L7 : Hid (LoopB w v3 gc gm s i3 b4 f n o ⟨none, 0, 0⟩ []) := L6.out.keep hk hp (by omega) (by omega)
  clear hF hp hk L6
  go_wp2_with fail
  go_loopw [9] (fun ix wr => ∃ (j Aj : Nat) (bj : Bool) (xs : List It) (u : Sv), j ≤ m ∧ j ≤ 100 ∧ ix = .int .i64 j ∧ xs.length ≤ j ∧ Aj ≤ s.size ∧ Hid (SpN s i3 b4 m j Aj bj xs) ∧ Hid (LoopB w wr gc gm s Aj bj f n o u xs)) (fun ix _ => 101 - (intOf ix).toNat)
  case atStart => exact ⟨0, i3, b4, [], ⟨none, 0, 0⟩, Nat.zero_le _, by omega, rfl, Nat.zero_le _, hi3, spn_start s i3 b4 m, L7.out⟩
  case round =>
    clear L7
    obtain ⟨j, Aj, bj, xs, u, hj, hj100, rfl, hxl, hAj, hst, hL⟩ := hrel
    obtain ⟨c0, c1, c2, f0, f1, f2⟩ := hL.out.cur.cells
    by_cases hgo : j < m ∧ j < 100 ∧ bj = false
    · obtain ⟨hlt, hlt2, rfl⟩ := hgo
      have hd1 : decide ((j : Int) < (m : Int)) = true := by simp; omega
      have hd2 : decide ((j : Int) < 100) = true := by simp; omega
      go_wp2_with fail
      clear c0 c1 c2 f0 f1 f2 hd1 hd2
      refine (lshort_any s gc Aj false _ hL.out.cur (by omega) hAj).mono ?_
      rintro e w5 ⟨tt, i5, b5, rfl, hi5, hp5, hk5, hF5⟩
      have L5 : Hid (LoopB w w5 gc gm s i5 b5 f n o u xs) := hL.out.keep hk5 hp5 (by omega) (by omega)
      have F5 : Hid (ShF s Aj false tt i5 b5) := hF5
      have htz := hF5.small
      clear hp5 hk5 hF5 hL
      go_wp2_with fail
      refine (spReadItem_any tt _ (by omega)).mono ?_
      rintro e w6 ⟨q, f', l, tx, r, rfl, hans, hb6⟩
      have HA : Hid (AnsI tt q f' l tx r) := hans
      have L6 : Hid (LoopB w w6 gc gm s i5 b5 f n o u xs) := L5.out.later hb6
      clear hans hb6 L5
      have D6 : Below w6.heap.size w6 (w6.alloc (.cells #[.int .i64 q, .int .i64 f', .int .i64 l, .string tx] 57)) := (Below.refl _ _).alloc (Nat.le_refl _) _
      have L7 : Hid (LoopB w (w6.alloc (.cells #[.int .i64 q, .int .i64 f', .int .i64 l, .string tx] 57)) gc gm s i5 b5 f n o u xs) := L6.out.later D6
      have I7 : Hid (ItAt (w6.alloc (.cells #[.int .i64 q, .int .i64 f', .int .i64 l, .string tx] 57)) w6.heap.size q f' l tx) := heap_alloc_new w6 _
      have HZ : Hid ((w6.alloc (.cells #[.int .i64 q, .int .i64 f', .int .i64 l, .string tx] 57)).heap.size = w6.heap.size + 1) := by show _ = _; simp
      obtain ⟨c0, c1, c2, c3⟩ := I7.out.cells
      have d3 := L7.out.bun.cell 3
      simp only [List.getElem?_cons_succ, List.getElem?_cons_zero] at d3
      clear D6 L6
      go_wp2_with (first | (with_reducible refine wpList_haltA _ _ _ rfl ?_))
      refine Stp.go ?_
      generalize (w6.alloc (.cells #[.int .i64 q, .int .i64 f', .int .i64 l, .string tx] 57)) = W7 at *
      have hown : SlI W7 w.heap.size (.slice u.a u.n u.c) xs := L7.out.own
      refine wpList_pushIt rfl _ _ 24 rfl Tryd.underlying24 w.heap.size _ xs rfl hown ((q : Int), (f' : Int), (l : Int), tx) (by rw [HZ.out]; rfl) (by omega) L7.out.below.size ?_
      intro v8 w8 O8 g8 b8 _
      obtain ⟨r8, m8, p8, bb8⟩ := L7.out.push O8 g8 b8
      have R8 : Hid (Bx w8 w.heap.size 26 [.int .i64 0, .int .i64 0, .int .i64 0, .slice none 0 0]) := r8
      have M8 : Hid (Bx w8 gm 26 [.int .i64 f, .int .i64 n, .int .i64 o, .slice u.a u.n u.c]) := m8
      have P8 : Hid (PcAt w8 gc s i5 b5) := p8
      have B8 : Hid (Below w.heap.size w w8) := bb8
      have O8 : Hid (SlI w8 w.heap.size v8 (xs ++ [((q : Int), (f' : Int), (l : Int), tx)])) := O8
      obtain ⟨u8, rfl, -⟩ := O8.out.sv
      unfold Sv.v
      clear r8 m8 p8 bb8 g8 b8 hown c0 c1 c2 c3 d3 L7 I7 HZ
      go_wp2_with (first | (with_reducible refine wpList_haltS 24 _ _ rfl ?_))
      refine Stp.go ?_
      refine wpList_st1 rfl 24 _ _ rfl gm 3 rfl 26 _ M8.out (.slice u8.a u8.n u8.c) rfl (by simp) rfl Tryd.sizeIs [.int .i64 f, .int .i64 n, .int .i64 o, .slice u8.a u8.n u8.c] rfl ?_
      intro w9 M9 T9
      have L9 : Hid (LoopB w w9 gc gm s i5 b5 f n o u8 (xs ++ [((q : Int), (f' : Int), (l : Int), tx)])) := ⟨R8.out.turn T9 (by omega), M9, O8.out.past M8.out T9 (by decide), P8.out.keep T9 (by omega), B8.out.trans (T9.below (by omega))⟩
      clear R8 M8 P8 B8 O8 M9 T9
      go_wp2_with fail
      go_roundw
      case rel => exact ⟨j + 1, i5, b5, xs ++ [((q : Int), (f' : Int), (l : Int), tx)], u8, by omega, by omega, by go_num, by simp; omega, hi5, spn_next hst.out hlt F5.out HA.out, L9.out⟩
      case measure => simp [intOf]; omega
    · have hEnd : m ≤ j ∨ 100 ≤ j ∨ bj = true := by
        cases bj with
        | true => exact .inr (.inr rfl)
        | false =>
          by_cases h1 : j < m
          · by_cases h2 : j < 100
            · exact absurd ⟨h1, h2, rfl⟩ hgo
            · exact .inr (.inl (by omega))
          · exact .inl (by omega)
      have HF : Hid (FndB s (!k) f n o xs bj) := by
        show FndB s (!k) f n o xs bj
        rw [HKB.out]
        exact ⟨i0, b1, i1, b2, i2, b3, m, i3, b4, F0.out, F1.out, F2.out, F3.out, spn_end hst.out hj hEnd⟩
      clear hgo hst F0 F1 F2 F3
      obtain ⟨T, K, _, hK, hT2, _, hsp⟩ := bundleText_two f n o xs (by omega)
      have HSP : Hid _ := hsp
      have HK : Hid (bunB f n o xs = K) := hK
      have HT : Hid ((K = true ∧ ∃ (F N O : Nat), (f : Int) = F ∧ (n : Int) = N ∧ (o : Int) = O ∧ BnOk F N O xs ∧ T = sealS (bunS F N O xs)) ∨ (K = false ∧ T = ByteArray.empty)) := hT2
      clear hsp hK hT2
      have d0 := hL.out.bun.cell 0
      have d1 := hL.out.bun.cell 1
      have d2 := hL.out.bun.cell 2
      have d3 := hL.out.bun.cell 3
      simp only [List.getElem?_cons_succ, List.getElem?_cons_zero] at d0 d1 d2 d3
      by_cases h1 : j < m
      · have hd1 : decide ((j : Int) < (m : Int)) = true := by simp; omega
        by_cases h2 : j < 100
        · have hd2 : decide ((j : Int) < 100) = true := by simp; omega
          obtain rfl : bj = true := by
            rcases hEnd with h | h | h
            · omega
            · omega
            · exact h
          clear hEnd
          go_wp2_with fail
          clear c0 c1 c2 f0 f1 f2 d0 d1 d2 d3
          refine (HSP.out _ u hL.out.own.rit).mono ?_
          rintro e w9 ⟨rfl, hb9⟩
          have L9 : Hid (LoopB w w9 gc gm s Aj true f n o u xs) := hL.out.later hb9
          clear hb9 hL
          obtain ⟨c0, c1, c2, f0, f1, f2⟩ := L9.out.cur.cells
          have d0 := L9.out.bun.cell 0
          have d1 := L9.out.bun.cell 1
          have d2 := L9.out.bun.cell 2
          have d3 := L9.out.bun.cell 3
          simp only [List.getElem?_cons_succ, List.getElem?_cons_zero] at d0 d1 d2 d3
          go_wp2_with (first | (with_reducible refine wpList_haltS 26 _ _ rfl ?_))
          refine Stp.go ?_
          refine wpList_stB rfl 26 _ _ rfl w.heap.size 0 rfl 26 _ L9.out.res [.int .i64 0, .int .i64 0, .int .i64 0, .slice none 0 0] rfl (by simp) Tryd.sizeBu rfl [.int .i64 0, .int .i64 0, .int .i64 0, .slice none 0 0] rfl ?_
          intro W9 R9 T9
          have B9 : Hid (Below w.heap.size w W9) := L9.out.below.trans (T9.below (Nat.le_refl _))
          clear T9
          go_wp2_with fail
          refine bodyPost_ret (results_bt Tryd.results15 w.heap.size 26 [.int .i64 0, .int .i64 0, .int .i64 0, .slice none 0 0] _ rfl R9 Tryd.underlying26 rfl Tryd.sizeBu) rfl ?_
          exact ⟨0, 0, 0, [], false, ⟨none, 0, 0⟩, rfl, ansB_missed HC.out HF.out (.inl rfl), SlI.zero _ _, B9.out⟩
        · have hd2 : decide ((j : Int) < 100) = false := by simp; omega
          clear hEnd
          cases bj with
          | true =>
            go_wp2_with fail
            clear c0 c1 c2 f0 f1 f2 d0 d1 d2 d3
            refine (HSP.out _ u hL.out.own.rit).mono ?_
            rintro e w9 ⟨rfl, hb9⟩
            have L9 : Hid (LoopB w w9 gc gm s Aj true f n o u xs) := hL.out.later hb9
            clear hb9 hL
            obtain ⟨c0, c1, c2, f0, f1, f2⟩ := L9.out.cur.cells
            have d0 := L9.out.bun.cell 0
            have d1 := L9.out.bun.cell 1
            have d2 := L9.out.bun.cell 2
            have d3 := L9.out.bun.cell 3
            simp only [List.getElem?_cons_succ, List.getElem?_cons_zero] at d0 d1 d2 d3
            go_wp2_with (first | (with_reducible refine wpList_haltS 26 _ _ rfl ?_))
            refine Stp.go ?_
            refine wpList_stB rfl 26 _ _ rfl w.heap.size 0 rfl 26 _ L9.out.res [.int .i64 0, .int .i64 0, .int .i64 0, .slice none 0 0] rfl (by simp) Tryd.sizeBu rfl [.int .i64 0, .int .i64 0, .int .i64 0, .slice none 0 0] rfl ?_
            intro W9 R9 T9
            have B9 : Hid (Below w.heap.size w W9) := L9.out.below.trans (T9.below (Nat.le_refl _))
            clear T9
            go_wp2_with fail
            refine bodyPost_ret (results_bt Tryd.results15 w.heap.size 26 [.int .i64 0, .int .i64 0, .int .i64 0, .slice none 0 0] _ rfl R9 Tryd.underlying26 rfl Tryd.sizeBu) rfl ?_
            exact ⟨0, 0, 0, [], false, ⟨none, 0, 0⟩, rfl, ansB_missed HC.out HF.out (.inl rfl), SlI.zero _ _, B9.out⟩
          | false =>
            go_wp2_with fail
            clear c0 c1 c2 f0 f1 f2 d0 d1 d2 d3
            refine (HSP.out _ u hL.out.own.rit).mono ?_
            rintro e w9 ⟨rfl, hb9⟩
            have L9 : Hid (LoopB w w9 gc gm s Aj false f n o u xs) := hL.out.later hb9
            clear hb9 hL
            obtain ⟨c0, c1, c2, f0, f1, f2⟩ := L9.out.cur.cells
            have d0 := L9.out.bun.cell 0
            have d1 := L9.out.bun.cell 1
            have d2 := L9.out.bun.cell 2
            have d3 := L9.out.bun.cell 3
            simp only [List.getElem?_cons_succ, List.getElem?_cons_zero] at d0 d1 d2 d3
            cases K with
            | false =>
              have HNO : Hid (¬ BnOk f n o xs) := by
                show ¬ _
                unfold BnOk
                rw [HK.out]
                exact Bool.false_ne_true
              go_wp2_with (first | (with_reducible refine wpList_haltS 26 _ _ rfl ?_))
              refine Stp.go ?_
              refine wpList_stB rfl 26 _ _ rfl w.heap.size 0 rfl 26 _ L9.out.res [.int .i64 0, .int .i64 0, .int .i64 0, .slice none 0 0] rfl (by simp) Tryd.sizeBu rfl [.int .i64 0, .int .i64 0, .int .i64 0, .slice none 0 0] rfl ?_
              intro W9 R9 T9
              have B9 : Hid (Below w.heap.size w W9) := L9.out.below.trans (T9.below (Nat.le_refl _))
              clear T9
              go_wp2_with fail
              refine bodyPost_ret (results_bt Tryd.results15 w.heap.size 26 [.int .i64 0, .int .i64 0, .int .i64 0, .slice none 0 0] _ rfl R9 Tryd.underlying26 rfl Tryd.sizeBu) rfl ?_
              exact ⟨0, 0, 0, [], false, ⟨none, 0, 0⟩, rfl, ansB_missed HC.out HF.out (.inr (.inl HNO.out)), SlI.zero _ _, B9.out⟩
            | true =>
              by_cases hT : T = t
              · have HOK : Hid (AnsB t f n o xs true) := by
                  rcases HT.out with ⟨_, F, N, O, e1, e2, e3, ho, e4⟩ | ⟨h, _⟩
                  · obtain rfl : f = F := by omega
                    obtain rfl : n = N := by omega
                    obtain rfl : o = O := by omega
                    exact .inl ⟨rfl, ho, by rw [← hT, e4]⟩
                  · cases h
                have hne : (!T.toList == t.toList) = false := by rw [hT]; simp
                have HTT : Hid (T = t) := hT
                clear hT
                go_wp2_with (first | (with_reducible refine wpList_haltS 26 _ _ rfl ?_))
                refine Stp.go ?_
                refine wpList_stB rfl 26 _ _ rfl w.heap.size 0 rfl 26 _ L9.out.res [.int .i64 f, .int .i64 n, .int .i64 o, .slice u.a u.n u.c] rfl (by simp) Tryd.sizeBu rfl [.int .i64 f, .int .i64 n, .int .i64 o, .slice u.a u.n u.c] rfl ?_
                intro W9 R9 T9
                have B9 : Hid (Below w.heap.size w W9) := L9.out.below.trans (T9.below (Nat.le_refl _))
                have O9 : Hid (SlI W9 w.heap.size u.v xs) := L9.out.own.past L9.out.res T9 (by decide)
                clear T9 c0 c1 c2 f0 f1 f2 d0 d1 d2 d3
                go_wp2_with fail
                refine bodyPost_ret (results_bt Tryd.results15 w.heap.size 26 [.int .i64 f, .int .i64 n, .int .i64 o, .slice u.a u.n u.c] _ rfl R9 Tryd.underlying26 rfl Tryd.sizeBu) rfl ?_
                exact ⟨f, n, o, xs, true, u, rfl, HOK.out, O9.out, B9.out⟩
              · have hne : (!T.toList == t.toList) = true := by
                  simp only [Bool.not_eq_true', beq_eq_false_iff_ne]
                  intro h
                  rw [ByteArray.toList_eq, ByteArray.toList_eq] at h
                  exact hT (ext_list h)
                have HTN : Hid (sealS (bunS f n o xs) ≠ t) := by
                  rcases HT.out with ⟨_, F, N, O, e1, e2, e3, ho, e4⟩ | ⟨h, _⟩
                  · obtain rfl : f = F := by omega
                    obtain rfl : n = N := by omega
                    obtain rfl : o = O := by omega
                    show _ ≠ _
                    rw [← e4]; exact hT
                  · cases h
                clear hT
                go_wp2_with (first | (with_reducible refine wpList_haltS 26 _ _ rfl ?_))
                refine Stp.go ?_
                refine wpList_stB rfl 26 _ _ rfl w.heap.size 0 rfl 26 _ L9.out.res [.int .i64 0, .int .i64 0, .int .i64 0, .slice none 0 0] rfl (by simp) Tryd.sizeBu rfl [.int .i64 0, .int .i64 0, .int .i64 0, .slice none 0 0] rfl ?_
                intro W9 R9 T9
                have B9 : Hid (Below w.heap.size w W9) := L9.out.below.trans (T9.below (Nat.le_refl _))
                clear T9
                go_wp2_with fail
                refine bodyPost_ret (results_bt Tryd.results15 w.heap.size 26 [.int .i64 0, .int .i64 0, .int .i64 0, .slice none 0 0] _ rfl R9 Tryd.underlying26 rfl Tryd.sizeBu) rfl ?_
                exact ⟨0, 0, 0, [], false, ⟨none, 0, 0⟩, rfl, ansB_missed HC.out HF.out (.inr (.inr HTN.out)), SlI.zero _ _, B9.out⟩
      · have hd1 : decide ((j : Int) < (m : Int)) = false := by simp; omega
        clear hEnd
        cases bj with
        | true =>
          go_wp2_with fail
          clear c0 c1 c2 f0 f1 f2 d0 d1 d2 d3
          refine (HSP.out _ u hL.out.own.rit).mono ?_
          rintro e w9 ⟨rfl, hb9⟩
          have L9 : Hid (LoopB w w9 gc gm s Aj true f n o u xs) := hL.out.later hb9
          clear hb9 hL
          obtain ⟨c0, c1, c2, f0, f1, f2⟩ := L9.out.cur.cells
          have d0 := L9.out.bun.cell 0
          have d1 := L9.out.bun.cell 1
          have d2 := L9.out.bun.cell 2
          have d3 := L9.out.bun.cell 3
          simp only [List.getElem?_cons_succ, List.getElem?_cons_zero] at d0 d1 d2 d3
          go_wp2_with (first | (with_reducible refine wpList_haltS 26 _ _ rfl ?_))
          refine Stp.go ?_
          refine wpList_stB rfl 26 _ _ rfl w.heap.size 0 rfl 26 _ L9.out.res [.int .i64 0, .int .i64 0, .int .i64 0, .slice none 0 0] rfl (by simp) Tryd.sizeBu rfl [.int .i64 0, .int .i64 0, .int .i64 0, .slice none 0 0] rfl ?_
          intro W9 R9 T9
          have B9 : Hid (Below w.heap.size w W9) := L9.out.below.trans (T9.below (Nat.le_refl _))
          clear T9
          go_wp2_with fail
          refine bodyPost_ret (results_bt Tryd.results15 w.heap.size 26 [.int .i64 0, .int .i64 0, .int .i64 0, .slice none 0 0] _ rfl R9 Tryd.underlying26 rfl Tryd.sizeBu) rfl ?_
          exact ⟨0, 0, 0, [], false, ⟨none, 0, 0⟩, rfl, ansB_missed HC.out HF.out (.inl rfl), SlI.zero _ _, B9.out⟩
        | false =>
          go_wp2_with fail
          clear c0 c1 c2 f0 f1 f2 d0 d1 d2 d3
          refine (HSP.out _ u hL.out.own.rit).mono ?_
          rintro e w9 ⟨rfl, hb9⟩
          have L9 : Hid (LoopB w w9 gc gm s Aj false f n o u xs) := hL.out.later hb9
          clear hb9 hL
          obtain ⟨c0, c1, c2, f0, f1, f2⟩ := L9.out.cur.cells
          have d0 := L9.out.bun.cell 0
          have d1 := L9.out.bun.cell 1
          have d2 := L9.out.bun.cell 2
          have d3 := L9.out.bun.cell 3
          simp only [List.getElem?_cons_succ, List.getElem?_cons_zero] at d0 d1 d2 d3
          cases K with
          | false =>
            have HNO : Hid (¬ BnOk f n o xs) := by
              show ¬ _
              unfold BnOk
              rw [HK.out]
              exact Bool.false_ne_true
            go_wp2_with (first | (with_reducible refine wpList_haltS 26 _ _ rfl ?_))
            refine Stp.go ?_
            refine wpList_stB rfl 26 _ _ rfl w.heap.size 0 rfl 26 _ L9.out.res [.int .i64 0, .int .i64 0, .int .i64 0, .slice none 0 0] rfl (by simp) Tryd.sizeBu rfl [.int .i64 0, .int .i64 0, .int .i64 0, .slice none 0 0] rfl ?_
            intro W9 R9 T9
            have B9 : Hid (Below w.heap.size w W9) := L9.out.below.trans (T9.below (Nat.le_refl _))
            clear T9
            go_wp2_with fail
            refine bodyPost_ret (results_bt Tryd.results15 w.heap.size 26 [.int .i64 0, .int .i64 0, .int .i64 0, .slice none 0 0] _ rfl R9 Tryd.underlying26 rfl Tryd.sizeBu) rfl ?_
            exact ⟨0, 0, 0, [], false, ⟨none, 0, 0⟩, rfl, ansB_missed HC.out HF.out (.inr (.inl HNO.out)), SlI.zero _ _, B9.out⟩
          | true =>
            by_cases hT : T = t
            · have HOK : Hid (AnsB t f n o xs true) := by
                rcases HT.out with ⟨_, F, N, O, e1, e2, e3, ho, e4⟩ | ⟨h, _⟩
                · obtain rfl : f = F := by omega
                  obtain rfl : n = N := by omega
                  obtain rfl : o = O := by omega
                  exact .inl ⟨rfl, ho, by rw [← hT, e4]⟩
                · cases h
              have hne : (!T.toList == t.toList) = false := by rw [hT]; simp
              have HTT : Hid (T = t) := hT
              clear hT
              go_wp2_with (first | (with_reducible refine wpList_haltS 26 _ _ rfl ?_))
              refine Stp.go ?_
              refine wpList_stB rfl 26 _ _ rfl w.heap.size 0 rfl 26 _ L9.out.res [.int .i64 f, .int .i64 n, .int .i64 o, .slice u.a u.n u.c] rfl (by simp) Tryd.sizeBu rfl [.int .i64 f, .int .i64 n, .int .i64 o, .slice u.a u.n u.c] rfl ?_
              intro W9 R9 T9
              have B9 : Hid (Below w.heap.size w W9) := L9.out.below.trans (T9.below (Nat.le_refl _))
              have O9 : Hid (SlI W9 w.heap.size u.v xs) := L9.out.own.past L9.out.res T9 (by decide)
              clear T9 c0 c1 c2 f0 f1 f2 d0 d1 d2 d3
              go_wp2_with fail
              refine bodyPost_ret (results_bt Tryd.results15 w.heap.size 26 [.int .i64 f, .int .i64 n, .int .i64 o, .slice u.a u.n u.c] _ rfl R9 Tryd.underlying26 rfl Tryd.sizeBu) rfl ?_
              exact ⟨f, n, o, xs, true, u, rfl, HOK.out, O9.out, B9.out⟩
            · have hne : (!T.toList == t.toList) = true := by
                simp only [Bool.not_eq_true', beq_eq_false_iff_ne]
                intro h
                rw [ByteArray.toList_eq, ByteArray.toList_eq] at h
                exact hT (ext_list h)
              have HTN : Hid (sealS (bunS f n o xs) ≠ t) := by
                rcases HT.out with ⟨_, F, N, O, e1, e2, e3, ho, e4⟩ | ⟨h, _⟩
                · obtain rfl : f = F := by omega
                  obtain rfl : n = N := by omega
                  obtain rfl : o = O := by omega
                  show _ ≠ _
                  rw [← e4]; exact hT
                · cases h
              clear hT
              go_wp2_with (first | (with_reducible refine wpList_haltS 26 _ _ rfl ?_))
              refine Stp.go ?_
              refine wpList_stB rfl 26 _ _ rfl w.heap.size 0 rfl 26 _ L9.out.res [.int .i64 0, .int .i64 0, .int .i64 0, .slice none 0 0] rfl (by simp) Tryd.sizeBu rfl [.int .i64 0, .int .i64 0, .int .i64 0, .slice none 0 0] rfl ?_
              intro W9 R9 T9
              have B9 : Hid (Below w.heap.size w W9) := L9.out.below.trans (T9.below (Nat.le_refl _))
              clear T9
              go_wp2_with fail
              refine bodyPost_ret (results_bt Tryd.results15 w.heap.size 26 [.int .i64 0, .int .i64 0, .int .i64 0, .slice none 0 0] _ rfl R9 Tryd.underlying26 rfl Tryd.sizeBu) rfl ?_
              exact ⟨0, 0, 0, [], false, ⟨none, 0, 0⟩, rfl, ansB_missed HC.out HF.out (.inr (.inr HTN.out)), SlI.zero _ _, B9.out⟩
end Go.Proofs.YtlflcjdpdbdbkaaDoor

/- The law on bundles. Written by gen_lbn.py. -/
namespace Go.Proofs.YtlflcjdpdbdbkaaDoor
open Go.RowKit Pl
set_option linter.unusedVariables false
set_option linter.unusedSimpArgs false

theorem q_callB {P : Program} {W : World} {o : Oper} {a : Act} {K : Act → Prop} (v : Value) (f : FuncId) (args : Array Value) (h : ∀ w, Below W.heap.size W w → (execOp a.eval o).run P w = .ok (.enter f args) w)
    (hc : ∀ w, Below W.heap.size W w → Calls P f args w fun e w' => e = .returned v ∧ Below w.heap.size w w') (hk : K (a.put o.dst v)) : o.quiet P a (fun w' => Below W.heap.size W w') K :=
  q_call v f args h (fun w hw => (hc w hw).mono fun e w' ⟨he, hb⟩ => ⟨he, hw.trans (hb.mono hw.size)⟩) hk
/-- what is answered for y: its bytes are the text. -/
theorem againB_two {t : ByteArray} {f n o : Nat} {ts : List It} {k : Bool} (h : AnsB t f n o ts k) : ∃ (T : ByteArray) (k2 : Bool), (k = true → T = t) ∧
    ∀ (w : World) (s : Sv), Hid (RIt w s ts) → Hid (Tab w) → Calls Tryd.prog 8 #[.agg #[.int .i64 (f : Int), .int .i64 (n : Int), .int .i64 (o : Int), .slice s.a s.n s.c]] w fun e w' => e = .returned (.tuple #[.string T, .bool k2]) ∧ Below w.heap.size w w' := by
  obtain ⟨T, k2, _, hk2, hc, himpl, _⟩ := bundleText_two f n o ts (by have := h.few; omega)
  refine ⟨T, k2, fun e => ?_, himpl⟩
  subst e
  rcases h with ⟨_, h1, h2⟩ | ⟨h, _⟩
  · rcases hc with ⟨_, F, N, O, e1, e2, e3, e4, e5⟩ | ⟨h3, _⟩
    · obtain rfl : f = F := by omega
      obtain rfl : n = N := by omega
      obtain rfl : o = O := by omega
      rw [e5, h2]
    · unfold BnOk at h1
      rw [h1, h3] at hk2
      cases hk2
  · cases h

set_option maxRecDepth 100000 in
set_option maxHeartbeats 8000000 in
theorem lawBundles (w : World) (n cap : Nat) (ao : Option Addr) (hk : Hid (CodeAt w w.heap.size ao n)) (htab : Hid (Tab w)) :
    Calls Tryd.prog 3 #[.slice ao n cap] w fun e w' => e = .returned (.bool true) ∧ Below w.heap.size w w' := by
  by_cases hl : 1048576 < n
  · go_enter Tryd.func3, Tryd.ntmps3
    go_wp2_with fail
    refine (big_any w n cap ao true (by simp; omega)).mono ?_
    rintro e w1 ⟨rfl, rfl⟩
    go_wp2_with fail
    go_ret
    exact ⟨rfl, Below.refl _ _⟩
  have hn : n ≤ 1048576 := by omega
  clear hl
  go_enter Tryd.func3, Tryd.ntmps3
  go_wp2_with fail
  refine (big_any w n cap ao false (by simp; omega)).mono ?_
  rintro e w1 ⟨rfl, rfl⟩
  go_wp2_with fail
  refine (drawBT_any w1 n cap ao hn hk).mono ?_
  rintro e w2 ⟨⟨f, k, o, s, ts, rfl, hv2, hwl⟩, hb2⟩
  have ba : Below w2.heap.size w2 (w2.alloc (.cells #[.int .i64 f, .int .i64 k, .int .i64 o, .slice s.a s.n s.c] 26)) := (Below.refl _ _).alloc (Nat.le_refl _) _
  have M2 : Hid (Bx (w2.alloc (.cells #[.int .i64 f, .int .i64 k, .int .i64 o, .slice s.a s.n s.c] 26)) w2.heap.size 26 [.int .i64 f, .int .i64 k, .int .i64 o, .slice s.a s.n s.c]) := Bx.new w2 26 _
  have V2 : Hid (SlI (w2.alloc (.cells #[.int .i64 f, .int .i64 k, .int .i64 o, .slice s.a s.n s.c] 26)) w1.heap.size s.v ts) := hv2.below ba
  have B2 : Hid (Below w1.heap.size w1 (w2.alloc (.cells #[.int .i64 f, .int .i64 k, .int .i64 o, .slice s.a s.n s.c] 26))) := bl_nxt hb2 ba
  have m0 := M2.out.cell 0
  have m1 := M2.out.cell 1
  have m2 := M2.out.cell 2
  have m3 := M2.out.cell 3
  simp only [List.getElem?_cons_succ, List.getElem?_cons_zero] at m0 m1 m2 m3
  clear hb2 hv2 ba
  go_wp2_with fail
  generalize (w2.alloc (.cells #[.int .i64 f, .int .i64 k, .int .i64 o, .slice s.a s.n s.c] 26)) = W2 at *
  generalize w2.heap.size = gm at *
  obtain ⟨T, kk, hT, hkB, hcase, himpl, hspec⟩ := bundleText_two f k o ts (by omega)
  have HIMPL : Hid _ := himpl
  have HSPEC : Hid _ := hspec
  have HKB : Hid (bunB f k o ts = kk) := hkB
  have HC : Hid _ := hcase
  have Tb2 : Hid (Tab W2) := htab.out.below B2.out
  clear himpl hspec hkB hcase m0 m1 m2 m3
  refine (HIMPL.out _ s (show Hid (RIt W2 s ts) from V2.out.rit) Tb2).mono ?_
  rintro e w3 ⟨rfl, hb3⟩
  have M3 : Hid (Bx w3 gm 26 [.int .i64 f, .int .i64 k, .int .i64 o, .slice s.a s.n s.c]) := M2.out.later hb3
  have V3 : Hid (SlI w3 w1.heap.size s.v ts) := V2.out.below hb3
  have B3 : Hid (Below w1.heap.size w1 w3) := B2.out.trans (hb3.mono B2.out.size)
  have Tb3 : Hid (Tab w3) := htab.out.below B3.out
  clear hb3 M2 V2 B2 HIMPL Tb2
  go_wp2_with fail
  refine (readBundle_any T _ (by omega) Tb3).mono ?_
  rintro e w4 ⟨f4, n4, o4, ts4, k4, u, rfl, ha4, hv4, hb4⟩
  have A4 : Hid (AnsB T f4 n4 o4 ts4 k4) := ha4
  have ba : Below w4.heap.size w4 (w4.alloc (.cells #[.int .i64 (f4 : Int), .int .i64 (n4 : Int), .int .i64 (o4 : Int), .slice u.a u.n u.c] 26)) := (Below.refl _ _).alloc (Nat.le_refl _) _
  have E4 : Below w3.heap.size w3 (w4.alloc (.cells #[.int .i64 (f4 : Int), .int .i64 (n4 : Int), .int .i64 (o4 : Int), .slice u.a u.n u.c] 26)) := bl_nxt hb4 ba
  have X4 : Hid (Bx (w4.alloc (.cells #[.int .i64 (f4 : Int), .int .i64 (n4 : Int), .int .i64 (o4 : Int), .slice u.a u.n u.c] 26)) w4.heap.size 26 [.int .i64 (f4 : Int), .int .i64 (n4 : Int), .int .i64 (o4 : Int), .slice u.a u.n u.c]) := Bx.new w4 26 _
  have U4 : Hid (SlI (w4.alloc (.cells #[.int .i64 (f4 : Int), .int .i64 (n4 : Int), .int .i64 (o4 : Int), .slice u.a u.n u.c] 26)) w3.heap.size u.v ts4) := hv4.below ba
  have M4 : Hid (Bx (w4.alloc (.cells #[.int .i64 (f4 : Int), .int .i64 (n4 : Int), .int .i64 (o4 : Int), .slice u.a u.n u.c] 26)) gm 26 [.int .i64 f, .int .i64 k, .int .i64 o, .slice s.a s.n s.c]) := M3.out.later E4
  have V4 : Hid (SlI (w4.alloc (.cells #[.int .i64 (f4 : Int), .int .i64 (n4 : Int), .int .i64 (o4 : Int), .slice u.a u.n u.c] 26)) w1.heap.size s.v ts) := V3.out.below E4
  have B4 : Hid (Below w1.heap.size w1 (w4.alloc (.cells #[.int .i64 (f4 : Int), .int .i64 (n4 : Int), .int .i64 (o4 : Int), .slice u.a u.n u.c] 26))) := B3.out.trans (E4.mono B3.out.size)
  have m0 := M4.out.cell 0
  have m1 := M4.out.cell 1
  have m2 := M4.out.cell 2
  have m3 := M4.out.cell 3
  simp only [List.getElem?_cons_succ, List.getElem?_cons_zero] at m0 m1 m2 m3
  clear hb4 ha4 hv4 E4 ba M3 V3 B3 Tb3
  go_wp2_with fail
  generalize (w4.alloc (.cells #[.int .i64 (f4 : Int), .int .i64 (n4 : Int), .int .i64 (o4 : Int), .slice u.a u.n u.c] 26)) = W4 at *
  generalize w4.heap.size = gx at *
  refine (HSPEC.out _ s (show Hid (RIt W4 s ts) from V4.out.rit)).mono ?_
  rintro e w5 ⟨rfl, hb5⟩
  have M5 : Hid (Bx w5 gm 26 [.int .i64 f, .int .i64 k, .int .i64 o, .slice s.a s.n s.c]) := M4.out.later hb5
  have X5 : Hid (Bx w5 gx 26 [.int .i64 (f4 : Int), .int .i64 (n4 : Int), .int .i64 (o4 : Int), .slice u.a u.n u.c]) := X4.out.later hb5
  have V5 : Hid (SlI w5 w1.heap.size s.v ts) := V4.out.below hb5
  have U5 : Hid (SlI w5 w3.heap.size u.v ts4) := U4.out.below hb5
  have B5 : Hid (Below w1.heap.size w1 w5) := B4.out.trans (hb5.mono B4.out.size)
  clear hb5 m0 m1 m2 m3 M4 X4 V4 U4 B4 HSPEC
  cases kk with
  | true =>
    have hsame : k4 = true ∧ (f4 : Int) = f ∧ (n4 : Int) = k ∧ (o4 : Int) = o ∧ ts = ts4 := by
      rcases HC.out with ⟨_, F, N, O, rfl, rfl, rfl, ho, rfl⟩ | ⟨h, _⟩
      · obtain ⟨rfl, rfl, rfl, rfl, rfl⟩ := A4.out.same (.inl ⟨rfl, ho, rfl⟩)
        exact ⟨rfl, rfl, rfl, rfl, rfl⟩
      · cases h
    obtain ⟨rfl, e1, e2, e3, rfl⟩ := hsame
    rw [e1, e2, e3] at X5
    clear e1 e2 e3 A4 HC
    go_wp2_with fail
    refine quietC (C := fun w' => Below w5.heap.size w5 w') (by kernel_rfl) (by kernel_rfl) (Below.refl _ _).drew ?_
    go_big_quiet_want
    refine q_val (.bool true) (fun w' hw' => by go_simp) ?_
    go_big_quiet_on
    simp only [Act.put, List.setIfInBounds_toArray, List.set_cons_zero, List.set_cons_succ]
    go_big_quiet_want
    refine q_val (.bool true) (fun w' hw' => by go_simp) ?_
    go_big_quiet_on
    simp only [Act.put, List.setIfInBounds_toArray, List.set_cons_zero, List.set_cons_succ]
    go_big_quiet_want
    refine q_val (.bool false) (fun w' hw' => by go_simp) ?_
    go_big_quiet_on
    simp only [Act.put, List.setIfInBounds_toArray, List.set_cons_zero, List.set_cons_succ]
    go_big_quiet_want
    refine q_val (.bool false) (fun w' hw' => by go_simp) ?_
    go_big_quiet_on
    simp only [Act.put, List.setIfInBounds_toArray, List.set_cons_zero, List.set_cons_succ]
    go_big_quiet_want
    refine q_val (.agg #[.int .i64 f, .int .i64 k, .int .i64 o, .slice s.a s.n s.c]) (fun w' hw' => by have r0 : w'.cell? ⟨gm, 0, none⟩ = some (.int .i64 f) := (M5.out.later hw').cell 0; have r1 : w'.cell? ⟨gm, 1, none⟩ = some (.int .i64 k) := (M5.out.later hw').cell 1; have r2 : w'.cell? ⟨gm, 2, none⟩ = some (.int .i64 o) := (M5.out.later hw').cell 2; have r3 : w'.cell? ⟨gm, 3, none⟩ = some (.slice s.a s.n s.c) := (M5.out.later hw').cell 3; go_simp) ?_
    go_big_quiet_on
    simp only [Act.put, List.setIfInBounds_toArray, List.set_cons_zero, List.set_cons_succ]
    go_big_quiet_want
    refine q_callB (W := w5) (.bool true) 11 #[(.agg #[.int .i64 f, .int .i64 k, .int .i64 o, .slice s.a s.n s.c])] (fun w' hw' => by go_simp) (fun w' hw' => (bundleOk_r f k o s ts w' (show Hid (RIt w' s ts) from (V5.out.below hw').rit) (by omega)).mono fun e w1 ⟨he, hb⟩ => ⟨by rw [he, HKB.out], hb⟩) ?_
    go_big_quiet_on
    simp only [Act.put, List.setIfInBounds_toArray, List.set_cons_zero, List.set_cons_succ]
    go_big_quiet_want
    refine q_val (.agg #[.int .i64 f, .int .i64 k, .int .i64 o, .slice s.a s.n s.c]) (fun w' hw' => by have r0 : w'.cell? ⟨gm, 0, none⟩ = some (.int .i64 f) := (M5.out.later hw').cell 0; have r1 : w'.cell? ⟨gm, 1, none⟩ = some (.int .i64 k) := (M5.out.later hw').cell 1; have r2 : w'.cell? ⟨gm, 2, none⟩ = some (.int .i64 o) := (M5.out.later hw').cell 2; have r3 : w'.cell? ⟨gm, 3, none⟩ = some (.slice s.a s.n s.c) := (M5.out.later hw').cell 3; go_simp) ?_
    go_big_quiet_on
    simp only [Act.put, List.setIfInBounds_toArray, List.set_cons_zero, List.set_cons_succ]
    go_big_quiet_want
    refine q_callB (W := w5) (.bool true) 12 #[(.agg #[.int .i64 f, .int .i64 k, .int .i64 o, .slice s.a s.n s.c])] (fun w' hw' => by go_simp) (fun w' hw' => (spBundleOk_r f k o s ts w' (show Hid (RIt w' s ts) from (V5.out.below hw').rit) (by omega)).mono fun e w1 ⟨he, hb⟩ => ⟨by rw [he, HKB.out], hb⟩) ?_
    go_big_quiet_on
    simp only [Act.put, List.setIfInBounds_toArray, List.set_cons_zero, List.set_cons_succ]
    go_big_quiet_want
    refine q_val (.bool false) (fun w' hw' => by go_simp) ?_
    go_big_quiet_on
    simp only [Act.put, List.setIfInBounds_toArray, List.set_cons_zero, List.set_cons_succ]
    go_big_quiet_want
    refine q_val (.bool false) (fun w' hw' => by go_simp) ?_
    go_big_quiet_on
    simp only [Act.put, List.setIfInBounds_toArray, List.set_cons_zero, List.set_cons_succ]
    go_big_quiet_want
    refine q_val (.bool false) (fun w' hw' => by go_simp) ?_
    go_big_quiet_on
    simp only [Act.put, List.setIfInBounds_toArray, List.set_cons_zero, List.set_cons_succ]
    go_big_quiet_want
    refine q_val (.bool true) (fun w' hw' => by go_simp) ?_
    go_big_quiet_on
    simp only [Act.put, List.setIfInBounds_toArray, List.set_cons_zero, List.set_cons_succ]
    go_big_quiet_want
    refine q_val (.bool true) (fun w' hw' => by go_simp) ?_
    go_big_quiet_on
    simp only [Act.put, List.setIfInBounds_toArray, List.set_cons_zero, List.set_cons_succ]
    go_big_quiet_want
    refine q_val (.bool true) (fun w' hw' => by go_simp) ?_
    go_big_quiet_on
    simp only [Act.put, List.setIfInBounds_toArray, List.set_cons_zero, List.set_cons_succ]
    go_big_quiet_want
    refine q_val (.bool false) (fun w' hw' => by go_simp) ?_
    go_big_quiet_on
    simp only [Act.put, List.setIfInBounds_toArray, List.set_cons_zero, List.set_cons_succ]
    go_big_quiet_want
    refine q_val (.bool false) (fun w' hw' => by go_simp) ?_
    go_big_quiet_on
    simp only [Act.put, List.setIfInBounds_toArray, List.set_cons_zero, List.set_cons_succ]
    go_big_quiet_want
    refine q_val (.pointer (some ⟨gx, 0, none⟩)) (fun w' hw' => by go_simp) ?_
    go_big_quiet_on
    simp only [Act.put, List.setIfInBounds_toArray, List.set_cons_zero, List.set_cons_succ]
    go_big_quiet_want
    refine q_val (.int .i64 f) (fun w' hw' => by have r0 : w'.cell? ⟨gx, 0, none⟩ = some (.int .i64 f) := (X5.out.later hw').cell 0; go_simp) ?_
    go_big_quiet_on
    simp only [Act.put, List.setIfInBounds_toArray, List.set_cons_zero, List.set_cons_succ]
    go_big_quiet_want
    refine q_val (.pointer (some ⟨gm, 0, none⟩)) (fun w' hw' => by go_simp) ?_
    go_big_quiet_on
    simp only [Act.put, List.setIfInBounds_toArray, List.set_cons_zero, List.set_cons_succ]
    go_big_quiet_want
    refine q_val (.int .i64 f) (fun w' hw' => by have r0 : w'.cell? ⟨gm, 0, none⟩ = some (.int .i64 f) := (M5.out.later hw').cell 0; go_simp) ?_
    go_big_quiet_on
    simp only [Act.put, List.setIfInBounds_toArray, List.set_cons_zero, List.set_cons_succ]
    go_big_quiet_want
    refine q_val (.bool false) (fun w' hw' => by go_simp) ?_
    go_big_quiet_on
    simp only [Act.put, List.setIfInBounds_toArray, List.set_cons_zero, List.set_cons_succ]
    go_big_quiet_want
    refine q_val (.bool false) (fun w' hw' => by go_simp) ?_
    go_big_quiet_on
    simp only [Act.put, List.setIfInBounds_toArray, List.set_cons_zero, List.set_cons_succ]
    go_big_quiet_want
    refine q_val (.bool false) (fun w' hw' => by go_simp) ?_
    go_big_quiet_on
    simp only [Act.put, List.setIfInBounds_toArray, List.set_cons_zero, List.set_cons_succ]
    go_big_quiet_want
    refine q_val (.pointer (some ⟨gx, 1, none⟩)) (fun w' hw' => by go_simp) ?_
    go_big_quiet_on
    simp only [Act.put, List.setIfInBounds_toArray, List.set_cons_zero, List.set_cons_succ]
    go_big_quiet_want
    refine q_val (.int .i64 k) (fun w' hw' => by have r1 : w'.cell? ⟨gx, 1, none⟩ = some (.int .i64 k) := (X5.out.later hw').cell 1; go_simp) ?_
    go_big_quiet_on
    simp only [Act.put, List.setIfInBounds_toArray, List.set_cons_zero, List.set_cons_succ]
    go_big_quiet_want
    refine q_val (.pointer (some ⟨gm, 1, none⟩)) (fun w' hw' => by go_simp) ?_
    go_big_quiet_on
    simp only [Act.put, List.setIfInBounds_toArray, List.set_cons_zero, List.set_cons_succ]
    go_big_quiet_want
    refine q_val (.int .i64 k) (fun w' hw' => by have r1 : w'.cell? ⟨gm, 1, none⟩ = some (.int .i64 k) := (M5.out.later hw').cell 1; go_simp) ?_
    go_big_quiet_on
    simp only [Act.put, List.setIfInBounds_toArray, List.set_cons_zero, List.set_cons_succ]
    go_big_quiet_want
    refine q_val (.bool false) (fun w' hw' => by go_simp) ?_
    go_big_quiet_on
    simp only [Act.put, List.setIfInBounds_toArray, List.set_cons_zero, List.set_cons_succ]
    go_big_quiet_want
    refine q_val (.bool false) (fun w' hw' => by go_simp) ?_
    go_big_quiet_on
    simp only [Act.put, List.setIfInBounds_toArray, List.set_cons_zero, List.set_cons_succ]
    go_big_quiet_want
    refine q_val (.bool false) (fun w' hw' => by go_simp) ?_
    go_big_quiet_on
    simp only [Act.put, List.setIfInBounds_toArray, List.set_cons_zero, List.set_cons_succ]
    go_big_quiet_want
    refine q_val (.pointer (some ⟨gx, 2, none⟩)) (fun w' hw' => by go_simp) ?_
    go_big_quiet_on
    simp only [Act.put, List.setIfInBounds_toArray, List.set_cons_zero, List.set_cons_succ]
    go_big_quiet_want
    refine q_val (.int .i64 o) (fun w' hw' => by have r2 : w'.cell? ⟨gx, 2, none⟩ = some (.int .i64 o) := (X5.out.later hw').cell 2; go_simp) ?_
    go_big_quiet_on
    simp only [Act.put, List.setIfInBounds_toArray, List.set_cons_zero, List.set_cons_succ]
    go_big_quiet_want
    refine q_val (.pointer (some ⟨gm, 2, none⟩)) (fun w' hw' => by go_simp) ?_
    go_big_quiet_on
    simp only [Act.put, List.setIfInBounds_toArray, List.set_cons_zero, List.set_cons_succ]
    go_big_quiet_want
    refine q_val (.int .i64 o) (fun w' hw' => by have r2 : w'.cell? ⟨gm, 2, none⟩ = some (.int .i64 o) := (M5.out.later hw').cell 2; go_simp) ?_
    go_big_quiet_on
    simp only [Act.put, List.setIfInBounds_toArray, List.set_cons_zero, List.set_cons_succ]
    go_big_quiet_want
    refine q_val (.bool false) (fun w' hw' => by go_simp) ?_
    go_big_quiet_on
    simp only [Act.put, List.setIfInBounds_toArray, List.set_cons_zero, List.set_cons_succ]
    go_big_quiet_want
    refine q_val (.bool false) (fun w' hw' => by go_simp) ?_
    go_big_quiet_on
    simp only [Act.put, List.setIfInBounds_toArray, List.set_cons_zero, List.set_cons_succ]
    go_big_quiet_want
    refine q_val (.bool false) (fun w' hw' => by go_simp) ?_
    go_big_quiet_on
    simp only [Act.put, List.setIfInBounds_toArray, List.set_cons_zero, List.set_cons_succ]
    go_big_quiet_want
    refine q_val (.pointer (some ⟨gx, 3, none⟩)) (fun w' hw' => by go_simp) ?_
    go_big_quiet_on
    simp only [Act.put, List.setIfInBounds_toArray, List.set_cons_zero, List.set_cons_succ]
    go_big_quiet_want
    refine q_val (.slice u.a u.n u.c) (fun w' hw' => by have r3 : w'.cell? ⟨gx, 3, none⟩ = some (.slice u.a u.n u.c) := (X5.out.later hw').cell 3; go_simp) ?_
    go_big_quiet_on
    simp only [Act.put, List.setIfInBounds_toArray, List.set_cons_zero, List.set_cons_succ]
    go_big_quiet_want
    refine q_val (.pointer (some ⟨gm, 3, none⟩)) (fun w' hw' => by go_simp) ?_
    go_big_quiet_on
    simp only [Act.put, List.setIfInBounds_toArray, List.set_cons_zero, List.set_cons_succ]
    go_big_quiet_want
    refine q_val (.slice s.a s.n s.c) (fun w' hw' => by have r3 : w'.cell? ⟨gm, 3, none⟩ = some (.slice s.a s.n s.c) := (M5.out.later hw').cell 3; go_simp) ?_
    go_big_quiet_on
    simp only [Act.put, List.setIfInBounds_toArray, List.set_cons_zero, List.set_cons_succ]
    go_big_quiet_want
    refine q_callB (W := w5) (.bool true) 13 #[(.slice u.a u.n u.c), (.slice s.a s.n s.c)] (fun w' hw' => by go_simp) (fun w' hw' => same_same (.slice u.a u.n u.c) (.slice s.a s.n s.c) ts _ _ w' (U5.out.below hw') (V5.out.below hw') (by omega)) ?_
    go_big_quiet_on
    simp only [Act.put, List.setIfInBounds_toArray, List.set_cons_zero, List.set_cons_succ]
    go_big_quiet_want
    refine q_val (.bool false) (fun w' hw' => by go_simp) ?_
    go_big_quiet_on
    simp only [Act.put, List.setIfInBounds_toArray, List.set_cons_zero, List.set_cons_succ]
    go_big_quiet_want
    refine q_val (.bool false) (fun w' hw' => by go_simp) ?_
    go_big_quiet_on
    simp only [Act.put, List.setIfInBounds_toArray, List.set_cons_zero, List.set_cons_succ]
    go_big_quiet_want
    refine q_val (.bool false) (fun w' hw' => by go_simp) ?_
    go_big_quiet_on
    simp only [Act.put, List.setIfInBounds_toArray, List.set_cons_zero, List.set_cons_succ]
    go_big_quiet_want
    refine q_val (.bool false) (fun w' hw' => by go_simp) ?_
    go_big_quiet_on
    simp only [Act.put, List.setIfInBounds_toArray, List.set_cons_zero, List.set_cons_succ]
    refine wpQuiet_nil ?_
    intro w6 hcw
    have B6 : Hid (Below w1.heap.size w1 w6) := B5.out.trans (hcw.mono B5.out.size)
    clear hcw B5
    go_wp2_with fail
    have K6 : Hid (CodeAt w6 w6.heap.size ao n) := code_up (hk.out.stays B6.out (Nat.le_refl _)) B6.out.size
    refine (drawRB_any w6 n cap ao hn K6).mono ?_
    rintro e w8 ⟨⟨t, ht, rfl⟩, hb8⟩
    have B8 : Hid (Below w1.heap.size w1 w8) := B6.out.trans (hb8.mono B6.out.size)
    have Tb8 : Hid (Tab w8) := htab.out.below B8.out
    clear hb8 K6 B6
    go_wp2_with fail
    refine (readBundle_any t _ (by omega) Tb8).mono ?_
    rintro e w9 ⟨fy, ny, oy, tsy, ky, uy, rfl, ha9, hv9, hb9⟩
    have A9 : Hid (AnsB t fy ny oy tsy ky) := ha9
    have ba : Below w9.heap.size w9 (w9.alloc (.cells #[.int .i64 (fy : Int), .int .i64 (ny : Int), .int .i64 (oy : Int), .slice uy.a uy.n uy.c] 26)) := (Below.refl _ _).alloc (Nat.le_refl _) _
    have Y9 : Hid (Bx (w9.alloc (.cells #[.int .i64 (fy : Int), .int .i64 (ny : Int), .int .i64 (oy : Int), .slice uy.a uy.n uy.c] 26)) w9.heap.size 26 [.int .i64 (fy : Int), .int .i64 (ny : Int), .int .i64 (oy : Int), .slice uy.a uy.n uy.c]) := Bx.new w9 26 _
    have O9 : Hid (SlI (w9.alloc (.cells #[.int .i64 (fy : Int), .int .i64 (ny : Int), .int .i64 (oy : Int), .slice uy.a uy.n uy.c] 26)) w8.heap.size uy.v tsy) := hv9.below ba
    have B9 : Hid (Below w1.heap.size w1 (w9.alloc (.cells #[.int .i64 (fy : Int), .int .i64 (ny : Int), .int .i64 (oy : Int), .slice uy.a uy.n uy.c] 26))) := B8.out.trans ((bl_nxt hb9 ba).mono B8.out.size)
    clear ba hb9 ha9 hv9 B8 Tb8
    go_wp2_with fail
    generalize (w9.alloc (.cells #[.int .i64 (fy : Int), .int .i64 (ny : Int), .int .i64 (oy : Int), .slice uy.a uy.n uy.c] 26)) = W9 at *
    generalize w9.heap.size = gy at *
    refine (spReadBundle_any t _ (by omega)).mono ?_
    rintro e w10 ⟨fs, ns, os, tss, ks, us, rfl, ha10, hv10, hb10⟩
    obtain ⟨rfl, rfl, rfl, rfl, rfl⟩ := A9.out.same ha10
    have ba : Below w10.heap.size w10 (w10.alloc (.cells #[.int .i64 (fy : Int), .int .i64 (ny : Int), .int .i64 (oy : Int), .slice us.a us.n us.c] 26)) := (Below.refl _ _).alloc (Nat.le_refl _) _
    have E10 : Below W9.heap.size W9 (w10.alloc (.cells #[.int .i64 (fy : Int), .int .i64 (ny : Int), .int .i64 (oy : Int), .slice us.a us.n us.c] 26)) := bl_nxt hb10 ba
    have Y10 : Hid (Bx (w10.alloc (.cells #[.int .i64 (fy : Int), .int .i64 (ny : Int), .int .i64 (oy : Int), .slice us.a us.n us.c] 26)) gy 26 [.int .i64 (fy : Int), .int .i64 (ny : Int), .int .i64 (oy : Int), .slice uy.a uy.n uy.c]) := Y9.out.later E10
    have O10 : Hid (SlI (w10.alloc (.cells #[.int .i64 (fy : Int), .int .i64 (ny : Int), .int .i64 (oy : Int), .slice us.a us.n us.c] 26)) w8.heap.size uy.v tsy) := O9.out.below E10
    have B10 : Hid (Below w1.heap.size w1 (w10.alloc (.cells #[.int .i64 (fy : Int), .int .i64 (ny : Int), .int .i64 (oy : Int), .slice us.a us.n us.c] 26))) := B9.out.trans (E10.mono B9.out.size)
    have y0 := Y10.out.cell 0
    have y1 := Y10.out.cell 1
    have y2 := Y10.out.cell 2
    have y3 := Y10.out.cell 3
    simp only [List.getElem?_cons_succ, List.getElem?_cons_zero] at y0 y1 y2 y3
    clear ba hb10 ha10 hv10 E10 Y9 O9 B9
    go_wp2_with fail
    generalize (w10.alloc (.cells #[.int .i64 (fy : Int), .int .i64 (ny : Int), .int .i64 (oy : Int), .slice us.a us.n us.c] 26)) = W10 at *
    obtain ⟨T9, k9, hT9, himpl9⟩ := againB_two A9.out
    have HI9 : Hid _ := himpl9
    have HT9 : Hid (ky = true → T9 = t) := hT9
    have X10 : Hid (RIt W10 uy tsy) := O10.out.rit
    have Tb10 : Hid (Tab W10) := htab.out.below B10.out
    clear himpl9 hT9 A9
    refine (HI9.out _ uy X10 Tb10).mono ?_
    rintro e w11 ⟨rfl, hb11⟩
    have B11 : Hid (Below w1.heap.size w1 w11) := B10.out.trans (hb11.mono B10.out.size)
    clear hb11 Y10 O10 B10 HI9 X10 Tb10 y0 y1 y2 y3
    cases ky with
    | true =>
      obtain rfl := HT9.out rfl
      go_wp2_with fail
      go_ret
      exact ⟨rfl, B11.out⟩
    | false =>
      go_wp2_with fail
      go_ret
      exact ⟨rfl, B11.out⟩
  | false =>
    clear A4 HC
    go_wp2_with fail
    refine quietC (C := fun w' => Below w5.heap.size w5 w') (by kernel_rfl) (by kernel_rfl) (Below.refl _ _).drew ?_
    go_big_quiet_want
    refine q_val (.bool false) (fun w' hw' => by go_simp) ?_
    go_big_quiet_on
    simp only [Act.put, List.setIfInBounds_toArray, List.set_cons_zero, List.set_cons_succ]
    go_big_quiet_want
    refine q_val (.bool false) (fun w' hw' => by go_simp) ?_
    go_big_quiet_on
    simp only [Act.put, List.setIfInBounds_toArray, List.set_cons_zero, List.set_cons_succ]
    go_big_quiet_want
    refine q_val (.bool false) (fun w' hw' => by go_simp) ?_
    go_big_quiet_on
    simp only [Act.put, List.setIfInBounds_toArray, List.set_cons_zero, List.set_cons_succ]
    go_big_quiet_want
    refine q_val (.bool false) (fun w' hw' => by go_simp) ?_
    go_big_quiet_on
    simp only [Act.put, List.setIfInBounds_toArray, List.set_cons_zero, List.set_cons_succ]
    go_big_quiet_want
    refine q_val (.agg #[.int .i64 f, .int .i64 k, .int .i64 o, .slice s.a s.n s.c]) (fun w' hw' => by have r0 : w'.cell? ⟨gm, 0, none⟩ = some (.int .i64 f) := (M5.out.later hw').cell 0; have r1 : w'.cell? ⟨gm, 1, none⟩ = some (.int .i64 k) := (M5.out.later hw').cell 1; have r2 : w'.cell? ⟨gm, 2, none⟩ = some (.int .i64 o) := (M5.out.later hw').cell 2; have r3 : w'.cell? ⟨gm, 3, none⟩ = some (.slice s.a s.n s.c) := (M5.out.later hw').cell 3; go_simp) ?_
    go_big_quiet_on
    simp only [Act.put, List.setIfInBounds_toArray, List.set_cons_zero, List.set_cons_succ]
    go_big_quiet_want
    refine q_callB (W := w5) (.bool false) 11 #[(.agg #[.int .i64 f, .int .i64 k, .int .i64 o, .slice s.a s.n s.c])] (fun w' hw' => by go_simp) (fun w' hw' => (bundleOk_r f k o s ts w' (show Hid (RIt w' s ts) from (V5.out.below hw').rit) (by omega)).mono fun e w1 ⟨he, hb⟩ => ⟨by rw [he, HKB.out], hb⟩) ?_
    go_big_quiet_on
    simp only [Act.put, List.setIfInBounds_toArray, List.set_cons_zero, List.set_cons_succ]
    go_big_quiet_want
    refine q_val (.agg #[.int .i64 f, .int .i64 k, .int .i64 o, .slice s.a s.n s.c]) (fun w' hw' => by have r0 : w'.cell? ⟨gm, 0, none⟩ = some (.int .i64 f) := (M5.out.later hw').cell 0; have r1 : w'.cell? ⟨gm, 1, none⟩ = some (.int .i64 k) := (M5.out.later hw').cell 1; have r2 : w'.cell? ⟨gm, 2, none⟩ = some (.int .i64 o) := (M5.out.later hw').cell 2; have r3 : w'.cell? ⟨gm, 3, none⟩ = some (.slice s.a s.n s.c) := (M5.out.later hw').cell 3; go_simp) ?_
    go_big_quiet_on
    simp only [Act.put, List.setIfInBounds_toArray, List.set_cons_zero, List.set_cons_succ]
    go_big_quiet_want
    refine q_callB (W := w5) (.bool false) 12 #[(.agg #[.int .i64 f, .int .i64 k, .int .i64 o, .slice s.a s.n s.c])] (fun w' hw' => by go_simp) (fun w' hw' => (spBundleOk_r f k o s ts w' (show Hid (RIt w' s ts) from (V5.out.below hw').rit) (by omega)).mono fun e w1 ⟨he, hb⟩ => ⟨by rw [he, HKB.out], hb⟩) ?_
    go_big_quiet_on
    simp only [Act.put, List.setIfInBounds_toArray, List.set_cons_zero, List.set_cons_succ]
    go_big_quiet_want
    refine q_val (.bool false) (fun w' hw' => by go_simp) ?_
    go_big_quiet_on
    simp only [Act.put, List.setIfInBounds_toArray, List.set_cons_zero, List.set_cons_succ]
    go_big_quiet_want
    refine q_val (.bool false) (fun w' hw' => by go_simp) ?_
    go_big_quiet_on
    simp only [Act.put, List.setIfInBounds_toArray, List.set_cons_zero, List.set_cons_succ]
    go_big_quiet_want
    refine q_val (.bool false) (fun w' hw' => by go_simp) ?_
    go_big_quiet_on
    simp only [Act.put, List.setIfInBounds_toArray, List.set_cons_zero, List.set_cons_succ]
    go_big_quiet_want
    refine q_val (.bool false) (fun w' hw' => by go_simp) ?_
    go_big_quiet_on
    simp only [Act.put, List.setIfInBounds_toArray, List.set_cons_zero, List.set_cons_succ]
    go_big_quiet_want
    refine q_val (.bool false) (fun w' hw' => by go_simp) ?_
    go_big_quiet_on
    simp only [Act.put, List.setIfInBounds_toArray, List.set_cons_zero, List.set_cons_succ]
    go_big_quiet_skip
    go_big_quiet_skip
    go_big_quiet_skip
    go_big_quiet_skip
    go_big_quiet_skip
    go_big_quiet_skip
    go_big_quiet_skip
    go_big_quiet_skip
    go_big_quiet_skip
    go_big_quiet_skip
    go_big_quiet_skip
    go_big_quiet_skip
    go_big_quiet_skip
    go_big_quiet_skip
    go_big_quiet_skip
    go_big_quiet_skip
    go_big_quiet_skip
    go_big_quiet_skip
    go_big_quiet_skip
    go_big_quiet_skip
    go_big_quiet_skip
    go_big_quiet_skip
    go_big_quiet_skip
    go_big_quiet_skip
    go_big_quiet_skip
    go_big_quiet_skip
    go_big_quiet_skip
    go_big_quiet_skip
    go_big_quiet_skip
    go_big_quiet_skip
    go_big_quiet_skip
    go_big_quiet_want
    refine q_val (.bool false) (fun w' hw' => by go_simp) ?_
    go_big_quiet_on
    simp only [Act.put, List.setIfInBounds_toArray, List.set_cons_zero, List.set_cons_succ]
    go_big_quiet_want
    refine q_val (.bool false) (fun w' hw' => by go_simp) ?_
    go_big_quiet_on
    simp only [Act.put, List.setIfInBounds_toArray, List.set_cons_zero, List.set_cons_succ]
    refine wpQuiet_nil ?_
    intro w6 hcw
    have B6 : Hid (Below w1.heap.size w1 w6) := B5.out.trans (hcw.mono B5.out.size)
    clear hcw B5
    go_wp2_with fail
    have K6 : Hid (CodeAt w6 w6.heap.size ao n) := code_up (hk.out.stays B6.out (Nat.le_refl _)) B6.out.size
    refine (drawRB_any w6 n cap ao hn K6).mono ?_
    rintro e w8 ⟨⟨t, ht, rfl⟩, hb8⟩
    have B8 : Hid (Below w1.heap.size w1 w8) := B6.out.trans (hb8.mono B6.out.size)
    have Tb8 : Hid (Tab w8) := htab.out.below B8.out
    clear hb8 K6 B6
    go_wp2_with fail
    refine (readBundle_any t _ (by omega) Tb8).mono ?_
    rintro e w9 ⟨fy, ny, oy, tsy, ky, uy, rfl, ha9, hv9, hb9⟩
    have A9 : Hid (AnsB t fy ny oy tsy ky) := ha9
    have ba : Below w9.heap.size w9 (w9.alloc (.cells #[.int .i64 (fy : Int), .int .i64 (ny : Int), .int .i64 (oy : Int), .slice uy.a uy.n uy.c] 26)) := (Below.refl _ _).alloc (Nat.le_refl _) _
    have Y9 : Hid (Bx (w9.alloc (.cells #[.int .i64 (fy : Int), .int .i64 (ny : Int), .int .i64 (oy : Int), .slice uy.a uy.n uy.c] 26)) w9.heap.size 26 [.int .i64 (fy : Int), .int .i64 (ny : Int), .int .i64 (oy : Int), .slice uy.a uy.n uy.c]) := Bx.new w9 26 _
    have O9 : Hid (SlI (w9.alloc (.cells #[.int .i64 (fy : Int), .int .i64 (ny : Int), .int .i64 (oy : Int), .slice uy.a uy.n uy.c] 26)) w8.heap.size uy.v tsy) := hv9.below ba
    have B9 : Hid (Below w1.heap.size w1 (w9.alloc (.cells #[.int .i64 (fy : Int), .int .i64 (ny : Int), .int .i64 (oy : Int), .slice uy.a uy.n uy.c] 26))) := B8.out.trans ((bl_nxt hb9 ba).mono B8.out.size)
    clear ba hb9 ha9 hv9 B8 Tb8
    go_wp2_with fail
    generalize (w9.alloc (.cells #[.int .i64 (fy : Int), .int .i64 (ny : Int), .int .i64 (oy : Int), .slice uy.a uy.n uy.c] 26)) = W9 at *
    generalize w9.heap.size = gy at *
    refine (spReadBundle_any t _ (by omega)).mono ?_
    rintro e w10 ⟨fs, ns, os, tss, ks, us, rfl, ha10, hv10, hb10⟩
    obtain ⟨rfl, rfl, rfl, rfl, rfl⟩ := A9.out.same ha10
    have ba : Below w10.heap.size w10 (w10.alloc (.cells #[.int .i64 (fy : Int), .int .i64 (ny : Int), .int .i64 (oy : Int), .slice us.a us.n us.c] 26)) := (Below.refl _ _).alloc (Nat.le_refl _) _
    have E10 : Below W9.heap.size W9 (w10.alloc (.cells #[.int .i64 (fy : Int), .int .i64 (ny : Int), .int .i64 (oy : Int), .slice us.a us.n us.c] 26)) := bl_nxt hb10 ba
    have Y10 : Hid (Bx (w10.alloc (.cells #[.int .i64 (fy : Int), .int .i64 (ny : Int), .int .i64 (oy : Int), .slice us.a us.n us.c] 26)) gy 26 [.int .i64 (fy : Int), .int .i64 (ny : Int), .int .i64 (oy : Int), .slice uy.a uy.n uy.c]) := Y9.out.later E10
    have O10 : Hid (SlI (w10.alloc (.cells #[.int .i64 (fy : Int), .int .i64 (ny : Int), .int .i64 (oy : Int), .slice us.a us.n us.c] 26)) w8.heap.size uy.v tsy) := O9.out.below E10
    have B10 : Hid (Below w1.heap.size w1 (w10.alloc (.cells #[.int .i64 (fy : Int), .int .i64 (ny : Int), .int .i64 (oy : Int), .slice us.a us.n us.c] 26))) := B9.out.trans (E10.mono B9.out.size)
    have y0 := Y10.out.cell 0
    have y1 := Y10.out.cell 1
    have y2 := Y10.out.cell 2
    have y3 := Y10.out.cell 3
    simp only [List.getElem?_cons_succ, List.getElem?_cons_zero] at y0 y1 y2 y3
    clear ba hb10 ha10 hv10 E10 Y9 O9 B9
    go_wp2_with fail
    generalize (w10.alloc (.cells #[.int .i64 (fy : Int), .int .i64 (ny : Int), .int .i64 (oy : Int), .slice us.a us.n us.c] 26)) = W10 at *
    obtain ⟨T9, k9, hT9, himpl9⟩ := againB_two A9.out
    have HI9 : Hid _ := himpl9
    have HT9 : Hid (ky = true → T9 = t) := hT9
    have X10 : Hid (RIt W10 uy tsy) := O10.out.rit
    have Tb10 : Hid (Tab W10) := htab.out.below B10.out
    clear himpl9 hT9 A9
    refine (HI9.out _ uy X10 Tb10).mono ?_
    rintro e w11 ⟨rfl, hb11⟩
    have B11 : Hid (Below w1.heap.size w1 w11) := B10.out.trans (hb11.mono B10.out.size)
    clear hb11 Y10 O10 B10 HI9 X10 Tb10 y0 y1 y2 y3
    cases ky with
    | true =>
      obtain rfl := HT9.out rfl
      go_wp2_with fail
      go_ret
      exact ⟨rfl, B11.out⟩
    | false =>
      go_wp2_with fail
      go_ret
      exact ⟨rfl, B11.out⟩
end Go.Proofs.YtlflcjdpdbdbkaaDoor

