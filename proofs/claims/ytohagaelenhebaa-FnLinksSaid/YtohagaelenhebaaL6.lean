/- The walk over the law on Talk. -/
import Derived.Test.YtohagaelenhebaaK9
import Derived.Test.YtohagaelenhebaaK7
import Derived.Test.YtohagaelenhebaaC4
import Derived.Test.YtohagaelenhebaaBx
namespace Go.Proofs.Ytohagaelenhebaa
open Go.RowKit Pl
set_option linter.unusedVariables false

/-- a list of texts, and where it lies. -/
structure SlX (w : World) (lo hi : Nat) (v : Value) (ss : List ByteArray) : Prop where
  own : SlT w lo v ss
  at' : ∀ k, v.ownBlock = some k → lo ≤ k ∧ k < hi
  le : hi ≤ w.heap.size
theorem SlX.new {w w' : World} {v : Value} {ss : List ByteArray} (h : SlT w' w.heap.size v ss) : SlX w' w.heap.size w'.heap.size v ss := ⟨h, fun k hk => Sl.lt h k hk, Nat.le_refl _⟩
theorem SlX.below {w w' : World} {lo hi : Nat} {v : Value} {ss : List ByteArray} (h : SlX w lo hi v ss) (hb : Below w.heap.size w w') : SlX w' lo hi v ss := ⟨Sl.below h.own hb, h.at', Nat.le_trans h.le hb.size⟩
theorem SlX.gr {w w' : World} {lo hi l h' : Nat} {v : Value} {ss : List ByteArray} (h : SlX w lo hi v ss) (hg : GrI l h' w w') (ho : hi ≤ l ∨ h' ≤ lo) : SlX w' lo hi v ss :=
  ⟨Sl.gr h.own hg (fun k hk hs => by have := h.at' k hk; omega), h.at', Nat.le_trans h.le hg.size⟩
/-- a list of ints, and where it lies. -/
structure InX (w : World) (lo hi : Nat) (v : Value) (zs : List Int) : Prop where
  own : Sl w 3 1 lo v zs.length (zs.map (Value.int .i64))
  row : OwnI w lo v zs
  at' : ∀ k, v.ownBlock = some k → lo ≤ k ∧ k < hi
  le : hi ≤ w.heap.size
theorem InX.new {w w' : World} {v : Value} {zs : List Int} (h : OwnI w' w.heap.size v zs) : InX w' w.heap.size w'.heap.size v zs := ⟨Sl.ofOwn h, h, fun k hk => h.lt k hk, Nat.le_refl _⟩
theorem InX.below {w w' : World} {lo hi : Nat} {v : Value} {zs : List Int} (h : InX w lo hi v zs) (hb : Below w.heap.size w w') : InX w' lo hi v zs := ⟨Sl.below h.own hb, h.row.stays hb (fun k hk => (h.row.lt k hk).2), h.at', Nat.le_trans h.le hb.size⟩
theorem own_gr {S : Nat → Prop} {w w' : World} {B : Nat} {v : Value} {zs : List Int} (h : OwnI w B v zs) (hg : Gr S w w') (hn : ∀ k, v.ownBlock = some k → ¬ S k) : OwnI w' B v zs := by
  refine ⟨h.1, ?_⟩
  have hlt := h.lt
  rcases h.2 with hz | ⟨g, cap, cur, rfl, hbg, hgc, rest⟩
  · exact .inl hz
  · exact .inr ⟨g, cap, cur, rfl, hbg, (hg.block g (hlt g rfl).2 (hn g rfl)).trans hgc, rest⟩
theorem InX.gr {w w' : World} {lo hi l h' : Nat} {v : Value} {zs : List Int} (h : InX w lo hi v zs) (hg : GrI l h' w w') (ho : hi ≤ l ∨ h' ≤ lo) : InX w' lo hi v zs := by
  refine ⟨Sl.gr h.own hg (fun k hk hs => by have := h.at' k hk; omega), ?_, h.at', Nat.le_trans h.le hg.size⟩
  exact own_gr h.row hg (fun k hk hs => by have := h.at' k hk; omega)

theorem talkO_len (ts : List ByteArray) (ps : List Int) : (talkO ts ps).length ≤ 1000 := by
  unfold talkO
  split
  · rename_i h
    obtain ⟨t1, t2, t3, t4⟩ := talkB_true h
    have i1 := (run_inv (show ts.length ≤ 30 by omega) t3 (natsOf ps)).1
    have a1 := i1.b.ok.o0
    have a2 := i1.b.ok.g1
    omega
  · simp
theorem toSX (w : World) (ao : Option Addr) (ac : Nat) (ts : List ByteArray) (hx : Hid (TextsAt w ao ts)) (hl : ts.length ≤ 1048576) :
    Calls Try.prog 39 #[.slice ao ts.length ac] w fun e w' => ∃ v, e = .returned v ∧ SlX w' w.heap.size w'.heap.size v ts ∧ Below w.heap.size w w' :=
  (to_any w ao ac ts hx hl).mono fun r w' ⟨v, h1, h2, h3⟩ => ⟨v, h1, SlX.new (Sl.ofOwn h2), h3⟩
theorem toIX (w : World) (ao : Option Addr) (ac : Nat) (ts : List Int) (hx : Hid (IntsAt w ao ts)) (hl : ts.length ≤ 1048576) :
    Calls Try.prog 40 #[.slice ao ts.length ac] w fun e w' => ∃ v, e = .returned v ∧ InX w' w.heap.size w'.heap.size v ts ∧ Below w.heap.size w w' :=
  (toI_any w ao ac ts hx hl).mono fun r w' ⟨v, h1, h2, h3⟩ => ⟨v, h1, InX.new h2, h3⟩
theorem spTalkX {v1 v2 : Value} {l1 h1 l2 h2 : Nat} {ts O : List ByteArray} {ps : List Int} {R : Bool} (w : World) (a1 : SlX w l1 h1 v1 ts) (a2 : InX w l2 h2 v2 ps) (hl : ts.length ≤ 1048576) (hm : ps.length ≤ 1048576) (hi64 : Hid (∀ x ∈ ps, x ≤ 9223372036854775807)) (hO : Hid (O = talkO ts ps)) (hR : Hid (R = talkR ts ps)) :
    Calls Try.prog 15 #[v1, v2] w fun r w' => ∃ u, r = .returned (.tuple #[u, .bool R]) ∧ SlX w' w.heap.size w'.heap.size u O ∧ Below w.heap.size w w' := by
  obtain ⟨ao, ac, rfl, t1⟩ := SlT.texts a1.own
  obtain ⟨io, ic, rfl, t2⟩ := a2.row.ints
  refine (spTalk_any ao io ac ic ts ps w t1 t2 hl hm hi64).mono fun r w' ⟨⟨v, k1, k2⟩, k3⟩ => ⟨v, ?_, ?_, k3⟩
  · rw [hR.out]; exact k1
  · rw [hO.out]; exact SlX.new k2
theorem talkX {v1 v2 : Value} {l1 h1 l2 h2 : Nat} {ts O : List ByteArray} {ps : List Int} {R : Bool} (w : World) (a1 : SlX w l1 h1 v1 ts) (a2 : InX w l2 h2 v2 ps) (hl : ts.length ≤ 1048576) (hm : ps.length ≤ 1048576) (hi64 : Hid (∀ x ∈ ps, x ≤ 9223372036854775807)) (hO : Hid (O = talkO ts ps)) (hR : Hid (R = talkR ts ps)) :
    Calls Try.prog 14 #[v1, v2] w fun r w' => ∃ u, r = .returned (.tuple #[u, .bool R]) ∧ SlX w' w.heap.size w'.heap.size u O ∧ Below w.heap.size w w' := by
  obtain ⟨ao, ac, rfl, t1⟩ := SlT.texts a1.own
  obtain ⟨io, ic, rfl, t2⟩ := a2.row.ints
  refine (talk_any ao io ac ic ts ps w t1 t2 hl hm (slice_cap a1.own) hi64).mono fun r w' ⟨⟨v, k1, k2⟩, k3⟩ => ⟨v, ?_, ?_, k3⟩
  · rw [hR.out]; exact k1
  · rw [hO.out]; exact SlX.new k2
theorem eqSX {v1 v2 : Value} {l1 h1 l2 h2 : Nat} {ss : List ByteArray} (w : World) (a : SlX w l1 h1 v1 ss) (b : SlX w l2 h2 v2 ss) (hl : ss.length ≤ 1048576) :
    Calls Try.prog 41 #[v1, v2] w fun e w' => e = .returned (.bool true) ∧ Below w.heap.size w w' := eqS_slt w a.own b.own (by omega)
theorem eqIX {v1 v2 : Value} {l1 h1 l2 h2 : Nat} {zs : List Int} (w : World) (a : InX w l1 h1 v1 zs) (b : InX w l2 h2 v2 zs) (hl : zs.length ≤ 1048576) :
    Calls Try.prog 42 #[v1, v2] w fun e w' => e = .returned (.bool true) ∧ Below w.heap.size w w' := eqI_same v1 v2 zs _ _ w a.row b.row hl
theorem markSX {v : Value} {ss : List ByteArray} {lo hi : Nat} (K : Nat) (w : World) (h : SlX w lo hi v ss) (hK : 0 < K) (hl : K + ss.length ≤ 1900000) :
    Calls Try.prog 43 #[v, .int .i64 K] w fun r w' => r = .returned (.int .i64 ((K + ss.length : Nat) : Int)) ∧ GrI lo hi w w' ∧ ∃ xs : List ByteArray, xs.length = ss.length ∧ Marked xs K xs.length ∧ SlX w' lo hi v xs :=
  (markS_any v ss lo K w h.own (by omega) hK).mono fun r w' ⟨h1, h2, xs, h3, h4, h5⟩ =>
    ⟨h1, Gr.ofGrown h2 (fun k hk => h.at' k hk), xs, h3, by rw [h3]; exact h4, ⟨h5, h.at', Nat.le_trans h.le h2.size⟩⟩
theorem markIX {v : Value} {zs : List Int} {lo hi : Nat} (K : Nat) (w : World) (h : InX w lo hi v zs) (hK : 0 < K) (hl : K + zs.length ≤ 4000000) :
    Calls Try.prog 44 #[v, .int .i64 K] w fun r w' => r = .returned (.int .i64 ((K + zs.length : Nat) : Int)) ∧ GrI lo hi w w' :=
  (markI_any v zs lo K w h.row hl hK).mono fun r w' ⟨h1, h2⟩ => ⟨h1, Gr.ofGrown h2 (fun k hk => h.at' k hk)⟩
theorem heldSX {v : Value} {xs : List ByteArray} {lo hi : Nat} (K : Nat) (w : World) (h : SlX w lo hi v xs) (n : Nat) (hn : xs.length = n) (hK : 0 < K) (hl : K + n ≤ 1900000) (h1 : Marked xs K xs.length) :
    Calls Try.prog 45 #[v, .int .i64 K] w fun r w' => r = .returned (.int .i64 ((K + n : Nat) : Int)) ∧ Below w.heap.size w w' := by
  subst hn
  obtain ⟨ao, cap, rfl, hx⟩ := SlT.texts h.own
  exact heldS_any ao cap xs K w hx (by omega) hK h1

set_option maxRecDepth 100000 in
set_option maxHeartbeats 8000000 in
theorem lawTalk (ao io : Option Addr) (ac ic : Nat) (ts : List ByteArray) (ps : List Int) (w : World) (hx : Hid (TextsAt w ao ts)) (hy : Hid (IntsAt w io ps)) (hlen : ts.length ≤ maxLen) (hsz : Hid (∀ t ∈ ts, t.size ≤ maxLen)) (hplm : ps.length ≤ maxLen) (hi64 : Hid (∀ x ∈ ps, x ≤ 9223372036854775807)) :
    Calls Try.prog 11 #[.slice ao ts.length ac, .slice io ps.length ic] w fun r w' => r = .returned (.bool true) ∧ Below w.heap.size w w' := by
  by_cases hpp : 1048576 < ps.length
  · have hd : decide (1048576 < (ps.length : Int)) = true := by simp; omega
    unfold maxLen at hplm
    go_enter Try.func11, Try.ntmps11
    go_wp2_with fail
    go_ret
    exact ⟨rfl, Below.refl _ _⟩
  have hpl : ps.length ≤ 1048576 := by omega
  have hdp : decide (1048576 < (ps.length : Int)) = false := by simp; omega
  clear hplm hpp
  go_enter Try.func11, Try.ntmps11
  go_wp2_with fail
  refine (sz_any w ao ac 1048576 ts hx hlen hsz (by omega)).mono ?_
  rintro r_ w0 ⟨hr | ⟨r, hr, hf⟩, rfl⟩
  · subst hr
    go_wp2_with fail
    go_ret
    exact ⟨rfl, Below.refl _ _⟩
  subst hr
  have htl : ts.length ≤ 1048576 := by have := hf.out.1; omega
  have hd : decide ((r : Int) < 0) = false := by simp
  clear hf
  have B : Hid (Below w0.heap.size w0 w0) := Below.refl _ _
  obtain ⟨O, hO⟩ : ∃ O, O = talkO ts ps := ⟨_, rfl⟩
  obtain ⟨R, hR⟩ : ∃ R, R = talkR ts ps := ⟨_, rfl⟩
  have hOl : O.length ≤ 1000 := by rw [hO]; exact talkO_len ts ps
  have HO : Hid (O = talkO ts ps) := hO
  have HR : Hid (R = talkR ts ps) := hR
  clear hO hR
  go_wp2_with fail
  clear hd
  refine (toSX w0 ao ac ts (show Hid (TextsAt _ _ _) from hx.out.stays B.out) htl).mono ?_
  rintro r_ w1 ⟨a1, rfl, n_A1, hb⟩
  have z1 : w0.heap.size ≤ w1.heap.size := hb.size
  have B_ : Hid (Below w0.heap.size w0 w1) := (B.out.trans (hb.mono B.out.size))
  clear B
  have B := B_
  clear B_
  have A1 : Hid (SlX w1 w0.heap.size w1.heap.size a1 ts) := n_A1
  clear n_A1
  clear hb
  go_wp2_with fail
  refine (toIX w1 io ic ps (show Hid (IntsAt _ _ _) from hy.out.stays B.out) hpl).mono ?_
  rintro r_ w2 ⟨a2, rfl, n_A2, hb⟩
  have z2 : w1.heap.size ≤ w2.heap.size := hb.size
  have B_ : Hid (Below w0.heap.size w0 w2) := (B.out.trans (hb.mono B.out.size))
  have A1_ : Hid (SlX w2 w0.heap.size w1.heap.size a1 ts) := (A1.out.below hb)
  clear B A1
  have B := B_
  have A1 := A1_
  clear B_ A1_
  have A2 : Hid (InX w2 w1.heap.size w2.heap.size a2 ps) := n_A2
  clear n_A2
  clear hb
  go_wp2_with fail
  refine (spTalkX w2 A1.out A2.out htl hpl hi64 HO HR).mono ?_
  rintro r_ w3 ⟨vw, rfl, n_W, hb⟩
  have z3 : w2.heap.size ≤ w3.heap.size := hb.size
  have B_ : Hid (Below w0.heap.size w0 w3) := (B.out.trans (hb.mono B.out.size))
  have A1_ : Hid (SlX w3 w0.heap.size w1.heap.size a1 ts) := (A1.out.below hb)
  have A2_ : Hid (InX w3 w1.heap.size w2.heap.size a2 ps) := (A2.out.below hb)
  clear B A1 A2
  have B := B_
  have A1 := A1_
  have A2 := A2_
  clear B_ A1_ A2_
  have W : Hid (SlX w3 w2.heap.size w3.heap.size vw O) := n_W
  clear n_W
  clear hb
  go_wp2_with fail
  clear A1 A2
  refine (toSX w3 ao ac ts (show Hid (TextsAt _ _ _) from hx.out.stays B.out) htl).mono ?_
  rintro r_ w4 ⟨x0, rfl, n_X0, hb⟩
  have z4 : w3.heap.size ≤ w4.heap.size := hb.size
  have B_ : Hid (Below w0.heap.size w0 w4) := (B.out.trans (hb.mono B.out.size))
  have W_ : Hid (SlX w4 w2.heap.size w3.heap.size vw O) := (W.out.below hb)
  clear B W
  have B := B_
  have W := W_
  clear B_ W_
  have X0 : Hid (SlX w4 w3.heap.size w4.heap.size x0 ts) := n_X0
  clear n_X0
  clear hb
  go_wp2_with fail
  refine (toIX w4 io ic ps (show Hid (IntsAt _ _ _) from hy.out.stays B.out) hpl).mono ?_
  rintro r_ w5 ⟨x1, rfl, n_X1, hb⟩
  have z5 : w4.heap.size ≤ w5.heap.size := hb.size
  have B_ : Hid (Below w0.heap.size w0 w5) := (B.out.trans (hb.mono B.out.size))
  have W_ : Hid (SlX w5 w2.heap.size w3.heap.size vw O) := (W.out.below hb)
  have X0_ : Hid (SlX w5 w3.heap.size w4.heap.size x0 ts) := (X0.out.below hb)
  clear B W X0
  have B := B_
  have W := W_
  have X0 := X0_
  clear B_ W_ X0_
  have X1 : Hid (InX w5 w4.heap.size w5.heap.size x1 ps) := n_X1
  clear n_X1
  clear hb
  go_wp2_with fail
  refine (talkX w5 X0.out X1.out htl hpl hi64 HO HR).mono ?_
  rintro r_ w6 ⟨vg, rfl, n_G, hb⟩
  have z6 : w5.heap.size ≤ w6.heap.size := hb.size
  have B_ : Hid (Below w0.heap.size w0 w6) := (B.out.trans (hb.mono B.out.size))
  have W_ : Hid (SlX w6 w2.heap.size w3.heap.size vw O) := (W.out.below hb)
  have X0_ : Hid (SlX w6 w3.heap.size w4.heap.size x0 ts) := (X0.out.below hb)
  have X1_ : Hid (InX w6 w4.heap.size w5.heap.size x1 ps) := (X1.out.below hb)
  clear B W X0 X1
  have B := B_
  have W := W_
  have X0 := X0_
  have X1 := X1_
  clear B_ W_ X0_ X1_
  have G : Hid (SlX w6 w5.heap.size w6.heap.size vg O) := n_G
  clear n_G
  clear hb
  go_wp2_with fail
  refine (eqSX w6 G.out W.out (by omega)).mono ?_
  rintro r_ w7 ⟨rfl, hb⟩
  have z7 : w6.heap.size ≤ w7.heap.size := hb.size
  have B_ : Hid (Below w0.heap.size w0 w7) := (B.out.trans (hb.mono B.out.size))
  have W_ : Hid (SlX w7 w2.heap.size w3.heap.size vw O) := (W.out.below hb)
  have X0_ : Hid (SlX w7 w3.heap.size w4.heap.size x0 ts) := (X0.out.below hb)
  have X1_ : Hid (InX w7 w4.heap.size w5.heap.size x1 ps) := (X1.out.below hb)
  have G_ : Hid (SlX w7 w5.heap.size w6.heap.size vg O) := (G.out.below hb)
  clear B W X0 X1 G
  have B := B_
  have W := W_
  have X0 := X0_
  have X1 := X1_
  have G := G_
  clear B_ W_ X0_ X1_ G_
  clear hb
  go_wp2_with fail
  refine (toSX w7 ao ac ts (show Hid (TextsAt _ _ _) from hx.out.stays B.out) htl).mono ?_
  rintro r_ w8 ⟨a3, rfl, n_A1, hb⟩
  have z8 : w7.heap.size ≤ w8.heap.size := hb.size
  have B_ : Hid (Below w0.heap.size w0 w8) := (B.out.trans (hb.mono B.out.size))
  have W_ : Hid (SlX w8 w2.heap.size w3.heap.size vw O) := (W.out.below hb)
  have X0_ : Hid (SlX w8 w3.heap.size w4.heap.size x0 ts) := (X0.out.below hb)
  have X1_ : Hid (InX w8 w4.heap.size w5.heap.size x1 ps) := (X1.out.below hb)
  have G_ : Hid (SlX w8 w5.heap.size w6.heap.size vg O) := (G.out.below hb)
  clear B W X0 X1 G
  have B := B_
  have W := W_
  have X0 := X0_
  have X1 := X1_
  have G := G_
  clear B_ W_ X0_ X1_ G_
  have A1 : Hid (SlX w8 w7.heap.size w8.heap.size a3 ts) := n_A1
  clear n_A1
  clear hb
  go_wp2_with fail
  refine (eqSX w8 X0.out A1.out (by omega)).mono ?_
  rintro r_ w9 ⟨rfl, hb⟩
  have z9 : w8.heap.size ≤ w9.heap.size := hb.size
  have B_ : Hid (Below w0.heap.size w0 w9) := (B.out.trans (hb.mono B.out.size))
  have W_ : Hid (SlX w9 w2.heap.size w3.heap.size vw O) := (W.out.below hb)
  have X0_ : Hid (SlX w9 w3.heap.size w4.heap.size x0 ts) := (X0.out.below hb)
  have X1_ : Hid (InX w9 w4.heap.size w5.heap.size x1 ps) := (X1.out.below hb)
  have G_ : Hid (SlX w9 w5.heap.size w6.heap.size vg O) := (G.out.below hb)
  have A1_ : Hid (SlX w9 w7.heap.size w8.heap.size a3 ts) := (A1.out.below hb)
  clear B W X0 X1 G A1
  have B := B_
  have W := W_
  have X0 := X0_
  have X1 := X1_
  have G := G_
  have A1 := A1_
  clear B_ W_ X0_ X1_ G_ A1_
  clear hb
  go_wp2_with fail
  clear A1
  refine (toIX w9 io ic ps (show Hid (IntsAt _ _ _) from hy.out.stays B.out) hpl).mono ?_
  rintro r_ w10 ⟨a4, rfl, n_A2, hb⟩
  have z10 : w9.heap.size ≤ w10.heap.size := hb.size
  have B_ : Hid (Below w0.heap.size w0 w10) := (B.out.trans (hb.mono B.out.size))
  have W_ : Hid (SlX w10 w2.heap.size w3.heap.size vw O) := (W.out.below hb)
  have X0_ : Hid (SlX w10 w3.heap.size w4.heap.size x0 ts) := (X0.out.below hb)
  have X1_ : Hid (InX w10 w4.heap.size w5.heap.size x1 ps) := (X1.out.below hb)
  have G_ : Hid (SlX w10 w5.heap.size w6.heap.size vg O) := (G.out.below hb)
  clear B W X0 X1 G
  have B := B_
  have W := W_
  have X0 := X0_
  have X1 := X1_
  have G := G_
  clear B_ W_ X0_ X1_ G_
  have A2 : Hid (InX w10 w9.heap.size w10.heap.size a4 ps) := n_A2
  clear n_A2
  clear hb
  go_wp2_with fail
  refine (eqIX w10 X1.out A2.out (by omega)).mono ?_
  rintro r_ w11 ⟨rfl, hb⟩
  have z11 : w10.heap.size ≤ w11.heap.size := hb.size
  have B_ : Hid (Below w0.heap.size w0 w11) := (B.out.trans (hb.mono B.out.size))
  have W_ : Hid (SlX w11 w2.heap.size w3.heap.size vw O) := (W.out.below hb)
  have X0_ : Hid (SlX w11 w3.heap.size w4.heap.size x0 ts) := (X0.out.below hb)
  have X1_ : Hid (InX w11 w4.heap.size w5.heap.size x1 ps) := (X1.out.below hb)
  have G_ : Hid (SlX w11 w5.heap.size w6.heap.size vg O) := (G.out.below hb)
  have A2_ : Hid (InX w11 w9.heap.size w10.heap.size a4 ps) := (A2.out.below hb)
  clear B W X0 X1 G A2
  have B := B_
  have W := W_
  have X0 := X0_
  have X1 := X1_
  have G := G_
  have A2 := A2_
  clear B_ W_ X0_ X1_ G_ A2_
  clear hb
  go_wp2_with fail
  clear A2
  obtain ⟨K1, hK1⟩ : ∃ K1 : Nat, K1 = 1 + ts.length := ⟨_, rfl⟩
  obtain ⟨K2, hK2⟩ : ∃ K2 : Nat, K2 = K1 + ps.length := ⟨_, rfl⟩
  obtain ⟨M, hM⟩ : ∃ M : Nat, M = 1 + O.length := ⟨_, rfl⟩
  have HK1 : Hid (K1 = 1 + ts.length) := hK1
  have HK2 : Hid (K2 = K1 + ps.length) := hK2
  have HM : Hid (M = 1 + O.length) := hM
  have bK1 : 0 < K1 ∧ K1 ≤ 1048577 := by omega
  have bM : 0 < M ∧ M ≤ 1001 := by omega
  clear hK1 hK2 hM
  refine (markSX 1 w11 X0.out (by omega) (by omega)).mono ?_
  rintro r_ w12 ⟨hr, hgr, xs, hq, hm, ix⟩
  rw [← HK1.out] at hr
  subst hr
  have z12 : w11.heap.size ≤ w12.heap.size := hgr.size
  clear X0 hm ix hq xs
  have B_ : Hid (Below w0.heap.size w0 w12) := (GrI.below' B.out hgr (by omega) (by omega))
  have W_ : Hid (SlX w12 w2.heap.size w3.heap.size vw O) := (W.out.gr hgr (by omega))
  have X1_ : Hid (InX w12 w4.heap.size w5.heap.size x1 ps) := (X1.out.gr hgr (by omega))
  have G_ : Hid (SlX w12 w5.heap.size w6.heap.size vg O) := (G.out.gr hgr (by omega))
  clear B W X1 G
  have B := B_
  have W := W_
  have X1 := X1_
  have G := G_
  clear B_ W_ X1_ G_
  clear hgr
  go_wp2_with fail
  refine (markIX K1 w12 X1.out (by omega) (by omega)).mono ?_
  rintro r_ w13 ⟨hr, hgr⟩
  rw [← HK2.out] at hr
  subst hr
  have z13 : w12.heap.size ≤ w13.heap.size := hgr.size
  clear X1
  have B_ : Hid (Below w0.heap.size w0 w13) := (GrI.below' B.out hgr (by omega) (by omega))
  have W_ : Hid (SlX w13 w2.heap.size w3.heap.size vw O) := (W.out.gr hgr (by omega))
  have G_ : Hid (SlX w13 w5.heap.size w6.heap.size vg O) := (G.out.gr hgr (by omega))
  clear B W G
  have B := B_
  have W := W_
  have G := G_
  clear B_ W_ G_
  clear hgr
  have hk : decide ((K2 : Int) < 0) = false := by simp
  go_wp2_with fail
  clear hk
  refine (eqSX w13 G.out W.out (by omega)).mono ?_
  rintro r_ w14 ⟨rfl, hb⟩
  have z14 : w13.heap.size ≤ w14.heap.size := hb.size
  have B_ : Hid (Below w0.heap.size w0 w14) := (B.out.trans (hb.mono B.out.size))
  have W_ : Hid (SlX w14 w2.heap.size w3.heap.size vw O) := (W.out.below hb)
  have G_ : Hid (SlX w14 w5.heap.size w6.heap.size vg O) := (G.out.below hb)
  clear B W G
  have B := B_
  have W := W_
  have G := G_
  clear B_ W_ G_
  clear hb
  go_wp2_with fail
  refine (markSX 1 w14 G.out (by omega) (by omega)).mono ?_
  rintro r_ w15 ⟨hr, hgr, xs, hq, hm, ix⟩
  rw [← HM.out] at hr
  subst hr
  have z15 : w14.heap.size ≤ w15.heap.size := hgr.size
  have HQ : Hid (xs.length = O.length) := hq
  have HMk : Hid (Marked xs 1 xs.length) := hm
  clear G hm hq
  have B_ : Hid (Below w0.heap.size w0 w15) := (GrI.below' B.out hgr (by omega) (by omega))
  have W_ : Hid (SlX w15 w2.heap.size w3.heap.size vw O) := (W.out.gr hgr (by omega))
  clear B W
  have B := B_
  have W := W_
  clear B_ W_
  clear hgr
  have G : Hid (SlX w15 w5.heap.size w6.heap.size vg xs) := ix
  clear ix
  go_wp2_with fail
  refine (heldSX 1 w15 G.out O.length HQ.out (by omega) (by omega) HMk.out).mono ?_
  rintro r_ w16 ⟨hr, hb⟩
  rw [← HM.out] at hr
  subst hr
  have z16 : w15.heap.size ≤ w16.heap.size := hb.size
  have B_ : Hid (Below w0.heap.size w0 w16) := (B.out.trans (hb.mono B.out.size))
  have W_ : Hid (SlX w16 w2.heap.size w3.heap.size vw O) := (W.out.below hb)
  have G_ : Hid (SlX w16 w5.heap.size w6.heap.size vg xs) := (G.out.below hb)
  clear B W G
  have B := B_
  have W := W_
  have G := G_
  clear B_ W_ G_
  clear hb
  have hk : decide ((M : Int) < 0) = false := by simp
  go_wp2_with fail
  clear hk
  refine (toSX w16 ao ac ts (show Hid (TextsAt _ _ _) from hx.out.stays B.out) htl).mono ?_
  rintro r_ w17 ⟨a5, rfl, n_A1, hb⟩
  have z17 : w16.heap.size ≤ w17.heap.size := hb.size
  have B_ : Hid (Below w0.heap.size w0 w17) := (B.out.trans (hb.mono B.out.size))
  have W_ : Hid (SlX w17 w2.heap.size w3.heap.size vw O) := (W.out.below hb)
  have G_ : Hid (SlX w17 w5.heap.size w6.heap.size vg xs) := (G.out.below hb)
  clear B W G
  have B := B_
  have W := W_
  have G := G_
  clear B_ W_ G_
  have A1 : Hid (SlX w17 w16.heap.size w17.heap.size a5 ts) := n_A1
  clear n_A1
  clear hb
  go_wp2_with fail
  refine (toIX w17 io ic ps (show Hid (IntsAt _ _ _) from hy.out.stays B.out) hpl).mono ?_
  rintro r_ w18 ⟨a6, rfl, n_A2, hb⟩
  have z18 : w17.heap.size ≤ w18.heap.size := hb.size
  have B_ : Hid (Below w0.heap.size w0 w18) := (B.out.trans (hb.mono B.out.size))
  have W_ : Hid (SlX w18 w2.heap.size w3.heap.size vw O) := (W.out.below hb)
  have G_ : Hid (SlX w18 w5.heap.size w6.heap.size vg xs) := (G.out.below hb)
  have A1_ : Hid (SlX w18 w16.heap.size w17.heap.size a5 ts) := (A1.out.below hb)
  clear B W G A1
  have B := B_
  have W := W_
  have G := G_
  have A1 := A1_
  clear B_ W_ G_ A1_
  have A2 : Hid (InX w18 w17.heap.size w18.heap.size a6 ps) := n_A2
  clear n_A2
  clear hb
  go_wp2_with fail
  refine (talkX w18 A1.out A2.out htl hpl hi64 HO HR).mono ?_
  rintro r_ w19 ⟨vh, rfl, n_H, hb⟩
  have z19 : w18.heap.size ≤ w19.heap.size := hb.size
  have B_ : Hid (Below w0.heap.size w0 w19) := (B.out.trans (hb.mono B.out.size))
  have W_ : Hid (SlX w19 w2.heap.size w3.heap.size vw O) := (W.out.below hb)
  have G_ : Hid (SlX w19 w5.heap.size w6.heap.size vg xs) := (G.out.below hb)
  have A1_ : Hid (SlX w19 w16.heap.size w17.heap.size a5 ts) := (A1.out.below hb)
  have A2_ : Hid (InX w19 w17.heap.size w18.heap.size a6 ps) := (A2.out.below hb)
  clear B W G A1 A2
  have B := B_
  have W := W_
  have G := G_
  have A1 := A1_
  have A2 := A2_
  clear B_ W_ G_ A1_ A2_
  have H : Hid (SlX w19 w18.heap.size w19.heap.size vh O) := n_H
  clear n_H
  clear hb
  go_wp2_with fail
  clear A1 A2
  refine (eqSX w19 H.out W.out (by omega)).mono ?_
  rintro r_ w20 ⟨rfl, hb⟩
  have z20 : w19.heap.size ≤ w20.heap.size := hb.size
  have B_ : Hid (Below w0.heap.size w0 w20) := (B.out.trans (hb.mono B.out.size))
  have W_ : Hid (SlX w20 w2.heap.size w3.heap.size vw O) := (W.out.below hb)
  have G_ : Hid (SlX w20 w5.heap.size w6.heap.size vg xs) := (G.out.below hb)
  have H_ : Hid (SlX w20 w18.heap.size w19.heap.size vh O) := (H.out.below hb)
  clear B W G H
  have B := B_
  have W := W_
  have G := G_
  have H := H_
  clear B_ W_ G_ H_
  clear hb
  go_wp2_with fail
  refine (heldSX 1 w20 G.out O.length HQ.out (by omega) (by omega) HMk.out).mono ?_
  rintro r_ w21 ⟨hr, hb⟩
  rw [← HM.out] at hr
  subst hr
  have z21 : w20.heap.size ≤ w21.heap.size := hb.size
  have B_ : Hid (Below w0.heap.size w0 w21) := (B.out.trans (hb.mono B.out.size))
  have W_ : Hid (SlX w21 w2.heap.size w3.heap.size vw O) := (W.out.below hb)
  have G_ : Hid (SlX w21 w5.heap.size w6.heap.size vg xs) := (G.out.below hb)
  have H_ : Hid (SlX w21 w18.heap.size w19.heap.size vh O) := (H.out.below hb)
  clear B W G H
  have B := B_
  have W := W_
  have G := G_
  have H := H_
  clear B_ W_ G_ H_
  clear hb
  have hk : decide ((M : Int) < 0) = false := by simp
  go_wp2_with fail
  go_ret
  exact ⟨rfl, B.out⟩
end Go.Proofs.Ytohagaelenhebaa
