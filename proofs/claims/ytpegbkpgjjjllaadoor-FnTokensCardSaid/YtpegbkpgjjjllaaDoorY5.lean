/- Reading the specification's token in plain words; a list of ints in a field that is appended to. -/
import Derived.Test.YtpegbkpgjjjllaaDoorY4
import Derived.Test.YtpegbkpgjjjllaaDoorSc
import Derived.Test.YtpegbkpgjjjllaaDoorX3
import Derived.Deep.RegionLaw
import Derived.Deep.AppendLies
namespace Go.Proofs.YtpegbkpgjjjllaaDoor
open Go.RowKit Pl
set_option linter.unusedVariables false

theorem VarF.good {s : ByteArray} {A n i m j : Nat} {b : Bool} (h : VarF s A false n i b) (hr : rv s A = some (m, j)) : n = m ∧ i = j ∧ b = false := by
  rcases h with ⟨_, h1, h2⟩ | ⟨_, _, _, h4⟩
  · rw [hr] at h1
    simp only [Option.some.injEq, Prod.mk.injEq] at h1
    exact ⟨h1.1.symm, h1.2.symm, h2⟩
  · rcases h4 with h4 | h4
    · cases h4
    · rw [hr] at h4; cases h4
theorem OneF.good {s : ByteArray} {A n i m j : Nat} {b : Bool} (h : OneF s A false n i b) (hr : oneP s A = some (m, j)) : n = m ∧ i = j ∧ b = false := by
  rcases h with ⟨_, h1, h2⟩ | ⟨_, _, _, h4⟩
  · rw [hr] at h1
    simp only [Option.some.injEq, Prod.mk.injEq] at h1
    exact ⟨h1.1.symm, h1.2.symm, h2⟩
  · rcases h4 with h4 | h4
    · cases h4
    · rw [hr] at h4; cases h4

/-- the state of the specification's loop behind j numbers. -/
def SpN (s : ByteArray) (A0 : Nat) (b0 : Bool) (n j Aj : Nat) (bj : Bool) (xs : List Nat) : Prop :=
  ∀ (ns : List Nat) (i : Nat), n ≤ 50 → b0 = false → numsP s A0 n = some (ns, i) → bj = false ∧ ∃ l, numsP s Aj (n - j) = some (l, i) ∧ ns = xs ++ l
theorem spn_start (s : ByteArray) (A0 : Nat) (b0 : Bool) (n : Nat) : SpN s A0 b0 n 0 A0 b0 [] := fun ns i _ hb h => ⟨hb, ns, h, rfl⟩
theorem spn_next {s : ByteArray} {A0 n j Aj m i2 : Nat} {b0 b2 : Bool} {xs : List Nat} (h : SpN s A0 b0 n j Aj false xs) (hj : j < n) (hv : VarF s Aj false m i2 b2) : SpN s A0 b0 n (j + 1) i2 b2 (xs ++ [m]) := by
  intro ns i hn hb hp
  obtain ⟨_, l, h1, h2⟩ := h ns i hn hb hp
  obtain ⟨d, hd⟩ : ∃ d, n - j = d + 1 := ⟨n - j - 1, by omega⟩
  have hd' : n - (j + 1) = d := by omega
  rw [hd] at h1
  rw [hd']
  rcases h0 : rv s Aj with _ | ⟨m', i'⟩
  · rw [numsP_none h0] at h1; cases h1
  · obtain ⟨rfl, rfl, rfl⟩ := hv.good h0
    rw [numsP_some h0] at h1
    rcases h3 : numsP s i2 d with _ | ⟨l', e⟩
    · rw [h3] at h1; cases h1
    · rw [h3] at h1
      simp only [Option.map_some, Option.some.injEq, Prod.mk.injEq] at h1
      obtain ⟨rfl, rfl⟩ := h1
      exact ⟨rfl, l', rfl, by rw [h2]; simp⟩
theorem spn_end {s : ByteArray} {A0 n j Aj : Nat} {b0 bj : Bool} {xs : List Nat} (h : SpN s A0 b0 n j Aj bj xs) (hj : j ≤ n) (he : n ≤ j ∨ 50 ≤ j ∨ bj = true) : ∀ (ns : List Nat) (i : Nat), n ≤ 50 → b0 = false → numsP s A0 n = some (ns, i) → bj = false ∧ xs = ns := by
  intro ns i hn hb hp
  obtain ⟨h0, l, h1, h2⟩ := h ns i hn hb hp
  have : n - j = 0 := by
    rcases he with he | he | he
    · omega
    · omega
    · rw [h0] at he; cases he
  rw [this] at h1
  simp only [numsP, Option.some.injEq, Prod.mk.injEq] at h1
  obtain ⟨rfl, _⟩ := h1
  exact ⟨h0, by rw [h2]; simp⟩

/-- what the specification's reader has found of a token. -/
def FndT (s : ByteArray) (b0 : Bool) (c r q a b : Nat) (ns : List Nat) (bad : Bool) : Prop :=
  ∃ i0 b1 i1 b2 i2 b3 i3 b4 i4 b5 n i5 b6, OneF s 0 b0 c i0 b1 ∧ VarF s i0 b1 r i1 b2 ∧ VarF s i1 b2 q i2 b3 ∧ VarF s i2 b3 a i3 b4 ∧ OneF s i3 b4 b i4 b5 ∧ VarF s i4 b5 n i5 b6 ∧
    ∀ (ns' : List Nat) (i : Nat), n ≤ 50 → b6 = false → numsP s i5 n = some (ns', i) → bad = false ∧ ns = ns'

theorem FndT.found {s : ByteArray} {c r q a b c' r' q' a' b' : Nat} {ns ns' : List Nat} {bad : Bool} (h : FndT s false c r q a b ns bad) (hs : s.data.toList = tokL c' r' q' a' b' ns') (ho : TkOk c' r' q' a' b' ns') :
    c = c' ∧ r = r' ∧ q = q' ∧ a = a' ∧ b = b' ∧ ns = ns' ∧ bad = false := by
  obtain ⟨j0, j1, j2, j3, j4, j5, h0, h1, h2, h3, h4, h5, h6⟩ := tok_at hs ho
  obtain ⟨_, _, _, _, _, n20, _⟩ := ho.nats
  obtain ⟨i0, b1, i1, b2, i2, b3, i3, b4, i4, b5, n, i5, b6, g0, g1, g2, g3, g4, g5, g6⟩ := h
  obtain ⟨rfl, rfl, rfl⟩ := g0.good h0
  obtain ⟨rfl, rfl, rfl⟩ := g1.good h1
  obtain ⟨rfl, rfl, rfl⟩ := g2.good h2
  obtain ⟨rfl, rfl, rfl⟩ := g3.good h3
  obtain ⟨rfl, rfl, rfl⟩ := g4.good h4
  obtain ⟨rfl, rfl, rfl⟩ := g5.good h5
  obtain ⟨x, y⟩ := g6 _ _ (by omega) rfl h6
  exact ⟨rfl, rfl, rfl, rfl, rfl, y, x⟩

/-- nothing is answered. -/
theorem ansT_missed {t s : ByteArray} {k : Bool} {c r q a b : Nat} {ns : List Nat} {bad : Bool} (hk : (k = true ∧ t = sealS s) ∨ (k = false ∧ s = ByteArray.empty ∧ ∀ s : ByteArray, s.size ≤ 20000 → t ≠ sealS s))
    (h : FndT s (!k) c r q a b ns bad) (hb : bad = true ∨ ¬ TkOk c r q a b ns ∨ sealS (tokS c r q a b ns) ≠ t) : AnsT t 0 0 0 0 0 [] false := by
  rcases hk with ⟨rfl, rfl⟩ | ⟨rfl, _, ho⟩
  · refine .inr ⟨rfl, rfl, rfl, rfl, rfl, rfl, rfl, fun c' r' q' a' b' ns' ho e => ?_⟩
    have e1 := sealS_inj e
    obtain ⟨rfl, rfl, rfl, rfl, rfl, rfl, rfl⟩ := h.found (by rw [e1, tokS_list]) ho
    rcases hb with hb | hb | hb
    · cases hb
    · exact hb ho
    · exact hb e.symm
  · exact ansT_open ho

theorem step_pushI {P : Program} {ops : Array Oper} {o : Oper} {a : Act} {W : World} {K : Act → World → Prop} {Q : Exit → Act → World → Prop} {E : Prop}
    (hg : o.guard = none) (s x : Operand) (t : TypeId) (hop : o.op = Op.call { callee := Callee.builtin Builtin.append, args := #[s, x], argTypes := #[t, t] })
    (ht : P.underlying t = some (.slice 3)) (hinfo : (P.info? 3).map (fun i => (i.zero, i.size, i.bytes)) = some (some (.int .i64 0), 1, 8))
    (B : Nat) (v : Value) (xs : List Int) (hs : a.eval s = v) (hown : OwnI W B v xs)
    (b : Int) (ad : Addr) (hx : a.eval x = .slice (some ad) 1 1) (hc : W.cell? ad = some (.int .i64 b)) (hsp : ad.add 0 = ad)
    (hn : xs.length < 4000000) (hB : B ≤ W.heap.size)
    (hK : ∀ v' w', OwnI w' B v' (xs ++ [b]) → W.grownBy w' v.ownBlock → K (a.put o.dst v') w') :
    if Region.wanted o (yielded ops a.tmps) = true then Oper.wp P o a W K Q else E := by
  have hw : Region.wanted o (yielded ops a.tmps) = true := by simp [Region.wanted, hg]
  rw [if_pos hw]
  obtain ⟨i0, hi, hz0, hz1, hz2⟩ := info_parts hinfo
  refine wp_append_own W s x t hop B 3 i0 (.int .i64 0) 1 8 ht hi hz0 hz1 hz2 rfl (by decide) v xs.length (xs.map (Value.int .i64)) hs hown ad 1 1 [.int .i64 b] hx rfl ?_ ?_ (by unfold maxLen; omega) (by omega) hB ?_
  · intro j u hj
    match j, hj with
    | 0, hj => simp at hj; subst hj; rw [hsp]; exact hc
  · intro u hu; simp at hu; subst hu; rfl
  · intro v' w' hown' hgr _
    refine hK v' w' ?_ hgr
    simpa [OwnI] using hown'

theorem cell_new_int (w : World) (z : Int) : (w.alloc (.cells #[.int .i64 z] 3)).cell? ⟨w.heap.size, 0, none⟩ = some (.int .i64 z) := by
  rw [cell_of_row _ w.heap.size 0 _ 3 (0, 0) (heap_alloc_new w _)]; rfl

/-- a list's block is no token's and no cursor's. -/
theorem own_ne_tok {w : World} {B g k : Nat} {v u : Value} {xs : List Int} {c r q a b : Int} (h : OwnI w B v xs) (hu : TokAt w g c r q a b u) (hk : v.ownBlock = some k) : k ≠ g := by
  rintro rfl
  rcases h.2 with ⟨rfl, _⟩ | ⟨k', cap, cur, rfl, _, hk2, _⟩
  · cases hk
  · cases hk
    unfold TokAt at hu
    rw [hk2] at hu
    simp at hu
theorem own_ne_pc {w : World} {B g k A : Nat} {v : Value} {xs : List Int} {s : ByteArray} {bb : Bool} (h : OwnI w B v xs) (hu : PcAt w g s A bb) (hk : v.ownBlock = some k) : k ≠ g := by
  rintro rfl
  rcases h.2 with ⟨rfl, _⟩ | ⟨k', cap, cur, rfl, _, hk2, _⟩
  · cases hk
  · cases hk
    unfold PcAt at hu
    rw [hk2] at hu
    simp at hu
theorem TokAt.grown {w w' : World} {B g : Nat} {v u : Value} {xs : List Int} {c r q a b : Int} (h : TokAt w g c r q a b u) (ho : OwnI w B v xs) (hg : w.grownBy w' v.ownBlock) : TokAt w' g c r q a b u :=
  (hg.block g h.lt (fun e => own_ne_tok ho h e.symm rfl)).trans h
theorem PcAt.grown {w w' : World} {B g A : Nat} {v : Value} {xs : List Int} {s : ByteArray} {bb : Bool} (h : PcAt w g s A bb) (ho : OwnI w B v xs) (hg : w.grownBy w' v.ownBlock) : PcAt w' g s A bb :=
  (hg.block g h.lt (fun e => own_ne_pc ho h e.symm rfl)).trans h
theorem own_keep_pc {w w' : World} {B g A : Nat} {v : Value} {xs : List Int} {s : ByteArray} {bb : Bool} (h : OwnI w B v xs) (hu : PcAt w g s A bb) (hk : KeepBut g w w') : OwnI w' B v xs := by
  have hne := fun k hk => own_ne_pc (k := k) h hu hk
  refine ⟨h.1, ?_⟩
  rcases h.2 with hn | ⟨k, cap, cur, rfl, hbg, hk2, rest⟩
  · exact .inl hn
  · exact .inr ⟨k, cap, cur, rfl, hbg, (hk.block k (Array.getElem?_eq_some_iff.1 hk2).1 (hne k rfl)).trans hk2, rest⟩
theorem PcAt.tokens {w w' : World} {g k A : Nat} {s : ByteArray} {bb : Bool} (h : PcAt w g s A bb) (hk : TurnAt k w w') (hg : g ≠ k) : PcAt w' g s A bb := (hk.block g hg).trans h
end Go.Proofs.YtpegbkpgjjjllaaDoor
