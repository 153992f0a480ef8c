/- Joined texts: CIn CIa CPu CPu2 CPt CPs CAr2 CDi. -/
import Derived.Test.YthdjkkiegecgnaaHq10
import Derived.Shelf.RegionOpenPlain
import Derived.Laws.IdiomCopy
import Derived.Laws.Externs
import Derived.Laws.NewBlocks
import Derived.Lib.Overlaps
import Derived.Lib.AppendZeros
import Derived.Lib.AppendZerosOnto
import Derived.Lib.SliceRun
import Derived.BigQuiet
import Derived.Test.YthdjkkiegecgnaaHq1
namespace Go.Proofs.Ythdjkkiegecgnaa
open Go.RowKit Pl
set_option linter.unusedVariables false
def zc : Value := .agg #[.int .i64 0, .int .i64 0, .int .i64 0, .string ⟨#[]⟩]
def InsPost (w : World) (B : Nat) (v : Value) (ls : List It) (e : Ending) (w' : World) : Prop :=
 ∃ v', e = .returned v' ∧ SlI w' B v' ls ∧ w.grownBy w' v.ownBlock ∧ (v'.ownBlock = v.ownBlock ∨ ∃ nb, v'.ownBlock = some nb ∧ w.heap.size ≤ nb)
def ins1 (ts : List It) (y : It) : List It := if hasP ts y.1 = true then ts else ts.filter (fun x => decide (x.1 < y.1)) ++ y :: ts.filter (fun x => decide (y.1 < x.1))
theorem hasP_false {ts : List It} {n : Int} : hasP ts n = false ↔ ∀ x ∈ ts, ¬ x.1 = n := by
 constructor
 ·intro h x hx he
  have := hasP_iff.2 ⟨x, hx, he⟩
  rw [h] at this
  cases this
 ·intro h
  cases hh : hasP ts n with
  | false => rfl
  | true =>
   obtain ⟨x, hx, he⟩ := hasP_iff.1 hh
   exact absurd he (h x hx)
theorem ins1_has {ts : List It} {y : It} (h : hasP ts y.1 = true) : ins1 ts y = ts := by unfold ins1; rw [if_pos h]
theorem ins1_asc {ts : List It} {y : It} (h : Asc ts) : Asc (ins1 ts y) := by
 unfold ins1
 split
 ·exact h
 ·unfold Asc
  rw [List.pairwise_append]
  refine ⟨h.filter _, ?_, ?_⟩
  ·rw [List.pairwise_cons]
   exact ⟨fun x hx => by simpa using (List.mem_filter.1 hx).2, h.filter _⟩
  ·intro a ha b hb
   have h1 : a.1 < y.1 := by simpa using (List.mem_filter.1 ha).2
   rcases List.mem_cons.1 hb with rfl | hb
   ·exact h1
   ·have h2 : y.1 < b.1 := by simpa using (List.mem_filter.1 hb).2
    omega
theorem ins1_len (ts : List It) (y : It) (h : Asc ts) : (ins1 ts y).length ≤ ts.length + 1 := by
 unfold ins1
 split
 ·omega
 ·have h2 : ∀ l : List It, (l.filter (fun x => decide (x.1 < y.1))).length + (l.filter (fun x => decide (y.1 < x.1))).length ≤ l.length := by
   intro l
   induction l with
   | nil => simp
   | cons a l ih =>
    rw [List.filter_cons, List.filter_cons]
    by_cases h1 : a.1 < y.1
    ·have : ¬ y.1 < a.1 := by omega
     simp [h1, this]; omega
    ·by_cases h2 : y.1 < a.1
     ·simp [h1, h2]; omega
     ·simp [h1, h2]; omega
  have := h2 ts
  simp; omega
def putAll (ts xs : List It) : List It := xs.foldl ins1 ts
theorem ItemsAt.kept {w w' : World} {row : Option Nat} {ao : Option Addr} {ts : List It} (h : ItemsAt w ao ts) (hg : w.grownBy w' row) (hne : ∀ b off, ao = some ⟨b, off, none⟩ → some b ≠ row) : ItemsAt w' ao ts := by
 intro i hi
 obtain ⟨b, off, h1, h2, h3, h4, h5, h6⟩ := h i hi
 have e := hg.block b h2 (hne b off h1)
 have ec : ∀ o, w'.cell? ⟨b, o, none⟩ = w.cell? ⟨b, o, none⟩ := fun o => by simp only [World.cell?, e]
 exact ⟨b, off, h1, Nat.lt_of_lt_of_le h2 hg.size, (ec _).trans h3, (ec _).trans h4, (ec _).trans h5, (ec _).trans h6⟩
def Apart (v : Value) (ao : Option Addr) : Prop := ∀ k b off, v.ownBlock = some k → ao = some ⟨b, off, none⟩ → k ≠ b
structure PutK (w : World) (v u : Value) (w' : World) : Prop where
 g : w.grownBy w' v.ownBlock
 o : u.ownBlock = v.ownBlock ∨ ∃ nb, u.ownBlock = some nb ∧ w.heap.size ≤ nb
theorem PutK.refl (w : World) (v : Value) : PutK w v v w := ⟨⟨rfl, rfl, rfl, Nat.le_refl _, fun _ _ _ => rfl⟩, .inl rfl⟩
theorem PutK.later {w a b : World} {v u : Value} (h : PutK w v u a) (k : Below a.heap.size a b) : PutK w v u b :=
 ⟨⟨k.os.trans h.g.os, k.tape.trans h.g.tape, k.output.trans h.g.output, Nat.le_trans h.g.size k.size, fun i hi hn => (k.block i (Nat.lt_of_lt_of_le hi h.g.size)).trans (h.g.block i hi hn)⟩, h.o⟩
theorem PutK.put {w a b : World} {v u x : Value} (h : PutK w v u a) (k : a.grownBy b u.ownBlock) (o : x.ownBlock = u.ownBlock ∨ ∃ nb, x.ownBlock = some nb ∧ a.heap.size ≤ nb) : PutK w v x b := by
 refine ⟨⟨k.os.trans h.g.os, k.tape.trans h.g.tape, k.output.trans h.g.output, Nat.le_trans h.g.size k.size, fun i hi hn => (k.block i (Nat.lt_of_lt_of_le hi h.g.size) ?_).trans (h.g.block i hi hn)⟩, ?_⟩
 ·rcases h.o with e | ⟨nb, e, z⟩
  ·rw [e]; exact hn
  ·rw [e]; intro e2; cases e2; omega
 ·rcases o with e | ⟨nb, e, z⟩
  ·rcases h.o with e2 | ⟨nb, e2, z⟩
   ·exact .inl (e.trans e2)
   ·exact .inr ⟨nb, e.trans e2, z⟩
  ·exact .inr ⟨nb, e, Nat.le_trans h.g.size z⟩
def putP (ts : List It) (y : It) : List It := if iGo 0 ts = true ∧ itB y.1 y.2.1 y.2.2.1 y.2.2.2 = true then ins1 ts y else ts
theorem iGo_asc : ∀ (ts : List It) (L : Int), iGo L ts = true → Asc ts ∧ ∀ x ∈ ts, L < x.1 ∧ itB x.1 x.2.1 x.2.2.1 x.2.2.2 = true
 | [], _, _ => ⟨List.Pairwise.nil, fun x hx => by cases hx⟩
 | x :: xs, L, h => by
  rw [iGo] at h
  split at h
  ·cases h
  ·rename_i hn
   have h1 : itB x.1 x.2.1 x.2.2.1 x.2.2.2 = true := by
    cases hb : itB x.1 x.2.1 x.2.2.1 x.2.2.2 with
    | true => rfl
    | false => exact absurd (.inl hb) hn
   have h2 : L < x.1 := by
    rcases Int.lt_or_le L x.1 with h | h
    ·exact h
    ·exact absurd (.inr h) hn
   obtain ⟨ha, hb⟩ := iGo_asc xs x.1 h
   refine ⟨List.pairwise_cons.2 ⟨fun y hy => (hb y hy).1, ha⟩, fun y hy => ?_⟩
   rcases List.mem_cons.1 hy with rfl | hy
   ·exact ⟨h2, h1⟩
   ·have := hb y hy
    exact ⟨by omega, this.2⟩
theorem iGo_of : ∀ (ts : List It) (L : Int), Asc ts → (∀ x ∈ ts, L < x.1 ∧ itB x.1 x.2.1 x.2.2.1 x.2.2.2 = true) → iGo L ts = true
 | [], _, _, _ => rfl
 | x :: xs, L, ha, h => by
  obtain ⟨h1, h2⟩ := h x (List.mem_cons_self ..)
  rw [iGo_step h2 h1]
  obtain ⟨h3, h4⟩ := List.pairwise_cons.1 ha
  exact iGo_of xs x.1 h4 fun y hy => ⟨h3 y hy, (h y (List.mem_cons_of_mem _ hy)).2⟩
theorem asc_bound : ∀ (ts : List It) (L M : Int), Asc ts → (∀ x ∈ ts, L < x.1 ∧ x.1 ≤ M) → (ts.length : Int) ≤ M - L ∨ ts = []
 | [], _, _, _, _ => .inr rfl
 | x :: xs, L, M, ha, h => by
  obtain ⟨h1, h2⟩ := h x (List.mem_cons_self ..)
  obtain ⟨h3, h4⟩ := List.pairwise_cons.1 ha
  rcases asc_bound xs x.1 M h4 (fun y hy => ⟨h3 y hy, (h y (List.mem_cons_of_mem _ hy)).2⟩) with h5 | h5
  ·left; simp only [List.length_cons]; omega
  ·subst h5; left; simp; omega
theorem itB_range {q f l : Int} {t : ByteArray} (h : itB q f l t = true) : 1 ≤ q ∧ q ≤ 60 := by
 have := itB_true.1 h
 unfold ItOk at this
 omega
theorem iGo_short {ts : List It} (h : iGo 0 ts = true) : ts.length ≤ 60 := by
 obtain ⟨ha, hb⟩ := iGo_asc ts 0 h
 rcases asc_bound ts 0 60 ha (fun x hx => ⟨(hb x hx).1, (itB_range (hb x hx).2).2⟩) with h1 | h1
 ·omega
 ·subst h1; simp
theorem putP_len (ts : List It) (y : It) : (putP ts y).length ≤ ts.length + 1 := by
 unfold putP
 split
 ·rename_i h
  exact ins1_len ts y (iGo_asc ts 0 h.1).1
 ·omega
theorem spItemsB_is {ts : List It} {b : Bool} (ao : Option Addr) (cap : Nat) (w : World) (hx : Hid (ItemsAt w ao ts)) (hl : ts.length ≤ 1048576) (h : iGo 0 ts = b) :
  Calls Try.prog 117 #[.slice ao ts.length cap] w fun e w' => e = .returned (.bool b) ∧ Below w.heap.size w w' := by rw [← h]; exact spItemsOk_any ao cap ts w hx hl
def Stop (p : Prop) : Prop := p
theorem Stop.mk {p : Prop} (h : Stop p) : p := h
theorem Stop.go {p : Prop} (h : p) : Stop p := h
theorem filt_step {ts : List It} {k : Nat} (hk : k < ts.length) (g : It → Bool) : (ts.take (k + 1)).filter g = (ts.take k).filter g ++ if g ts[k] = true then [ts[k]] else [] := by
 rw [List.take_succ_eq_append_getElem hk, List.filter_append]
 congr 1
 by_cases h : g ts[k] = true <;> simp [h]
theorem filt_len (ts : List It) (k : Nat) (g : It → Bool) : ((ts.take k).filter g).length ≤ ts.length :=
 Nat.le_trans (List.length_filter_le _ _) (by rw [List.length_take]; omega)
theorem both_le (q : Int) : ∀ l : List It, (l.filter (fun x => decide (x.1 < q))).length + (l.filter (fun x => decide (q < x.1))).length ≤ l.length
 | [] => by simp
 | a :: l => by
  have ih := both_le q l
  rw [List.filter_cons, List.filter_cons]
  by_cases h1 : a.1 < q
  ·have : ¬ q < a.1 := by omega
   simp [h1, this]; omega
  ·by_cases h2 : q < a.1
   ·simp [h1, h2]; omega
   ·simp [h1, h2]; omega
theorem both_len (ts : List It) (q : Int) (y : It) (k : Nat) (h : ts.length ≤ 1048575) : (ts.filter (fun x => decide (x.1 < q)) ++ y :: (ts.take k).filter fun x => decide (q < x.1)).length ≤ 1048576 := by
 have h1 := both_le q ts
 have h2 : ((ts.take k).filter fun x => decide (q < x.1)).length ≤ (ts.filter fun x => decide (q < x.1)).length := ((List.take_sublist k ts).filter _).length_le
 simp only [List.length_append, List.length_cons]
 omega
set_option maxRecDepth 100000 in
set_option maxHeartbeats 4000000 in
theorem spPutItem_any (ao : Option Addr) (cap : Nat) (ts : List It) (q f l : Int) (t : ByteArray) (w : World) (hx : Hid (ItemsAt w ao ts)) (hl : ts.length ≤ 1048576) :
  Calls Try.prog 209 #[.slice ao ts.length cap, .agg #[.int .i64 q, .int .i64 f, .int .i64 l, .string t]] w fun e w' => ∃ v, e = .returned v ∧ SlI w' w.heap.size v (putP ts (q, f, l, t)) ∧ Below w.heap.size w w' := by
 obtain ⟨W0, hW0⟩ : ∃ W0, W0 = (w.alloc (.cells #[.int .i64 q, .int .i64 f, .int .i64 l, .string t] 38)).alloc (.cells #[] 38) := ⟨_, rfl⟩
 have I0 : Hid (ItAt W0 w.heap.size q f l t) := by
  rw [hW0]
  exact ItAt.stays (show ItAt (w.alloc (.cells #[.int .i64 q, .int .i64 f, .int .i64 l, .string t] 38)) w.heap.size q f l t from heap_alloc_new w _) ((Below.refl _ _).alloc (Nat.le_refl _) _) (by simp)
 have B0 : Hid (Below w.heap.size w W0) := by
  rw [hW0]
  exact ((Below.refl _ _).alloc (Nat.le_refl _) _).alloc (by simp) _
 have S0 : Hid (Sl W0 38 4 w.heap.size (.slice (some ⟨w.heap.size + 1, 0, none⟩) 0 0) 0 []) := by
  rw [hW0]
  have h := Sl.made (w.alloc (.cells #[.int .i64 q, .int .i64 f, .int .i64 l, .string t] 38)) 38 4 w.heap.size (by simp)
  rw [show (w.alloc (.cells #[.int .i64 q, .int .i64 f, .int .i64 l, .string t] 38)).heap.size = w.heap.size + 1 by simp] at h
  exact h
 have X0 := hid (hx.out.stays B0.out)
 have N0 : Hid (∀ b off, ao = some ⟨b, off, none⟩ → 0 < ts.length → b < w.heap.size) := fun b off e h0 => by
  obtain ⟨b', off', e', hb', _⟩ := hx.out 0 h0
  rw [e] at e'
  simp at e'
  omega
 have R0 : Hid (Src Try.prog 4 27 (.slice ao ts.length cap) ts.length (cels ts) W0) := src_items 27 Try.underlying27 cap X0.out
 have zw0 : w.heap.size + 2 ≤ W0.heap.size := by rw [hW0]; simp
 have HW : Hid (W0 = (w.alloc (.cells #[.int .i64 q, .int .i64 f, .int .i64 l, .string t] 38)).alloc (.cells #[] 38)) := hW0
 clear hW0
 go_enter Try.func209, Try.ntmps209
 go_wp2_with (at_builtin; refine Stop.mk ?_)
 refine Stop.go ?_
 rw [← HW.out]
 clear HW
 refine wpList_appendS rfl _ _ 27 rfl _ 40 Try.underlying27 Try.infoI rfl rfl S0.out _ ts.length (cels ts) rfl R0.out (by unfold maxLen; omega) (by omega) (by omega) ?_
 intro v1 w1 S1 g1 o1
 have g1 : W0.grownBy w1 (some (w.heap.size + 1)) := g1
 have S1 : Hid (SlI w1 w.heap.size v1 ts) := by
  unfold SlI
  rw [show ts.length = 0 + ts.length by omega]
  exact S1
 have I1 : Hid (ItAt w1 w.heap.size q f l t) := (g1.block w.heap.size I0.out.lt (by simp)).trans I0.out
 have B1 : Hid (Below w.heap.size w w1) := B0.out.grown g1 (by omega) (fun k hk => by simp at hk; omega)
 have X1 := hid (hx.out.stays B1.out)
 clear S0 g1 o1 I0 B0 X0 N0 R0 zw0
 cases hi : iGo 0 ts with
 | false =>
  have HR : Hid (putP ts (q, f, l, t) = ts) := by show _ = _; unfold putP; rw [if_neg (by rw [hi]; simp)]
  go_wp2_with fail
  refine (spItemsB_is ao cap w1 X1 (by omega) hi).mono ?_
  rintro e w2 ⟨rfl, b2⟩
  have S2 := hid (S1.out.below b2)
  have B2 := hid (B1.out.trans (b2.mono B1.out.size))
  clear b2 hi
  go_wp2_with fail
  go_ret
  exact ⟨_, rfl, by rw [HR.out]; exact S2.out, B2.out⟩
 | true =>
  go_wp2_with fail
  refine (spItemsB_is ao cap w1 X1 (by omega) hi).mono ?_
  rintro e w2 ⟨rfl, b2⟩
  have S2 := hid (S1.out.below b2)
  have I2 := I1.out.stays b2 I1.out.lt
  have B2 := hid (B1.out.trans (b2.mono B1.out.size))
  obtain ⟨c0, c1, c2, c3⟩ := I2.cells
  have I2 : Hid (ItAt w2 w.heap.size q f l t) := I2
  clear b2 S1 I1 X1 B1
  cases hm : itB q f l t with
  | false =>
   have HR : Hid (putP ts (q, f, l, t) = ts) := by show _ = _; unfold putP; rw [if_neg (by dsimp only; rw [hm]; simp)]
   clear hi
   go_wp2_with fail
   refine (spItB_is _ hm).mono ?_
   rintro e w3 ⟨rfl, b3⟩
   have S3 := hid (S2.out.below b3)
   have B3 := hid (B2.out.trans (b3.mono B2.out.size))
   clear b3 hm
   go_wp2_with fail
   go_ret
   exact ⟨_, rfl, by rw [HR.out]; exact S3.out, B3.out⟩
  | true =>
   have HR : Hid (putP ts (q, f, l, t) = ins1 ts (q, f, l, t)) := by show _ = _; unfold putP; rw [if_pos ⟨hi, hm⟩]
   have hl60 : ts.length ≤ 60 := iGo_short hi
   clear hi
   go_wp2_with fail
   refine (spItB_is _ hm).mono ?_
   rintro e w3 ⟨rfl, b3⟩
   have S3 := hid (S2.out.below b3)
   have I3 := hid (I2.out.stays b3 I2.out.lt)
   have B3 := hid (B2.out.trans (b3.mono B2.out.size))
   have O0 : Hid (SlI (w3.alloc (.cells #[] 38)) w3.heap.size (.slice (some ⟨w3.heap.size, 0, none⟩) 0 0) []) := SlI.made w3 w3.heap.size (Nat.le_refl _)
   have C0 : Hid (Below w3.heap.size w3 (w3.alloc (.cells #[] 38))) := (Below.refl _ _).alloc (Nat.le_refl _) _
   have z3 := I3.out.lt
   clear c0 c1 c2 c3 b3 hm S2 I2 B2
   go_wp2
   go_loopw [6, 7] (fun u i wr => ∃ (k : Nat), k ≤ ts.length ∧ i = .int .i64 k ∧ Hid (∀ x ∈ ts.take k, ¬ x.1 = q) ∧ Hid (SlI wr w3.heap.size u ((ts.take k).filter fun x => decide (x.1 < q))) ∧ Hid (Below w3.heap.size w3 wr)) (fun _ i _ => ts.length - (intOf i).toNat)
   case atStart => exact ⟨0, Nat.zero_le _, rfl, (fun x hx => by simp at hx : ∀ x ∈ ts.take 0, ¬ x.1 = q), O0, C0⟩
   case round =>
    clear O0 C0
    obtain ⟨k, hk, rfl, hst, hS, hb⟩ := hrel
    have Br : Below w.heap.size w wr := B3.out.trans (hb.out.mono (by omega))
    have zr : w3.heap.size ≤ wr.heap.size := hb.out.size
    by_cases hlt : k < ts.length
    ·obtain ⟨b, off, rfl, hbb, h0, h1, h2, h3⟩ := hx.out.stays Br k hlt
     have HP : Hid (∃ x : It, x = ts[k]) := ⟨_, rfl⟩
     obtain ⟨⟨q', f', lv, tx⟩, hp⟩ := HP.out
     rw [← hp] at h0 h1 h2 h3
     have HQ : Hid ((q', f', lv, tx) = ts[k]) := hp
     have hfs := filt_step hlt (fun x => decide (x.1 < q))
     rw [← hp] at hfs
     have HFS : Hid _ := hfs
     clear hp HP hfs
     dsimp only at h0 h1 h2 h3
     obtain ⟨m0, m1, m2, m3⟩ := (I3.out.stays hb.out (by omega)).cells
     have i0 : (0 : Int) ≤ (k : Int) := by omega
     have i1 : (k : Int) < (ts.length : Int) := by omega
     by_cases hq : q' = q
     ·subst hq
      have HHA : Hid (hasP ts q' = true) := hasP_iff.2 ⟨ts[k], List.getElem_mem hlt, by rw [← HQ.out]⟩
      have S4 : Hid (SlI wr w.heap.size v1 ts) := S3.out.keep (fun k hk hl => hb.out.block k hl)
      go_wp2_with fail
      go_region
      go_wp2_with fail
      go_ret
      refine ⟨_, rfl, ?_, (Br.drew : Below w.heap.size w wr.drew)⟩
      rw [HR.out, ins1_has HHA.out]
      exact S4.out.drew
     ·have HST : Hid (∀ x ∈ ts.take (k + 1), ¬ x.1 = q) := take_step hlt hst.out (by rw [← HQ.out]; exact hq)
      have S4 := hid (hS.out.drew.drew)
      have B4 := hid (hb.out.drew.drew)
      have z4 : w3.heap.size ≤ wr.drew.drew.heap.size := zr
      have e0 : wr.drew.drew.cell? ⟨b, off + k * 4, none⟩ = some (.int .i64 q') := h0
      have e1 : wr.drew.drew.cell? ⟨b, off + k * 4 + 1, none⟩ = some (.int .i64 f') := h1
      have e2 : wr.drew.drew.cell? ⟨b, off + k * 4 + 2, none⟩ = some (.int .i64 lv) := h2
      have e3 : wr.drew.drew.cell? ⟨b, off + k * 4 + 3, none⟩ = some (.string tx) := h3
      have hlk : ((ts.take k).filter fun x => decide (x.1 < q)).length ≤ 1048576 := Nat.le_trans (filt_len ts k _) (by omega)
      by_cases hq2 : q' < q
      ·have HLS : Hid ((ts.take (k + 1)).filter (fun x => decide (x.1 < q)) = (ts.take k).filter (fun x => decide (x.1 < q)) ++ [(q', f', lv, tx)]) := by
        have := HFS.out
        rwa [if_pos (by simpa using hq2)] at this
       go_wp2_with fail
       go_region
       go_wp2_with fail
       go_region
       clear h0 h1 h2 h3 m0 m1 m2 m3 HFS
       generalize wr.drew.drew = W4 at *
       go_wp2_with (at_builtin; refine wpList_pushIt rfl _ _ 27 rfl Try.underlying27 w3.heap.size u6 _ rfl S4.out (q', f', lv, tx) rfl hlk z4 ?_; intro v2 w5 S5 g5 b5 _)
       have S5 : Hid (SlI w5 w3.heap.size v2 ((ts.take (k + 1)).filter fun x => decide (x.1 < q))) := by
        rw [HLS.out]
        exact S5
       have B5 := hid (B4.out.trans b5)
       go_roundw
       case rel => exact ⟨k + 1, by omega, by go_num, HST, S5, B5⟩
       case measure => simp [intOf]; omega
      ·have HLS : Hid ((ts.take (k + 1)).filter (fun x => decide (x.1 < q)) = (ts.take k).filter (fun x => decide (x.1 < q))) := by
        have := HFS.out
        rwa [if_neg (by simpa using hq2), List.append_nil] at this
       have S5 : Hid (SlI wr.drew.drew w3.heap.size u6 ((ts.take (k + 1)).filter fun x => decide (x.1 < q))) := by
        rw [HLS.out]
        exact S4
       go_wp2_with fail
       go_region
       go_wp2_with fail
       go_region
       clear h0 h1 h2 h3 m0 m1 m2 m3 HFS e0 e1 e2 e3 S4
       generalize wr.drew.drew = W4 at *
       go_wp2_with fail
       go_roundw
       case rel => exact ⟨k + 1, by omega, by go_num, HST, S5, B4⟩
       case measure => simp [intOf]; omega
    ·have HNO : Hid (hasP ts q = false) := hasP_false.2 (by have := hst.out; rwa [List.take_of_length_le (by omega)] at this)
     have S4 : Hid (SlI wr w3.heap.size u6 (ts.filter fun x => decide (x.1 < q))) := by
      have := hS.out
      rw [List.take_of_length_le (by omega)] at this
      exact this
     obtain ⟨m0, m1, m2, m3⟩ := (I3.out.stays hb.out (by omega)).cells
     have hlk : (ts.filter fun x => decide (x.1 < q)).length ≤ 1048576 := Nat.le_trans (List.length_filter_le _ _) (by omega)
     clear hst hS
     go_wp2_with (at_builtin; refine wpList_pushIt rfl _ _ 27 rfl Try.underlying27 w3.heap.size u6 _ rfl S4.out (q, f, l, t) rfl hlk zr ?_; intro v5 w5 S5 g5 b5 _)
     have S5 : Hid (SlI w5 w3.heap.size v5 (ts.filter (fun x => decide (x.1 < q)) ++ (q, f, l, t) :: (ts.take 0).filter fun x => decide (q < x.1))) := S5
     have B5 := hid (hb.out.trans b5)
     clear S4 m0 m1 m2 m3 g5 b5 hb Br zr hlt hlk
     go_loopw [6, 8] (fun u i wr => ∃ (k : Nat), k ≤ ts.length ∧ i = .int .i64 k ∧ Hid (SlI wr w3.heap.size u (ts.filter (fun x => decide (x.1 < q)) ++ (q, f, l, t) :: (ts.take k).filter fun x => decide (q < x.1))) ∧ Hid (Below w3.heap.size w3 wr)) (fun _ i _ => ts.length - (intOf i).toNat)
     case atStart => exact ⟨0, Nat.zero_le _, rfl, S5, B5⟩
     case round =>
      clear S5 B5
      obtain ⟨k, hk, rfl, hS, hb⟩ := hrel
      have Br : Below w.heap.size w wr := B3.out.trans (hb.out.mono (by omega))
      have zr : w3.heap.size ≤ wr.heap.size := hb.out.size
      have hlk : (ts.filter (fun x => decide (x.1 < q)) ++ (q, f, l, t) :: (ts.take k).filter fun x => decide (q < x.1)).length ≤ 1048576 := both_len ts q (q, f, l, t) k (by omega)
      by_cases hlt : k < ts.length
      ·obtain ⟨b, off, rfl, hbb, h0, h1, h2, h3⟩ := hx.out.stays Br k hlt
       have HP : Hid (∃ x : It, x = ts[k]) := ⟨_, rfl⟩
       obtain ⟨⟨q', f', lv, tx⟩, hp⟩ := HP.out
       rw [← hp] at h0 h1 h2 h3
       have hfs := filt_step hlt (fun x => decide (q < x.1))
       rw [← hp] at hfs
       have HFS : Hid _ := hfs
       clear hp HP hfs
       dsimp only at h0 h1 h2 h3
       obtain ⟨m0, m1, m2, m3⟩ := (I3.out.stays hb.out (by omega)).cells
       have i0 : (0 : Int) ≤ (k : Int) := by omega
       have i1 : (k : Int) < (ts.length : Int) := by omega
       have S4 := hid (hS.out.drew)
       have B4 := hid (hb.out.drew)
       have z4 : w3.heap.size ≤ wr.drew.heap.size := zr
       have e0 : wr.drew.cell? ⟨b, off + k * 4, none⟩ = some (.int .i64 q') := h0
       have e1 : wr.drew.cell? ⟨b, off + k * 4 + 1, none⟩ = some (.int .i64 f') := h1
       have e2 : wr.drew.cell? ⟨b, off + k * 4 + 2, none⟩ = some (.int .i64 lv) := h2
       have e3 : wr.drew.cell? ⟨b, off + k * 4 + 3, none⟩ = some (.string tx) := h3
       by_cases hq2 : q < q'
       ·have HLS : Hid (ts.filter (fun x => decide (x.1 < q)) ++ (q, f, l, t) :: (ts.take (k + 1)).filter (fun x => decide (q < x.1)) = (ts.filter (fun x => decide (x.1 < q)) ++ (q, f, l, t) :: (ts.take k).filter (fun x => decide (q < x.1))) ++ [(q', f', lv, tx)]) := by
         have := HFS.out
         rw [if_pos (by simpa using hq2)] at this
         show _ = _
         rw [this]
         simp
        go_wp2_with fail
        go_region
        clear h0 h1 h2 h3 m0 m1 m2 m3 HFS
        generalize wr.drew = W4 at *
        go_wp2_with (at_builtin; refine wpList_pushIt rfl _ _ 27 rfl Try.underlying27 w3.heap.size u6 _ rfl S4.out (q', f', lv, tx) rfl hlk z4 ?_; intro v2 w5 S5 g5 b5 _)
        have S5 : Hid (SlI w5 w3.heap.size v2 (ts.filter (fun x => decide (x.1 < q)) ++ (q, f, l, t) :: (ts.take (k + 1)).filter (fun x => decide (q < x.1)))) := by
         rw [HLS.out]
         exact S5
        have B5 := hid (B4.out.trans b5)
        go_roundw
        case rel => exact ⟨k + 1, by omega, by go_num, S5, B5⟩
        case measure => simp [intOf]; omega
       ·have HLS : Hid ((ts.take (k + 1)).filter (fun x => decide (q < x.1)) = (ts.take k).filter (fun x => decide (q < x.1))) := by
         have := HFS.out
         rwa [if_neg (by simpa using hq2), List.append_nil] at this
        have S5 : Hid (SlI wr.drew w3.heap.size u6 (ts.filter (fun x => decide (x.1 < q)) ++ (q, f, l, t) :: (ts.take (k + 1)).filter (fun x => decide (q < x.1)))) := by
         rw [HLS.out]
         exact S4
        go_wp2_with fail
        go_region
        clear h0 h1 h2 h3 m0 m1 m2 m3 HFS e0 e1 e2 e3 S4
        generalize wr.drew = W4 at *
        go_wp2_with fail
        go_roundw
        case rel => exact ⟨k + 1, by omega, by go_num, S5, B4⟩
        case measure => simp [intOf]; omega
      ·go_wp2_with fail
       go_ret
       refine ⟨_, rfl, ?_, Br⟩
       have := hS.out
       rw [List.take_of_length_le (by omega)] at this
       rw [HR.out]
       unfold ins1
       rw [if_neg (by dsimp only; rw [HNO.out]; simp)]
       exact this.down (by omega)
theorem aruGo_all (ts : List It) : ∀ (f n : Nat), (∀ k : Nat, 1 ≤ k → k ≤ n → hasP ts (k : Int) = true) → (∀ k : Nat, 1 ≤ k → k ≤ aruGo ts f n → hasP ts (k : Int) = true) ∧ (aruGo ts f n = n + f ∨ hasP ts ((aruGo ts f n + 1 : Nat) : Int) = false)
 | 0, n, h => ⟨h, .inl rfl⟩
 | f + 1, n, h => by
  rw [aruGo]
  by_cases hh : hasP ts ((n + 1 : Nat) : Int) = true
  ·rw [if_pos hh]
   have h2 : ∀ k : Nat, 1 ≤ k → k ≤ n + 1 → hasP ts (k : Int) = true := fun k h1 h3 => by
    by_cases e : k = n + 1
    ·subst e; exact hh
    ·exact h k h1 (by omega)
   obtain ⟨a, b⟩ := aruGo_all ts f (n + 1) h2
   refine ⟨a, ?_⟩
   rcases b with b | b
   ·left; omega
   ·right; exact b
  ·rw [if_neg hh]
   refine ⟨h, .inr ?_⟩
   cases hx : hasP ts ((n + 1 : Nat) : Int) with
   | true => exact absurd hx hh
   | false => rfl
theorem asc_head {x : It} {xs : List It} (h : Asc (x :: xs)) : Asc xs ∧ ∀ y ∈ xs, x.1 < y.1 := ⟨(List.pairwise_cons.1 h).2, (List.pairwise_cons.1 h).1⟩
theorem filter_count : ∀ (a : Nat) (L : Int) (ts : List It), Asc ts → (∀ x ∈ ts, L < x.1) → (∀ k : Nat, 1 ≤ k → k ≤ a → hasP ts (L + k) = true) → (ts.filter fun x => decide (x.1 ≤ L + a)).length = a
 | 0, L, ts, ha, h1, _ => by
  rw [List.filter_eq_nil_iff.2 (fun x hx => by have := h1 x hx; simp; omega)]
  rfl
 | a + 1, L, ts, ha, h1, h2 => by
  have h3 := h2 1 (by omega) (by omega)
  obtain ⟨y, hy, hye⟩ := hasP_iff.1 h3
  match ts, ha, h1, h2, hy with
  | x :: xs, ha, h1, h2, hy =>
   obtain ⟨hax, hxl⟩ := asc_head ha
   have hx1 : x.1 = L + 1 := by
    have hxL := h1 x (List.mem_cons_self ..)
    rcases List.mem_cons.1 hy with rfl | hy
    ·exact hye
    ·have := hxl y hy
     omega
   have ih := filter_count a (L + 1) xs hax (fun y hy => by have := hxl y hy; omega) (fun k hk1 hk2 => by
    have h4 := h2 (k + 1) (by omega) (by omega)
    obtain ⟨z, hz, hze⟩ := hasP_iff.1 h4
    refine hasP_iff.2 ⟨z, ?_, by omega⟩
    rcases List.mem_cons.1 hz with rfl | hz
    ·omega
    ·exact hz)
   have e : L + ((a + 1 : Nat) : Int) = L + 1 + (a : Int) := by omega
   rw [e, List.filter_cons, if_pos (by simp; omega), List.length_cons, ih]
theorem aru_facts {ts : List It} (h : iGo 0 ts = true) : (∀ k : Nat, 1 ≤ k → k ≤ aruP ts → hasP ts (k : Int) = true) ∧ hasP ts ((aruP ts + 1 : Nat) : Int) = false ∧ (wholeP ts).length = aruP ts := by
 obtain ⟨ha, hb⟩ := iGo_asc ts 0 h
 obtain ⟨h1, h2⟩ := aruGo_all ts ts.length 0 (fun k h1 h2 => by omega)
 have hc := filter_count (aruP ts) 0 ts ha (fun x hx => (hb x hx).1) (fun k hk1 hk2 => by rw [Int.zero_add]; exact h1 k hk1 hk2)
 have hw : (wholeP ts).length = aruP ts := by
  unfold wholeP
  rw [Int.zero_add] at hc
  exact hc
 refine ⟨h1, ?_, hw⟩
 rcases h2 with h2 | h2
 ·have hA : aruP ts = ts.length := by unfold aruP; omega
  rw [hA, hasP_false]
  intro x hx he
  have hf : wholeP ts = ts := by
   unfold wholeP
   exact (List.filter_sublist).eq_of_length (by unfold wholeP at hw; omega)
  have hxf : x ∈ wholeP ts := by rw [hf]; exact hx
  have := (List.mem_filter.1 hxf).2
  simp at this
  omega
 ·exact h2
theorem Drw.push {w0 w w' : World} {B g n cap : Nat} {ao : Option Addr} (h : Drw w0 w B g ao n cap) (hb : Below w0.heap.size w w') (hg : g < w0.heap.size) (hB : B ≤ g) : Hid (Drw w0 w' B g ao n cap) :=
 ⟨CurAt.stays h.1 hb hg, h.2.1.stays hb (by omega), ⟨hb.os.trans h.2.2.os, hb.tape.trans h.2.2.tape, hb.output.trans h.2.2.output, Nat.le_trans h.2.2.size hb.size, fun k hk hkg => (hb.block k hk).trans (h.2.2.block k hk hkg)⟩⟩
def Upto (ts : List It) (i : Nat) : Prop := iGo 0 ts = true ∧ (∀ x ∈ ts, x.1 < (i : Int)) ∧ ts.length < i ∧ ∀ x ∈ ts, x.2.2.2.size ≤ 13
end Go.Proofs.Ythdjkkiegecgnaa
