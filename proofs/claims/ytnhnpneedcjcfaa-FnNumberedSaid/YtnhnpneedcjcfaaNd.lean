/- What drawn numberings want. -/
import Derived.Test.YtnhnpneedcjcfaaZ3
import Derived.Test.YtnhnpneedcjcfaaPc
import Derived.Test.YtnhnpneedcjcfaaTx
import Derived.Test.YtnhnpneedcjcfaaNu
import Derived.Laws.AppendOwnNone
namespace Go.Proofs.Ytnhnpneedcjcfaa
open Go.RowKit Pl
set_option linter.unusedVariables false

theorem Drw.push {w0 w w' : World} {B g n cap : Nat} {ao : Option Addr} (h : Drw w0 w B g ao n cap) (hb : Below w0.heap.size w w') (hg : g < w0.heap.size) (hB : B ≤ g) : Hid (Drw w0 w' B g ao n cap) :=
  ⟨CurAt.stays h.1 hb hg, h.2.1.stays hb (by omega), ⟨hb.os.trans h.2.2.os, hb.tape.trans h.2.2.tape, hb.output.trans h.2.2.output, Nat.le_trans h.2.2.size hb.size, fun k hk hkg => (hb.block k hk).trans (h.2.2.block k hk hkg)⟩⟩
theorem wpList_pushSG {P : Program} {w : World} {ops : Array Oper} {rest : List Oper} {o : Oper} {a : Act} {Q : Exit → Act → World → Prop}
    (hgd : o.guard = none) (s x : Operand) (t : TypeId) (ho : o.op = .call { callee := .builtin .append, args := #[s, x], argTypes := #[t, t] })
    (ht : P.underlying t = some (.slice 9)) (hinfo : (P.info? 9).map (fun i => (i.zero, i.size, i.bytes)) = some (some (.string ⟨#[]⟩), 1, 16))
    (B : Nat) (v : Value) (xs : List ByteArray) (hs : a.eval s = v) (hown : OwnS w B v xs) (b : ByteArray)
    (hx : a.eval x = .slice (some ⟨w.heap.size, 0, none⟩) 1 1) (hn : xs.length < 4000000) (hB : B ≤ w.heap.size)
    (h : ∀ v' w', OwnS w' B v' (xs ++ [b]) → (w.alloc (.cells #[.string b] 9)).grownBy w' v.ownBlock → wpList P ops Q rest (a.put o.dst v') w') :
    wpList P ops Q (o :: rest) a (w.alloc (.cells #[.string b] 9)) := by
  obtain ⟨i0, hi, hz0, hz1, hz2⟩ := info_parts hinfo
  refine wpList_append_own _ hgd s x t ho B 9 i0 (.string ⟨#[]⟩) 1 16 ht hi hz0 hz1 hz2 rfl (by decide) v xs.length (xs.map Value.string) hs (World.ownsRow.alloc hown _) ⟨w.heap.size, 0, none⟩ 1 1 [.string b] hx rfl ?_ ?_ ?_ ?_ ?_ ?_
  · intro j u hj
    match j, hj with
    | 0, hj => simp at hj; subst hj; simp [Addr.add]
  · intro u hu; simp at hu; subst hu; rfl
  · unfold maxLen; omega
  · omega
  · simp; omega
  · intro v' w' hown' hg _
    exact h v' w' (by simpa [OwnS] using hown') hg

theorem wpList_catS {P : Program} {w : World} {ops : Array Oper} {rest : List Oper} {o : Oper} {a : Act} {Q : Exit → Act → World → Prop}
    (hgd : o.guard = none) (s x : Operand) (t : TypeId) (ho : o.op = .call { callee := .builtin .append, args := #[s, x], argTypes := #[t, t] })
    (ht : P.underlying t = some (.slice 9)) (hinfo : (P.info? 9).map (fun i => (i.zero, i.size, i.bytes)) = some (some (.string ⟨#[]⟩), 1, 16))
    (B : Nat) (v : Value) (xs : List ByteArray) (hs : a.eval s = v) (hown : OwnS w B v xs)
    (B2 : Nat) (u : Value) (ys : List ByteArray) (hx : a.eval x = u) (hu : OwnS w B2 u ys) (hn : xs.length + ys.length < 4000000) (hB : B ≤ w.heap.size)
    (h : ∀ v' w', OwnS w' B v' (xs ++ ys) → w.grownBy w' v.ownBlock → wpList P ops Q rest (a.put o.dst v') w') :
    wpList P ops Q (o :: rest) a w := by
  obtain ⟨i0, hi, hz0, hz1, hz2⟩ := info_parts hinfo
  have hcells := fun (g : Nat) (hg : u.ownBlock = some g) => World.ownsRow.cells hu hg
  rcases hu.2 with ⟨rfl, h0⟩ | ⟨g, cap, cur, rfl, _⟩
  · have e : ys = [] := List.eq_nil_of_length_eq_zero h0
    subst e
    refine wpList_append_own_none hgd s x t ho B 9 i0 1 ht hi v xs.length (xs.map Value.string) hs hown hx ?_
    exact h v w (by rw [List.append_nil]; exact hown) (World.grownBy.refl _ _)
  · refine wpList_append_own _ hgd s x t ho B 9 i0 (.string ⟨#[]⟩) 1 16 ht hi hz0 hz1 hz2 rfl (by decide) v xs.length (xs.map Value.string) hs hown ⟨g, 0, none⟩ ys.length cap (ys.map Value.string) hx (by simp) (fun j u hj => hcells g rfl j u hj) ?_ (by unfold maxLen; omega) (by omega) hB ?_
    · intro u hu'
      obtain ⟨y, _, rfl⟩ := List.mem_map.1 hu'
      rfl
    · intro v' w' hown' hg _
      exact h v' w' (by simpa [OwnS] using hown') hg

set_option maxRecDepth 100000 in
set_option maxHeartbeats 1000000 in
theorem name_any (w0 w : World) (B g n cap : Nat) (ao : Option Addr) (hn : n ≤ 1048576) (hB : B ≤ g) (hd : Hid (Drw w0 w B g ao n cap)) :
    Calls Try.prog 62 #[.pointer (some ⟨g, 0, none⟩)] w fun e w' => (∃ t : ByteArray, t.size ≤ 13 ∧ e = .returned (.string t)) ∧ Hid (Drw w0 w' B g ao n cap) := by
  have hlt := hd.out.lt
  have hr : ∀ (a b c d e : ByteArray), a.size ≤ 13 → b.size ≤ 13 → c.size ≤ 13 → d.size ≤ 13 → e.size ≤ 13 → Hid (RowS (w.alloc (.cells #[.string a, .string b, .string c, .string d, .string e] 9)) w.heap.size 5) := fun a b c d e h1 h2 h3 h4 h5 =>
    rowS_new w [a, b, c, d, e] 5 rfl (by simp [h1, h2, h3, h4, h5])
  have hd2 : ∀ o, Hid (Drw w0 (w.alloc o) B g ao n cap) := fun o => hd.out.alloc hB o
  go_enter Try.func62, Try.ntmps62
  go_wp2_with (first | (go_at_call 86; refine (pick_any w0 _ B g n cap w.heap.size 5 ao hn hB (by omega) (by omega) (by simp) (by omega) (hr _ _ _ _ _ (by decide) (by decide) (by decide) (by decide) (by decide)) (hd2 _)).mono ?_; rintro e w1 ⟨⟨t, ht, rfl⟩, hd1⟩))
  go_ret
  exact ⟨⟨t, ht, rfl⟩, hd1⟩

set_option maxRecDepth 100000 in
set_option maxHeartbeats 1000000 in
theorem same_same (v1 v2 : Value) (ts : List It) (B1 B2 : Nat) (w : World) (h1 : SlI w B1 v1 ts) (h2 : SlI w B2 v2 ts) (hl : ts.length ≤ 1048576) :
    Calls Try.prog 22 #[v1, v2] w fun e w' => e = .returned (.bool true) ∧ Below w.heap.size w w' := by
  obtain ⟨a1, c1, rfl, x1⟩ := h1.items
  obtain ⟨a2, c2, rfl, x2⟩ := h2.items
  have X1 : Hid (ItemsAt w a1 ts) := x1
  have X2 : Hid (ItemsAt w a2 ts) := x2
  clear h1 h2 x1 x2
  go_enter Try.func22, Try.ntmps22
  go_wp2_with fail
  go_loopw [5] (fun i wr => ∃ k : Nat, k ≤ ts.length ∧ i = .int .i64 k ∧ Hid (Below w.heap.size w wr)) (fun i _ => ts.length - (intOf i).toNat)
  case atStart => exact ⟨0, by omega, rfl, Below.refl _ _⟩
  case round =>
    obtain ⟨k, hk, rfl, hb⟩ := hrel
    by_cases hlt : k < ts.length
    · obtain ⟨b1, off1, rfl, hbb1, h0, h1, h2, h3⟩ := X1.out.stays hb.out k hlt
      obtain ⟨b2, off2, rfl, hbb2, g0, g1, g2, g3⟩ := X2.out.stays hb.out k hlt
      have HP : Hid (∃ x : It, x = ts[k]) := ⟨_, rfl⟩
      obtain ⟨⟨q, f, lv, tx⟩, hp⟩ := HP.out
      rw [← hp] at h0 h1 h2 h3 g0 g1 g2 g3
      clear hp HP
      dsimp only at h0 h1 h2 h3 g0 g1 g2 g3
      have i0 : (0 : Int) ≤ (k : Int) := by omega
      have i1 : (k : Int) < (ts.length : Int) := by omega
      go_wp2_with fail
      go_region
      have B1 : Hid (Below w.heap.size w wr.drew) := hb.out.drew
      clear h0 h1 h2 h3 g0 g1 g2 g3
      generalize wr.drew = W1 at *
      go_wp2_with fail
      go_roundw
      case rel => exact ⟨k + 1, by omega, by go_num, B1⟩
      case measure => simp [intOf]; omega
    · go_wp2_with fail
      go_ret
      exact ⟨rfl, hb.out⟩

/-- lists of ints and of texts lie apart. -/
theorem int_text_ne {w : World} {B B' : Nat} {v u : Value} {xs : List Int} {ss : List ByteArray} (h : OwnI w B v xs) (hu : OwnS w B' u ss) : ∀ k, v.ownBlock = some k → u.ownBlock ≠ some k := by
  intro k e e2
  rcases h.2 with ⟨hn, _⟩ | ⟨g, cap, cur, rfl, hbg, hg, rest⟩
  · subst hn; cases e
  · cases e
    rcases hu.2 with ⟨hn, _⟩ | ⟨g2, cap2, cur2, rfl, hbg2, hg2, rest2⟩
    · subst hn; cases e2
    · cases e2
      rw [hg] at hg2
      simp at hg2
theorem OwnI_but {w w' : World} {B g : Nat} {v : Value} {ss : List Int} (h : OwnI w B v ss) (hk : KeepBut g w w') (hg : ∀ k, v.ownBlock = some k → k ≠ g) : OwnI w' B v ss := by
  refine ⟨h.1, ?_⟩
  rcases h.2 with hn | ⟨k, cap, cur, rfl, hbg, hk2, rest⟩
  · exact .inl hn
  · exact .inr ⟨k, cap, cur, rfl, hbg, (hk.block k (Array.getElem?_eq_some_iff.1 hk2).1 (hg k rfl)).trans hk2, rest⟩
theorem OwnS_but {w w' : World} {B g : Nat} {v : Value} {ss : List ByteArray} (h : OwnS w B v ss) (hk : KeepBut g w w') (hg : ∀ k, v.ownBlock = some k → k ≠ g) : OwnS w' B v ss := by
  refine ⟨h.1, ?_⟩
  rcases h.2 with hn | ⟨k, cap, cur, rfl, hbg, hk2, rest⟩
  · exact .inl hn
  · exact .inr ⟨k, cap, cur, rfl, hbg, (hk.block k (Array.getElem?_eq_some_iff.1 hk2).1 (hg k rfl)).trans hk2, rest⟩
end Go.Proofs.Ytnhnpneedcjcfaa
