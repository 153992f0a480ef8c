/- Laws for a slice of ints that the call itself has made, and for one that is handed in. No program is named here. -/
import Derived.Test.YtlflcjdpdbdbkaaOwn
import Derived.Test.YtlflcjdpdbdbkaaDr
import Derived.Laws.OwnMore
namespace Go.Proofs.Ytlflcjdpdbdbkaa.Pl
open Go Go.RowKit
set_option linter.unusedVariables false

/-- the slice v, made by the call in blocks from B on, holds the ints ss. -/
def OwnI (w : World) (B : Nat) (v : Value) (ss : List Int) : Prop := w.ownsRow B 3 1 v ss.length (ss.map (Value.int .i64))

theorem OwnI.alloc {w : World} {B : Nat} {v : Value} {ss : List Int} (h : OwnI w B v ss) (o : Obj) : OwnI (w.alloc o) B v ss := World.ownsRow.alloc h o

theorem OwnI.made (w : World) (B : Nat) (hb : B ≤ w.heap.size) : OwnI (w.alloc (.cells #[] 3)) B (.slice (some ⟨w.heap.size, 0, none⟩) 0 0) [] := by
  have := World.ownsRow_made (base := B) (e := 3) (size := 1) w #[] 0 hb (by decide) (by simp)
  simpa [OwnI] using this

theorem OwnI.form {w : World} {B : Nat} {v : Value} {ss : List Int} (h : OwnI w B v ss) : ∃ ao cap, v = .slice ao ss.length cap := by
  rcases h.2 with ⟨rfl, hn⟩ | ⟨g, cap, cur, rfl, _⟩
  · exact ⟨none, 0, by rw [hn]⟩
  · exact ⟨_, cap, rfl⟩

theorem OwnI.some {w : World} {B : Nat} {v : Value} {ss : List Int} (h : OwnI w B v ss) (h0 : 0 < ss.length) :
    ∃ g cap, v = .slice (some ⟨g, 0, none⟩) ss.length cap ∧ B ≤ g ∧ g < w.heap.size ∧ (∀ j, (hj : j < ss.length) → w.cell? ⟨g, j, none⟩ = some (.int .i64 ss[j])) ∧ ∀ j, w.frozen? ⟨g, j, none⟩ = false := by
  rcases h.2 with ⟨rfl, hn⟩ | ⟨g, cap, cur, rfl, hb, hg, _⟩
  · omega
  · refine ⟨g, cap, rfl, hb, (Array.getElem?_eq_some_iff.1 hg).1, fun j hj => ?_, fun j => World.ownsRow.frozenAt h j⟩
    have := World.ownsRow.cellAt h j (by omega)
    rw [this]
    simp [hj]

/-- what is owned below B' stays owned where nothing below B' has turned. -/
theorem OwnI.stays {w w' : World} {B B' : Nat} {v : Value} {ss : List Int} (h : OwnI w B v ss) (hb : Below B' w w') (hlt : ∀ k, v.ownBlock = Option.some k → k < B') : OwnI w' B v ss := by
  refine ⟨h.1, ?_⟩
  rcases h.2 with hn | ⟨g, cap, cur, rfl, hbg, hg, rest⟩
  · exact .inl hn
  · refine .inr ⟨g, cap, cur, rfl, hbg, ?_, rest⟩
    rw [hb.block g (hlt g rfl)]
    exact hg

theorem OwnI.lt {w : World} {B : Nat} {v : Value} {ss : List Int} (h : OwnI w B v ss) : ∀ k, v.ownBlock = Option.some k → B ≤ k ∧ k < w.heap.size := World.ownsRow.lt h

theorem OwnI.store {w : World} {B g cap : Nat} {ss : List Int} (h : OwnI w B (.slice (Option.some ⟨g, 0, none⟩) ss.length cap) ss) (k : Nat) (x : Int) :
    OwnI (w.setCell ⟨g, k, none⟩ (.int .i64 x)) B (.slice (Option.some ⟨g, 0, none⟩) ss.length cap) (ss.set k x) ∧ w.grownBy (w.setCell ⟨g, k, none⟩ (.int .i64 x)) (Option.some g) := by
  have := World.ownsRow.stored h k (.int .i64 x)
  refine ⟨?_, this.2⟩
  have h1 := this.1
  rw [← List.map_set] at h1
  simpa [OwnI] using h1

theorem wpList_pushI {P : Program} {w : World} {ops : Array Oper} {rest : List Oper} {o : Oper} {a : Act} {Q : Exit → Act → World → Prop}
    (hgd : o.guard = none) (s x : Operand) (t : TypeId) (ho : o.op = .call { callee := .builtin .append, args := #[s, x], argTypes := #[t, t] })
    (ht : P.underlying t = some (.slice 3)) (hinfo : (P.info? 3).map (fun i => (i.zero, i.size, i.bytes)) = some (some (.int .i64 0), 1, 8))
    (B : Nat) (v : Value) (xs : List Int) (hs : a.eval s = v) (hown : OwnI w B v xs) (b : Int)
    (hx : a.eval x = .slice (some ⟨w.heap.size, 0, none⟩) 1 1) (hn : xs.length < 4000000) (hB : B ≤ w.heap.size)
    (h : ∀ v' w', OwnI w' B v' (xs ++ [b]) → Below B w w' → wpList P ops Q rest (a.put o.dst v') w') :
    wpList P ops Q (o :: rest) a (w.alloc (.cells #[.int .i64 b] 3)) := by
  obtain ⟨i0, hi, hz0, hz1, hz2⟩ := info_parts hinfo
  refine wpList_append_own _ hgd s x t ho B 3 i0 (.int .i64 0) 1 8 ht hi hz0 hz1 hz2 rfl (by decide) v xs.length (xs.map (Value.int .i64)) hs (World.ownsRow.alloc hown _) ⟨w.heap.size, 0, none⟩ 1 1 [.int .i64 b] hx rfl ?_ ?_ ?_ ?_ ?_ ?_
  · intro j u hj
    match j, hj with
    | 0, hj => simp at hj; subst hj; simp [Addr.add]
  · intro u hu; simp at hu; subst hu; rfl
  · unfold maxLen; omega
  · omega
  · simp; omega
  · intro v' w' hown' hg _
    refine h v' w' ?_ ?_
    · simpa [OwnI] using hown'
    · refine ((Below.refl B w).alloc hB _).grown hg (by simp; omega) ?_
      intro k hk
      exact (World.ownsRow.lt hown k hk).1


theorem OwnI.down {w : World} {B B' : Nat} {v : Value} {ss : List Int} (h : OwnI w B v ss) (hB : B' ≤ B) : OwnI w B' v ss := by
  refine ⟨h.1, ?_⟩
  rcases h.2 with hn | ⟨g, cap, cur, rfl, hbg, rest⟩
  · exact .inl hn
  · exact .inr ⟨g, cap, cur, rfl, by omega, rest⟩

/-- a slice of ints, handed in. -/
def IntsAt (w : World) (ao : Option Addr) (ts : List Int) : Prop :=
  ∀ i (h : i < ts.length), ∃ b off, ao = some ⟨b, off, none⟩ ∧ b < w.heap.size ∧ w.cell? ⟨b, off + i, none⟩ = some (.int .i64 ts[i])

theorem IntsAt.stays {w w' : World} {ao : Option Addr} {ts : List Int} (h : IntsAt w ao ts) (hb : Below w.heap.size w w') : IntsAt w' ao ts := by
  intro i hi
  obtain ⟨b, off, h1, h2, h3⟩ := h i hi
  exact ⟨b, off, h1, Nat.lt_of_lt_of_le h2 hb.size, (hb.cell (p := ⟨b, off + i, none⟩) h2).trans h3⟩

/-- .. in a world whose blocks below B stand. -/
theorem IntsAt.keep {w w' : World} {ao : Option Addr} {ts : List Int} {B : Nat} (h : IntsAt w ao ts) (hb : Below B w w') (hB : w.heap.size ≤ B) : IntsAt w' ao ts := h.stays (hb.mono hB)

theorem OwnI.ints {w : World} {B : Nat} {v : Value} {ss : List Int} (h : OwnI w B v ss) : ∃ ao cap, v = .slice ao ss.length cap ∧ IntsAt w ao ss := by
  by_cases h0 : 0 < ss.length
  · obtain ⟨g, cap, rfl, h1, h2, h3, h4⟩ := h.some h0
    refine ⟨_, cap, rfl, fun i hi => ⟨g, 0, rfl, h2, ?_⟩⟩
    rw [Nat.zero_add]
    exact h3 i hi
  · obtain ⟨ao, cap, rfl⟩ := h.form
    exact ⟨ao, cap, rfl, fun i hi => by omega⟩

theorem OwnI.lit (w : World) (B : Nat) (ss : List Int) (hB : B ≤ w.heap.size) (hm : ss.length ≤ 4000000) : OwnI (w.alloc (.cells (ss.map (Value.int .i64)).toArray 3)) B (.slice (Option.some ⟨w.heap.size, 0, none⟩) ss.length ss.length) ss := by
  have := World.ownsRow_lit (base := B) (e := 3) (size := 1) w (ss.map (Value.int .i64)).toArray ss.length hB (by unfold maxLen; omega) (by simp)
  simpa [OwnI] using this
end Go.Proofs.Ytlflcjdpdbdbkaa.Pl
