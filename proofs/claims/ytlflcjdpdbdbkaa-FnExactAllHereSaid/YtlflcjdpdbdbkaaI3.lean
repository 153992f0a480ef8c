/- The walks over the specification's ReadItem, over two items compared, and over the law on ReadItem. -/
import Derived.Test.YtlflcjdpdbdbkaaSc
import Derived.Test.YtlflcjdpdbdbkaaR4
namespace Go.Proofs.Ytlflcjdpdbdbkaa
open Go.RowKit Pl
set_option linter.unusedVariables false

/-- what the reading of a short text comes to. -/
def ShF (s : ByteArray) (A : Nat) (b : Bool) (t : ByteArray) (i : Nat) (b' : Bool) : Prop := ∃ n j b1, VarF s A b n j b1 ∧ TakeF s j n b1 t i b'

/-- what the specification's reader has found of an item. -/
def FndI (s : ByteArray) (q f l : Nat) (t : ByteArray) (b : Bool) : Prop := ∃ i b1 j b2 k b3 A, VarF s 0 false q i b1 ∧ OneF s i b1 f j b2 ∧ OneF s j b2 l k b3 ∧ ShF s k b3 t A b

theorem VarF.good {s : ByteArray} {A n i m j : Nat} {b : Bool} (h : VarF s A false n i b) (hr : rv s A = some (m, j)) : n = m ∧ i = j ∧ b = false := by
  rcases h with ⟨_, h1, h2⟩ | ⟨_, _, _, h4⟩
  · rw [hr] at h1
    simp only [Option.some.injEq, Prod.mk.injEq] at h1
    exact ⟨h1.1.symm, h1.2.symm, h2⟩
  · rcases h4 with h4 | h4
    · cases h4
    · rw [hr] at h4; cases h4
theorem OneF.good {s : ByteArray} {A n i m j : Nat} {b : Bool} (h : OneF s A false n i b) (hr : oneP s A = some (m, j)) : n = m ∧ i = j ∧ b = false := by
  rcases h with ⟨_, h1, h2⟩ | ⟨_, _, _, h4⟩
  · rw [hr] at h1
    simp only [Option.some.injEq, Prod.mk.injEq] at h1
    exact ⟨h1.1.symm, h1.2.symm, h2⟩
  · rcases h4 with h4 | h4
    · cases h4
    · rw [hr] at h4; cases h4
theorem TakeF.good {s t : ByteArray} {A k i : Nat} {b : Bool} (h : TakeF s A k false t i b) (hr : A + k ≤ s.size) : t = s.extract A (A + k) ∧ i = A + k ∧ b = false := by
  rcases h with ⟨_, _, h1, h2, h3⟩ | ⟨_, _, _, h4⟩
  · exact ⟨h1, h2, h3⟩
  · rcases h4 with h4 | h4
    · cases h4
    · omega

/-- an item that is there is found. -/
theorem FndI.found {s t t' : ByteArray} {q f l q' f' l' : Nat} {b : Bool} (h : FndI s q f l t b) (hs : s.data.toList = itemL q' f' l' t') (ho : ItOk q' f' l' t') : q = q' ∧ f = f' ∧ l = l' ∧ t = t' ∧ b = false := by
  have n := ho.nats
  obtain ⟨i', h0, h1, h2, k', h3, h4, h5⟩ := item_at hs (by omega) (by omega) (by omega) (by omega)
  obtain ⟨i, b1, j, b2, k, b3, A, g0, g1, g2, m, p, b4, g3, g4⟩ := h
  obtain ⟨rfl, rfl, rfl⟩ := g0.good h0
  obtain ⟨rfl, rfl, rfl⟩ := g1.good h1
  obtain ⟨rfl, rfl, rfl⟩ := g2.good h2
  obtain ⟨rfl, rfl, rfl⟩ := g3.good h3
  obtain ⟨rfl, rfl, rfl⟩ := g4.good (by omega)
  exact ⟨rfl, rfl, rfl, h4, rfl⟩

theorem ansI_missed {s t : ByteArray} {q f l : Nat} {b : Bool} (h : FndI s q f l t b) (hb : b = true ∨ ¬ ItOk q f l t ∨ itemS q f l t ≠ s) : AnsI s 0 0 0 ByteArray.empty false := by
  refine .inr ⟨rfl, rfl, rfl, rfl, rfl, fun q' f' l' t' ho e => ?_⟩
  obtain ⟨rfl, rfl, rfl, rfl, rfl⟩ := h.found e ho
  rcases hb with hb | hb | hb
  · cases hb
  · exact hb ho
  · exact hb (rt_ext (by rw [itemS_list, e]))
theorem ansI_hit {s t : ByteArray} {q f l : Nat} (ho : ItOk q f l t) (h : itemS q f l t = s) : AnsI s q f l t true := .inl ⟨rfl, ho, by rw [← h, itemS_list]⟩

set_option maxRecDepth 100000 in
set_option maxHeartbeats 1000000 in
theorem eqItem_same (q f l : Int) (t : ByteArray) (w : World) :
    Calls Try.prog 46 #[.agg #[.int .i64 q, .int .i64 f, .int .i64 l, .string t], .agg #[.int .i64 q, .int .i64 f, .int .i64 l, .string t]] w fun e w' => e = .returned (.bool true) ∧ Below w.heap.size w w' := by
  go_enter Try.func46, Try.ntmps46
  go_wp2
  go_ret
  exact ⟨rfl, ((Below.refl _ _).alloc (Nat.le_refl _) _).alloc (by simp) _⟩
end Go.Proofs.Ytlflcjdpdbdbkaa
