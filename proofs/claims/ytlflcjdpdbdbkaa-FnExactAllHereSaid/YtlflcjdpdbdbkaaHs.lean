/- A walk that stops at a store or an append; slices of items beside boxes. No function of the program is named here. -/
import Derived.Test.YtlflcjdpdbdbkaaBx
import Derived.Test.YtlflcjdpdbdbkaaNu
import Derived.Test.YtlflcjdpdbdbkaaMk
namespace Go.Proofs.Ytlflcjdpdbdbkaa
open Go.RowKit Pl
set_option linter.unusedVariables false

/-- a walk that stops. -/
structure Stp (p : Prop) : Prop where
  out : p
theorem Stp.here {p : Prop} (h : Stp p) : p := h.out
theorem Stp.go {p : Prop} (h : p) : Stp p := ⟨h⟩
theorem wpList_haltS {P : Program} {w : World} {ops : Array Oper} {rest : List Oper} {o : Oper} {a : Act} {Q : Exit → Act → World → Prop} (t : TypeId) (x y : Operand) (ho : o.op = .store t x y) (h : Stp (wpList P ops Q (o :: rest) a w)) : wpList P ops Q (o :: rest) a w := h.out
theorem wpList_haltA {P : Program} {w : World} {ops : Array Oper} {rest : List Oper} {o : Oper} {a : Act} {Q : Exit → Act → World → Prop} (x y : Operand) (ts : Array TypeId) (ho : o.op = .call { callee := .builtin .append, args := #[x, y], argTypes := ts }) (h : Stp (wpList P ops Q (o :: rest) a w)) : wpList P ops Q (o :: rest) a w := h.out

theorem bl_next {w0 w w' : World} {B : Nat} (h : Below B w0 w) (hb : Below w.heap.size w w') (hB : B ≤ w.heap.size) : Below B w0 w' := h.trans (hb.mono hB)
theorem bl_nxt {w0 w w' : World} (h : Below w0.heap.size w0 w) (hb : Below w.heap.size w w') : Below w0.heap.size w0 w' := h.trans (hb.mono h.size)
theorem sl_bx_ne {w : World} {B g T : Nat} {v : Value} {ts : List It} {cs : List Value} (h : SlI w B v ts) (hB : Bx w g T cs) (hT : T ≠ 69) : v.ownBlock ≠ some g := by
  intro e
  rcases h.2 with ⟨hn, _⟩ | ⟨k, off, cap, cur, rfl, hbg, hk, rest⟩
  · subst hn; cases e
  · cases e
    unfold Bx at hB
    rw [hk] at hB
    simp at hB
    exact hT hB.2.symm
theorem SlI.past {w w' : World} {B g T : Nat} {v : Value} {ts : List It} {cs : List Value} (h : SlI w B v ts) (hB : Bx w g T cs) (ht : TurnAt g w w') (hT : T ≠ 69) : SlI w' B v ts := h.keep fun k hk _ => ht.block k (fun e => sl_bx_ne h hB hT (e ▸ hk))
theorem SlI.keepb {w w' : World} {B g T : Nat} {v : Value} {ts : List It} {cs : List Value} (h : SlI w B v ts) (hB : Bx w g T cs) (ht : KeepBut g w w') (hT : T ≠ 69) : SlI w' B v ts := h.keep fun k hk hl => ht.block k hl (fun e => sl_bx_ne h hB hT (e ▸ hk))
theorem SlI.zero (w : World) (B : Nat) : SlI w B (.slice none 0 0) [] := Sl.zero w 69 4 B
theorem SlI.sv {w : World} {B : Nat} {v : Value} {ts : List It} (h : SlI w B v ts) : ∃ s : Sv, v = s.v ∧ s.n = ts.length := by
  obtain ⟨ao, cap, rfl⟩ := Sl.form h
  exact ⟨⟨ao, ts.length, cap⟩, rfl, rfl⟩
/-- a list of items that is read. -/
def RIt (w : World) (s : Sv) (ts : List It) : Prop := s.n = ts.length ∧ ItemsAt w s.a ts
theorem RIt.stays {w w' : World} {s : Sv} {ts : List It} (h : RIt w s ts) (hb : Below w.heap.size w w') : RIt w' s ts := ⟨h.1, h.2.stays hb⟩
theorem SlI.rit {w : World} {B : Nat} {s : Sv} {ts : List It} (h : SlI w B s.v ts) : RIt w s ts := by
  obtain ⟨ao, cap, he, hx⟩ := h.items
  unfold Sv.v at he
  simp only [Value.slice.injEq] at he
  obtain ⟨h1, h2, h3⟩ := he
  exact ⟨h2, by rw [h1]; exact hx⟩
theorem bx_next (w : World) (o : Obj) (T : TypeId) (cs : List Value) : Bx ((w.alloc o).alloc (.cells cs.toArray T)) (w.heap.size + 1) T cs := by
  have h := Bx.new (w.alloc o) T cs
  rw [show (w.alloc o).heap.size = w.heap.size + 1 by simp] at h
  exact h
theorem grown_box {w w' : World} {row : Option Nat} (o : Obj) (h : (w.alloc o).grownBy w' row) : w.grownBy w' row := grown_tr (grown_blM ((Below.refl _ _).alloc (Nat.le_refl _) o)) h
theorem Try.sizeIs : (Try.prog.info? 27).map (·.size) = some 1 := by kernel_rfl
theorem Try.sizeBu : (Try.prog.info? 29).map (·.size) = some 4 := by kernel_rfl
theorem Try.sizeLBu : (Try.prog.info? 24).map (·.size) = some 4 := by kernel_rfl
end Go.Proofs.Ytlflcjdpdbdbkaa
