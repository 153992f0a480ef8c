/- The walks over the reading of a packet and over the program's ReadItem. -/
import Derived.Test.YtlflcjdpdbdbkaaR3
namespace Go.Proofs.Ytlflcjdpdbdbkaa
open Go.RowKit Pl
set_option linter.unusedVariables false

theorem keep_out {w W w1 w2 : World} {gm : Nat} (h : Below w.heap.size w W) (hk : Keep2 gm (w.heap.size + 1) W w1) (ht : TurnAt w.heap.size w1 w2) : KeepBut gm w w2 :=
  ⟨ht.os.trans (hk.os.trans h.os), ht.tape.trans (hk.tape.trans h.tape), ht.output.trans (hk.output.trans h.output), by have := h.size; have := hk.size; have := ht.size; omega,
    fun k h1 h2 => (ht.block k (by omega)).trans ((hk.block k (Nat.lt_of_lt_of_le h1 h.size) h2 (by omega)).trans (h.block k h1))⟩

/-- what the reading of an item's packet answers. -/
def RpAns (s : ByteArray) (gm : Nat) (w : World) (e : Ending) (w' : World) : Prop :=
  (e = .returned (.bool false) ∧ itemP s = none ∧ KeepBut gm w w') ∨
  ∃ (q f l A : Nat) (t : ByteArray), e = .returned (.bool ((A : Int) == (s.size : Int))) ∧ itemP s = some (q, f, l, t, A) ∧ ItAt w' gm q f l t ∧ KeepBut gm w w'

theorem ItAt.agg {w : World} {g : Nat} {q f l : Int} {t : ByteArray} (h : ItAt w g q f l t) (q' f' l' : Int) (t' : ByteArray) :
    ItAt ((((w.setCell ⟨g, 0, none⟩ (.int .i64 q')).setCell ⟨g, 1, none⟩ (.int .i64 f')).setCell ⟨g, 2, none⟩ (.int .i64 l')).setCell ⟨g, 3, none⟩ (.string t')) g q' f' l' t' :=
  (((h.set0 q').set1 f').set2 l').set3 t'

end Go.Proofs.Ytlflcjdpdbdbkaa
