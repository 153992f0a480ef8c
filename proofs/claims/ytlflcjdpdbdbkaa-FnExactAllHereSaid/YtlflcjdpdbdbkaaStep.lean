/- A law for bytes appended inside a statement that leaves its order open; no program is named here. -/
import Derived.Test.YtlflcjdpdbdbkaaOwn
import Derived.Deep.RegionLaw
import Derived.Deep.AppendLies
namespace Go.Proofs.Ytlflcjdpdbdbkaa.Pl
open Go Go.RowKit

theorem step_pushB {P : Program} {ops : Array Oper} {o : Oper} {a : Act} {W : World} {K : Act → World → Prop} {Q : Exit → Act → World → Prop} {E : Prop}
    (hg : o.guard = none) (s x : Operand) (t e : TypeId) (hop : o.op = Op.call { callee := Callee.builtin Builtin.append, args := #[s, x], argTypes := #[t, t] })
    (ht : P.underlying t = some (.slice e)) (hinfo : (P.info? e).map (fun i => (i.zero, i.size, i.bytes)) = some (some (.int .u8 0), 1, 1))
    (B : Nat) (v : Value) (xs : List Int) (hs : a.eval s = v) (hown : OwnB W B e v xs)
    (bs : List Int) (ad : Addr) (m c : Nat) (hx : a.eval x = .slice (some ad) m c) (hm : bs.length = m)
    (hc : ∀ j u, (bs.map (Value.int .u8))[j]? = some u → W.cell? (ad.add j) = some u)
    (hn : xs.length + m < 70368744177664) (hB : B ≤ W.heap.size)
    (hK : ∀ v' w', OwnB w' B e v' (xs ++ bs) → Below B W w' → K (a.put o.dst v') w') :
    if Region.wanted o (yielded ops a.tmps) = true then Oper.wp P o a W K Q else E := by
  have hw : Region.wanted o (yielded ops a.tmps) = true := by simp [Region.wanted, hg]
  rw [if_pos hw]
  obtain ⟨i0, hi, hz0, hz1, hz2⟩ := info_parts hinfo
  refine wp_append_own W s x t hop B e i0 (.int .u8 0) 1 1 ht hi hz0 hz1 hz2 rfl (by decide) v xs.length (xs.map (Value.int .u8)) hs hown ad m c (bs.map (Value.int .u8)) hx (by simp [hm]) hc (ints_oneCell _ _) (by unfold maxLen; omega) (by omega) hB ?_
  intro v' w' hown' hgr _
  refine hK v' w' ?_ ?_
  · subst hm
    simpa [OwnB] using hown'
  · exact (Below.refl B W).grown hgr hB fun k hk => (World.ownsRow.lt hown k hk).1

theorem OwnB.drew {w : World} {B : Nat} {e : TypeId} {v : Value} {xs : List Int} (h : OwnB w B e v xs) : OwnB w.drew B e v xs := World.ownsRow.drew h

/-- a figure of base 16. -/
def figI (x : Nat) : Int := if x < 10 then 48 + (x : Int) else 87 + (x : Int)

/-- two figures for each byte. -/
def hexI (l : List UInt8) : List Int := l.flatMap fun c => [figI (c.toNat / 16), figI (c.toNat % 16)]

theorem hexI_length (l : List UInt8) : (hexI l).length = 2 * l.length := by
  induction l with
  | nil => rfl
  | cons c l ih => simp [hexI] at ih ⊢; omega

theorem take_snoc (s : ByteArray) (k : Nat) (h : k < s.size) : s.data.toList.take (k + 1) = s.data.toList.take k ++ [s[k]] := by
  rw [List.take_succ_eq_append_getElem (by simpa using h)]; rfl

theorem hexI_snoc (s : ByteArray) (k : Nat) (h : k < s.size) :
    hexI (s.data.toList.take (k + 1)) = hexI (s.data.toList.take k) ++ [figI ((s[k]'h).toNat / 16), figI ((s[k]'h).toNat % 16)] := by
  rw [take_snoc s k h]; simp [hexI]

def hexS (s : ByteArray) : ByteArray := strOfNums (hexI s.data.toList)

end Go.Proofs.Ytlflcjdpdbdbkaa.Pl
