/- The walks over drawn lists of items. -/
import Derived.Test.YtjijpcfdkmbgpaaDy
import Derived.Test.YtjijpcfdkmbgpaaPt
namespace Go.Proofs.Ytjijpcfdkmbgpaa
open Go.RowKit Pl
set_option linter.unusedVariables false

theorem SlI.but {w w' : World} {B g : Nat} {v : Value} {ts : List It} (h : SlI w B v ts) (hk : KeepBut g w w') (hg : g < B) : SlI w' B v ts :=
  h.keep fun k hb hl => hk.block k hl (by have := (h.lt k hb).1; omega)
/-- what lies behind the beginning has turned. -/
theorem Drw.push {w0 w w' : World} {B g n cap : Nat} {ao : Option Addr} (h : Drw w0 w B g ao n cap) (hb : Below w0.heap.size w w') (hg : g < w0.heap.size) (hB : B ≤ g) : Hid (Drw w0 w' B g ao n cap) :=
  ⟨CurAt.stays h.1 hb hg, h.2.1.stays hb (by omega), ⟨hb.os.trans h.2.2.os, hb.tape.trans h.2.2.tape, hb.output.trans h.2.2.output, Nat.le_trans h.2.2.size hb.size, fun k hk hkg => (hb.block k hk).trans (h.2.2.block k hk hkg)⟩⟩
theorem iGo_snoc {ts : List It} {y : It} (h : iGo 0 ts = true) (hlt : ∀ x ∈ ts, x.1 < y.1) (hy : itB y.1 y.2.1 y.2.2.1 y.2.2.2 = true) : iGo 0 (ts ++ [y]) = true := by
  obtain ⟨ha, hb⟩ := iGo_asc ts 0 h
  refine iGo_of _ 0 ?_ fun x hx => ?_
  · unfold Asc
    rw [List.pairwise_append]
    refine ⟨ha, List.pairwise_singleton _ _, fun a ha' b hb' => ?_⟩
    rw [List.mem_singleton.1 hb']
    exact hlt a ha'
  · rcases List.mem_append.1 hx with h1 | h1
    · exact hb x h1
    · rw [List.mem_singleton.1 h1]
      have := itB_range hy
      exact ⟨by omega, hy⟩
/-- what is drawn up to i. -/
def Upto (ts : List It) (i : Nat) : Prop := iGo 0 ts = true ∧ (∀ x ∈ ts, x.1 < (i : Int)) ∧ ts.length < i ∧ ∀ x ∈ ts, x.2.2.2.size ≤ 13
theorem upto_next {ts : List It} {i : Nat} (h : Upto ts i) : Upto ts (i + 1) := ⟨h.1, fun x hx => by have := h.2.1 x hx; omega, by have := h.2.2.1; omega, h.2.2.2⟩
theorem upto_push {ts : List It} {i y : Nat} {t : ByteArray} (h : Upto ts i) (h1 : 1 ≤ i) (h2 : i ≤ 9) (hy : y < 2) (ht : t.size ≤ 13) : Upto (ts ++ [((i : Int), 1 + (i : Int) % 3, 1 + (y : Int), t)]) (i + 1) := by
  refine ⟨iGo_snoc h.1 h.2.1 (itB_yes ?_), fun x hx => ?_, by have := h.2.2.1; simp; omega, fun x hx => ?_⟩
  · unfold ItOk
    refine ⟨by dsimp only; omega, by dsimp only; omega, by dsimp only; omega, by dsimp only; omega⟩
  · rcases List.mem_append.1 hx with h3 | h3
    · have := h.2.1 x h3; omega
    · rw [List.mem_singleton.1 h3]; show (i : Int) < _; omega
  · rcases List.mem_append.1 hx with h3 | h3
    · exact h.2.2.2 x h3
    · rw [List.mem_singleton.1 h3]; exact ht

set_option maxRecDepth 100000 in
set_option maxHeartbeats 2000000 in
theorem items_any (w0 w : World) (B g n cap : Nat) (ao : Option Addr) (hn : n ≤ 1048576) (hB : B ≤ g) (hd : Hid (Drw w0 w B g ao n cap)) :
    Calls Try.prog 61 #[.pointer (some ⟨g, 0, none⟩)] w fun e w' => (∃ v ts, e = .returned v ∧ SlI w' w.heap.size v ts ∧ Upto ts 10) ∧ Hid (Drw w w' B g ao n cap) := by
  have hg := hd.out.lt
  have S0 : Hid (SlI (w.alloc (.cells #[] 26)) w.heap.size (.slice (some ⟨w.heap.size, 0, none⟩) 0 0) []) := SlI.made w w.heap.size (Nat.le_refl _)
  have D0 : Hid (Drw w (w.alloc (.cells #[] 26)) B g ao n cap) := hd.out.here.out.alloc hB _
  clear hd
  go_enter Try.func61, Try.ntmps61
  go_wp2
  go_loopw [3, 4] (fun v j wr => ∃ (i : Nat) (ts : List It), 1 ≤ i ∧ i ≤ 10 ∧ j = .int .i64 i ∧ Hid (SlI wr w.heap.size v ts) ∧ Hid (Upto ts i) ∧ Hid (Drw w wr B g ao n cap)) (fun _ j _ => 10 - (intOf j).toNat)
  case atStart => exact ⟨1, [], by omega, by omega, rfl, S0, (⟨rfl, fun x hx => (by cases hx), (by simp), fun x hx => (by cases hx)⟩ : Upto [] 1), D0⟩
  case round =>
    clear S0 D0
    obtain ⟨i, ts, hi1, hi2, rfl, hS, hU, hD⟩ := hrel
    go_wp2_with fail
    refine (below_small wr wr B g n cap 10 ao hn hB (by omega) (by omega) hD.out.here).mono ?_
    rintro e w1 ⟨⟨x, hx, rfl⟩, hd1⟩
    have S1 : Hid (SlI w1 w.heap.size u3 ts) := hS.out.but hd1.out.2.2 hg
    have D1 := hD.out.back hd1.out
    clear hd1 hS hD
    by_cases hix : i ≤ x
    · go_wp2_with fail
      refine (once_any w1 w1 B g n cap 4 ao hn hB (by omega) (by omega) D1.out.here).mono ?_
      rintro e w2 ⟨⟨b, rfl⟩, hd2⟩
      have S2 : Hid (SlI w2 w.heap.size u3 ts) := S1.out.but hd2.out.2.2 hg
      have D2 := D1.out.back hd2.out
      clear hd2 S1 D1
      cases b with
      | true =>
        have hU2 : Hid (Upto ts (i + 1)) := upto_next hU.out
        go_wp2_with fail
        go_roundw
        case rel => exact ⟨i + 1, ts, by omega, by omega, by go_num, S2, hU2, D2⟩
        case measure => simp [intOf]; omega
      | false =>
        go_wp2_with fail
        refine (of_two w2 w2 B g n cap ao i hn hB (by omega) D2.out.here).mono ?_
        rintro e w3 ⟨⟨y, t, hy, ht, rfl⟩, hd3⟩
        have S3 : SlI w3 w.heap.size u3 ts := S2.out.but hd3.out.2.2 hg
        have D3 := D2.out.back hd3.out
        have z3 : w.heap.size ≤ w3.heap.size := D3.out.2.2.size
        have hlt : ts.length ≤ 1048576 := by have := hU.out.2.2.1; omega
        clear hd3 S2 D2
        go_wp2_with (at_builtin; refine wpList_pushIt rfl _ _ 24 rfl Try.underlying24 w.heap.size u3 ts rfl S3 ((i : Int), 1 + (i : Int) % 3, 1 + (y : Int), t) rfl hlt z3 ?_; intro v4 w4 S4 g4 b4 _)
        have S4 : Hid (SlI w4 w.heap.size v4 (ts ++ [((i : Int), 1 + (i : Int) % 3, 1 + (y : Int), t)])) := S4
        have D4 := D3.out.push b4 hg hB
        have hU2 : Hid (Upto (ts ++ [((i : Int), 1 + (i : Int) % 3, 1 + (y : Int), t)]) (i + 1)) := upto_push hU.out hi1 (by omega) hy ht
        go_roundw
        case rel => exact ⟨i + 1, _, by omega, by omega, by go_num, S4, hU2, D4⟩
        case measure => simp [intOf]; omega
    · have hU2 : Hid (Upto ts 10) := by
        obtain ⟨h1, h2, h3, h4⟩ := hU.out
        exact ⟨h1, fun x hx => by have := h2 x hx; omega, by omega, h4⟩
      go_wp2_with fail
      go_ret
      exact ⟨⟨_, ts, rfl, S1.out, hU2.out⟩, D1⟩
end Go.Proofs.Ytjijpcfdkmbgpaa
