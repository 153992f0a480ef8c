/- The walks over both Union. -/
import Derived.Test.YtjijpcfdkmbgpaaPs
import Derived.Test.YtjijpcfdkmbgpaaOp
namespace Go.Proofs.Ytjijpcfdkmbgpaa
open Go.RowKit Pl
set_option linter.unusedVariables false

theorem ins1_mem {ts : List It} {x y : It} (h : x ∈ ins1 ts y) : x ∈ ts ∨ x = y := by
  unfold ins1 at h
  split at h
  · exact .inl h
  · rcases List.mem_append.1 h with h | h
    · exact .inl (List.mem_filter.1 h).1
    · rcases List.mem_cons.1 h with h | h
      · exact .inr h
      · exact .inl (List.mem_filter.1 h).1
theorem ins1_right {ts : List It} {y : It} (h : iGo 0 ts = true) (hy : itB y.1 y.2.1 y.2.2.1 y.2.2.2 = true) : iGo 0 (ins1 ts y) = true := by
  obtain ⟨ha, hb⟩ := iGo_asc ts 0 h
  refine iGo_of _ 0 (ins1_asc ha) fun x hx => ?_
  rcases ins1_mem hx with h1 | rfl
  · exact hb x h1
  · have := itB_range hy
    exact ⟨by omega, hy⟩
theorem putAll_right : ∀ (xs ts : List It), iGo 0 ts = true → (∀ x ∈ xs, itB x.1 x.2.1 x.2.2.1 x.2.2.2 = true) → iGo 0 (putAll ts xs) = true
  | [], _, h, _ => h
  | x :: xs, ts, h, hx => putAll_right xs (ins1 ts x) (ins1_right h (hx x (List.mem_cons_self ..))) fun y hy => hx y (List.mem_cons_of_mem _ hy)
/-- what one list adds. -/
def uni1 (acc l : List It) : List It := if iGo 0 l = true then putAll acc l else acc
/-- the union. -/
def unionP (ls : List (List It)) : List It := ls.foldl uni1 []
theorem uni1_right {acc l : List It} (h : iGo 0 acc = true) : iGo 0 (uni1 acc l) = true := by
  unfold uni1
  split
  · rename_i hl
    exact putAll_right l acc h fun x hx => ((iGo_asc l 0 hl).2 x hx).2
  · exact h
theorem uniF_right : ∀ (ls : List (List It)) (acc : List It), iGo 0 acc = true → iGo 0 (ls.foldl uni1 acc) = true
  | [], _, h => h
  | l :: ls, acc, h => uniF_right ls (uni1 acc l) (uni1_right h)
theorem unionP_right (ls : List (List It)) : iGo 0 (unionP ls) = true := uniF_right ls [] rfl
theorem unionP_step {ls : List (List It)} {k : Nat} (hk : k < ls.length) : unionP (ls.take (k + 1)) = uni1 (unionP (ls.take k)) ls[k] := by
  unfold unionP
  rw [List.take_succ_eq_append_getElem hk, List.foldl_append]
  rfl

set_option maxRecDepth 100000 in
set_option maxHeartbeats 2000000 in
theorem union_any (ao : Option Addr) (cap : Nat) (ls : List (List It)) (w : World) (hx : Hid (IsAt w ao ls)) (hl : ls.length ≤ 1048576) (hm : Hid (∀ l ∈ ls, l.length ≤ 1048576)) (hs : Hid (∀ l ∈ ls, ∀ y ∈ l, y.2.2.2.size ≤ 1048576)) :
    Calls Try.prog 27 #[.slice ao ls.length cap] w fun e w' => ∃ v, e = .returned v ∧ SlI w' w.heap.size v (unionP ls) ∧ Below w.heap.size w w' := by
  have S0 : Hid (SlI (w.alloc (.cells #[] 26)) w.heap.size (.slice (some ⟨w.heap.size, 0, none⟩) 0 0) (unionP (ls.take 0))) := SlI.made w w.heap.size (Nat.le_refl _)
  have B0 : Hid (Below w.heap.size w (w.alloc (.cells #[] 26))) := (Below.refl _ _).alloc (Nat.le_refl _) _
  go_enter Try.func27, Try.ntmps27
  go_wp2
  go_loopw [3, 9] (fun u i wr => ∃ (k : Nat), k ≤ ls.length ∧ i = .int .i64 k ∧ Hid (SlI wr w.heap.size u (unionP (ls.take k))) ∧ Hid (Below w.heap.size w wr)) (fun _ i _ => ls.length - (intOf i).toNat)
  case atStart => exact ⟨0, Nat.zero_le _, rfl, S0, B0⟩
  case round =>
    clear S0 B0
    obtain ⟨k, hk, rfl, hS, hb⟩ := hrel
    by_cases hlt : k < ls.length
    · obtain ⟨b, off, ia, ic, rfl, hbb, hc, hit, _, _⟩ := hx.out.stays hb.out k hlt
      have HN := unionP_step hlt
      have hlm := hm.out _ (List.getElem_mem hlt)
      have hsm := hs.out _ (List.getElem_mem hlt)
      have HR : Hid (iGo 0 (unionP (ls.take k)) = true) := unionP_right _
      obtain ⟨l, hll⟩ : ∃ l, l = ls[k] := ⟨_, rfl⟩
      rw [← hll] at hc hit HN hlm hsm
      have HI : Hid (ItemsAt wr ia l) := hit
      have HSM : Hid (∀ y ∈ l, y.2.2.2.size ≤ 1048576) := hsm
      obtain ⟨L, hL⟩ : ∃ L, L = unionP (ls.take k) := ⟨_, rfl⟩
      rw [← hL] at HN HR hS
      have HN : Hid (unionP (ls.take (k + 1)) = uni1 L l) := HN
      clear hll hL hit hsm
      have i0 : (0 : Int) ≤ (k : Int) := by omega
      have i1 : (k : Int) < (ls.length : Int) := by omega
      go_wp2_with fail
      cases hi : iGo 0 l with
      | false =>
        refine (itemsB_is ia ic wr HI hlm hi).mono ?_
        rintro e w1 ⟨rfl, b1⟩
        have S1 : Hid (SlI w1 w.heap.size u3 (unionP (ls.take (k + 1)))) := by
          rw [HN.out]
          unfold uni1
          rw [if_neg (by rw [hi]; simp)]
          exact hS.out.below b1
        have B1 : Hid (Below w.heap.size w w1) := hb.out.trans (b1.mono hb.out.size)
        clear b1 hi hc
        go_wp2_with fail
        go_roundw
        case rel => exact ⟨k + 1, by omega, by go_num, S1, B1⟩
        case measure => simp [intOf]; omega
      | true =>
        refine (itemsB_is ia ic wr HI hlm hi).mono ?_
        rintro e w1 ⟨rfl, b1⟩
        have S1 : Hid (SlI w1 w.heap.size u3 L) := hS.out.below b1
        have B1 : Hid (Below w.heap.size w w1) := hb.out.trans (b1.mono hb.out.size)
        have HI1 : Hid (ItemsAt w1 ia l) := HI.out.stays b1
        have HU : Hid (unionP (ls.take (k + 1)) = putAll L l) := by
          show _ = _
          rw [HN.out]
          unfold uni1
          rw [if_pos hi]
        have hl60 : l.length ≤ 60 := iGo_short hi
        clear b1 hi hc HN
        go_wp2_with fail
        refine (copyItems_any ia ic l w1 HI1 hlm HSM).mono ?_
        rintro e w2 ⟨v2, rfl, C2, b2⟩
        have S2 : Hid (SlI w2 w.heap.size u3 L) := S1.out.below b2
        have B2 : Hid (Below w.heap.size w w2) := B1.out.trans (b2.mono B1.out.size)
        have LT : ∀ k, u3.ownBlock = some k → k < w1.heap.size := fun k hk => (S1.out.lt k hk).2
        have LC := C2.lt
        obtain ⟨vo, vc, rfl, Y2⟩ := C2.items
        have Y2 : Hid (ItemsAt w2 vo l) := Y2
        have A2 : Hid (Apart u3 vo) := fun k b off hk e => by
          have h1 := LT k hk
          have h2 := (LC b (by rw [e]; rfl)).1
          omega
        have HA : Hid (Asc L) := (iGo_asc L 0 HR.out).1
        have hL60 : L.length ≤ 60 := iGo_short HR.out
        have z2 : w.heap.size ≤ w2.heap.size := B2.out.size
        clear b2 S1 B1 LT LC C2 HI1
        go_wp2_with fail
        refine (put_any u3 L vo vc l w.heap.size w2 S2 HA Y2 A2 z2 (by omega)).mono ?_
        rintro e w3 ⟨v3, rfl, S3, b3⟩
        have S3 : Hid (SlI w3 w.heap.size v3 (unionP (ls.take (k + 1)))) := by rw [HU.out]; exact S3
        have B3 : Hid (Below w.heap.size w w3) := B2.out.trans b3
        clear b3 S2 B2
        go_wp2_with fail
        go_roundw
        case rel => exact ⟨k + 1, by omega, by go_num, S3, B3⟩
        case measure => simp [intOf]; omega
    · obtain rfl : k = ls.length := by omega
      go_wp2_with fail
      go_ret
      exact ⟨_, rfl, by have := hS.out; rwa [List.take_length] at this, hb.out⟩

set_option maxRecDepth 100000 in
set_option maxHeartbeats 2000000 in
theorem spUnion_any (ao : Option Addr) (cap : Nat) (ls : List (List It)) (w : World) (hx : Hid (IsAt w ao ls)) (hl : ls.length ≤ 1048576) (hm : Hid (∀ l ∈ ls, l.length ≤ 1048576)) :
    Calls Try.prog 45 #[.slice ao ls.length cap] w fun e w' => ∃ v, e = .returned v ∧ SlI w' w.heap.size v (unionP ls) ∧ Below w.heap.size w w' := by
  have S0 : Hid (SlI (w.alloc (.cells #[] 26)) w.heap.size (.slice (some ⟨w.heap.size, 0, none⟩) 0 0) (unionP (ls.take 0))) := SlI.made w w.heap.size (Nat.le_refl _)
  have B0 : Hid (Below w.heap.size w (w.alloc (.cells #[] 26))) := (Below.refl _ _).alloc (Nat.le_refl _) _
  go_enter Try.func45, Try.ntmps45
  go_wp2
  go_loopw [3, 4] (fun u i wr => ∃ (k : Nat), k ≤ ls.length ∧ i = .int .i64 k ∧ Hid (SlI wr w.heap.size u (unionP (ls.take k))) ∧ Hid (Below w.heap.size w wr)) (fun _ i _ => ls.length - (intOf i).toNat)
  case atStart => exact ⟨0, Nat.zero_le _, rfl, S0, B0⟩
  case round =>
    clear S0 B0
    obtain ⟨k, hk, rfl, hS, hb⟩ := hrel
    by_cases hlt : k < ls.length
    · have HN0 := unionP_step hlt
      have hlm := hm.out _ (List.getElem_mem hlt)
      have HR : Hid (iGo 0 (unionP (ls.take k)) = true) := unionP_right _
      have HXL : Hid (∀ W, Below w.heap.size w W → ∃ b off ia ic, ao = some ⟨b, off, none⟩ ∧ b < W.heap.size ∧ W.cell? ⟨b, off + k, none⟩ = some (.slice ia ls[k].length ic) ∧ ItemsAt W ia ls[k]) := fun W hW => by
        obtain ⟨b, off, ia, ic, h1, h2, h3, h4, _⟩ := hx.out.stays hW k hlt
        exact ⟨b, off, ia, ic, h1, h2, h3, h4⟩
      obtain ⟨l, hll⟩ : ∃ l, l = ls[k] := ⟨_, rfl⟩
      rw [← hll] at HXL HN0 hlm
      obtain ⟨L, hL⟩ : ∃ L, L = unionP (ls.take k) := ⟨_, rfl⟩
      rw [← hL] at HN0 HR hS
      have HN : Hid (unionP (ls.take (k + 1)) = uni1 L l) := HN0
      clear hll hL HN0
      have i0 : (0 : Int) ≤ (k : Int) := by omega
      have i1 : (k : Int) < (ls.length : Int) := by omega
      have S1 : Hid (SlI wr w.heap.size u3 (putAll L (l.take 0))) := hS
      have HB1 : Hid (Below w.heap.size w wr) := hb
      go_wp2_with fail
      go_loopw [3, 5] (fun u i wr2 => ∃ (j : Nat), j ≤ l.length ∧ i = .int .i64 j ∧ Hid (j = 0 ∨ iGo 0 l = true) ∧ Hid (SlI wr2 w.heap.size u (putAll L (l.take j))) ∧ Hid (Below w.heap.size w wr2)) (fun _ i _ => l.length - (intOf i).toNat)
      case atStart => exact ⟨0, Nat.zero_le _, rfl, (.inl rfl : (0 : Nat) = 0 ∨ iGo 0 l = true), S1, HB1⟩
      case round =>
        clear S1 HB1 hS hb
        obtain ⟨j, hj, rfl, hor, hS, hb⟩ := hrel
        obtain ⟨b, off, ia, ic, rfl, hbb, hc, hit⟩ := HXL.out wr hb.out
        have HI : Hid (ItemsAt wr ia l) := hit
        clear hit
        by_cases hjl : j < l.length
        · have hji : (j : Int) < (l.length : Int) := by omega
          cases hi : iGo 0 l with
          | false =>
            have HU : Hid (unionP (ls.take (k + 1)) = putAll L (l.take j)) := by
              have hj0 : j = 0 := by
                rcases hor.out with h | h
                · exact h
                · rw [hi] at h; cases h
              show _ = _
              rw [HN.out, hj0]
              unfold uni1
              rw [if_neg (by rw [hi]; simp)]
              rfl
            go_wp2_with fail
            refine (spItemsB_is ia ic wr HI hlm hi).mono ?_
            rintro e w1 ⟨rfl, b1⟩
            have S1 : Hid (SlI w1 w.heap.size u3 (unionP (ls.take (k + 1)))) := by rw [HU.out]; exact hS.out.below b1
            have B1 : Hid (Below w.heap.size w w1) := hb.out.trans (b1.mono hb.out.size)
            clear b1 hi hc hS hb HI
            go_wp2_with fail
            go_roundw
            case rel => exact ⟨k + 1, by omega, by go_num, S1, B1⟩
            case measure => simp [intOf]; omega
          | true =>
            go_wp2_with fail
            refine (spItemsB_is ia ic wr HI hlm hi).mono ?_
            rintro e w1 ⟨rfl, b1⟩
            have S1 : SlI w1 w.heap.size u3 (putAll L (l.take j)) := hS.out.below b1
            have B1 : Hid (Below w.heap.size w w1) := hb.out.trans (b1.mono hb.out.size)
            have HI1 := HI.out.stays b1
            have hc1 := (b1.cell (p := ⟨b, off + k, none⟩) hbb).trans hc
            obtain ⟨bb, oo, rfl, _, h0, h1, h2, h3⟩ := HI1 j hjl
            have HP : Hid (∃ x : It, x = l[j]) := ⟨_, rfl⟩
            obtain ⟨⟨q, f, lv, tx⟩, hp⟩ := HP.out
            rw [← hp] at h0 h1 h2 h3
            have HST : Hid (putAll L (l.take (j + 1)) = putP (putAll L (l.take j)) (q, f, lv, tx)) := by
              show _ = _
              rw [putAll_step hjl, ← hp]
              unfold putP
              have hall := (iGo_asc l 0 hi).2
              rw [if_pos ⟨putAll_right _ _ HR.out (fun x hx => (hall x (List.mem_of_mem_take hx)).2), by rw [hp]; exact (hall _ (List.getElem_mem hjl)).2⟩]
            have hPl : (putAll L (l.take j)).length ≤ 1048576 := by
              have hall := (iGo_asc l 0 hi).2
              have := iGo_short (putAll_right (l.take j) L HR.out (fun x hx => (hall x (List.mem_of_mem_take hx)).2))
              omega
            have HIT : Hid (iGo 0 l = true) := hi
            clear hp HP hc hS hb HI b1 HI1 hi
            dsimp only at h0 h1 h2 h3
            obtain ⟨uo, uc, rfl, Y1⟩ := S1.items
            have Y1 : Hid (ItemsAt w1 uo (putAll L (l.take j))) := Y1
            have j0 : (0 : Int) ≤ (j : Int) := by omega
            have z1 : w.heap.size ≤ w1.heap.size := B1.out.size
            obtain ⟨PL, hPL⟩ : ∃ PL, PL = putAll L (l.take j) := ⟨_, rfl⟩
            rw [← hPL] at Y1 hPl HST ⊢
            clear S1 hPL
            go_wp2_with fail
            refine (spPutItem_any uo uc PL q f lv tx w1 Y1 hPl).mono ?_
            rintro e w2 ⟨v2, rfl, S2, b2⟩
            have S2 : Hid (SlI w2 w.heap.size v2 (putAll L (l.take (j + 1)))) := by rw [HST.out]; exact S2.down z1
            have B2 : Hid (Below w.heap.size w w2) := B1.out.trans (b2.mono z1)
            clear b2 h0 h1 h2 h3 hc1
            go_wp2_with fail
            go_roundw
            case rel => exact ⟨j + 1, by omega, by go_num, (by first | exact (Or.inr HIT.out) | exact (Or.inr trivial)), S2, B2⟩
            case measure => simp [intOf]; omega
        · have HU : Hid (unionP (ls.take (k + 1)) = putAll L (l.take j)) := by
            show _ = _
            rw [HN.out]
            unfold uni1
            have hjj : j = l.length := by omega
            have hi : iGo 0 l = true := by
              rcases hor.out with h | h
              · have : l = [] := List.eq_nil_of_length_eq_zero (by omega)
                rw [this]; rfl
              · exact h
            rw [if_pos hi, hjj, List.take_length]
          have hji : ¬ (j : Int) < (l.length : Int) := by omega
          have S1 : Hid (SlI wr w.heap.size u3 (unionP (ls.take (k + 1)))) := by rw [HU.out]; exact hS.out
          clear HI hS
          go_wp2_with fail
          go_roundw
          case rel => exact ⟨k + 1, by omega, by go_num, S1, hb⟩
          case measure => simp [intOf]; omega
    · obtain rfl : k = ls.length := by omega
      go_wp2_with fail
      go_ret
      exact ⟨_, rfl, by have := hS.out; rwa [List.take_length] at this, hb.out⟩
end Go.Proofs.Ytjijpcfdkmbgpaa
