/- The walk over the program's Join. -/
import Derived.Test.YtfefjkldjaabbaaAd
import Derived.Test.YtfefjkldjaabbaaXm
namespace Go.Proofs.Ytfefjkldjaabbaa
open Go.RowKit Pl
set_option linter.unusedVariables false

/-- the whole texts of the pieces in ts. -/
def joinedL (ts : List ByteArray) : List ByteArray := (joinP zPi [] ts).2
def pileL (ts : List ByteArray) : Pi := (joinP zPi [] ts).1
theorem joinedL_len (ts : List ByteArray) : (joinedL ts).length ≤ ts.length := by have := joinP_len ts zPi []; simpa [joinedL] using this

/-- what stands at the head of a round: the whole texts so far, the pile in its box, both lists apart. -/
def JoSt (w wr : World) (g : Nat) (v : Value) (ts : List ByteArray) : Prop :=
  ∃ s : Sv, OwnS wr w.heap.size v (joinedL ts) ∧ PiB wr g (pileL ts).num (pileL ts).cnt s ∧ OwnS wr w.heap.size s.v (pileL ts).ps ∧ Ap s.v v ∧ Below w.heap.size w wr
theorem addPost_e {B g : Nat} {p : Pi} {s : Sv} {x : ByteArray} {w w' : World} {e : Ending} (h : AddPost B g p s x w e w') : e = .returned (.tuple #[.string (addP p x).2.1, .bool (addP p x).2.2]) := by obtain ⟨s', h1, _⟩ := h; exact h1
theorem gr_own {S : Nat → Prop} {w w' : World} {B : Nat} {v : Value} {xs : List ByteArray} (h : OwnS w B v xs) (k : Gr S w w') (hn : ∀ k, v.ownBlock = some k → ¬ S k) : OwnS w' B v xs :=
  h.keep' fun j hj hl => k.block j hl (hn j hj)
theorem pile_next {ts : List ByteArray} {k : Nat} (h : k < ts.length) : pileL (ts.take (k + 1)) = (addP (pileL (ts.take k)) ts[k]).1 := by unfold pileL; rw [joinP_take h]
theorem joined_next {ts : List ByteArray} {k : Nat} (h : k < ts.length) : joinedL (ts.take (k + 1)) = if (addP (pileL (ts.take k)) ts[k]).2.2 = true then joinedL (ts.take k) ++ [(addP (pileL (ts.take k)) ts[k]).2.1] else joinedL (ts.take k) := by unfold joinedL pileL; rw [joinP_take h]
theorem pile_short (ts : List ByteArray) : (pileL ts).short := joinP_short ts zPi [] zPi_short
theorem jo_no {w wr w' : World} {g : Nat} {v : Value} {ts : List ByteArray} {k : Nat} {s : Sv} {x : ByteArray} {e : Ending} (hk : k < ts.length) (hx : x = ts[k])
    (hO : OwnS wr w.heap.size v (joinedL (ts.take k))) (hP : PiB wr g (pileL (ts.take k)).num (pileL (ts.take k)).cnt s) (ha : Ap s.v v) (hb : Below w.heap.size w wr) (hg : w.heap.size ≤ g)
    (hsb : ∀ j, s.v.ownBlock = some j → w.heap.size ≤ j) (h : AddPost w.heap.size g (pileL (ts.take k)) s x wr e w') :
    ∃ s' : Sv, OwnS w' w.heap.size v (joinedL (ts.take k)) ∧ PiB w' g (pileL (ts.take (k + 1))).num (pileL (ts.take (k + 1))).cnt s' ∧ OwnS w' w.heap.size s'.v (pileL (ts.take (k + 1))).ps ∧ Ap s'.v v ∧ Below w.heap.size w w' := by
  obtain ⟨s', _, h2, h3, h4, h5⟩ := h
  have ho : OwnS w' w.heap.size v (joinedL (ts.take k)) := gr_own hO h5 fun j hj hS => by
    rcases hS with rfl | hS
    · exact bx_s_ne hO hP (by decide) hj
    · exact ha j hS hj
  refine ⟨s', ho, ?_, ?_, ?_, hb.trans (h5.below (fun j hj => ?_) hb.size)⟩
  · rw [pile_next hk, ← hx]; exact h2
  · rw [pile_next hk, ← hx]; exact h3
  · intro j hj hv
    rcases h4 j hj with h | h
    · exact ha j h hv
    · have := (hO.lt j hv).2; omega
  · rcases hj with rfl | hj
    · exact hg
    · exact hsb j hj

set_option maxRecDepth 100000 in
set_option maxHeartbeats 2000000 in
theorem implJoin (ao : Option Addr) (cap : Nat) (ts : List ByteArray) (w : World) (hx : Hid (TextsAt w ao ts)) (hl : ts.length ≤ 1048576) (hs : Hid (∀ x ∈ ts, x.size ≤ 1048576)) :
    Calls Try.prog 15 #[.slice ao ts.length cap] w fun e w' => ∃ v, e = .returned v ∧ OwnS w' w.heap.size v (joinedL ts) ∧ Below w.heap.size w w' := by
  have S0 : Hid (JoSt w ((w.alloc (.cells #[] 9)).alloc (.cells #[.int .i64 0, .int .i64 0, .slice none 0 0] 35)) (w.heap.size + 1) (.slice (some ⟨w.heap.size, 0, none⟩) 0 0) (ts.take 0)) := by
    refine ⟨⟨none, 0, 0⟩, (OwnS.made w w.heap.size (Nat.le_refl _)).alloc _, ?_, ownS_none _ _, ap_none _ 0 0, ((Below.refl _ _).alloc (Nat.le_refl _) _).alloc (by simp) _⟩
    have := Bx.new (w.alloc (.cells #[] 9)) 35 [.int .i64 0, .int .i64 0, .slice none 0 0]
    simpa [PiB, pileL, joinP, zPi] using this
  go_enter Try.func15, Try.ntmps15
  go_wp2
  go_loopw [3, 12] (fun v i wr => ∃ k : Nat, k ≤ ts.length ∧ i = .int .i64 k ∧ Hid (JoSt w wr (w.heap.size + 1) v (ts.take k))) (fun _ i _ => ts.length - (intOf i).toNat)
  case atStart => exact ⟨0, Nat.zero_le _, rfl, S0⟩
  case round =>
    clear S0
    obtain ⟨k, hk, rfl, hst⟩ := hrel
    by_cases hlt : k < ts.length
    · obtain ⟨s, hO, hP, hS, hA, hB⟩ := hst.out
      obtain ⟨b, off, rfl, hbb, h0⟩ := hx.out.stays hB k hlt
      have hsz := hs.out _ (List.getElem_mem hlt)
      obtain ⟨tx, hp⟩ : ∃ x : ByteArray, x = ts[k] := ⟨_, rfl⟩
      rw [← hp] at h0 hsz
      have HQ : Hid (tx = ts[k]) := hp
      have O1 : Hid (OwnS wr w.heap.size u3 (joinedL (ts.take k))) := hO
      have P1 : Hid (PiB wr (w.heap.size + 1) (pileL (ts.take k)).num (pileL (ts.take k)).cnt s) := hP
      have S1 : Hid (OwnS wr w.heap.size s.v (pileL (ts.take k)).ps) := hS
      have A1 : Hid (Ap s.v u3) := hA
      have B1 : Hid (Below w.heap.size w wr) := hB
      have HL : Hid (pileL (ts.take k)).short := pile_short _
      clear hp hO hP hS hA hB hst
      go_wp2_with fail
      clear h0
      refine (add_any (pileL (ts.take k)) tx (w.heap.size + 1) w.heap.size s wr P1 S1 HL hsz B1.out.size).mono ?_
      rintro e w1 hpost
      have HN := jo_no hlt HQ.out O1.out P1.out A1.out B1.out (by omega) (fun j hj => (S1.out.lt j hj).1) hpost
      obtain ⟨s', O2, P2, S2, A2, B2⟩ := HN
      have he := addPost_e hpost
      clear hpost
      generalize hr : (addP (pileL (ts.take k)) tx).2.2 = r at he
      generalize hc : (addP (pileL (ts.take k)) tx).2.1 = y at he
      have HR : Hid ((addP (pileL (ts.take k)) tx).2.2 = r) := hr
      have HC : Hid ((addP (pileL (ts.take k)) tx).2.1 = y) := hc
      have HP2 : Hid (PiB w1 (w.heap.size + 1) (pileL (ts.take (k + 1))).num (pileL (ts.take (k + 1))).cnt s') := P2
      have HS2 : Hid (OwnS w1 w.heap.size s'.v (pileL (ts.take (k + 1))).ps) := S2
      have HA2 : Hid (Ap s'.v u3) := A2
      have HB2 : Hid (Below w.heap.size w w1) := B2
      have HO2 : Hid (OwnS w1 w.heap.size u3 (joinedL (ts.take k))) := O2
      clear O1 P1 S1 A1 B1 P2 S2 A2 B2 O2 hr hc
      subst he
      cases r with
      | false =>
        go_wp2_with fail
        go_roundw
        case rel =>
          refine ⟨k + 1, by omega, by go_num, ⟨s', ?_, HP2.out, HS2.out, HA2.out, HB2.out⟩⟩
          rw [joined_next hlt, ← HQ.out, if_neg (by rw [HR.out]; simp)]
          exact HO2.out
        case measure => simp [intOf]; omega
      | true =>
        have z1 : w.heap.size ≤ w1.heap.size := HB2.out.size
        have hlk : (joinedL (ts.take k)).length < 4000000 := by have := joinedL_len (ts.take k); rw [List.length_take] at this; omega
        have O2 := HO2.out
        go_wp2_with (at_builtin; refine wpList_pushSb rfl _ _ 26 rfl Try.underlying26 Try.info9 w.heap.size u3 (joinedL (ts.take k)) rfl O2 y rfl hlk z1 ?_; intro v2 w2 S3 G3 N3)
        go_roundw
        case rel =>
          refine ⟨k + 1, by omega, by go_num, ⟨s', ?_, ?_, ?_, ?_, ?_⟩⟩
          · rw [joined_next hlt, ← HQ.out, if_pos HR.out, HC.out]
            exact S3
          · exact PiB.grown (HP2.out.later ((Below.refl w1.heap.size w1).alloc (Nat.le_refl _) (.cells #[.string y] 9))) (HO2.out.alloc _) G3
          · refine ownS_kept (HS2.out.alloc (.cells #[.string y] 9)) G3 fun j hj e => HA2.out j hj e.symm
          · intro j hj hv
            rcases N3 with h | h
            · exact HA2.out j hj (by rw [← h]; exact hv)
            · have := (HS2.out.lt j hj).2
              rw [hv] at h
              simp only [Option.some.injEq] at h
              omega
          · exact (HB2.out.alloc z1 (.cells #[.string y] 9)).grown G3 (by simp; omega) (fun j hj => (HO2.out.lt j hj).1)
        case measure => simp [intOf]; omega
    · obtain rfl : k = ts.length := by omega
      obtain ⟨s, hO, _, _, _, hB⟩ := hst.out
      rw [List.take_length] at hO
      have O1 : Hid (OwnS wr w.heap.size u3 (joinedL ts)) := hO
      have B1 : Hid (Below w.heap.size w wr) := hB
      clear hO hB hst
      go_wp2_with fail
      go_ret
      exact ⟨_, rfl, O1.out, B1.out⟩
end Go.Proofs.Ytfefjkldjaabbaa
