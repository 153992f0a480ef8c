/- The walk over PartsOf of the specification. -/
import Derived.Test.YtiebfakfgmckiaaDoorChecked
import Derived.Test.YtiebfakfgmckiaaDoorParts
import Derived.WalkKit
import Derived.WalkSpells
import Derived.WalkLawsBesides
namespace Go.Proofs.YtiebfakfgmckiaaDoor
open Go.RowKit Pl
set_option linter.unusedVariables false

theorem Tryd.info9 : (Tryd.prog.info? 9).map (fun i => (i.zero, i.size, i.bytes)) = some (some (.string ⟨#[]⟩), 1, 16) := by kernel_rfl

set_option maxRecDepth 100000 in
set_option maxHeartbeats 1000000 in
theorem specP_long (s : ByteArray) (w : World) (hs : 600 < s.size) :
    Calls Tryd.prog 7 #[.string s] w fun e w' => Below w.heap.size w w' ∧ PPost s w.heap.size w' e := by
  have hno : Hid (¬ PartsOk s) := fun h => by have := h.1; omega
  go_enter Tryd.func7, Tryd.ntmps7
  go_wp2
  go_ret2
  exact ⟨(Below.refl _ _).alloc (Nat.le_refl _) _, .inr ⟨hno.out, _, rfl, OwnS.made w _ (Nat.le_refl _)⟩⟩

set_option maxRecDepth 100000 in
set_option maxHeartbeats 2000000 in
theorem specP_in (s : ByteArray) (w : World) (hs : s.size ≤ 600) :
    Calls Tryd.prog 7 #[.string s] w fun e w' => Below w.heap.size w w' ∧ PPost s w.heap.size w' e := by
  go_enter Tryd.func7, Tryd.ntmps7
  go_wp2
  go_loopw [4, 5, 6] (fun v bg i wr => ∃ (k b : Nat) (acc : List ByteArray), k ≤ s.size + 1 ∧ acc.length ≤ k ∧ i = .int .i64 k ∧ bg = .int .i64 b ∧ Hid (PSt s k b acc) ∧ OwnS wr w.heap.size v acc ∧ Below w.heap.size w wr) (fun _ _ i _ => s.size + 1 - (intOf i).toNat)
  case atStart => exact ⟨0, 0, [], by omega, by simp, rfl, rfl, pst_start s, OwnS.made w _ (Nat.le_refl _), (Below.refl _ _).alloc (Nat.le_refl _) _⟩
  case round =>
    obtain ⟨k, b, acc, hk, hal, rfl, rfl, hst, hown, hb⟩ := hrel
    have hsz := hb.size
    by_cases hlt : k < s.size
    · have hc : (s[k]'hlt).toNat < 256 := UInt8.toNat_lt _
      obtain ⟨hbk, hpl⟩ := pst_b hst.out (by omega)
      have HPL : Hid (Plain s k) := hpl
      clear hpl
      rcases (show (s[k]'hlt).toNat < 32 ∨ 126 < (s[k]'hlt).toNat ∨ (s[k]'hlt).toNat = 32 ∨ (32 < (s[k]'hlt).toNat ∧ (s[k]'hlt).toNat ≤ 126) by omega) with h1 | h1 | h1 | ⟨h1, h2⟩
      · have hno : Hid (¬ PartsOk s) := fun h => by have := h.2.1 k hlt hlt; omega
        go_wp2
        go_ret2
        exact ⟨hb.alloc hsz _, .inr ⟨hno.out, _, rfl, OwnS.made wr _ hsz⟩⟩
      · have hno : Hid (¬ PartsOk s) := fun h => by have := h.2.1 k hlt hlt; omega
        go_wp2
        go_ret2
        exact ⟨hb.alloc hsz _, .inr ⟨hno.out, _, rfl, OwnS.made wr _ hsz⟩⟩
      · by_cases hbl : b < k
        · go_wp2_with (first | (at_builtin; refine wpList_pushS rfl _ _ 24 rfl Tryd.underlying24 Tryd.info9 w.heap.size _ acc rfl hown _ rfl (by omega) (by omega) ?_; intro v1 w1 hown1 hb1))
          go_roundw
          case rel => exact ⟨k + 1, k + 1, _, by omega, by simp; omega, by go_num, by go_num, pst_part hst.out hlt h1 hbl, hown1, hb.trans hb1⟩
          case measure => simp [intOf]; omega
        · go_wp2
          go_roundw
          case rel => exact ⟨k + 1, k + 1, acc, by omega, by omega, by go_num, by go_num, pst_blank hst.out hlt h1 hbl, hown, hb⟩
          case measure => simp [intOf]; omega
      · go_wp2
        go_roundw
        case rel => exact ⟨k + 1, b, acc, by omega, by omega, by go_num, rfl, pst_more hst.out hlt h1 h2, hown, hb⟩
        case measure => simp [intOf]; omega
    · by_cases he : k = s.size
      · subst he
        obtain ⟨hbk, _⟩ := pst_b hst.out (by omega)
        by_cases hbl : b < s.size
        · go_wp2_with (first | (at_builtin; refine wpList_pushS rfl _ _ 24 rfl Tryd.underlying24 Tryd.info9 w.heap.size _ acc rfl hown _ rfl (by omega) (by omega) ?_; intro v1 w1 hown1 hb1))
          go_roundw
          case rel => exact ⟨s.size + 1, s.size + 1, _, by omega, by simp; omega, by go_num, by go_num, pst_last hst.out hbl, hown1, hb.trans hb1⟩
          case measure => simp [intOf]
        · go_wp2
          go_roundw
          case rel => exact ⟨s.size + 1, s.size + 1, acc, by omega, by omega, by go_num, by go_num, pst_end hst.out hbl, hown, hb⟩
          case measure => simp [intOf]
      · have hke : ¬ k ≤ s.size := by omega
        obtain ⟨rfl, hpl⟩ := pst_done hst.out hke
        have HPL : Hid (Plain s s.size) := hpl
        clear hpl
        obtain ⟨ao, cap, rfl⟩ := hown.form
        by_cases hten : 10 < (fieldsS s).length
        · go_wp2
          go_ret2
          exact ⟨hb.alloc hsz _, .inr ⟨fun h => by have := h.2.2; omega, _, rfl, OwnS.made wr _ hsz⟩⟩
        · go_wp2
          go_ret2
          exact ⟨hb, .inl ⟨⟨hs, HPL.out, by omega⟩, _, rfl, hown⟩⟩

theorem specP_any (s : ByteArray) (w : World) : Calls Tryd.prog 7 #[.string s] w fun e w' => Below w.heap.size w w' ∧ PPost s w.heap.size w' e := by
  by_cases h : s.size ≤ 600
  · exact specP_in s w h
  · exact specP_long s w (by omega)
end Go.Proofs.YtiebfakfgmckiaaDoor
