/- Joined texts: CWn CNok CV1. -/
import Derived.Test.YtmbjflhhffcjdaaDoorChecked
import Derived.WalkKit
import Derived.WalkSpells
import Derived.WalkLawsBesides
import Derived.Test.YtmbjflhhffcjdaaDoorWsq1
import Derived.Lib.OthersKept
import Derived.Test.YtmbjflhhffcjdaaDoorWsq2
import Derived.Laws.BytesArg
import Derived.Below
/- The walks over the tests whether a number lies between two others, of the program and of the specification. -/
namespace Go.Proofs.YtmbjflhhffcjdaaDoor
open Go.RowKit
set_option linter.unusedVariables false

theorem in_any (n a b : Int) (w : World) : Calls Tryd.prog 46 #[.int .i64 n, .int .i64 a, .int .i64 b] w fun e w' => e = .returned (.bool (decide (a ≤ n ∧ n ≤ b))) ∧ w' = w := by
  by_cases h1 : a ≤ n
  · by_cases h2 : n ≤ b
    · have hd : decide (a ≤ n ∧ n ≤ b) = true := by simp; omega
      rw [hd]
      go_enter Tryd.func46, Tryd.ntmps46
      go_wp2
      go_ret
      exact ⟨rfl, rfl⟩
    · have hd : decide (a ≤ n ∧ n ≤ b) = false := by simp; omega
      rw [hd]
      go_enter Tryd.func46, Tryd.ntmps46
      go_wp2
      go_ret
      exact ⟨rfl, rfl⟩
  · have hd : decide (a ≤ n ∧ n ≤ b) = false := by simp; omega
    rw [hd]
    go_enter Tryd.func46, Tryd.ntmps46
    go_wp2
    go_ret
    exact ⟨rfl, rfl⟩

theorem within_any (n a b : Int) (w : World) : Calls Tryd.prog 68 #[.int .i64 n, .int .i64 a, .int .i64 b] w fun e w' => e = .returned (.bool (decide (a ≤ n ∧ n ≤ b))) ∧ w' = w := by
  by_cases h1 : a ≤ n
  · by_cases h2 : n ≤ b
    · have hd : decide (a ≤ n ∧ n ≤ b) = true := by simp; omega
      rw [hd]
      go_enter Tryd.func68, Tryd.ntmps68
      go_wp2
      go_ret
      exact ⟨rfl, rfl⟩
    · have hd : decide (a ≤ n ∧ n ≤ b) = false := by simp; omega
      rw [hd]
      go_enter Tryd.func68, Tryd.ntmps68
      go_wp2
      go_ret
      exact ⟨rfl, rfl⟩
  · have hd : decide (a ≤ n ∧ n ≤ b) = false := by simp; omega
    rw [hd]
    go_enter Tryd.func68, Tryd.ntmps68
    go_wp2
    go_ret
    exact ⟨rfl, rfl⟩

theorem in_is {n a b : Int} {r : Bool} (w : World) (h : decide (a ≤ n ∧ n ≤ b) = r) : Calls Tryd.prog 46 #[.int .i64 n, .int .i64 a, .int .i64 b] w fun e w' => e = .returned (.bool r) ∧ w' = w := by
  rw [← h]; exact in_any n a b w
end Go.Proofs.YtmbjflhhffcjdaaDoor


/- The walks over NameOk, of the program and of the specification: both tell whether a text is a name. -/
namespace Go.Proofs.YtmbjflhhffcjdaaDoor
open Go.RowKit
set_option linter.unusedVariables false

theorem notEmpty {s : ByteArray} (h : 0 < s.size) : (s.toList == []) = false := by
  rw [ByteArray.toList_eq, beq_eq_false_iff_ne]
  intro e
  have : s.data.toList.length = s.size := rfl
  rw [e] at this
  simp at this
  omega
theorem notEmpty' {s : ByteArray} (h : 0 < s.size) : s.toList.isEmpty = false := by
  have := notEmpty h
  cases hs : s.toList with
  | nil => rw [hs] at this; cases this
  | cons a l => rfl

theorem letter_yes (r : Nat) (w : World) (h1 : 97 ≤ r) (h2 : r ≤ 122) :
    Calls Tryd.prog 91 #[.int .i32 r] w fun e w' => e = .returned (.bool true) ∧ w' = w := by
  go_enter Tryd.func91, Tryd.ntmps91
  go_wp2
  go_ret
  exact ⟨by simp; omega, rfl⟩

theorem letter_no (r : Nat) (w : World) (h1 : r < 97 ∨ 122 < r) :
    Calls Tryd.prog 91 #[.int .i32 r] w fun e w' => e = .returned (.bool false) ∧ w' = w := by
  by_cases h : r < 97
  · clear h1
    go_enter Tryd.func91, Tryd.ntmps91
    go_wp2
    go_ret
    exact ⟨rfl, rfl⟩
  · have h2 : 97 ≤ r := by omega
    have h3 : 122 < r := by omega
    clear h1 h
    go_enter Tryd.func91, Tryd.ntmps91
    go_wp2
    go_ret
    exact ⟨by simp; omega, rfl⟩

theorem figure_yes (r : Nat) (w : World) (h1 : 48 ≤ r) (h2 : r ≤ 57) :
    Calls Tryd.prog 92 #[.int .i32 r] w fun e w' => e = .returned (.bool true) ∧ w' = w := by
  go_enter Tryd.func92, Tryd.ntmps92
  go_wp2
  go_ret
  exact ⟨by simp; omega, rfl⟩

theorem figure_no (r : Nat) (w : World) (h1 : r < 48 ∨ 57 < r) :
    Calls Tryd.prog 92 #[.int .i32 r] w fun e w' => e = .returned (.bool false) ∧ w' = w := by
  by_cases h : r < 48
  · clear h1
    go_enter Tryd.func92, Tryd.ntmps92
    go_wp2
    go_ret
    exact ⟨rfl, rfl⟩
  · have h2 : 48 ≤ r := by omega
    have h3 : 57 < r := by omega
    clear h1 h
    go_enter Tryd.func92, Tryd.ntmps92
    go_wp2
    go_ret
    exact ⟨by simp; omega, rfl⟩

set_option maxRecDepth 100000 in
set_option maxHeartbeats 1000000 in
/-- The specification's NameOk. -/
theorem specName_any (s : ByteArray) (w : World) :
    Calls Tryd.prog 66 #[.string s] w fun e w' => e = .returned (.bool (nmB s)) ∧ Below w.heap.size w w' := by
  by_cases hsz : 1 ≤ s.size ∧ s.size ≤ 12
  · obtain ⟨hz1, hz2⟩ := hsz
    have hin : decide ((1 : Int) ≤ (s.size : Int) ∧ (s.size : Int) ≤ 12) = true := by simp; omega
    have h0 : 0 < s.size := by omega
    have hc : (s[0]'h0).toNat < 256 := UInt8.toNat_lt _
    rcases (show (s[0]'h0).toNat < 97 ∨ 122 < (s[0]'h0).toNat ∨ (97 ≤ (s[0]'h0).toNat ∧ (s[0]'h0).toNat ≤ 122) by omega) with h1 | h1 | ⟨h1, h2⟩
    · have hno : nmB s = false := nm_bad h0 (by unfold NmAt; omega)
      rw [hno]
      go_enter Tryd.func66, Tryd.ntmps66
      go_wp2_with (first | (go_at_call 46; refine (in_any _ _ _ _).mono ?_; rintro e w1 ⟨rfl, rfl⟩; rw [hin]))
      go_ret
      exact ⟨rfl, Below.refl _ _⟩
    · have hno : nmB s = false := nm_bad h0 (by unfold NmAt; omega)
      rw [hno]
      go_enter Tryd.func66, Tryd.ntmps66
      go_wp2_with (first | (go_at_call 46; refine (in_any _ _ _ _).mono ?_; rintro e w1 ⟨rfl, rfl⟩; rw [hin]))
      go_ret
      exact ⟨rfl, Below.refl _ _⟩
    · obtain ⟨g, hg⟩ : ∃ g, g = nmB s := ⟨_, rfl⟩
      have HG : Hid (g = nmB s) := hg
      rw [← hg]
      have HA : Hid (NmAt s 0 h0) := Or.inl ⟨h1, h2⟩
      clear hg
      go_enter Tryd.func66, Tryd.ntmps66
      go_wp2_with (first | (go_at_call 46; refine (in_any _ _ _ _).mono ?_; rintro e w1 ⟨rfl, rfl⟩; rw [hin]))
      clear h1 h2
      go_loop [3] (fun i => ∃ k : Nat, k ≤ s.size ∧ i = .int .i64 k ∧ Hid (NmTo s k)) (fun i => s.size - (intOf i).toNat)
      case atStart => exact ⟨0, by omega, rfl, nmTo_zero s⟩
      case round =>
        obtain ⟨k, hk, rfl, hto⟩ := hrel
        by_cases hlt : k < s.size
        · have hck : (s[k]'hlt).toNat < 256 := UInt8.toNat_lt _
          rcases (show (s[k]'hlt).toNat < 48 ∨ (57 < (s[k]'hlt).toNat ∧ (s[k]'hlt).toNat < 97) ∨ 122 < (s[k]'hlt).toNat ∨ (48 ≤ (s[k]'hlt).toNat ∧ (s[k]'hlt).toNat ≤ 57) ∨ (97 ≤ (s[k]'hlt).toNat ∧ (s[k]'hlt).toNat ≤ 122) by omega) with h1 | ⟨h1, h2⟩ | h1 | ⟨h1, h2⟩ | ⟨h1, h2⟩
          · have hno : Hid (nmB s = false) := nm_bad hlt (by unfold NmAt; omega)
            have h3 : (s[k]'hlt).toNat < 97 := by omega
            go_wp2
            go_ret
            exact ⟨by rw [HG.out, hno.out]; rfl, Below.refl _ _⟩
          · have hno : Hid (nmB s = false) := nm_bad hlt (by unfold NmAt; omega)
            have h3 : ¬ (s[k]'hlt).toNat < 48 := by omega
            go_wp2
            go_ret
            exact ⟨by rw [HG.out, hno.out]; rfl, Below.refl _ _⟩
          · have hno : Hid (nmB s = false) := nm_bad hlt (by unfold NmAt; omega)
            have h3 : ¬ (s[k]'hlt).toNat < 48 := by omega
            have h4 : ¬ (s[k]'hlt).toNat < 97 := by omega
            have h5 : 57 < (s[k]'hlt).toNat := by omega
            go_wp2
            go_ret
            exact ⟨by rw [HG.out, hno.out]; rfl, Below.refl _ _⟩
          · have h3 : (s[k]'hlt).toNat < 97 := by omega
            have HK : Hid (NmTo s (k + 1)) := by
              refine nmTo_step hto.out hlt ?_
              by_cases e : k = 0
              · subst e; exact HA.out
              · exact Or.inr ⟨by omega, h1, h2⟩
            go_wp2
            go_round
            case rel => exact ⟨k + 1, by omega, by go_num, HK⟩
            case measure => simp [intOf]; omega
          · have h3 : ¬ (s[k]'hlt).toNat < 97 := by omega
            have HK : Hid (NmTo s (k + 1)) := nmTo_step hto.out hlt (Or.inl ⟨h1, h2⟩)
            go_wp2
            go_round
            case rel => exact ⟨k + 1, by omega, by go_num, HK⟩
            case measure => simp [intOf]; omega
        · have hyes : Hid (nmB s = true) := nmTo_end hto.out hlt hz1 hz2
          go_wp2
          go_ret
          exact ⟨by rw [HG.out, hyes.out]; rfl, Below.refl _ _⟩
  · have hin : decide ((1 : Int) ≤ (s.size : Int) ∧ (s.size : Int) ≤ 12) = false := by simp; omega
    have hno : nmB s = false := nmB_no fun H => hsz ⟨H.1, H.2.1⟩
    rw [hno]
    clear hsz
    go_enter Tryd.func66, Tryd.ntmps66
    go_wp2_with (first | (go_at_call 46; refine (in_any _ _ _ _).mono ?_; rintro e w1 ⟨rfl, rfl⟩; rw [hin]))
    go_ret
    exact ⟨rfl, Below.refl _ _⟩

set_option maxRecDepth 100000 in
set_option maxHeartbeats 1000000 in
theorem implName_in (s : ByteArray) (w : World) (hz1 : 1 ≤ s.size) (hz2 : s.size ≤ 12) :
    Calls Tryd.prog 52 #[.string s] w fun e w' => e = .returned (.bool (nmB s)) ∧ Below w.heap.size w w' := by
  obtain ⟨g, hg⟩ : ∃ g, g = nmB s := ⟨_, rfl⟩
  have HG : Hid (g = nmB s) := hg
  rw [← hg]
  clear hg
  have hne := notEmpty (s := s) hz1
  have hne2 := notEmpty' (s := s) hz1
  go_enter Tryd.func52, Tryd.ntmps52
  go_wp2
  go_loopw [] (fun wr => ∃ (k : Nat), k ≤ s.size ∧ wr.heap[w.heap.size]? = some (.stringIter s k) ∧ Hid (NmTo s k) ∧ Below w.heap.size w wr) (fun wr => s.size - wr.iterPos w.heap.size)
  case atStart => exact ⟨0, by omega, by simpa using World.iter_heap w s 0, nmTo_zero s, (Below.refl _ _).alloc (Nat.le_refl _) _⟩
  case round =>
    obtain ⟨k, hk, hit, hto, hb⟩ := hrel
    by_cases hlt : k < s.size
    · have hck : (s[k]'hlt).toNat < 256 := UInt8.toNat_lt _
      by_cases ha : (s[k]'hlt).toNat < 128
      · have hnx : ∀ ty, (Instr.next (.pointer (some ⟨w.heap.size, 0, none⟩)) true ty).run Tryd.prog wr = _ := fun ty => Lib.run_next_ascii_at wr w.heap.size s k ty hit hlt ha
        have hit2 := Lib.iterAt_heap wr w.heap.size s k (k + 1) hit
        have hb2 := Lib.below_iterAt hb (k := w.heap.size) (by omega) s (k + 1)
        by_cases hl : 97 ≤ (s[k]'hlt).toNat ∧ (s[k]'hlt).toNat ≤ 122
        · obtain ⟨h1, h2⟩ := hl
          have HK : Hid (NmTo s (k + 1)) := nmTo_step hto.out hlt (Or.inl ⟨h1, h2⟩)
          go_wp2_with (first | (go_at_call 91; refine (letter_yes _ _ h1 h2).mono ?_; rintro e w1 ⟨rfl, rfl⟩))
          go_roundw
          case rel => exact ⟨k + 1, by omega, hit2, HK, hb2⟩
          case measure => simp only [World.iterPos, hit2, hit]; omega
        · have h1 : (s[k]'hlt).toNat < 97 ∨ 122 < (s[k]'hlt).toNat := by omega
          have H1 : Hid ((s[k]'hlt).toNat < 97 ∨ 122 < (s[k]'hlt).toNat) := h1
          by_cases hk0 : 0 < k
          · by_cases hf : 48 ≤ (s[k]'hlt).toNat ∧ (s[k]'hlt).toNat ≤ 57
            · obtain ⟨h3, h4⟩ := hf
              have HK : Hid (NmTo s (k + 1)) := nmTo_step hto.out hlt (Or.inr ⟨hk0, h3, h4⟩)
              clear h1 hl
              go_wp2_with (first | (go_at_call 91; refine (letter_no _ _ H1.out).mono ?_; rintro e w1 ⟨rfl, rfl⟩) | (go_at_call 92; refine (figure_yes _ _ h3 h4).mono ?_; rintro e w1 ⟨rfl, rfl⟩))
              go_roundw
              case rel => exact ⟨k + 1, by omega, hit2, HK, hb2⟩
              case measure => simp only [World.iterPos, hit2, hit]; omega
            · have H3 : Hid ((s[k]'hlt).toNat < 48 ∨ 57 < (s[k]'hlt).toNat) := show _ ∨ _ by omega
              have hno : Hid (nmB s = false) := nm_bad hlt (by unfold NmAt; omega)
              clear h1 hl hf
              go_wp2_with (first | (go_at_call 91; refine (letter_no _ _ H1.out).mono ?_; rintro e w1 ⟨rfl, rfl⟩) | (go_at_call 92; refine (figure_no _ _ H3.out).mono ?_; rintro e w1 ⟨rfl, rfl⟩))
              go_ret
              exact ⟨by rw [HG.out, hno.out]; rfl, hb2⟩
          · have hno : Hid (nmB s = false) := nm_bad hlt (by unfold NmAt; omega)
            obtain rfl : k = 0 := by omega
            clear h1 hl
            go_wp2_with (first | (go_at_call 91; refine (letter_no _ _ H1.out).mono ?_; rintro e w1 ⟨rfl, rfl⟩))
            go_ret
            exact ⟨by rw [HG.out, hno.out]; rfl, hb2⟩
      · have hhi := decode_high s k hlt (by omega)
        have hle := decode_le s k
        have hno : Hid (nmB s = false) := nm_bad hlt (by unfold NmAt; omega)
        obtain ⟨r, hr⟩ : ∃ r, r = (Utf8.decode s k).1 := ⟨_, rfl⟩
        obtain ⟨wd, hwd⟩ : ∃ wd, wd = k + (Utf8.decode s k).2 := ⟨_, rfl⟩
        have hnx : ∀ ty, (Instr.next (.pointer (some ⟨w.heap.size, 0, none⟩)) true ty).run Tryd.prog wr = .ok (.tuple #[.bool true, .int .i64 k, .int .i32 r]) (wr.iterAt w.heap.size s wd) := fun ty => by rw [hr, hwd]; exact Lib.run_next_any_at wr w.heap.size s k ty hit hlt
        have hb2 := Lib.below_iterAt hb (k := w.heap.size) (by omega) s wd
        rw [← hr] at hhi
        have hr1 : 128 ≤ r := hhi.1
        have H1 : Hid (r < 97 ∨ 122 < r) := Or.inr (by omega)
        have H3 : Hid (r < 48 ∨ 57 < r) := Or.inr (by omega)
        clear hle hhi hr hwd ha hr1
        by_cases hk0 : 0 < k
        · go_wp2_with (first | (go_at_call 91; refine (letter_no _ _ H1.out).mono ?_; rintro e w1 ⟨rfl, rfl⟩) | (go_at_call 92; refine (figure_no _ _ H3.out).mono ?_; rintro e w1 ⟨rfl, rfl⟩))
          go_ret
          exact ⟨by rw [HG.out, hno.out]; rfl, hb2⟩
        · obtain rfl : k = 0 := by omega
          go_wp2_with (first | (go_at_call 91; refine (letter_no _ _ H1.out).mono ?_; rintro e w1 ⟨rfl, rfl⟩))
          go_ret
          exact ⟨by rw [HG.out, hno.out]; rfl, hb2⟩
    · have hnx : ∀ ty, (Instr.next (.pointer (some ⟨w.heap.size, 0, none⟩)) true ty).run Tryd.prog wr = _ := fun ty => Lib.run_next_end_at wr w.heap.size s k ty hit hlt
      have hyes : Hid (nmB s = true) := nmTo_end hto.out hlt hz1 hz2
      go_wp2
      go_ret
      exact ⟨by rw [HG.out, hyes.out]; rfl, hb⟩

set_option maxRecDepth 100000 in
/-- The program's NameOk. -/
theorem implName_any (s : ByteArray) (w : World) :
    Calls Tryd.prog 52 #[.string s] w fun e w' => e = .returned (.bool (nmB s)) ∧ Below w.heap.size w w' := by
  by_cases hz : s.size = 0
  · have hno : nmB s = false := nmB_no fun H => by have := H.1; omega
    have hs : s = ⟨#[]⟩ := by
      obtain ⟨d⟩ := s
      have : d.size = 0 := hz
      simp at this
      rw [this]
    rw [hno]
    subst hs
    go_enter Tryd.func52, Tryd.ntmps52
    go_wp2
    go_ret
    exact ⟨rfl, Below.refl _ _⟩
  · by_cases hl : s.size ≤ 12
    · exact implName_in s w (by omega) hl
    · have hno : nmB s = false := nmB_no fun H => hl H.2.1
      have hgt : 12 < s.size := by omega
      have hne := notEmpty (s := s) (by omega)
      have hne2 := notEmpty' (s := s) (by omega)
      rw [hno]
      clear hl hz
      go_enter Tryd.func52, Tryd.ntmps52
      go_wp2
      go_ret
      exact ⟨rfl, Below.refl _ _⟩
end Go.Proofs.YtmbjflhhffcjdaaDoor


/- The walks over VarText and ReadVar of the program, over the digits of the specification, and over one byte as a text. -/
namespace Go.Proofs.YtmbjflhhffcjdaaDoor
open Go.RowKit Pl
set_option linter.unusedVariables false

theorem Tryd.info5 : (Tryd.prog.info? 5).map (fun i => (i.zero, i.size, i.bytes)) = some (some (.int .u8 0), 1, 1) := by kernel_rfl

set_option maxHeartbeats 400000 in
theorem implVar_yes (N : Nat) (w : World) (hN : N ≤ 1000000000) :
    Calls Tryd.prog 110 #[.int .i64 N] w fun e w' => e = .returned (.tuple #[.string (varS N), .bool true]) ∧ Below w.heap.size w w' := by
  go_enter Tryd.func110, Tryd.ntmps110
  go_wp2_with (first | (at_make; refine wpList_makeB rfl _ _ 22 5 rfl Tryd.underlying22 Tryd.info5 w.heap.size _ _ _ 5 rfl rfl (by omega) (by omega) (Nat.le_refl _) ?_; intro v0 w0 hown0 hb0))
  go_loopw [0, 4] (fun n v wr => ∃ (m : Nat) (xs : List Int), n = .int .i64 m ∧ Hid (VarSt N m xs) ∧ m ≤ N ∧ xs.length ≤ N ∧ OwnB wr w.heap.size 5 v xs ∧ Below w.heap.size w wr) (fun n _ _ => (intOf n).toNat)
  case atStart => exact ⟨N, [], rfl, varSt_start N, by omega, by simp, hown0, hb0⟩
  case round =>
    obtain ⟨m, xs, rfl, hst, hm, hx, hown, hb⟩ := hrel
    have hsz := hb.size
    by_cases hm1 : 127 < m
    · go_wp2_with (first | (at_builtin; refine wpList_push rfl _ _ 22 5 rfl Tryd.underlying22 Tryd.info5 w.heap.size _ xs rfl hown _ rfl (by omega) (by omega) ?_; intro v1 w1 hown1 hb1))
      go_roundw
      case rel =>
        have h2 := varSt_step hst.out hm1
        exact ⟨m / 128, _, by go_num, h2, by omega, by have := h2.2.2; omega, hown1, hb.trans hb1⟩
      case measure => simp [intOf]; omega
    · go_wp2_with (first | (at_builtin; refine wpList_push rfl _ _ 22 5 rfl Tryd.underlying22 Tryd.info5 w.heap.size _ xs rfl hown _ rfl (by omega) (by omega) ?_; intro v1 w1 hown1 hb1; have hcv := conv_own Tryd.underlying22 Tryd.underlying5 Tryd.underlying9 hown1))
      go_ret2
      exact ⟨by rw [← varSt_end hst.out hm1]; rfl, hb.trans hb1⟩

set_option maxHeartbeats 1000000 in
theorem implRv_in (s : ByteArray) (A : Nat) (w : World) (hs : s.size ≤ 1048576) (hA : A ≤ s.size) :
    Calls Tryd.prog 111 #[.string s, .int .i64 A] w fun e w' => e = .returned (rvT (rv s A)) ∧ w' = w := by
  go_enter Tryd.func111, Tryd.ntmps111
  go_wp2
  all_goals
    go_loop [7, 8, 9] (fun n sc i => ∃ k m S : Nat, A + k ≤ s.size ∧ n = .int .i64 m ∧ m < S ∧ sc = .int .i64 S ∧ i = .int .i64 ((A + k : Nat) : Int) ∧ PowS k S ∧ Hid (RvSt s A k m S)) (fun _ _ i => s.size - (intOf i).toNat)
    case atStart => exact ⟨0, 0, 1, by omega, rfl, by decide, rfl, rfl, .inl ⟨rfl, rfl⟩, rvSt_start s A⟩
    case round =>
      obtain ⟨k, m, S, hk2, rfl, hm, rfl, rfl, hp, hst⟩ := hrel
      by_cases hlt : A + k < s.size ∧ k < 5
      · obtain ⟨hlt, hk5⟩ := hlt
        have hb : (s[A + k]'hlt).toNat < 256 := UInt8.toNat_lt _
        rcases hp with ⟨rfl, rfl⟩ | ⟨rfl, rfl⟩ | ⟨rfl, rfl⟩ | ⟨rfl, rfl⟩ | ⟨rfl, rfl⟩ | ⟨rfl, rfl⟩
        all_goals first | (exfalso; omega) | (simp only [Nat.add_zero] at hb) | skip
        all_goals go_wp2
        all_goals first
          | (go_round
             case rel => exact rvNext hst.out (by omega) hlt (by first | omega | (simp only [Nat.add_zero]; omega)) hm (by simp [PowS]) (by first | go_num | (simp only [Nat.add_zero]; go_num)) (by go_num) (by go_num)
             case measure => simp [intOf]; omega)
          | (go_ret3; exact ⟨rvT_bad (rvSt_bad hst.out (by omega) hlt (by first | omega | (simp only [Nat.add_zero]; omega)) (by first | omega | (simp only [Nat.add_zero]; omega))), rfl⟩)
          | (go_ret3; exact ⟨rvT_good (rvSt_good hst.out (by omega) hlt (by first | omega | (simp only [Nat.add_zero]; omega)) (by first | omega | (simp only [Nat.add_zero]; omega)) (by first | omega | (simp only [Nat.add_zero]; omega))) (by first | omega | (simp only [Nat.add_zero]; omega)) (by omega), rfl⟩)
      · have hend : s.size ≤ A + k ∨ 5 ≤ k := by omega
        unfold PowS at hp
        go_wp2
        go_ret3
        exact ⟨rvT_bad (rvSt_out hst.out (by omega)), rfl⟩

theorem implRv_some (s : ByteArray) (A n i : Nat) (w : World) (hs : s.size ≤ 1048576) (hA : A ≤ s.size) (h : rv s A = some (n, i)) :
    Calls Tryd.prog 111 #[.string s, .int .i64 A] w fun e w' => e = .returned (.tuple #[.int .i64 n, .int .i64 i, .bool true]) ∧ w' = w := by
  have := implRv_in s A w hs hA
  rw [h] at this
  exact this
theorem varS_size (N : Nat) (h : N ≤ 68719476736) : (varS N).size ≤ 68719476737 := by
  rw [varS, strOfNums_size]
  have := varI_length N
  omega


set_option maxHeartbeats 400000 in
theorem l01Var_any (N : Nat) (w : World) (hN : N ≤ 68719476736) :
    Calls Tryd.prog 62 #[.int .i64 N] w fun e w' => e = .returned (.string (varS N)) ∧ Below w.heap.size w w' := by
  go_enter Tryd.func62, Tryd.ntmps62
  go_wp2
  go_loopw [0, 3] (fun n v wr => ∃ (m : Nat) (xs : List Int), n = .int .i64 m ∧ Hid (VarSt N m xs) ∧ m ≤ N ∧ xs.length ≤ N ∧ OwnB wr w.heap.size 5 v xs ∧ Below w.heap.size w wr) (fun n _ _ => (intOf n).toNat)
  case atStart => exact ⟨N, [], rfl, varSt_start N, by omega, by simp, OwnB.made w _ 5 #[] 0 (Nat.le_refl _) (by decide) rfl, (Below.refl _ _).alloc (Nat.le_refl _) _⟩
  case round =>
    obtain ⟨m, xs, rfl, hst, hm, hx, hown, hb⟩ := hrel
    have hsz := hb.size
    by_cases hm1 : 127 < m
    · go_wp2_with (first | (at_builtin; refine wpList_push rfl _ _ 22 5 rfl Tryd.underlying22 Tryd.info5 w.heap.size _ xs rfl hown _ rfl (by omega) (by omega) ?_; intro v1 w1 hown1 hb1))
      go_roundw
      case rel =>
        have h2 := varSt_step hst.out hm1
        exact ⟨m / 128, _, by go_num, h2, by omega, by have := h2.2.2; omega, hown1, hb.trans hb1⟩
      case measure => simp [intOf]; omega
    · go_wp2_with (first | (at_builtin; refine wpList_push rfl _ _ 22 5 rfl Tryd.underlying22 Tryd.info5 w.heap.size _ xs rfl hown _ rfl (by omega) (by omega) ?_; intro v1 w1 hown1 hb1; have hcv := conv_own Tryd.underlying22 Tryd.underlying5 Tryd.underlying9 hown1))
      go_ret
      exact ⟨by rw [← varSt_end hst.out hm1]; rfl, hb.trans hb1⟩

theorem l01Var_at (a : Int) (w : World) (h0 : 0 ≤ a) (h1 : a ≤ 68719476736) :
    Calls Tryd.prog 62 #[.int .i64 a] w fun e w' => e = .returned (.string (varS a.toNat)) ∧ Below w.heap.size w w' := by
  obtain ⟨N, rfl⟩ : ∃ N : Nat, a = N := ⟨a.toNat, by omega⟩
  exact l01Var_any N w (by omega)


theorem implRv_none (s : ByteArray) (A : Nat) (w : World) (hs : s.size ≤ 1048576) (hA : A ≤ s.size) (h : rv s A = none) :
    Calls Tryd.prog 111 #[.string s, .int .i64 A] w fun e w' => e = .returned (.tuple #[.int .i64 0, .int .i64 0, .bool false]) ∧ w' = w := by
  have := implRv_in s A w hs hA
  rw [h] at this
  exact this

theorem conv_one {w : World} {a : Int} : (convert 22 9 (.slice (some ⟨w.heap.size, 0, none⟩) 1 1)).run Tryd.prog (w.alloc (.cells #[.int .u8 a] 5)) = .ok (.string (strOfNums [a])) (w.alloc (.cells #[.int .u8 a] 5)) := by
  refine run_convert_bytes_arg (P := Tryd.prog) _ 22 5 Tryd.underlying22 Tryd.underlying5 w.heap.size 0 1 1 [a] rfl (fun i hi => ?_) 9 Tryd.underlying9
  obtain rfl : i = 0 := by omega
  rw [cell_of_row _ w.heap.size (0 + 0) _ 5 (0, 0) (heap_alloc_new w _)]
  rfl

set_option maxHeartbeats 400000 in
theorem varOf_any (N : Nat) (w : World) (hN : N ≤ 1000000000) :
    Calls Tryd.prog 87 #[.int .i64 N] w fun e w' => e = .returned (.string (varS N)) ∧ Below w.heap.size w w' := by
  go_enter Tryd.func87, Tryd.ntmps87
  go_wp2_with (first | (go_at_call 110; refine (implVar_yes N _ hN).mono ?_; rintro e w1 ⟨rfl, hb1⟩))
  go_ret
  exact ⟨rfl, hb1⟩

set_option maxHeartbeats 400000 in
theorem byteOf_any (N : Nat) (w : World) (hN : N < 256) :
    Calls Tryd.prog 38 #[.int .i64 N] w fun e w' => e = .returned (.string (byteS N)) ∧ Below w.heap.size w w' := by
  have hcv := conv_one (w := w) (a := (N : Int))
  go_enter Tryd.func38, Tryd.ntmps38
  go_wp2
  go_ret
  exact ⟨rfl, (Below.refl _ _).alloc (Nat.le_refl _) _⟩

set_option maxHeartbeats 400000 in
theorem l05Byte_any (N : Nat) (w : World) (hN : N < 256) :
    Calls Tryd.prog 60 #[.int .i64 N] w fun e w' => e = .returned (.string (byteS N)) ∧ Below w.heap.size w w' := by
  have hcv := conv_one (w := w) (a := (N : Int))
  go_enter Tryd.func60, Tryd.ntmps60
  go_wp2
  go_ret
  exact ⟨rfl, (Below.refl _ _).alloc (Nat.le_refl _) _⟩
end Go.Proofs.YtmbjflhhffcjdaaDoor


