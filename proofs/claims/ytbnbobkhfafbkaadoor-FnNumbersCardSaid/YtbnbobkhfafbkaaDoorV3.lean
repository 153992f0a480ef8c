/- The walk over the program's Hex. -/
import Derived.Test.YtbnbobkhfafbkaaDoorV1
import Derived.Deep.RegionHeld3
namespace Go.Proofs.YtbnbobkhfafbkaaDoor
open Go.RowKit Pl
set_option linter.unusedVariables false

theorem figs_at (x : Nat) (h : x < 16) : (((⟨#[48, 49, 50, 51, 52, 53, 54, 55, 56, 57, 97, 98, 99, 100, 101, 102]⟩ : ByteArray)[x]'(by simpa [ByteArray.size] using h)).toNat : Int) = figI x := by
  have : ∀ y : Fin 16, (((⟨#[48, 49, 50, 51, 52, 53, 54, 55, 56, 57, 97, 98, 99, 100, 101, 102]⟩ : ByteArray)[y.val]'(by simp [ByteArray.size])).toNat : Int) = figI y.val := by decide
  exact this ⟨x, h⟩

theorem idx16 (x : Int) (w : World) (h0 : 0 ≤ x) (h1 : x < 16) :
    (Instr.index 9 (.string ⟨#[48, 49, 50, 51, 52, 53, 54, 55, 56, 57, 97, 98, 99, 100, 101, 102]⟩) (.int .u8 x)).run Tryd.prog w = .ok (.int .u8 (figI x.toNat)) w := by
  have hx : x.toNat < 16 := by omega
  rw [run_index_string w 9 _ .u8 x Tryd.underlying9]
  have hb : 0 ≤ x ∧ x < ((⟨#[48, 49, 50, 51, 52, 53, 54, 55, 56, 57, 97, 98, 99, 100, 101, 102]⟩ : ByteArray).size : Int) := ⟨h0, by simpa [ByteArray.size] using h1⟩
  rw [dif_pos hb, figs_at x.toNat hx]

set_option maxRecDepth 100000 in
set_option maxHeartbeats 1000000 in
theorem implHex_in (s : ByteArray) (w : World) (hs : s.size ≤ 20000) :
    Calls Tryd.prog 13 #[.string s] w fun e w' => e = .returned (.tuple #[.string (hexS s), .bool true]) ∧ Below w.heap.size w w' := by
  go_enter Tryd.func13, Tryd.ntmps13
  go_wp2_with (first | (at_make; refine wpList_makeB rfl _ _ 22 5 rfl Tryd.underlying22 Tryd.info5 w.heap.size _ _ _ (2 * s.size) rfl rfl (by omega) (by omega) (Nat.le_refl _) ?_; intro v0 w0 hown0 hb0))
  go_loopw [4, 5] (fun v i wr => ∃ k : Nat, k ≤ s.size ∧ i = .int .i64 k ∧ OwnB wr w.heap.size 5 v (hexI (s.data.toList.take k)) ∧ Below w.heap.size w wr) (fun _ i _ => s.size - (intOf i).toNat)
  case atStart => exact ⟨0, by omega, rfl, hown0, hb0⟩
  case round =>
    obtain ⟨k, hk, rfl, hown, hb⟩ := hrel
    have hsz := hb.size
    by_cases hlt : k < s.size
    · have hc : (s[k]'hlt).toNat < 256 := UInt8.toNat_lt _
      have hl : (hexI (s.data.toList.take k)).length ≤ 2 * s.size := by rw [hexI_length, List.length_take]; omega
      have hq1 : (0 : Int) ≤ (k : Int) := by omega
      have hq2 : (k : Int) < (s.size : Int) := by omega
      have hw1 : ((s[k]'hlt).toNat : Int).tdiv 16 = ((s[k]'hlt).toNat : Int) / 16 := Int.tdiv_eq_ediv_of_nonneg (by omega)
      have hw2 : ((s[k]'hlt).toNat : Int).tmod 16 = ((s[k]'hlt).toNat : Int) % 16 := Int.tmod_eq_emod_of_nonneg (by omega)
      have hw3 : IntKind.u8.wrap (((s[k]'hlt).toNat : Int) / 16) = ((s[k]'hlt).toNat : Int) / 16 := by rw [IntKind.wrap_u8]; omega
      have hw4 : IntKind.u8.wrap (((s[k]'hlt).toNat : Int) % 16) = ((s[k]'hlt).toNat : Int) % 16 := by rw [IntKind.wrap_u8]; omega
      have hx1 := fun W => idx16 (((s[k]'hlt).toNat : Int) / 16) W (by omega) (by omega)
      have hx2 := fun W => idx16 (((s[k]'hlt).toNat : Int) % 16) W (by omega) (by omega)
      go_wp2
      go_region_held3 (fun _ => True) (trivial) ((refine step_pushB (by rfl) _ _ 22 5 (by rfl) Tryd.underlying22 Tryd.info5 w.heap.size _ (hexI (s.data.toList.take k)) (by rfl) (hown.alloc _).drew [figI (((s[k]'hlt).toNat : Int) / 16).toNat, figI (((s[k]'hlt).toNat : Int) % 16).toNat] _ 2 2 (by rfl) rfl (World.news_of_block (heap_alloc_new wr _)) (by omega) (by simp; omega) ?_; intro v1 w1 hown1 hb1))
      all_goals
        go_wp2
        go_roundw
        case rel =>
          have e1 : (((s[k]'hlt).toNat : Int) / 16).toNat = (s[k]'hlt).toNat / 16 := by omega
          have e2 : (((s[k]'hlt).toNat : Int) % 16).toNat = (s[k]'hlt).toNat % 16 := by omega
          rw [e1, e2] at hown1
          exact ⟨k + 1, by omega, by go_num, by rw [hexI_snoc s k hlt]; exact hown1, ((hb.alloc hsz _).drew).trans hb1⟩
        case measure => simp [intOf]; omega
    · have hcv := conv_own Tryd.underlying22 Tryd.underlying5 Tryd.underlying9 hown
      go_wp2
      go_ret2
      exact ⟨by rw [List.take_of_length_le (by simpa using hlt)]; rfl, hb⟩

end Go.Proofs.YtbnbobkhfafbkaaDoor
