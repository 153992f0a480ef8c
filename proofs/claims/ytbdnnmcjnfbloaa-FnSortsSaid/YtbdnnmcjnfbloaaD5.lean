/- The law on what is sorted, walked. -/
import Derived.Test.YtbdnnmcjnfbloaaD4
namespace Go.Proofs.Ytbdnnmcjnfbloaa
open Go.RowKit Pl
set_option linter.unusedVariables false

theorem short_few {ts : List ByteArray} (h : Short ts) (hl : ts.length ≤ 8) : Few ts := ⟨by omega, fun t ht => by have := h t ht; omega⟩

/-- three texts, two alike: two are left. -/
theorem three_set {us : List ByteArray} (h : SetOf [⟨#[98]⟩, ⟨#[97]⟩, ⟨#[98]⟩] us) : us = [⟨#[97]⟩, ⟨#[98]⟩] := by
  refine setOf_unique h ⟨?_, fun x => ?_⟩
  · unfold Asc
    rw [List.pairwise_cons]
    refine ⟨fun y hy => ?_, List.pairwise_singleton _ _⟩
    obtain rfl := List.mem_singleton.1 hy
    show ([97] : List UInt8) < [98]
    decide
  · simp only [List.mem_cons, List.not_mem_nil, or_false]
    constructor
    · rintro (h | h)
      · exact .inr (.inl h)
      · exact .inl h
    · rintro (h | h | h)
      · exact .inr h
      · exact .inl h
      · exact .inr h

theorem sort_three (w : World) : Calls Try.prog 8 #[.slice (some ⟨w.heap.size, 0, none⟩) 3 3] (w.alloc (.cells #[.string ⟨#[98]⟩, .string ⟨#[97]⟩, .string ⟨#[98]⟩] 9)) fun e w' => ∃ ao cap, e = .returned (.slice ao 2 cap) ∧ Below w.heap.size w w' := by
  have hown := OwnS.lit w w.heap.size [⟨#[98]⟩, ⟨#[97]⟩, ⟨#[98]⟩] (Nat.le_refl _) (by simp)
  obtain ⟨us, hus, _⟩ := setOf_some [(⟨#[98]⟩ : ByteArray), ⟨#[97]⟩, ⟨#[98]⟩]
  refine (implSortV _ _ _ _ us hown ⟨by simp, fun t ht => ?_⟩ hus).mono ?_
  · simp only [List.mem_cons, List.not_mem_nil, or_false] at ht
    rcases ht with rfl | rfl | rfl <;> decide
  · rintro e w' ⟨u, rfl, h1, h2⟩
    obtain rfl := three_set hus
    obtain ⟨ao, cap, rfl⟩ := h1.form
    exact ⟨ao, cap, rfl, ((Below.refl w.heap.size w).alloc (Nat.le_refl _) _).trans (h2.mono (by simp))⟩

set_option maxRecDepth 100000 in
set_option maxHeartbeats 4000000 in
theorem lawSorts (W : World) (n cap : Nat) (ao : Option Addr) (hk : Hid (CodeAt W W.heap.size ao n)) :
    Calls Try.prog 3 #[.slice ao n cap] W fun e w' => e = .returned (.bool true) ∧ Below W.heap.size W w' := by
  by_cases hn : n ≤ 1048576
  · have hbig : decide (1048576 < (n : Int)) = false := by simp; omega
    go_enter Try.func3, Try.ntmps3
    go_wp2_with (first | (go_at_call 6; refine (big_any _ n cap ao false hbig).mono ?_; rintro e w1 ⟨rfl, rfl⟩) | (go_at_call 7; refine (drawSort _ n cap ao hn hk).mono ?_; rintro e w2 ⟨⟨v, ts, rfl, hl, hsh, hown⟩, hb2⟩))
    obtain ⟨us, hus0, hul⟩ := setOf_some ts
    have hus : Hid (SetOf ts us) := hus0
    clear hus0
    have hf : Hid (Few ts) := short_few hsh.out hl
    have hc := implSortV w2 _ v ts us hown.out hf.out hus.out
    go_wp2_with fail
    refine hc.mono ?_
    rintro e w3 ⟨u, rfl, hu, hb3⟩
    clear hc
    have hown3 : Hid (OwnS w3 (w1.heap.size + 1) v ts) := hown.out.stays hb3 (fun k hk => (hown.out.lt k hk).2)
    have hB3 : Hid (Below w1.heap.size w1 w3) := hb2.trans (hb3.mono hb2.size)
    have hu3 : Hid (OwnS w3 w2.heap.size u us) := hu
    obtain ⟨aou, capu, rfl, htu0⟩ := hu.texts
    obtain ⟨aov, capv, rfl, htv0⟩ := hown3.out.texts
    have htu : Hid (TextsAt w3 aou us) := htu0
    have htv : Hid (TextsAt w3 aov ts) := htv0
    clear htu0 htv0 hu hb3 hb2 hown
    go_wp2
    go_loopw [5] (fun i wr => ∃ k : Nat, k ≤ us.length ∧ i = .int .i64 ((k : Int) + 1) ∧ Hid (Below w3.heap.size w3 wr)) (fun i _ => us.length + 2 - (intOf i).toNat)
    case atStart => exact ⟨0, by omega, rfl, Below.refl _ _⟩
    case round =>
      obtain ⟨k, hk1, rfl, hbr⟩ := hrel
      by_cases hlt : k + 1 < us.length
      · have htr : TextsAt wr aou us := htu.out.stays hbr.out
        obtain ⟨b, off, rfl, hbb, hc0⟩ := htr k (by omega)
        obtain ⟨b', off', he, _, hc1⟩ := htr (k + 1) hlt
        cases he
        have hasc : Lt us[k] us[k + 1] := List.pairwise_iff_getElem.1 hus.out.1 k (k + 1) (by omega) hlt (by omega)
        obtain ⟨x, hx⟩ : ∃ x, x = us[k] := ⟨_, rfl⟩
        obtain ⟨y, hy⟩ : ∃ y, y = us[k + 1] := ⟨_, rfl⟩
        rw [← hx, ← hy] at hasc
        rw [← hx] at hc0
        rw [← hy] at hc1
        have hless := less_yes hasc
        have hq0 : IntKind.i64.wrap ((k : Int) + 1 - 1) = (k : Int) := by rw [IntKind.wrap_i64]; omega
        have hq1 : (0 : Int) ≤ (k : Int) := by omega
        have hq2 : (k : Int) < (us.length : Int) := by omega
        have hq3 : (0 : Int) ≤ ((k : Int) + 1) := by omega
        have hq4 : ((k : Int) + 1) < (us.length : Int) := by omega
        clear hx hy hasc htr
        go_wp2
        go_quiet (fail)
        go_wp2
        go_roundw
        case rel => exact ⟨k + 1, by omega, by go_num, below_drewN hbr.out _⟩
        case measure => simp [intOf]; omega
      · go_wp2
        go_loopw [6] (fun i wr => ∃ k : Nat, k ≤ ts.length ∧ i = .int .i64 k ∧ Hid (Below w3.heap.size w3 wr)) (fun i _ => ts.length - (intOf i).toNat)
        case atStart => exact ⟨0, by omega, rfl, hbr⟩
        case round =>
          clear hbr hlt hk1
          obtain ⟨k2, hk2, rfl, hbr⟩ := hrel
          by_cases hlt : k2 < ts.length
          · have HU : Hid (TextsAt wr aou us) := htu.out.stays hbr.out
            obtain ⟨b, off, rfl, hbb, hc0⟩ := (htv.out.stays hbr.out) k2 hlt
            have hmem : Hid (ts[k2] ∈ us) := (hus.out.2 _).2 (List.getElem_mem hlt)
            obtain ⟨x, hx⟩ : ∃ x, x = ts[k2] := ⟨_, rfl⟩
            rw [← hx] at hc0 hmem
            clear hx
            go_wp2_with (first | (go_at_call 9; refine (has_any _ aou capu us x HU (by omega) hmem).mono ?_; rintro e w4 ⟨rfl, rfl⟩))
            go_roundw
            case rel => exact ⟨k2 + 1, by omega, by go_num, hbr⟩
            case measure => simp [intOf]; omega
          · go_wp2
            go_loopw [7] (fun i wr => ∃ k : Nat, k ≤ us.length ∧ i = .int .i64 k ∧ Hid (Below w3.heap.size w3 wr)) (fun i _ => us.length - (intOf i).toNat)
            case atStart => exact ⟨0, by omega, rfl, hbr⟩
            case round =>
              clear hbr hlt hk2
              obtain ⟨k3, hk3, rfl, hbr⟩ := hrel
              by_cases hlt : k3 < us.length
              · have HV : Hid (TextsAt wr aov ts) := htv.out.stays hbr.out
                obtain ⟨b, off, rfl, hbb, hc0⟩ := (htu.out.stays hbr.out) k3 hlt
                have hmem : Hid (us[k3] ∈ ts) := (hus.out.2 _).1 (List.getElem_mem hlt)
                obtain ⟨x, hx⟩ : ∃ x, x = us[k3] := ⟨_, rfl⟩
                rw [← hx] at hc0 hmem
                clear hx
                go_wp2_with (first | (go_at_call 9; refine (has_any _ aov capv ts x HV (by omega) hmem).mono ?_; rintro e w4 ⟨rfl, rfl⟩))
                go_roundw
                case rel => exact ⟨k3 + 1, by omega, by go_num, hbr⟩
                case measure => simp [intOf]; omega
              · have hub : OwnS wr w2.heap.size (.slice aou us.length capu) us := hu3.out.stays hbr.out (fun k hk => (hu3.out.lt k hk).2)
                have hul8 : us.length ≤ 1048576 := by omega
                have hfu : Few us := ⟨hul8, fun t ht => hf.out.2 t ((hus.out.2 t).1 ht)⟩
                have hc8 := implSortV wr _ _ us us hub hfu ⟨hus.out.1, fun x => Iff.rfl⟩
                have hlub := hub.lt
                have HUB : Hid (OwnS wr w2.heap.size (.slice aou us.length capu) us) := hub
                have HB : Hid (Below w1.heap.size w1 wr) := hB3.out.trans (hbr.out.mono hB3.out.size)
                clear hub hfu
                go_wp2_with fail
                refine hc8.mono ?_
                clear hc8
                rintro e w5 ⟨u5, rfl, hu5, hb5⟩
                have hub5 := HUB.out.stays hb5 (fun k hk => (hlub k hk).2)
                have HB5 : Hid (Below w1.heap.size w1 w5) := HB.out.trans (hb5.mono HB.out.size)
                have hc10 := same_same u5 _ us _ _ w5 hu5 hub5 hul8
                clear hu5 hub5 hb5 hlub
                go_wp2_with fail
                refine hc10.mono ?_
                clear hc10
                rintro e w6 ⟨rfl, hb6⟩
                have HB6 : Hid (Below w1.heap.size w1 w6) := HB5.out.trans (hb6.mono HB5.out.size)
                clear hb6
                go_wp2_with (first | (go_at_call 8; refine (sort_three w6).mono ?_; rintro e w7 ⟨ao7, cap7, rfl, hb7⟩))
                go_ret
                exact ⟨rfl, HB6.out.trans (hb7.mono HB6.out.size)⟩
  · have hbig : decide (1048576 < (n : Int)) = true := by simp; omega
    go_enter Try.func3, Try.ntmps3
    go_wp2_with (first | (go_at_call 6; refine (big_any _ n cap ao true hbig).mono ?_; rintro e w1 ⟨rfl, rfl⟩))
    go_ret
    exact ⟨rfl, Below.refl _ _⟩
end Go.Proofs.Ytbdnnmcjnfbloaa
