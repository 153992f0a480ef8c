/- The walk over the program's PartsOf at plain lines. -/
import Derived.Test.YtiebfakfgmckiaaDoorWP2
namespace Go.Proofs.YtiebfakfgmckiaaDoor
open Go.RowKit Pl
set_option linter.unusedVariables false

theorem fieldsGo_size : ∀ (l cur : List UInt8), ∀ x ∈ Lib.fieldsGo cur l, x.length ≤ cur.length + l.length := by
  intro l
  induction l with
  | nil =>
    intro cur x hx
    unfold Lib.fieldsGo at hx
    split at hx
    · cases hx
    · simp at hx; subst hx; simp
  | cons b l ih =>
    intro cur x hx
    unfold Lib.fieldsGo at hx
    split at hx
    · split at hx
      · have := ih [] x hx
        simp at this ⊢
        omega
      · rcases List.mem_cons.1 hx with rfl | hx
        · simp
        · have := ih [] x hx
          simp at this ⊢
          omega
    · have := ih _ x hx
      simp at this ⊢
      omega

theorem fieldsS_size (s : ByteArray) (k : Nat) (hk : k < (fieldsS s).length) : ((fieldsS s)[k]'hk).size ≤ s.size := by
  have hm := List.getElem_mem hk
  unfold fieldsS mkS at hm
  obtain ⟨x, hx, he⟩ := List.mem_map.1 hm
  have h1 := fieldsGo_size _ _ x hx
  have hl : s.data.toList.length = s.size := rfl
  have e : ((fieldsS s)[k]'hk) = ⟨x.toArray⟩ := he.symm
  rw [e]
  show x.length ≤ _
  simp at h1
  omega

theorem fieldsCall (s : ByteArray) (w : World) (hs : s.size ≤ 600) (hp : Plain s s.size) (htab : Lib.TabIs Tryd.prog w "strings.asciiSpace" .u8 Lib.asciiSpaceTab) :
    Calls Tryd.prog 15 #[.string s] w fun e w' => e = .returned (.slice (some ⟨w.heap.size, 0, none⟩) (fieldsS s).length (fieldsS s).length) ∧ OwnS w' w.heap.size (.slice (some ⟨w.heap.size, 0, none⟩) (fieldsS s).length (fieldsS s).length) (fieldsS s) ∧ Below w.heap.size w w' := by
  refine (fields_any s w (by omega) (plain_ascii hp) htab).mono ?_
  rintro e w' ⟨rfl, rfl⟩
  have hl : (Lib.fields s.data.toList).length = (fieldsS s).length := by simp [fieldsS, mkS]
  rw [hl]
  refine ⟨rfl, ?_, (Below.refl _ _).alloc (Nat.le_refl _) _⟩
  have hmax : (fieldsS s).length ≤ 1000000 := by
    rw [← hl, Lib.fields_length]
    have : ∀ (l : List UInt8) (b : Bool), Lib.cntF b l ≤ l.length := by
      intro l
      induction l with
      | nil => intro b; simp [Lib.cntF]
      | cons c l ih => intro b; have := ih (Lib.isSp c); simp only [Lib.cntF, List.length_cons]; split <;> omega
    have h1 := this s.data.toList true
    have h2 : s.data.toList.length = s.size := rfl
    omega
  have e1 : ((Lib.fields s.data.toList).map fun l => Value.string ⟨l.toArray⟩) = (fieldsS s).map Value.string := by simp [fieldsS, mkS]
  rw [e1]
  have := World.ownsRow_lit (base := w.heap.size) (e := 9) (size := 1) w ((fieldsS s).map Value.string).toArray (fieldsS s).length (Nat.le_refl _) (by unfold maxLen; omega) (by simp)
  simpa [OwnS] using this

set_option maxRecDepth 100000 in
set_option maxHeartbeats 1000000 in
theorem implP_many (s : ByteArray) (w : World) (hs : s.size ≤ 600) (hp : Hid (Plain s s.size)) (hn : 10 < (fieldsS s).length) (htab : Hid (Lib.TabIs Tryd.prog w "strings.asciiSpace" .u8 Lib.asciiSpaceTab)) :
    Calls Tryd.prog 8 #[.string s] w fun e w' => Below w.heap.size w w' ∧ PPost s w.heap.size w' e := by
  have hno : Hid (¬ PartsOk s) := fun h => by have := h.2.2; omega
  go_enter Tryd.func8, Tryd.ntmps8
  go_wp2_with (first | (go_at_call 14; refine (plainLine_yes s _ hs hp.out).mono ?_; rintro e w1 ⟨rfl, rfl⟩) | (go_at_call 15; refine (fieldsCall s _ hs hp.out htab.out).mono ?_; rintro e w2 ⟨rfl, hown2, hb2⟩))
  go_ret2
  exact ⟨hb2.alloc hb2.size _, .inr ⟨hno.out, _, rfl, OwnS.made _ _ hb2.size⟩⟩

set_option maxRecDepth 100000 in
set_option maxHeartbeats 1000000 in
theorem implP_few (s : ByteArray) (w : World) (hs : s.size ≤ 600) (hp : Hid (Plain s s.size)) (hn : ¬ 10 < (fieldsS s).length) (htab : Hid (Lib.TabIs Tryd.prog w "strings.asciiSpace" .u8 Lib.asciiSpaceTab)) :
    Calls Tryd.prog 8 #[.string s] w fun e w' => Below w.heap.size w w' ∧ PPost s w.heap.size w' e := by
  have hok : Hid (PartsOk s) := ⟨hs, hp.out, by omega⟩
  go_enter Tryd.func8, Tryd.ntmps8
  go_wp2_with (first | (go_at_call 14; refine (plainLine_yes s _ hs hp.out).mono ?_; rintro e w1 ⟨rfl, rfl⟩) | (go_at_call 15; refine (fieldsCall s _ hs hp.out htab.out).mono ?_; rintro e w2 ⟨rfl, hown2, hb2⟩))
  go_loopw [24] (fun i wr => ∃ k : Nat, k ≤ (fieldsS s).length ∧ i = .int .i64 k ∧ OwnS wr w1.heap.size (.slice (some ⟨w1.heap.size, 0, none⟩) (fieldsS s).length (fieldsS s).length) (fieldsS s) ∧ w1.heap.size < wr.heap.size ∧ Below w1.heap.size w1 wr) (fun i _ => (fieldsS s).length - (intOf i).toNat)
  case atStart => exact ⟨0, by omega, rfl, hown2, (hown2.lt _ rfl).2, hb2⟩
  case round =>
    obtain ⟨k, hk, rfl, hown, hsz, hb⟩ := hrel
    by_cases hlt : k < (fieldsS s).length
    · have hce : wr.cell? ⟨w1.heap.size, k, none⟩ = some (.string ((fieldsS s)[k]'hlt)) := by
        have := World.ownsRow.cellAt hown k (by omega)
        rw [this]
        simp [hlt]
      have hfz : wr.frozen? ⟨w1.heap.size, k, none⟩ = false := World.ownsRow.frozenAt hown k
      have hsize : ((fieldsS s)[k]'hlt).size ≤ 1048576 := Nat.le_trans (fieldsS_size s k hlt) (by omega)
      go_wp2_with (first | (go_at_call 16; refine (clone_any _ _ hsize).mono ?_; rintro e w3 ⟨rfl, hb3⟩; have hce3 : w3.cell? ⟨w1.heap.size, k, none⟩ = some (.string ((fieldsS s)[k]'hlt)) := (hb3.cell (p := ⟨w1.heap.size, k, none⟩) hsz).trans hce; have hfz3 : w3.frozen? ⟨w1.heap.size, k, none⟩ = false := (hb3.frozen (p := ⟨w1.heap.size, k, none⟩) hsz).trans hfz))
      go_roundw
      case rel =>
        have hown3 := hown.stays hb3 (fun j hj => by cases hj; exact hsz)
        have hst := hown3.store k ((fieldsS s)[k]'hlt)
        rw [List.set_getElem_self] at hst
        refine ⟨k + 1, by omega, by go_num, hst.1, ?_, ?_⟩
        · have := hb3.size
          have h2 := hst.2.size
          omega
        · exact (hb.trans (hb3.mono (by omega))).setCell (Nat.le_refl _) _
      case measure => simp [intOf]; omega
    · obtain rfl : k = (fieldsS s).length := by omega
      go_wp2
      go_ret2
      exact ⟨hb, .inl ⟨hok.out, _, rfl, hown⟩⟩

theorem implP_any (s : ByteArray) (w : World) (htab : Hid (Lib.TabIs Tryd.prog w "strings.asciiSpace" .u8 Lib.asciiSpaceTab)) :
    Calls Tryd.prog 8 #[.string s] w fun e w' => Below w.heap.size w w' ∧ PPost s w.heap.size w' e := by
  by_cases h : s.size ≤ 600
  · by_cases hp : Plain s s.size
    · by_cases hn : 10 < (fieldsS s).length
      · exact implP_many s w h hp hn htab
      · exact implP_few s w h hp hn htab
    · exact implP_bad s w h hp
  · exact implP_long s w (by omega)
end Go.Proofs.YtiebfakfgmckiaaDoor
