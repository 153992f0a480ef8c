/- Joined texts: Sz Es Xm T2 Rg Rs Rh Rn A1. -/
import Derived.Test.YtpbhcbgohgfkcaaJct1
import Derived.Test.YtpbhcbgohgfkcaaJct2
import Derived.Test.YtpbhcbgohgfkcaaJct3
import Derived.Test.YtpbhcbgohgfkcaaJct4
import Derived.Laws.MakeOwn
import Derived.BigQuiet
/- Lists of items measured and copied, told more of. -/
namespace Go.Proofs.Ytpbhcbgohgfkcaa
open Go.RowKit Pl
set_option linter.unusedVariables false

set_option maxRecDepth 100000 in
set_option maxHeartbeats 1000000 in
theorem szItems_left (left : Nat) (hleft : left ≤ 1048576) (ao : Option Addr) (cap : Nat) (ts : List It) (w : World) (hx : Hid (ItemsAt w ao ts)) (hl : ts.length ≤ 9223372036854775807) (hs : Hid (∀ x ∈ ts, x.2.2.2.size ≤ 9223372036854775807)) :
    Calls Try.prog 94 #[.slice ao ts.length cap, .int .i64 left] w fun e w' => (e = .returned (.int .i64 (-1)) ∨ (∃ z : Nat, e = .returned (.int .i64 z) ∧ z + ts.length ≤ left ∧ ∀ x ∈ ts, x.2.2.2.size ≤ 1048576)) ∧ Below w.heap.size w w' := by
  by_cases h1 : left < ts.length
  · have hd : decide ((left : Int) - (ts.length : Int) < 0) = true := by simp; omega
    go_enter Try.func94, Try.ntmps94
    go_wp2
    go_ret
    exact ⟨.inl rfl, Below.refl _ _⟩
  have hl2 : ts.length ≤ left := by omega
  have hd : decide ((left : Int) - (ts.length : Int) < 0) = false := by simp; omega
  go_enter Try.func94, Try.ntmps94
  go_wp2
  clear hd
  go_loopw [1, 5] (fun lf i wr => ∃ (k z : Nat), k ≤ ts.length ∧ z + ts.length ≤ left ∧ lf = .int .i64 z ∧ i = .int .i64 k ∧ Hid (∀ x ∈ ts.take k, x.2.2.2.size ≤ 1048576) ∧ Hid (Below w.heap.size w wr)) (fun _ i _ => ts.length - (intOf i).toNat)
  case atStart => exact ⟨0, left - ts.length, Nat.zero_le _, by omega, by congr 1; omega, rfl, (fun x hx => by simp at hx : ∀ x ∈ ts.take 0, x.2.2.2.size ≤ 1048576), Below.refl _ _⟩
  case round =>
    obtain ⟨k, z, hk, hz, rfl, rfl, hsm, hb⟩ := hrel
    by_cases hlt : k < ts.length
    · obtain ⟨b, off, rfl, hbb, c0, c1, c2, c3⟩ := hx.out.stays hb.out k hlt
      have hsz := hs.out _ (List.getElem_mem hlt)
      have HP : Hid (∃ x : It, x = ts[k]) := ⟨_, rfl⟩
      obtain ⟨⟨q, f, lv, tx⟩, hp⟩ := HP.out
      rw [← hp] at c0 c1 c2 c3 hsz
      have HQ : Hid ((q, f, lv, tx) = ts[k]) := hp
      clear hp HP
      dsimp only at c0 c1 c2 c3 hsz
      go_wp2_with fail
      by_cases hlong : z < tx.size
      · refine (szItem_long q f lv tx z _ hlong hsz (by omega)).mono ?_
        rintro e w1 ⟨rfl, hb1⟩
        go_wp2_with fail
        go_ret
        exact ⟨.inl rfl, hb.out.trans (hb1.mono hb.out.size)⟩
      · refine (szItem_any q f lv tx z _ (by omega) (by omega)).mono ?_
        rintro e w1 ⟨rfl, hb1⟩
        have B1 : Hid (Below w.heap.size w w1) := hb.out.trans (hb1.mono hb.out.size)
        have hzz : z - tx.size + ts.length ≤ left := by omega
        have HSM : Hid (∀ x ∈ ts.take (k + 1), x.2.2.2.size ≤ 1048576) := by
          intro x hx
          rw [List.take_succ_eq_append_getElem hlt] at hx
          rcases List.mem_append.1 hx with h1 | h1
          · exact hsm.out x h1
          · rw [List.mem_singleton.1 h1, ← HQ.out]; show tx.size ≤ 1048576; omega
        generalize z - tx.size = zz at *
        have hd : decide ((zz : Int) < 0) = false := by simp
        clear hb1 c0 c1 c2 c3
        go_wp2_with fail
        go_roundw
        case rel => exact ⟨k + 1, zz, by omega, hzz, rfl, by go_num, HSM, B1⟩
        case measure => simp [intOf]; omega
    · go_wp2_with fail
      go_ret
      exact ⟨.inr ⟨z, rfl, hz, by have := hsm.out; rwa [List.take_of_length_le (by omega)] at this⟩, hb.out⟩

set_option maxRecDepth 100000 in
set_option maxHeartbeats 1000000 in
theorem toItems_row (w : World) (ao : Option Addr) (cap : Nat) (ts : List It) (hx : Hid (ItemsAt w ao ts)) (hl : ts.length ≤ 1048576) :
    Calls Try.prog 101 #[.slice ao ts.length cap] w fun e w' => e = .returned (.slice (some ⟨w.heap.size, 0, none⟩) ts.length ts.length) ∧ RowIt w' w.heap.size ts.length ts ts.length ∧ Below w.heap.size w w' := by
  obtain ⟨i0, hi, hz0, hz1, hz2⟩ := info_parts Try.infoI
  obtain ⟨A, hA, hAs⟩ : ∃ A : Array Value, A = madeCells (Value.agg #[.int .i64 0, .int .i64 0, .int .i64 0, .string ⟨#[]⟩]).cells (ts.length * 4) ∧ A.size = ts.length * 4 := ⟨_, rfl, size_madeCells _ _⟩
  have hmk : ∀ W : World, (Instr.makeSlice 27 (.int .i64 (ts.length : Int)) (.int .i64 (ts.length : Int))).run Try.prog W = .ok (.slice (some ⟨W.heap.size, 0, none⟩) ts.length ts.length) (W.alloc (.cells A 38)) := fun W => by
    have h := run_make (P := Try.prog) W 27 38 i0 _ Try.underlying27 hi hz0 .i64 .i64 (ts.length : Int) (ts.length : Int) (by omega) (by omega) (by rw [hz2]; omega) (by omega)
    rw [hz1, Int.toNat_natCast, ← hA] at h
    simpa using h
  clear hA
  have H0 : Hid (RowIt (w.alloc (.cells A 38)) w.heap.size ts.length ts 0) := ⟨A, heap_alloc_new w _, hAs, fun i _ h => absurd h (by omega)⟩
  clear hAs
  go_enter Try.func101, Try.ntmps101
  go_wp2
  go_loopw [4] (fun i wr => ∃ (k : Nat), k ≤ ts.length ∧ i = .int .i64 k ∧ Hid (RowIt wr w.heap.size ts.length ts k) ∧ Below w.heap.size w wr) (fun i _ => ts.length - (intOf i).toNat)
  case atStart => exact ⟨0, by omega, rfl, H0.out, (Below.refl _ _).alloc (Nat.le_refl _) _⟩
  case round =>
    obtain ⟨k, hk, rfl, hrow, hb⟩ := hrel
    clear H0 hmk hi hz0 hz1 hz2
    by_cases hlt : k < ts.length
    · obtain ⟨b, off, rfl, hbb, h0, h1, h2, h3⟩ := hx.out.stays hb k hlt
      have HP : Hid (∃ x : It, x = ts[k]) := ⟨_, rfl⟩
      obtain ⟨⟨q, f, lv, tx⟩, hp⟩ := HP.out
      rw [← hp] at h0 h1 h2 h3
      have HQ : Hid ((q, f, lv, tx) = ts[k]) := hp
      clear hp HP
      dsimp only at h0 h1 h2 h3
      go_wp2_with fail
      refine (toItem_any q f lv tx _).mono ?_
      rintro e w1 ⟨rfl, hb1⟩
      have R1 : Hid (RowIt w1 w.heap.size ts.length ts k) := hrow.out.stays hb1 hrow.out.lt
      have B1 : Hid (Below w.heap.size w w1) := hb.trans (hb1.mono hb.size)
      obtain ⟨v0, z0⟩ := R1.out.cell (k * 4) (by omega)
      obtain ⟨v1, z1⟩ := R1.out.cell (k * 4 + 1) (by omega)
      obtain ⟨v2, z2⟩ := R1.out.cell (k * 4 + 2) (by omega)
      obtain ⟨v3, z3⟩ := R1.out.cell (k * 4 + 3) (by omega)
      have f0 := R1.out.frozen (k * 4)
      have f1 := R1.out.frozen (k * 4 + 1)
      have f2 := R1.out.frozen (k * 4 + 2)
      have f3 := R1.out.frozen (k * 4 + 3)
      clear hb1 h0 h1 h2 h3 hrow hb
      go_wp2_with fail
      go_roundw
      case rel =>
        have := R1.out.set hlt
        rw [← HQ.out] at this
        exact ⟨k + 1, by omega, by go_num, this, (((B1.out.setCell (Nat.le_refl _) _).setCell (Nat.le_refl _) _).setCell (Nat.le_refl _) _).setCell (Nat.le_refl _) _⟩
      case measure => simp [intOf]; omega
    · obtain rfl : k = ts.length := by omega
      go_wp2_with fail
      go_ret
      exact ⟨rfl, hrow.out, hb⟩

/-- a list that was handed in is copied. -/
theorem toItems_sl (w : World) (ao : Option Addr) (cap : Nat) (ts : List It) (hx : Hid (ItemsAt w ao ts)) (hl : ts.length ≤ 1048576) :
    Calls Try.prog 101 #[.slice ao ts.length cap] w fun e w' => e = .returned (.slice (some ⟨w.heap.size, 0, none⟩) ts.length ts.length) ∧ SlI w' w.heap.size (.slice (some ⟨w.heap.size, 0, none⟩) ts.length ts.length) ts ∧ ItemsAt w' (some ⟨w.heap.size, 0, none⟩) ts ∧ Below w.heap.size w w' :=
  (toItems_row w ao cap ts hx hl).mono fun e w' ⟨h1, h2, h3⟩ => ⟨h1, h2.sl rfl hl (Nat.le_refl _), h2.items, h3⟩
end Go.Proofs.Ytpbhcbgohgfkcaa

/- Two slices of items compared. -/
namespace Go.Proofs.Ytpbhcbgohgfkcaa
open Go.RowKit Pl
set_option linter.unusedVariables false

theorem eqItems_sl (v1 v2 : Value) (ts : List It) (B1 B2 : Nat) (w : World) (h1 : SlI w B1 v1 ts) (h2 : SlI w B2 v2 ts) (hl : ts.length ≤ 1048576) :
    Calls Try.prog 81 #[v1, v2] w fun e w' => e = .returned (.bool true) ∧ Below w.heap.size w w' := by
  obtain ⟨a1, c1, rfl, x1⟩ := h1.items
  obtain ⟨a2, c2, rfl, x2⟩ := h2.items
  exact eqItems_same a1 a2 c1 c2 ts w x1 x2 hl
end Go.Proofs.Ytpbhcbgohgfkcaa

/- Lists of texts that are marked, and looked at again. -/
namespace Go.Proofs.Ytpbhcbgohgfkcaa
open Go.RowKit Pl
set_option linter.unusedVariables false

/-- the texts that marks are. -/
def mkT (K n : Nat) : List ByteArray := (List.range n).map fun j => markS (K + j)
theorem mkT_length (K n : Nat) : (mkT K n).length = n := by simp [mkT]
theorem mkT_eq {xs : List ByteArray} {K n : Nat} (hl : xs.length = n) (h : ∀ t, t < n → xs[t]? = some (markS (K + t))) : xs = mkT K n := by
  apply List.ext_getElem (by rw [hl, mkT_length])
  intro i h1 h2
  have := h i (by omega)
  rw [List.getElem?_eq_getElem h1] at this
  simp at this
  simp [mkT, this]

set_option maxRecDepth 100000 in
set_option maxHeartbeats 1000000 in
theorem markSo_any (v : Value) (ss : List ByteArray) (B K : Nat) (w : World) (h1 : OwnS w B v ss) (hl : K + ss.length ≤ 4999990) (hK : 0 < K) :
    Calls Try.prog 87 #[v, .int .i64 K] w fun e w' => e = .returned (.int .i64 ((K + ss.length : Nat) : Int)) ∧ OwnS w' B v (mkT K ss.length) ∧ w.grownBy w' v.ownBlock := by
  by_cases h0 : ss.length = 0
  · have HN : Hid (OwnS w B v (mkT K ss.length)) := by
      have e : ss = [] := List.eq_nil_of_length_eq_zero h0
      subst e
      exact h1
    obtain ⟨ao1, cap1, rfl⟩ := h1.form
    clear h1
    rw [h0] at HN ⊢
    go_enter Try.func87, Try.ntmps87
    go_wp2
    refine wp_loop_rounds 1 ?_
    rw [rounds_succ]
    go_wp2
    go_ret
    exact ⟨rfl, HN.out, World.grownBy.refl _ _⟩
  · obtain ⟨g, cap, rfl, hB, hg, hc, hf⟩ := h1.some (by omega)
    clear hc hf
    have HOWN : Hid (OwnS w B (.slice (some ⟨g, 0, none⟩) ss.length cap) ss) := h1
    clear h1
    go_enter Try.func87, Try.ntmps87
    go_wp2
    go_loopw [1, 5] (fun kk i wr => ∃ (j : Nat) (xs : List ByteArray), j ≤ ss.length ∧ i = .int .i64 j ∧ kk = .int .i64 ((K + j : Nat) : Int) ∧ Hid (xs.length = ss.length) ∧ Hid (∀ t, t < j → xs[t]? = some (markS (K + t))) ∧ OwnS wr B (.slice (some ⟨g, 0, none⟩) ss.length cap) xs ∧ g < wr.heap.size ∧ Hid (w.grownBy wr (some g))) (fun _ i _ => ss.length - (intOf i).toNat)
    case atStart => exact ⟨0, ss, by omega, rfl, rfl, rfl, (fun t ht => absurd ht (by omega)), HOWN.out, hg, World.grownBy.refl _ _⟩
    case round =>
      obtain ⟨j, xs, hj, rfl, rfl, hxl, hmk, hown, hgs, hgr⟩ := hrel
      by_cases hlt : j < ss.length
      · have hxl' := hxl.out
        have hown' : OwnS wr B (.slice (some ⟨g, 0, none⟩) xs.length cap) xs := by rw [hxl']; exact hown
        have hjx : j < xs.length := by omega
        obtain ⟨x, hce⟩ : ∃ x, wr.cell? ⟨g, j, none⟩ = some (.string x) := ⟨xs[j], by
          have := World.ownsRow.cellAt hown' j (by omega)
          rw [this]
          simp [hjx]⟩
        have hfz : wr.frozen? ⟨g, j, none⟩ = false := World.ownsRow.frozenAt hown' j
        clear hxl' hown'
        go_wp2_with (first | (go_at_call 135; refine (mark_at _ _ (by omega) (by omega)).mono ?_; rintro e w3 ⟨rfl, hb3⟩; have hce3 : w3.cell? ⟨g, j, none⟩ = some (.string x) := (hb3.cell (p := ⟨g, j, none⟩) hgs).trans hce; have hfz3 : w3.frozen? ⟨g, j, none⟩ = false := (hb3.frozen (p := ⟨g, j, none⟩) hgs).trans hfz))
        go_roundw
        case rel =>
          have hxl' := hxl.out
          have hown3 : OwnS w3 B (.slice (some ⟨g, 0, none⟩) xs.length cap) xs := by
            rw [hxl']
            exact hown.stays hb3 (fun t ht => by cases ht; exact hgs)
          have hst := hown3.store j (markS (K + j))
          have hs1 := hst.1
          rw [hxl'] at hs1
          refine ⟨j + 1, xs.set j (markS (K + j)), by omega, by go_num, by go_num, ?_, ?_, hs1, ?_, ?_⟩
          · show (xs.set j (markS (K + j))).length = ss.length
            rw [List.length_set]; exact hxl'
          · refine (fun t ht => ?_ : ∀ t, t < j + 1 → (xs.set j (markS (K + j)))[t]? = some (markS (K + t)))
            by_cases e : t = j
            · subst e; rw [List.getElem?_set_self hjx]
            · rw [List.getElem?_set_ne (fun h => e h.symm)]; exact hmk.out t (by omega)
          · have h2 := hb3.size
            have h3 := hst.2.size
            omega
          · exact grown_transC hgr.out (grown_transC (grown_bl hb3) hst.2)
        case measure => simp [intOf]; omega
      · obtain rfl : j = ss.length := by omega
        go_wp2
        go_ret
        exact ⟨ret_int' (by omega), (by have e := mkT_eq hxl.out hmk.out; rw [← e]; have := hxl.out; unfold OwnS at hown ⊢; rw [this] at hown ⊢; exact hown), hgr.out⟩

set_option maxRecDepth 100000 in
set_option maxHeartbeats 1000000 in
theorem heldSt_any (ao : Option Addr) (cap : Nat) (xs : List ByteArray) (K : Nat) (w : World) (h1 : Hid (TextsAt w ao xs)) (hl : K + xs.length ≤ 4999990) (hK : 0 < K) (hmk : Hid (∀ t (h : t < xs.length), xs[t] = markS (K + t))) :
    Calls Try.prog 92 #[.slice ao xs.length cap, .int .i64 K] w fun e w' => e = .returned (.int .i64 ((K + xs.length : Nat) : Int)) ∧ Below w.heap.size w w' := by
  go_enter Try.func92, Try.ntmps92
  go_wp2
  go_loopw [1, 5] (fun kk i wr => ∃ j : Nat, j ≤ xs.length ∧ i = .int .i64 j ∧ kk = .int .i64 ((K + j : Nat) : Int) ∧ Below w.heap.size w wr) (fun _ i _ => xs.length - (intOf i).toNat)
  case atStart => exact ⟨0, by omega, rfl, rfl, Below.refl _ _⟩
  case round =>
    obtain ⟨j, hj, rfl, rfl, hb⟩ := hrel
    have hsz := hb.size
    by_cases hlt : j < xs.length
    · obtain ⟨g, off, rfl, hgw, hc⟩ := h1.out.stays hb j hlt
      have hce : wr.cell? ⟨g, off + j, none⟩ = some (.string (markS (K + j))) := by
        rw [hc, hmk.out j hlt]
      clear hc
      have hq1 : (0 : Int) ≤ (j : Int) := by omega
      have hq2 : (j : Int) < (xs.length : Int) := by omega
      have hce2 : wr.cell? ⟨g, off + (j : Int).toNat, none⟩ = some (.string (markS (K + j))) := by simpa using hce
      have htn : ((K : Int) + (j : Int)).toNat = K + j := by omega
      go_wp2
      go_region_held3 (fun w' => w'.cell? ⟨g, off + (j : Int).toNat, none⟩ = some (.string (markS (K + j))) ∧ w'.cell? ⟨g, off + j, none⟩ = some (.string (markS (K + j)))) (first | exact ⟨hce2, hce⟩ | exact ⟨hk4, hk3⟩) (first | (go_at_call 135; refine (mark_at _ _ (by omega) (by omega)).mono ?_; rintro e w3 ⟨rfl, hb3⟩; have hk3 : w3.cell? ⟨g, off + j, none⟩ = some (.string (markS (K + j))) := (hb3.cell (p := ⟨g, off + j, none⟩) hgw).trans hce; have hk4 : w3.cell? ⟨g, off + (j : Int).toNat, none⟩ = some (.string (markS (K + j))) := (hb3.cell (p := ⟨g, off + (j : Int).toNat, none⟩) hgw).trans hce2))
      go_wp2
      go_roundw
      case rel => exact ⟨j + 1, by omega, by go_num, by go_num, hb.drew.trans (hb3.mono hsz)⟩
      case measure => simp [intOf]; omega
    · obtain rfl : j = xs.length := by omega
      go_wp2
      go_ret
      exact ⟨ret_int' (by omega), hb⟩

theorem heldSo_any (v : Value) (n B K : Nat) (w : World) (h1 : OwnS w B v (mkT K n)) (hl : K + n ≤ 4999990) (hK : 0 < K) :
    Calls Try.prog 92 #[v, .int .i64 K] w fun e w' => e = .returned (.int .i64 ((K + n : Nat) : Int)) ∧ Below w.heap.size w w' := by
  obtain ⟨ao, cap, rfl, hx⟩ := h1.texts
  have := heldSt_any ao cap (mkT K n) K w hx (by rw [mkT_length]; exact hl) hK (fun t h => by simp [mkT])
  rw [mkT_length] at this ⊢
  exact this
end Go.Proofs.Ytpbhcbgohgfkcaa

/- The walk over the specification's TokenOk. -/
namespace Go.Proofs.Ytpbhcbgohgfkcaa
open Go.RowKit Pl
set_option linter.unusedVariables false

set_option maxRecDepth 100000 in
set_option maxHeartbeats 4000000 in
theorem spTokenOk_7 (c r q a b : Int) (ao : Option Addr) (cap : Nat) (ws : List Int) (w : World) (hx : Hid (IntsAt w ao ws)) (h20 : ws.length ≤ 20) (h1 : decide (1 ≤ c ∧ c ≤ 9) = true) (h2 : decide (1 ≤ r ∧ r ≤ 1000000000) = true) (h3 : decide (0 ≤ q ∧ q ≤ 60) = true) (h4 : decide (0 ≤ a ∧ a ≤ q) = true) (h5 : decide (0 ≤ b ∧ b ≤ 5) = true) :
    Calls Try.prog 100 #[.agg #[.int .i64 c, .int .i64 r, .int .i64 q, .int .i64 a, .int .i64 b, .slice ao ws.length cap]] w fun e w' => e = .returned (.bool (wGo 0 q ws)) ∧ Below w.heap.size w w' := by
  have HB : ∀ o : Obj, Hid (Below w.heap.size w (w.alloc o)) := fun o => (Below.refl _ _).alloc (Nat.le_refl _) _
  have HX : ∀ o, Hid (IntsAt (w.alloc o) ao ws) := fun o => hx.out.stays (HB o).out
  have HT : Hid (TokAt (w.alloc (.cells #[.int .i64 c, .int .i64 r, .int .i64 q, .int .i64 a, .int .i64 b, .slice ao ws.length cap] 30)) w.heap.size c r q a b (.slice ao ws.length cap)) := heap_alloc_new w _
  have hB := HB (.cells #[.int .i64 c, .int .i64 r, .int .i64 q, .int .i64 a, .int .i64 b, .slice ao ws.length cap] 30)
  have hX := HX (.cells #[.int .i64 c, .int .i64 r, .int .i64 q, .int .i64 a, .int .i64 b, .slice ao ws.length cap] 30)
  clear HB HX hx
  go_enter Try.func100, Try.ntmps100
  go_wp2_with fail
  refine (in_is _ h1).mono ?_
  rintro e w1 ⟨rfl, rfl⟩
  go_wp2_with fail
  refine (in_is _ h2).mono ?_
  rintro e w1 ⟨rfl, rfl⟩
  go_wp2_with fail
  refine (in_is _ h3).mono ?_
  rintro e w1 ⟨rfl, rfl⟩
  go_wp2_with fail
  refine (in_is _ h4).mono ?_
  rintro e w1 ⟨rfl, rfl⟩
  go_wp2_with fail
  refine (in_is _ h5).mono ?_
  rintro e w1 ⟨rfl, rfl⟩
  go_wp2_with fail
  generalize w.alloc (.cells #[.int .i64 c, .int .i64 r, .int .i64 q, .int .i64 a, .int .i64 b, .slice ao ws.length cap] 30) = W at *
  go_loopw [3] (fun i wr => ∃ (k : Nat) (l : Int), k ≤ ws.length ∧ i = .int .i64 k ∧ Hid (WSt ws q k l) ∧ Hid (TokAt wr w.heap.size c r q a b (.slice ao ws.length cap)) ∧ Hid (IntsAt wr ao ws) ∧ Hid (Below w.heap.size w wr)) (fun i _ => ws.length - (intOf i).toNat)
  case atStart => exact ⟨0, 0, Nat.zero_le _, rfl, wSt_start ws q, HT.out, hX.out, hB.out⟩
  case round =>
    clear HT hX hB h1 h2 h3 h4 h5
    obtain ⟨k, l, hk, rfl, hst, HT, hX, hB⟩ := hrel
    obtain ⟨c0, c1, c2, c3, c4, c5⟩ := HT.out.cells
    clear c0 c1 c3 c4
    by_cases hlt : k < ws.length
    · obtain ⟨bb, off, hao, hbb, hc⟩ := hX.out k hlt
      obtain ⟨x, ht⟩ : ∃ x, x = ws[k] := ⟨_, rfl⟩
      rw [← ht] at hc
      have HV : Hid (x = ws[k]) := ht
      have i0 : (0 : Int) ≤ (k : Int) := by omega
      have i1 : (k : Int) < (ws.length : Int) := by omega
      have hc' : wr.cell? ⟨bb, off + (k : Int).toNat, none⟩ = some (.int .i64 x) := by rw [Int.toNat_natCast]; exact hc
      by_cases h0 : k = 0
      · have HL : Hid (l = 0) := hst.out.2.2.1 h0
        have hk0 : ¬ 0 < k := by omega
        subst hao
        clear h0 ht
        cases hi : decide (1 ≤ x ∧ x ≤ q) with
        | false =>
          go_wp2_with fail
          go_quiet (first | (go_at_call 76; exact Calls.quiet_of_same (in_is _ hi)))
          go_wp2_with fail
          go_ret
          have hbad : x ≤ l ∨ q < x := by have := HL.out; simp at hi; omega
          exact ⟨by rw [wSt_bad hst.out hlt HV.out hbad]; rfl, below_drewK hB.out _⟩
        | true =>
          go_wp2_with fail
          go_quiet (first | (go_at_call 76; exact Calls.quiet_of_same (in_is _ hi)))
          go_wp2_with fail
          go_roundw
          case rel => exact ⟨k + 1, x, by omega, by go_num, wSt_next hst.out hlt HV.out (by have := HL.out; simp at hi; omega) (by simp at hi; omega), HT.out, hX.out, below_drewK hB.out _⟩
          case measure => simp [intOf]; omega
      · obtain ⟨j, hj⟩ : ∃ j, k = j + 1 := ⟨k - 1, by omega⟩
        have hlj : j < ws.length := by omega
        have HL : Hid (l = ws[j]'hlj ∧ 0 ≤ l) := ⟨hst.out.2.2.2 j hlj hj, hst.out.2.1⟩
        obtain ⟨b2, off2, hao2, _, hc2⟩ := hX.out j hlj
        obtain ⟨rfl, rfl⟩ : b2 = bb ∧ off2 = off := by rw [hao] at hao2; simp at hao2; exact ⟨hao2.1.symm, hao2.2.symm⟩
        rw [← HL.out.1] at hc2
        have hk0 : 0 < k := by omega
        have hw1 : IntKind.i64.wrap ((k : Int) - 1) = (j : Int) := by rw [IntKind.wrap_i64]; omega
        have i2 : (0 : Int) ≤ (j : Int) := by omega
        have i3 : (j : Int) < (ws.length : Int) := by omega
        have hc3 : wr.cell? ⟨b2, off2 + (j : Int).toNat, none⟩ = some (.int .i64 l) := by rw [Int.toNat_natCast]; exact hc2
        subst hao
        have HJ : Hid (k = j + 1) := hj
        clear h0 ht hj hao2
        cases hi : decide (1 ≤ x ∧ x ≤ q) with
        | false =>
          go_wp2_with fail
          go_quiet (first | (go_at_call 76; exact Calls.quiet_of_same (in_is _ hi)))
          go_wp2_with fail
          go_ret
          have hbad : x ≤ l ∨ q < x := by have := HL.out.2; simp at hi; omega
          exact ⟨by rw [wSt_bad hst.out hlt HV.out hbad]; rfl, below_drewK hB.out _⟩
        | true =>
          by_cases hp : x ≤ l
          ·
            go_wp2_with fail
            go_quiet (first | (go_at_call 76; exact Calls.quiet_of_same (in_is _ hi)))
            go_wp2_with fail
            go_ret
            have hbad : x ≤ l ∨ q < x := by exact .inl hp
            exact ⟨by rw [wSt_bad hst.out hlt HV.out hbad]; rfl, below_drewK hB.out _⟩
          ·
            go_wp2_with fail
            go_quiet (first | (go_at_call 76; exact Calls.quiet_of_same (in_is _ hi)))
            go_wp2_with fail
            go_roundw
            case rel => exact ⟨k + 1, x, by omega, by go_num, wSt_next hst.out hlt HV.out (by omega) (by simp at hi; omega), HT.out, hX.out, below_drewK hB.out _⟩
            case measure => simp [intOf]; omega
    · go_wp2_with fail
      go_ret
      exact ⟨by rw [wSt_end hst.out (by omega)]; rfl, hB.out⟩

theorem spTokenOk_5 (c r q a b : Int) (ao : Option Addr) (cap : Nat) (ws : List Int) (w : World) (hx : Hid (IntsAt w ao ws)) (hl : ws.length ≤ 1048576) (h1 : decide (1 ≤ c ∧ c ≤ 9) = true) (h2 : decide (1 ≤ r ∧ r ≤ 1000000000) = true) (h3 : decide (0 ≤ q ∧ q ≤ 60) = true) (h4 : decide (0 ≤ a ∧ a ≤ q) = true) (h5 : decide (0 ≤ b ∧ b ≤ 5) = true) :
    Calls Try.prog 100 #[.agg #[.int .i64 c, .int .i64 r, .int .i64 q, .int .i64 a, .int .i64 b, .slice ao ws.length cap]] w fun e w' => e = .returned (.bool (wB ws q)) ∧ Below w.heap.size w w' := by
  unfold wB
  by_cases h20 : 20 < ws.length
  · have hd : decide ((ws.length : Int) ≤ 20) = false := by simp; omega
    rw [hd]
    exact spTokenOk_6 c r q a b ao cap ws w h20 h1 h2 h3 h4 h5
  · have hd : decide ((ws.length : Int) ≤ 20) = true := by simp; omega
    rw [hd, Bool.true_and]
    exact spTokenOk_7 c r q a b ao cap ws w hx (by omega) h1 h2 h3 h4 h5

theorem spTokenOk_any (c r q a b : Int) (ao : Option Addr) (cap : Nat) (ws : List Int) (w : World) (hx : Hid (IntsAt w ao ws)) (hl : ws.length ≤ 1048576) :
    Calls Try.prog 100 #[.agg #[.int .i64 c, .int .i64 r, .int .i64 q, .int .i64 a, .int .i64 b, .slice ao ws.length cap]] w fun e w' => e = .returned (.bool (tkB c r q a b ws)) ∧ Below w.heap.size w w' := by
  unfold tkB
  cases h1 : decide (1 ≤ c ∧ c ≤ 9) with
  | false => exact spTokenOk_0 c r q a b ao cap ws w h1
  | true =>
    cases h2 : decide (1 ≤ r ∧ r ≤ 1000000000) with
    | false => exact spTokenOk_1 c r q a b ao cap ws w h1 h2
    | true =>
      cases h3 : decide (0 ≤ q ∧ q ≤ 60) with
      | false => exact spTokenOk_2 c r q a b ao cap ws w h1 h2 h3
      | true =>
        cases h4 : decide (0 ≤ a ∧ a ≤ q) with
        | false => exact spTokenOk_3 c r q a b ao cap ws w h1 h2 h3 h4
        | true =>
          cases h5 : decide (0 ≤ b ∧ b ≤ 5) with
          | false => exact spTokenOk_4 c r q a b ao cap ws w h1 h2 h3 h4 h5
          | true => exact spTokenOk_5 c r q a b ao cap ws w hx hl h1 h2 h3 h4 h5
end Go.Proofs.Ytpbhcbgohgfkcaa

/- Rings in plain words, and the walks over both RingOk. -/
namespace Go.Proofs.Ytpbhcbgohgfkcaa
open Go.RowKit Pl
set_option linter.unusedVariables false

/-- a ring is right. -/
def ringB (i : Int) (ms : List Int) : Bool := decide (1 ≤ i ∧ i ≤ 9) && (decide (0 < ms.length) && wGo 0 5 ms)

theorem wGo_len : ∀ (ms : List Int) (l : Int), wGo l 5 ms = true → l ≤ 5 → (ms.length : Int) + l ≤ 5 := by
  intro ms
  induction ms with
  | nil => intro l _ h; simp; omega
  | cons x xs ih =>
    intro l h hl
    by_cases h1 : l < x ∧ x ≤ 5
    · rw [wGo_step h1.1 h1.2] at h
      have := ih x h h1.2
      simp only [List.length_cons, Int.natCast_add]
      omega
    · rw [wGo_bad (by omega)] at h
      cases h

set_option maxRecDepth 100000 in
set_option maxHeartbeats 1000000 in
theorem daemons_any (ao : Option Addr) (cap : Nat) (ws : List Int) (w : World) (hx : Hid (IntsAt w ao ws)) (hl : ws.length ≤ 1048576) :
    Calls Try.prog 119 #[.slice ao ws.length cap] w fun e w' => e = .returned (.bool (wGo 0 5 ws)) ∧ w' = w := by
  go_enter Try.func119, Try.ntmps119
  go_wp2
  go_loop [3, 8] (fun L i => ∃ (k : Nat) (l : Int), k ≤ ws.length ∧ L = .int .i64 l ∧ i = .int .i64 k ∧ Hid (WSt ws 5 k l)) (fun _ i => ws.length - (intOf i).toNat)
  case atStart => exact ⟨0, 0, Nat.zero_le _, rfl, rfl, wSt_start ws 5⟩
  case round =>
    obtain ⟨k, l, hk, rfl, rfl, hst⟩ := hrel
    by_cases hlt : k < ws.length
    · obtain ⟨b, off, rfl, hbb, hc⟩ := hx.out k hlt
      obtain ⟨x, ht⟩ : ∃ x, x = ws[k] := ⟨_, rfl⟩
      rw [← ht] at hc
      have HT : Hid (x = ws[k]) := ht
      clear ht
      by_cases h1 : x ≤ l
      · go_wp2
        go_ret
        exact ⟨by rw [wSt_bad hst.out hlt HT.out (.inl h1)]; rfl, rfl⟩
      · by_cases h2 : 5 < x
        · go_wp2
          go_ret
          exact ⟨by rw [wSt_bad hst.out hlt HT.out (.inr h2)]; simp, rfl⟩
        · go_wp2
          go_round
          case rel => exact ⟨k + 1, x, by omega, rfl, by go_num, wSt_next hst.out hlt HT.out (by omega) (by omega)⟩
          case measure => simp [intOf]; omega
    · go_wp2
      go_ret
      exact ⟨by rw [wSt_end hst.out (by omega)]; rfl, rfl⟩

/-- the block g is a ring. -/
def RgAt (w : World) (g : Nat) (i : Int) (v : Value) : Prop := w.heap[g]? = some (.cells #[.int .i64 i, v] 26 (0, 0))
theorem RgAt.cells {w : World} {g : Nat} {i : Int} {v : Value} (h : RgAt w g i v) : w.cell? ⟨g, 0, none⟩ = some (.int .i64 i) ∧ w.cell? ⟨g, 1, none⟩ = some v :=
  ⟨by rw [cell_of_row w g 0 _ 26 (0, 0) h]; rfl, by rw [cell_of_row w g 1 _ 26 (0, 0) h]; rfl⟩
theorem RgAt.stays {w w' : World} {B g : Nat} {i : Int} {v : Value} (h : RgAt w g i v) (hb : Below B w w') (hg : g < B) : RgAt w' g i v := (hb.block g hg).trans h
theorem RgAt.lt {w : World} {g : Nat} {i : Int} {v : Value} (h : RgAt w g i v) : g < w.heap.size := (Array.getElem?_eq_some_iff.1 h).1
theorem RgAt.frozen {w : World} {g : Nat} {i : Int} {v : Value} (h : RgAt w g i v) (k : Nat) : w.frozen? ⟨g, k, none⟩ = false := by
  unfold RgAt at h
  simp [World.frozen?, h]

set_option maxRecDepth 100000 in
set_option maxHeartbeats 1000000 in
theorem ringOk_any (i : Int) (ao : Option Addr) (cap : Nat) (ws : List Int) (w : World) (hx : Hid (IntsAt w ao ws)) (hl : ws.length ≤ 1048576) :
    Calls Try.prog 64 #[.agg #[.int .i64 i, .slice ao ws.length cap]] w fun e w' => e = .returned (.bool (ringB i ws)) ∧ Below w.heap.size w w' := by
  have HX : ∀ o, Hid (IntsAt (w.alloc o) ao ws) := fun o => hx.out.stays ((Below.refl _ _).alloc (Nat.le_refl _) _)
  unfold ringB
  cases h1 : decide (1 ≤ i ∧ i ≤ 9) with
  | false =>
    go_enter Try.func64, Try.ntmps64
    go_wp2_with fail
    refine (within_is _ h1).mono ?_
    rintro e w1 ⟨rfl, rfl⟩
    go_wp2_with fail
    go_ret
    exact ⟨rfl, (Below.refl _ _).alloc (Nat.le_refl _) _⟩
  | true =>
    by_cases h2 : 0 < ws.length
    · rw [decide_eq_true h2]
      have h2' : (0 : Int) < (ws.length : Int) := by omega
      go_enter Try.func64, Try.ntmps64
      go_wp2_with fail
      refine (within_is _ h1).mono ?_
      rintro e w1 ⟨rfl, rfl⟩
      go_wp2_with fail
      refine (daemons_any ao cap ws _ (HX _) hl).mono ?_
      rintro e w1 ⟨rfl, rfl⟩
      go_wp2_with fail
      go_ret
      exact ⟨rfl, (Below.refl _ _).alloc (Nat.le_refl _) _⟩
    · rw [decide_eq_false h2]
      have h2' : ¬ (0 : Int) < (ws.length : Int) := by omega
      go_enter Try.func64, Try.ntmps64
      go_wp2_with fail
      refine (within_is _ h1).mono ?_
      rintro e w1 ⟨rfl, rfl⟩
      go_wp2_with fail
      go_ret
      exact ⟨rfl, (Below.refl _ _).alloc (Nat.le_refl _) _⟩
end Go.Proofs.Ytpbhcbgohgfkcaa

/- Rings that a law sizes, copies, compares and writes over. -/
namespace Go.Proofs.Ytpbhcbgohgfkcaa
open Go.RowKit Pl
set_option linter.unusedVariables false

set_option maxRecDepth 100000 in
set_option maxHeartbeats 1000000 in
theorem szRing_long (i : Int) (ao : Option Addr) (n cap : Nat) (w : World) (h : 1048576 < n) (h2 : n ≤ 9223372036854775807) :
    Calls Try.prog 27 #[.agg #[.int .i64 i, .slice ao n cap], .int .i64 1048576] w fun e w' => e = .returned (.int .i64 (-1)) ∧ Below w.heap.size w w' := by
  go_enter Try.func27, Try.ntmps27
  go_wp2_with fail
  refine (szI_long ao n cap _ h h2).mono ?_
  rintro e w1 ⟨rfl, rfl⟩
  go_wp2_with fail
  go_ret
  exact ⟨rfl, (Below.refl _ _).alloc (Nat.le_refl _) _⟩
set_option maxRecDepth 100000 in
set_option maxHeartbeats 1000000 in
theorem szRing_any (i : Int) (ao : Option Addr) (n cap : Nat) (w : World) (h : n ≤ 1048576) :
    Calls Try.prog 27 #[.agg #[.int .i64 i, .slice ao n cap], .int .i64 1048576] w fun e w' => e = .returned (.int .i64 ((1048576 - n : Nat) : Int)) ∧ Below w.heap.size w w' := by
  have hz : decide (((1048576 - n : Nat) : Int) < 0) = false := by simp
  go_enter Try.func27, Try.ntmps27
  go_wp2_with fail
  refine (szI_any ao n cap _ h).mono ?_
  rintro e w1 ⟨rfl, rfl⟩
  go_wp2_with fail
  go_ret
  exact ⟨rfl, (Below.refl _ _).alloc (Nat.le_refl _) _⟩

theorem RgAt.set1 {w : World} {g : Nat} {i : Int} {v : Value} (h : RgAt w g i v) (u : Value) : RgAt (w.setCell ⟨g, 1, none⟩ u) g i u := by
  have := heap_setCell_same w g 1 _ 26 u h
  unfold RgAt; rw [this]; rfl
theorem RgAt.turn {w w' : World} {g k : Nat} {i : Int} {v : Value} (h : RgAt w g i v) (hk : TurnAt k w w') (hg : g ≠ k) : RgAt w' g i v := (hk.block g hg).trans h
theorem RgAt.agg {w : World} {g : Nat} {i : Int} {v : Value} (h : RgAt w g i v) (i' : Int) (v' : Value) :
    RgAt ((w.setCell ⟨g, 0, none⟩ (.int .i64 i')).setCell ⟨g, 1, none⟩ v') g i' v' := by
  have h0 := heap_setCell_same w g 0 _ 26 (.int .i64 i') h
  have h1 := heap_setCell_same _ g 1 _ 26 v' h0
  unfold RgAt; rw [h1]; rfl
/-- a list's block is no ring's. -/
theorem own_ring {w w' : World} {B g : Nat} {v : Value} {xs : List Int} {i : Int} {u : Value} (h : OwnI w B v xs) (hu : RgAt w g i u) (ht : TurnAt g w w') : OwnI w' B v xs := by
  refine ⟨h.1, ?_⟩
  rcases h.2 with hn | ⟨k, cap, cur, rfl, hbg, hk, rest⟩
  · exact .inl hn
  · have hne : k ≠ g := by
      rintro rfl
      unfold RgAt at hu
      rw [hk] at hu
      simp at hu
    exact .inr ⟨k, cap, cur, rfl, hbg, (ht.block k hne).trans hk, rest⟩

set_option maxRecDepth 100000 in
set_option maxHeartbeats 2000000 in
theorem toRing_any (i : Int) (ao : Option Addr) (cap : Nat) (ws : List Int) (w : World) (hx : Hid (IntsAt w ao ws)) (hl : ws.length ≤ 1048576) :
    Calls Try.prog 29 #[.agg #[.int .i64 i, .slice ao ws.length cap]] w fun e w' => ∃ v, e = .returned (.agg #[.int .i64 i, v]) ∧ OwnI w' w.heap.size v ws ∧ Below w.heap.size w w' := by
  have hn1 : (w.alloc (.cells #[.int .i64 i, .slice ao ws.length cap] 56)).heap.size = w.heap.size + 1 := by simp
  have hn2 : ((w.alloc (.cells #[.int .i64 i, .slice ao ws.length cap] 56)).alloc (.cells #[.int .i64 0, .slice none 0 0] 26)).heap.size = w.heap.size + 2 := by simp
  have HR : Hid (RgAt (((w.alloc (.cells #[.int .i64 i, .slice ao ws.length cap] 56)).alloc (.cells #[.int .i64 0, .slice none 0 0] 26)).alloc (.cells #[.int .i64 i, .slice none 0 0] 26)) (w.heap.size + 1) 0 (.slice none 0 0)) := by
    have h := heap_alloc_new (w.alloc (.cells #[.int .i64 i, .slice ao ws.length cap] 56)) (.cells #[.int .i64 0, .slice none 0 0] 26)
    rw [hn1] at h
    exact RgAt.stays (B := w.heap.size + 2) h ((Below.refl _ _).alloc (by rw [hn2]; exact Nat.le_refl _) _) (by omega)
  have HO : Hid (RgAt (((w.alloc (.cells #[.int .i64 i, .slice ao ws.length cap] 56)).alloc (.cells #[.int .i64 0, .slice none 0 0] 26)).alloc (.cells #[.int .i64 i, .slice none 0 0] 26)) (w.heap.size + 2) i (.slice none 0 0)) := by
    have h := heap_alloc_new ((w.alloc (.cells #[.int .i64 i, .slice ao ws.length cap] 56)).alloc (.cells #[.int .i64 0, .slice none 0 0] 26)) (.cells #[.int .i64 i, .slice none 0 0] 26)
    rw [hn2] at h
    exact h
  have HB : Hid (Below w.heap.size w (((w.alloc (.cells #[.int .i64 i, .slice ao ws.length cap] 56)).alloc (.cells #[.int .i64 0, .slice none 0 0] 26)).alloc (.cells #[.int .i64 i, .slice none 0 0] 26))) := (((Below.refl _ _).alloc (Nat.le_refl _) _).alloc (by simp) _).alloc (by simp; omega) _
  have HX : Hid (IntsAt (((w.alloc (.cells #[.int .i64 i, .slice ao ws.length cap] 56)).alloc (.cells #[.int .i64 0, .slice none 0 0] 26)).alloc (.cells #[.int .i64 i, .slice none 0 0] 26)) ao ws) := hx.out.stays HB.out
  clear hn1 hn2 hx
  go_enter Try.func29, Try.ntmps29
  go_wp2_with fail
  generalize (((w.alloc (.cells #[.int .i64 i, .slice ao ws.length cap] 56)).alloc (.cells #[.int .i64 0, .slice none 0 0] 26)).alloc (.cells #[.int .i64 i, .slice none 0 0] 26)) = W at *
  refine (toI_any W ao cap ws HX hl).mono ?_
  rintro e w1 ⟨v, rfl, hv, hb1⟩
  have R1 : Hid (RgAt w1 (w.heap.size + 1) 0 (.slice none 0 0)) := HR.out.stays hb1 HR.out.lt
  have O1 : Hid (RgAt w1 (w.heap.size + 2) i (.slice none 0 0)) := HO.out.stays hb1 HO.out.lt
  have B1 : Hid (Below w.heap.size w w1) := HB.out.trans (hb1.mono HB.out.size)
  have V1 : Hid (OwnI w1 w.heap.size v ws) := hv.down HB.out.size
  obtain ⟨ao', cap', rfl⟩ := hv.form
  have c5 := O1.out.cells.2
  have f5 := O1.out.frozen 1
  clear hv hb1 HR HO HB HX
  have T2 := (TurnAt.refl (w.heap.size + 2) w1).setCell 1 (.slice ao' ws.length cap')
  have R2 : Hid (RgAt (w1.setCell ⟨w.heap.size + 2, 1, none⟩ (.slice ao' ws.length cap')) (w.heap.size + 1) 0 (.slice none 0 0)) := R1.out.turn T2 (by omega)
  have O2 : Hid (RgAt (w1.setCell ⟨w.heap.size + 2, 1, none⟩ (.slice ao' ws.length cap')) (w.heap.size + 2) i (.slice ao' ws.length cap')) := O1.out.set1 _
  have B2 : Hid (Below w.heap.size w (w1.setCell ⟨w.heap.size + 2, 1, none⟩ (.slice ao' ws.length cap'))) := B1.out.trans (T2.below (by omega))
  have V2 : Hid (OwnI (w1.setCell ⟨w.heap.size + 2, 1, none⟩ (.slice ao' ws.length cap')) w.heap.size (.slice ao' ws.length cap') ws) := own_ring V1.out O1.out T2
  clear T2 R1 O1 B1 V1
  obtain ⟨o0, o1⟩ := O2.out.cells
  obtain ⟨r0, r1⟩ := R2.out.cells
  have z0 := R2.out.frozen 0
  have z1 := R2.out.frozen 1
  have R3 : RgAt _ (w.heap.size + 1) i (.slice ao' ws.length cap') := R2.out.agg i (.slice ao' ws.length cap')
  have T3 := ((TurnAt.refl (w.heap.size + 1) (w1.setCell ⟨w.heap.size + 2, 1, none⟩ (.slice ao' ws.length cap'))).setCell 0 (.int .i64 i)).setCell 1 (.slice ao' ws.length cap')
  have V3 := own_ring V2.out R2.out T3
  have B3 := B2.out.trans (T3.below (by omega))
  clear T3 R2 O2 B2 V2
  go_wp2_with fail
  generalize (((w1.setCell ⟨w.heap.size + 2, 1, none⟩ (.slice ao' ws.length cap')).setCell ⟨w.heap.size + 1, 0, none⟩ (.int .i64 i)).setCell ⟨w.heap.size + 1, 1, none⟩ (.slice ao' ws.length cap')) = W3 at *
  obtain ⟨q0, q1⟩ := R3.cells
  refine bodyPost_ret (v := .agg #[.int .i64 i, .slice ao' ws.length cap']) (by simp [results, Try.results29, go_sem, q0, q1]) rfl ?_
  exact ⟨_, rfl, V3, B3⟩

set_option maxRecDepth 100000 in
set_option maxHeartbeats 1000000 in
theorem eqRing_same (i : Int) (v1 v2 : Value) (ws : List Int) (B1 B2 : Nat) (w : World) (h1 : Hid (OwnI w B1 v1 ws)) (h2 : Hid (OwnI w B2 v2 ws)) (hl : ws.length ≤ 1048576) :
    Calls Try.prog 31 #[.agg #[.int .i64 i, v1], .agg #[.int .i64 i, v2]] w fun e w' => e = .returned (.bool true) ∧ Below w.heap.size w w' := by
  obtain ⟨ao1, cap1, rfl⟩ := h1.out.form
  obtain ⟨ao2, cap2, rfl⟩ := h2.out.form
  go_enter Try.func31, Try.ntmps31
  go_wp2_with fail
  refine (eqI_same _ _ ws B1 B2 _ ((h1.out.alloc _).alloc _) ((h2.out.alloc _).alloc _) hl).mono ?_
  rintro e w1 ⟨rfl, hb1⟩
  go_wp2_with fail
  go_ret
  exact ⟨rfl, (((Below.refl _ _).alloc (Nat.le_refl _) _).alloc (by simp) _).trans (hb1.mono (by simp; omega))⟩

set_option maxRecDepth 100000 in
set_option maxHeartbeats 1000000 in
theorem markRing_any (i : Int) (v : Value) (ss : List Int) (B K : Nat) (w : World) (h1 : Hid (OwnI w B v ss)) (hl : K + ss.length ≤ 4999990) (hK : 0 < K) :
    Calls Try.prog 32 #[.agg #[.int .i64 i, v], .int .i64 K] w fun e w' => e = .returned (.int .i64 ((K + ss.length : Nat) : Int)) ∧ OwnI w' B v (marks K ss.length) ∧ w.grownBy w' v.ownBlock := by
  obtain ⟨ao, cap, rfl⟩ := h1.out.form
  have HW : Hid (OwnI (w.alloc (.cells #[.int .i64 i, .slice ao ss.length cap] 26)) B (.slice ao ss.length cap) ss) := h1.out.alloc _
  have HG : Hid (w.grownBy (w.alloc (.cells #[.int .i64 i, .slice ao ss.length cap] 26)) (Value.slice ao ss.length cap).ownBlock) := grown_bl ((Below.refl _ _).alloc (Nat.le_refl _) _)
  clear h1
  go_enter Try.func32, Try.ntmps32
  go_wp2_with fail
  generalize w.alloc (.cells #[.int .i64 i, .slice ao ss.length cap] 26) = W at *
  refine (markI_any _ ss B K W HW.out hl hK).mono ?_
  rintro e w1 ⟨rfl, hv1, hg1⟩
  go_wp2_with fail
  go_ret
  exact ⟨rfl, hv1, grown_transC HG.out hg1⟩

/-- the block g is a ring that was handed in. -/
def LrgAt (w : World) (g : Nat) (i : Int) (v : Value) : Prop := w.heap[g]? = some (.cells #[.int .i64 i, v] 56 (0, 0))
theorem LrgAt.cells {w : World} {g : Nat} {i : Int} {v : Value} (h : LrgAt w g i v) : w.cell? ⟨g, 0, none⟩ = some (.int .i64 i) ∧ w.cell? ⟨g, 1, none⟩ = some v :=
  ⟨by rw [cell_of_row w g 0 _ 56 (0, 0) h]; rfl, by rw [cell_of_row w g 1 _ 56 (0, 0) h]; rfl⟩
theorem LrgAt.stays {w w' : World} {B g : Nat} {i : Int} {v : Value} (h : LrgAt w g i v) (hb : Below B w w') (hg : g < B) : LrgAt w' g i v := (hb.block g hg).trans h
theorem LrgAt.lt {w : World} {g : Nat} {i : Int} {v : Value} (h : LrgAt w g i v) : g < w.heap.size := (Array.getElem?_eq_some_iff.1 h).1
end Go.Proofs.Ytpbhcbgohgfkcaa

/- The walk over the specification's RingOk. -/
namespace Go.Proofs.Ytpbhcbgohgfkcaa
open Go.RowKit Pl
set_option linter.unusedVariables false

set_option maxRecDepth 100000 in
set_option maxHeartbeats 4000000 in
theorem spRingOk_2 (i : Int) (ao : Option Addr) (cap : Nat) (ws : List Int) (w : World) (hx : Hid (IntsAt w ao ws)) (h20 : ws.length ≤ 5) (h1 : decide (1 ≤ i ∧ i ≤ 9) = true) (h2 : decide (1 ≤ (ws.length : Int) ∧ (ws.length : Int) ≤ 5) = true) :
    Calls Try.prog 78 #[.agg #[.int .i64 i, .slice ao ws.length cap]] w fun e w' => e = .returned (.bool (wGo 0 5 ws)) ∧ Below w.heap.size w w' := by
  have HB : ∀ o : Obj, Hid (Below w.heap.size w (w.alloc o)) := fun o => (Below.refl _ _).alloc (Nat.le_refl _) _
  have HX : ∀ o, Hid (IntsAt (w.alloc o) ao ws) := fun o => hx.out.stays (HB o).out
  have HT : Hid (RgAt (w.alloc (.cells #[.int .i64 i, .slice ao ws.length cap] 26)) w.heap.size i (.slice ao ws.length cap)) := heap_alloc_new w _
  have hB := HB (.cells #[.int .i64 i, .slice ao ws.length cap] 26)
  have hX := HX (.cells #[.int .i64 i, .slice ao ws.length cap] 26)
  clear HB HX hx
  go_enter Try.func78, Try.ntmps78
  go_wp2_with fail
  refine (in_is _ h1).mono ?_
  rintro e w1 ⟨rfl, rfl⟩
  go_wp2_with fail
  refine (in_is _ h2).mono ?_
  rintro e w1 ⟨rfl, rfl⟩
  go_wp2_with fail
  generalize w.alloc (.cells #[.int .i64 i, .slice ao ws.length cap] 26) = W at *
  go_loopw [3] (fun ix wr => ∃ (k : Nat) (l : Int), k ≤ ws.length ∧ ix = .int .i64 k ∧ Hid (WSt ws 5 k l) ∧ Hid (RgAt wr w.heap.size i (.slice ao ws.length cap)) ∧ Hid (IntsAt wr ao ws) ∧ Hid (Below w.heap.size w wr)) (fun ix _ => ws.length - (intOf ix).toNat)
  case atStart => exact ⟨0, 0, Nat.zero_le _, rfl, wSt_start ws 5, HT.out, hX.out, hB.out⟩
  case round =>
    clear HT hX hB h1 h2
    obtain ⟨k, l, hk, rfl, hst, HT, hX, hB⟩ := hrel
    obtain ⟨c0, c5⟩ := HT.out.cells
    clear c0
    by_cases hlt : k < ws.length
    · obtain ⟨bb, off, hao, hbb, hc⟩ := hX.out k hlt
      obtain ⟨x, ht⟩ : ∃ x, x = ws[k] := ⟨_, rfl⟩
      rw [← ht] at hc
      have HV : Hid (x = ws[k]) := ht
      have i0 : (0 : Int) ≤ (k : Int) := by omega
      have i1 : (k : Int) < (ws.length : Int) := by omega
      have hc' : wr.cell? ⟨bb, off + (k : Int).toNat, none⟩ = some (.int .i64 x) := by rw [Int.toNat_natCast]; exact hc
      by_cases h0 : k = 0
      · have HL : Hid (l = 0) := hst.out.2.2.1 h0
        have hk0 : ¬ 0 < k := by omega
        subst hao
        clear h0 ht
        cases hi : decide (1 ≤ x ∧ x ≤ 5) with
        | false =>
          go_wp2_with fail
          go_quiet (first | (go_at_call 76; exact Calls.quiet_of_same (in_is _ hi)))
          go_wp2_with fail
          go_ret
          have hbad : x ≤ l ∨ 5 < x := by have := HL.out; simp at hi; omega
          exact ⟨by rw [wSt_bad hst.out hlt HV.out hbad]; rfl, below_drewK hB.out _⟩
        | true =>
          go_wp2_with fail
          go_quiet (first | (go_at_call 76; exact Calls.quiet_of_same (in_is _ hi)))
          go_wp2_with fail
          go_roundw
          case rel => exact ⟨k + 1, x, by omega, by go_num, wSt_next hst.out hlt HV.out (by have := HL.out; simp at hi; omega) (by simp at hi; omega), HT.out, hX.out, below_drewK hB.out _⟩
          case measure => simp [intOf]; omega
      · obtain ⟨j, hj⟩ : ∃ j, k = j + 1 := ⟨k - 1, by omega⟩
        have hlj : j < ws.length := by omega
        have HL : Hid (l = ws[j]'hlj ∧ 0 ≤ l) := ⟨hst.out.2.2.2 j hlj hj, hst.out.2.1⟩
        obtain ⟨b2, off2, hao2, _, hc2⟩ := hX.out j hlj
        obtain ⟨rfl, rfl⟩ : b2 = bb ∧ off2 = off := by rw [hao] at hao2; simp at hao2; exact ⟨hao2.1.symm, hao2.2.symm⟩
        rw [← HL.out.1] at hc2
        have hk0 : 0 < k := by omega
        have hw1 : IntKind.i64.wrap ((k : Int) - 1) = (j : Int) := by rw [IntKind.wrap_i64]; omega
        have i2 : (0 : Int) ≤ (j : Int) := by omega
        have i3 : (j : Int) < (ws.length : Int) := by omega
        have hc3 : wr.cell? ⟨b2, off2 + (j : Int).toNat, none⟩ = some (.int .i64 l) := by rw [Int.toNat_natCast]; exact hc2
        subst hao
        have HJ : Hid (k = j + 1) := hj
        clear h0 ht hj hao2
        cases hi : decide (1 ≤ x ∧ x ≤ 5) with
        | false =>
          go_wp2_with fail
          go_quiet (first | (go_at_call 76; exact Calls.quiet_of_same (in_is _ hi)))
          go_wp2_with fail
          go_ret
          have hbad : x ≤ l ∨ 5 < x := by have := HL.out.2; simp at hi; omega
          exact ⟨by rw [wSt_bad hst.out hlt HV.out hbad]; rfl, below_drewK hB.out _⟩
        | true =>
          by_cases hp : x ≤ l
          ·
            go_wp2_with fail
            go_quiet (first | (go_at_call 76; exact Calls.quiet_of_same (in_is _ hi)))
            go_wp2_with fail
            go_ret
            have hbad : x ≤ l ∨ 5 < x := by exact .inl hp
            exact ⟨by rw [wSt_bad hst.out hlt HV.out hbad]; rfl, below_drewK hB.out _⟩
          ·
            go_wp2_with fail
            go_quiet (first | (go_at_call 76; exact Calls.quiet_of_same (in_is _ hi)))
            go_wp2_with fail
            go_roundw
            case rel => exact ⟨k + 1, x, by omega, by go_num, wSt_next hst.out hlt HV.out (by omega) (by simp at hi; omega), HT.out, hX.out, below_drewK hB.out _⟩
            case measure => simp [intOf]; omega
    · go_wp2_with fail
      go_ret
      exact ⟨by rw [wSt_end hst.out (by omega)]; rfl, hB.out⟩

theorem wGo_long {ws : List Int} (h : 5 < ws.length) : wGo 0 5 ws = false := by
  cases hg : wGo 0 5 ws with
  | false => rfl
  | true => have := wGo_len ws 0 hg (by omega); omega

set_option maxRecDepth 100000 in
set_option maxHeartbeats 1000000 in
theorem spRingOk_any (i : Int) (ao : Option Addr) (cap : Nat) (ws : List Int) (w : World) (hx : Hid (IntsAt w ao ws)) (hl : ws.length ≤ 1048576) :
    Calls Try.prog 78 #[.agg #[.int .i64 i, .slice ao ws.length cap]] w fun e w' => e = .returned (.bool (ringB i ws)) ∧ Below w.heap.size w w' := by
  unfold ringB
  cases h1 : decide (1 ≤ i ∧ i ≤ 9) with
  | false =>
    go_enter Try.func78, Try.ntmps78
    go_wp2_with fail
    refine (in_is _ h1).mono ?_
    rintro e w1 ⟨rfl, rfl⟩
    go_wp2_with fail
    go_ret
    exact ⟨rfl, (Below.refl _ _).alloc (Nat.le_refl _) _⟩
  | true =>
    cases h2 : decide (1 ≤ (ws.length : Int) ∧ (ws.length : Int) ≤ 5) with
    | true =>
      have h3 : decide (0 < ws.length) = true := by simp at h2 ⊢; omega
      rw [h3]
      exact spRingOk_2 i ao cap ws w hx (by simp at h2; omega) h1 h2
    | false =>
      have h3 : (decide (0 < ws.length) && wGo 0 5 ws) = false := by
        by_cases h0 : 0 < ws.length
        · rw [wGo_long (by simp at h2; omega)]; simp
        · rw [decide_eq_false h0]; rfl
      rw [h3]
      go_enter Try.func78, Try.ntmps78
      go_wp2_with fail
      refine (in_is _ h1).mono ?_
      rintro e w1 ⟨rfl, rfl⟩
      go_wp2_with fail
      refine (in_is _ h2).mono ?_
      rintro e w1 ⟨rfl, rfl⟩
      go_wp2_with fail
      go_ret
      exact ⟨rfl, (Below.refl _ _).alloc (Nat.le_refl _) _⟩
end Go.Proofs.Ytpbhcbgohgfkcaa

/- The member behind another: slices.Index and both NextOf. -/
namespace Go.Proofs.Ytpbhcbgohgfkcaa
open Go.RowKit Pl
set_option linter.unusedVariables false

/-- the first place of d is k. -/
def FirstAt (ms : List Int) (d : Int) (k : Nat) : Prop := ∃ h : k < ms.length, ms[k] = d ∧ ∀ j (hj : j < k), ms[j]'(by omega) ≠ d
/-- d has no place among the first k. -/
def NoneUpto (ms : List Int) (d : Int) (k : Nat) : Prop := ∀ j (hj : j < ms.length), j < k → ms[j] ≠ d
theorem first_or_none (ms : List Int) (d : Int) : (∃ k, FirstAt ms d k) ∨ NoneUpto ms d ms.length := by
  have : ∀ n, n ≤ ms.length → (∃ k, FirstAt ms d k) ∨ NoneUpto ms d n := by
    intro n
    induction n with
    | zero => intro _; exact .inr fun j _ h => by omega
    | succ n ih =>
      intro hn
      rcases ih (by omega) with h | h
      · exact .inl h
      · by_cases e : ms[n]'(by omega) = d
        · exact .inl ⟨n, by omega, e, fun j hj => h j (by omega) hj⟩
        · refine .inr fun j hj hjn => ?_
          by_cases e2 : j = n
          · subst e2; exact e
          · exact h j hj (by omega)
  exact this _ (Nat.le_refl _)

/-- the member behind d. -/
def nextP (i : Int) (ms : List Int) (d : Int) : Int :=
  if ringB i ms then (match ms.findIdx? (fun x => x == d) with | some k => ms.getD ((k + 1) % ms.length) 0 | none => 0) else 0
theorem nextP_bad {i : Int} {ms : List Int} {d : Int} (h : ringB i ms = false) : nextP i ms d = 0 := by simp [nextP, h]
theorem nextP_none {i : Int} {ms : List Int} {d : Int} (h : NoneUpto ms d ms.length) : nextP i ms d = 0 := by
  have : ms.findIdx? (fun x => x == d) = none := by
    rw [List.findIdx?_eq_none_iff]
    intro x hx
    obtain ⟨j, hj, rfl⟩ := List.getElem_of_mem hx
    simpa using h j hj hj
  simp [nextP, this]
theorem nextP_at {i : Int} {ms : List Int} {d : Int} {k : Nat} (h : FirstAt ms d k) (hr : ringB i ms = true) : nextP i ms d = ms[(k + 1) % ms.length]'(Nat.mod_lt _ (by obtain ⟨h, _⟩ := h; omega)) := by
  obtain ⟨hk, he, hf⟩ := h
  have : ms.findIdx? (fun x => x == d) = some k := by
    rw [List.findIdx?_eq_some_iff_getElem]
    exact ⟨hk, by simp [he], fun j hj => by simpa using hf j hj⟩
  have hm : (k + 1) % ms.length < ms.length := Nat.mod_lt _ (by omega)
  simp [nextP, this, hr, hm]

set_option maxRecDepth 100000 in
set_option maxHeartbeats 1000000 in
theorem index_at (ao : Option Addr) (cap : Nat) (ws : List Int) (d : Int) (n : Nat) (w : World) (hx : Hid (IntsAt w ao ws)) (hl : ws.length ≤ 1048576) (hf : Hid (FirstAt ws d n)) :
    Calls Try.prog 143 #[.slice ao ws.length cap, .int .i64 d] w fun e w' => e = .returned (.int .i64 (n : Int)) ∧ w' = w := by
  go_enter Try.func143, Try.ntmps143
  go_wp2
  go_loop [8] (fun i => ∃ (k : Nat), k ≤ n ∧ i = .int .i64 k) (fun i => ws.length - (intOf i).toNat)
  case atStart => exact ⟨0, Nat.zero_le _, rfl⟩
  case round =>
    obtain ⟨k, hk, rfl⟩ := hrel
    have hn : n < ws.length := by obtain ⟨h, _⟩ := hf.out; exact h
    have hlt : k < ws.length := by omega
    obtain ⟨b, off, rfl, hbb, hc⟩ := hx.out k hlt
    obtain ⟨x, ht⟩ : ∃ x, x = ws[k] := ⟨_, rfl⟩
    rw [← ht] at hc
    have HT : Hid (x = ws[k]) := ht
    clear ht
    by_cases h1 : k = n
    · have h2 : d = x := by obtain ⟨h, he, _⟩ := hf.out; rw [HT.out]; subst h1; exact he.symm
      subst h2
      subst h1
      go_wp2
      go_ret
      exact ⟨rfl, rfl⟩
    · have h2 : ¬ d = x := by obtain ⟨h, he, hq⟩ := hf.out; rw [HT.out]; exact fun e => hq k (by omega) e.symm
      go_wp2
      go_round
      case rel => exact ⟨k + 1, by omega, by go_num⟩
      case measure => simp [intOf]; omega

set_option maxRecDepth 100000 in
set_option maxHeartbeats 1000000 in
theorem index_none (ao : Option Addr) (cap : Nat) (ws : List Int) (d : Int) (w : World) (hx : Hid (IntsAt w ao ws)) (hl : ws.length ≤ 1048576) (hf : Hid (NoneUpto ws d ws.length)) :
    Calls Try.prog 143 #[.slice ao ws.length cap, .int .i64 d] w fun e w' => e = .returned (.int .i64 (-1)) ∧ w' = w := by
  go_enter Try.func143, Try.ntmps143
  go_wp2
  go_loop [8] (fun i => ∃ (k : Nat), k ≤ ws.length ∧ i = .int .i64 k) (fun i => ws.length - (intOf i).toNat)
  case atStart => exact ⟨0, Nat.zero_le _, rfl⟩
  case round =>
    obtain ⟨k, hk, rfl⟩ := hrel
    by_cases hlt : k < ws.length
    · obtain ⟨b, off, rfl, hbb, hc⟩ := hx.out k hlt
      obtain ⟨x, ht⟩ : ∃ x, x = ws[k] := ⟨_, rfl⟩
      rw [← ht] at hc
      have HT : Hid (x = ws[k]) := ht
      clear ht
      have h2 : ¬ d = x := by rw [HT.out]; exact fun e => hf.out k hlt hlt e.symm
      go_wp2
      go_round
      case rel => exact ⟨k + 1, by omega, by go_num⟩
      case measure => simp [intOf]; omega
    · go_wp2
      go_ret
      exact ⟨rfl, rfl⟩

theorem mod_wrap {k n : Nat} (hk : k < n) (hn : n ≤ 1048576) : IntKind.i64.wrap (IntKind.i64.wrap ((k : Int) + 1)) = ((k + 1 : Nat) : Int) := by
  rw [IntKind.wrap_i64, IntKind.wrap_i64]; omega
end Go.Proofs.Ytpbhcbgohgfkcaa

/- The item that has a number: the walks over store.at and over both ItemAt. -/
namespace Go.Proofs.Ytpbhcbgohgfkcaa
open Go.RowKit Pl
set_option linter.unusedVariables false

/-- the first item that has the number n. -/
def atP (ts : List It) (n : Int) : Option It := ts.find? fun x => decide (x.1 = n)
/-- whether one has it. -/
def hasP (ts : List It) (n : Int) : Bool := (atP ts n).isSome
theorem atP_here {ts : List It} {n : Int} {k : Nat} (hk : k < ts.length) (hn : ts[k].1 = n) (h : ∀ x ∈ ts.take k, ¬ x.1 = n) : atP ts n = some ts[k] := by
  unfold atP
  have e : ts.find? (fun x => decide (x.1 = n)) = (ts.take k ++ ts.drop k).find? (fun x => decide (x.1 = n)) := by rw [List.take_append_drop]
  rw [e, List.find?_append, List.find?_eq_none.2 (fun x hx => by simpa using h x hx), List.drop_eq_getElem_cons hk, List.find?_cons_of_pos (by simpa using hn)]
  rfl
theorem atP_none {ts : List It} {n : Int} (h : ∀ x ∈ ts, ¬ x.1 = n) : atP ts n = none := by
  unfold atP
  exact List.find?_eq_none.2 fun x hx => by simpa using h x hx
theorem hasP_iff {ts : List It} {n : Int} : hasP ts n = true ↔ ∃ x ∈ ts, x.1 = n := by
  unfold hasP atP
  simp
theorem take_step {ts : List It} {n : Int} {k : Nat} (hk : k < ts.length) (h : ∀ x ∈ ts.take k, ¬ x.1 = n) (hn : ¬ ts[k].1 = n) : ∀ x ∈ ts.take (k + 1), ¬ x.1 = n := by
  intro x hx
  rw [List.take_succ_eq_append_getElem hk] at hx
  rcases List.mem_append.1 hx with h1 | h1
  · exact h x h1
  · rw [List.mem_singleton.1 h1]; exact hn

theorem zt (w : World) : ItAt (w.alloc (.cells #[.int .i64 0, .int .i64 0, .int .i64 0, .string ⟨#[]⟩] 38)) w.heap.size 0 0 0 ⟨#[]⟩ := heap_alloc_new w _
/-- four cells stored. -/
theorem ItAt.put4 {w : World} {g : Nat} {q f l q' f' l' : Int} {t t' : ByteArray} (h : ItAt w g q f l t) :
    ItAt ((((w.setCell ⟨g, 0, none⟩ (.int .i64 q')).setCell ⟨g, 1, none⟩ (.int .i64 f')).setCell ⟨g, 2, none⟩ (.int .i64 l')).setCell ⟨g, 3, none⟩ (.string t')) g q' f' l' t' := by
  have e0 := heap_setCell_same w g 0 _ 38 (.int .i64 q') h
  have e1 := heap_setCell_same _ g 1 _ 38 (.int .i64 f') e0
  have e2 := heap_setCell_same _ g 2 _ 38 (.int .i64 l') e1
  exact heap_setCell_same _ g 3 _ 38 (.string t') e2
theorem ItAt.frozen {w : World} {g : Nat} {q f l : Int} {t : ByteArray} (h : ItAt w g q f l t) (i : Nat) : w.frozen? ⟨g, i, none⟩ = false := frozen_of_row w g i _ 38 h

set_option maxRecDepth 100000 in
set_option maxHeartbeats 1000000 in
theorem at_any (ao : Option Addr) (cap : Nat) (ts : List It) (n : Int) (w : World) (hx : Hid (ItemsAt w ao ts)) (hl : ts.length ≤ 1048576) :
    Calls Try.prog 110 #[.slice ao ts.length cap, .int .i64 n] w fun e w' => e = .returned (.tuple #[agg ((atP ts n).getD zIt), .bool (hasP ts n)]) ∧ Below w.heap.size w w' := by
  have HZ : Hid (ItAt (w.alloc (.cells #[.int .i64 0, .int .i64 0, .int .i64 0, .string ⟨#[]⟩] 38)) w.heap.size 0 0 0 ⟨#[]⟩) := zt w
  go_enter Try.func110, Try.ntmps110
  go_wp2
  go_loopw [11] (fun i wr => ∃ (k : Nat), k ≤ ts.length ∧ i = .int .i64 k ∧ Hid (∀ x ∈ ts.take k, ¬ x.1 = n) ∧ Hid (Below w.heap.size w wr) ∧ Hid (ItAt wr w.heap.size 0 0 0 ⟨#[]⟩)) (fun i _ => ts.length - (intOf i).toNat)
  case atStart => exact ⟨0, Nat.zero_le _, rfl, (fun x hx => by simp at hx : ∀ x ∈ ts.take 0, ¬ x.1 = n), (Below.refl _ _).alloc (Nat.le_refl _) _, HZ⟩
  case round =>
    clear HZ
    obtain ⟨k, hk, rfl, hst, hb, hz⟩ := hrel
    by_cases hlt : k < ts.length
    · obtain ⟨b, off, rfl, hbb, h0, h1, h2, h3⟩ := hx.out.stays hb.out k hlt
      have HP : Hid (∃ x : It, x = ts[k]) := ⟨_, rfl⟩
      obtain ⟨⟨q, f, lv, tx⟩, hp⟩ := HP.out
      rw [← hp] at h0 h1 h2 h3
      have HQ : Hid ((q, f, lv, tx) = ts[k]) := hp
      clear hp HP
      dsimp only at h0 h1 h2 h3
      have I0 : Hid (ItAt (wr.alloc (.cells #[.int .i64 q, .int .i64 f, .int .i64 lv, .string tx] 38)) wr.heap.size q f lv tx) := heap_alloc_new wr _
      have B0 : Hid (Below w.heap.size w (wr.alloc (.cells #[.int .i64 q, .int .i64 f, .int .i64 lv, .string tx] 38))) := hb.out.alloc hb.out.size _
      have Z0 : Hid (ItAt (wr.alloc (.cells #[.int .i64 q, .int .i64 f, .int .i64 lv, .string tx] 38)) w.heap.size 0 0 0 ⟨#[]⟩) := hz.out.stays ((Below.refl _ _).alloc (Nat.le_refl _) _) hz.out.lt
      have mn := mNum (wr.alloc (.cells #[.int .i64 q, .int .i64 f, .int .i64 lv, .string tx] 38)) (.agg #[.int .i64 q, .int .i64 f, .int .i64 lv, .string tx])
      go_wp2_with fail
      clear mn
      generalize wr.alloc (.cells #[.int .i64 q, .int .i64 f, .int .i64 lv, .string tx] 38) = W0 at *
      clear h0 h1 h2 h3
      refine (number_any q f lv tx _).mono ?_
      rintro e w1 ⟨rfl, hb1⟩
      obtain ⟨c0, c1, c2, c3⟩ := (I0.out.stays hb1 I0.out.lt).cells
      have Z1 : Hid (ItAt w1 w.heap.size 0 0 0 ⟨#[]⟩) := Z0.out.stays hb1 Z0.out.lt
      have B1 : Hid (Below w.heap.size w w1) := B0.out.trans (hb1.mono B0.out.size)
      clear hb1 I0 B0 Z0 hz
      by_cases hn : q = n
      · have HR : Hid (atP ts n = some (q, f, lv, tx)) := by
          rw [HQ.out]
          exact atP_here hlt (by rw [← HQ.out]; exact hn) hst.out
        subst hn
        obtain ⟨d0, d1, d2, d3⟩ := Z1.out.cells
        have f0 := Z1.out.frozen 0
        have f1 := Z1.out.frozen 1
        have f2 := Z1.out.frozen 2
        have f3 := Z1.out.frozen 3
        obtain ⟨r0, r1, r2, r3⟩ := (Z1.out.put4 (q' := q) (f' := f) (l' := lv) (t' := tx)).cells
        go_wp2_with fail
        refine bodyPost_ret (v := .tuple #[.agg #[.int .i64 q, .int .i64 f, .int .i64 lv, .string tx], .bool true]) (by simp [results, Try.results110, go_sem, r0, r1, r2, r3]) rfl ⟨?_, ?_⟩
        · unfold hasP
          rw [HR.out]; rfl
        · exact (((B1.out.setCell (Nat.le_refl _) _).setCell (Nat.le_refl _) _).setCell (Nat.le_refl _) _).setCell (Nat.le_refl _) _
      · have HN : Hid (∀ x ∈ ts.take (k + 1), ¬ x.1 = n) := take_step hlt hst.out (by rw [← HQ.out]; exact hn)
        go_wp2_with fail
        go_roundw
        case rel => exact ⟨k + 1, by omega, by go_num, HN, B1, Z1⟩
        case measure => simp [intOf]; omega
    · have HR : Hid (atP ts n = none) := atP_none (by have := hst.out; rwa [List.take_of_length_le (by omega)] at this)
      have Z0 : Hid (ItAt (wr.alloc (.cells #[.int .i64 0, .int .i64 0, .int .i64 0, .string ⟨#[]⟩] 38)) w.heap.size 0 0 0 ⟨#[]⟩) := hz.out.stays ((Below.refl _ _).alloc (Nat.le_refl _) _) hz.out.lt
      obtain ⟨d0, d1, d2, d3⟩ := Z0.out.cells
      have f0 := Z0.out.frozen 0
      have f1 := Z0.out.frozen 1
      have f2 := Z0.out.frozen 2
      have f3 := Z0.out.frozen 3
      obtain ⟨r0, r1, r2, r3⟩ := (Z0.out.put4 (q' := 0) (f' := 0) (l' := 0) (t' := ⟨#[]⟩)).cells
      have B1 : Hid (Below w.heap.size w (wr.alloc (.cells #[.int .i64 0, .int .i64 0, .int .i64 0, .string ⟨#[]⟩] 38))) := hb.out.alloc hb.out.size _
      go_wp2_with fail
      refine bodyPost_ret (v := .tuple #[.agg #[.int .i64 0, .int .i64 0, .int .i64 0, .string ⟨#[]⟩], .bool false]) (by simp [results, Try.results110, go_sem, r0, r1, r2, r3]) rfl ⟨?_, ?_⟩
      · unfold hasP
        rw [HR.out]; rfl
      · exact (((B1.out.setCell (Nat.le_refl _) _).setCell (Nat.le_refl _) _).setCell (Nat.le_refl _) _).setCell (Nat.le_refl _) _
end Go.Proofs.Ytpbhcbgohgfkcaa

