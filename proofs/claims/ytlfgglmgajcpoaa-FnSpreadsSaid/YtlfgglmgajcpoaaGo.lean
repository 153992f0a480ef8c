/- A road's other end; the ways that go on from a site. -/
import Derived.Test.YtlfgglmgajcpoaaRp
namespace Go.Proofs.Ytlfgglmgajcpoaa
open Go.RowKit Pl
set_option linter.unusedVariables false

/-- the other end of a road. -/
def endI (r : Rd) (s : Int) : Int := if s = r.a then r.b else if s = r.b then r.a else -1

set_option maxRecDepth 100000 in
set_option maxHeartbeats 1000000 in
theorem end_any (a b c s : Int) (w : World) : Calls Try.prog 59 #[.agg #[.int .i64 a, .int .i64 b, .int .i64 c], .int .i64 s] w fun e w' => e = .returned (.int .i64 (endI ⟨a, b, c⟩ s)) ∧ Below w.heap.size w w' := by
  have B0 : Below w.heap.size w (w.alloc (.cells #[.int .i64 a, .int .i64 b, .int .i64 c] 31)) := (Below.refl _ _).alloc (Nat.le_refl _) _
  unfold endI
  dsimp only
  by_cases h1 : s = a
  · rw [if_pos h1]
    subst h1
    go_enter Try.func59, Try.ntmps59
    go_wp2
    go_ret
    exact ⟨rfl, B0⟩
  · rw [if_neg h1]
    by_cases h2 : s = b
    · rw [if_pos h2]
      subst h2
      go_enter Try.func59, Try.ntmps59
      go_wp2
      go_ret
      exact ⟨rfl, B0⟩
    · rw [if_neg h2]
      go_enter Try.func59, Try.ntmps59
      go_wp2
      go_ret
      exact ⟨rfl, B0⟩
theorem end_is {a b c s t : Int} (w : World) (h : endI ⟨a, b, c⟩ s = t) : Calls Try.prog 59 #[.agg #[.int .i64 a, .int .i64 b, .int .i64 c], .int .i64 s] w fun e w' => e = .returned (.int .i64 t) ∧ Below w.heap.size w w' := by rw [← h]; exact end_any a b c s w

/-- what stands in a heap, without the blocks. -/
def pr (L : List St) : List (Int × Int) := L.map (·.2)
/-- the stops that the first k roads lead to. -/
def New (ts : List Rd) (k : Nat) (x p : Int × Int) : Prop := ∃ i, ∃ h : i < ts.length, i < k ∧ endI ts[i] x.1 ≠ -1 ∧ p = (endI ts[i] x.1, x.2 + ts[i].c)

structure GoSt (w wr : World) (B c : Nat) (L : List St) (ts : List Rd) (x : Int × Int) (k : Nat) (v : Value) (L' : List St) : Prop where
  at' : HpAt wr B c v L'
  heap : HeapTo key L' L'.length
  len : L'.length ≤ L.length + k
  mem : ∀ p, p ∈ pr L' ↔ p ∈ pr L ∨ New ts k x p
  keep : KeepT w wr
  below : Below B w wr

theorem New.next {ts : List Rd} {k : Nat} {x p : Int × Int} (hk : k < ts.length) : New ts (k + 1) x p ↔ New ts k x p ∨ (endI ts[k] x.1 ≠ -1 ∧ p = (endI ts[k] x.1, x.2 + ts[k].c)) := by
  constructor
  · rintro ⟨i, h, hi, h1, h2⟩
    by_cases e : i = k
    · subst e; exact Or.inr ⟨h1, h2⟩
    · exact Or.inl ⟨i, h, by omega, h1, h2⟩
  · rintro (⟨i, h, hi, h1, h2⟩ | ⟨h1, h2⟩)
    · exact ⟨i, h, by omega, h1, h2⟩
    · exact ⟨k, hk, by omega, h1, h2⟩

theorem pr_mem_push {L L' : List St} {x : St} (h : ∀ y, y ∈ L' ↔ y ∈ L ∨ y = x) (p : Int × Int) : p ∈ pr L' ↔ p ∈ pr L ∨ p = x.2 := by
  simp only [pr, List.mem_map]
  constructor
  · rintro ⟨y, hy, rfl⟩
    rcases (h y).1 hy with hy | rfl
    · exact Or.inl ⟨y, hy, rfl⟩
    · exact Or.inr rfl
  · rintro (⟨y, hy, rfl⟩ | rfl)
    · exact ⟨y, (h y).2 (Or.inl hy), rfl⟩
    · exact ⟨x, (h x).2 (Or.inr rfl), rfl⟩

set_option maxRecDepth 100000 in
set_option maxHeartbeats 4000000 in
theorem goOn_any (w0 w : World) (c cap : Nat) (ao : Option Addr) (ts : List Rd) (v : Value) (L : List St) (x : St) (hx : Hid (RoadsAt w0 ao ts)) (hb0 : Hid (Below w0.heap.size w0 w)) (hl : ts.length ≤ 12) (hf : Hid (Fits 6 ts)) (h : Hid (HpAt w w0.heap.size c v L)) (hh : Hid (HeapTo key L L.length)) (hL : L.length ≤ 800)
    (hs : Hid (StAt w x)) (h0 : 0 ≤ x.2.2 ∧ x.2.2 ≤ 1000000) :
    Calls Try.prog 40 #[.pointer (some ⟨c, 0, none⟩), .pointer (some ⟨x.1, 0, none⟩), .slice ao ts.length cap] w fun e w' => (∃ u, e = .returned u) ∧ ∃ v' L', GoSt w w' w0.heap.size c L ts x.2 ts.length v' L' := by
  obtain ⟨xb, xs, xc⟩ := x
  dsimp only at h0 ⊢
  go_enter Try.func40, Try.ntmps40
  go_wp2_with fail
  go_loopw [11] (fun i wr => ∃ (k : Nat), k ≤ ts.length ∧ i = .int .i64 k ∧ Hid (∃ v' L', GoSt w wr w0.heap.size c L ts (xs, xc) k v' L')) (fun i _ => ts.length - (intOf i).toNat)
  case atStart => exact ⟨0, Nat.zero_le _, rfl, ⟨v, L, h.out, hh.out, by omega, fun p => ⟨Or.inl, fun h => h.elim id (fun ⟨i, _, hi, _⟩ => by omega)⟩, KeepT.refl _, Below.refl _ _⟩⟩
  case round =>
    obtain ⟨k, hk, rfl, HG⟩ := hrel
    by_cases hlt : k < ts.length
    · obtain ⟨v', L', hG⟩ := HG.out
      obtain ⟨b, off, rfl, hbb, r0, r1, r2⟩ := hx.out.stays (hb0.out.trans hG.below) k hlt
      have HP : Hid (∃ x : Rd, x = ts[k]) := ⟨_, rfl⟩
      obtain ⟨⟨q, f, t⟩, hp⟩ := HP.out
      rw [← hp] at r0 r1 r2
      have HQ : Hid ((⟨q, f, t⟩ : Rd) = ts[k]) := hp
      have htc : 1 ≤ t ∧ t ≤ 100 := by have := hf.out ts[k] (List.getElem_mem hlt); rw [← hp] at this; exact this.2.2.2
      clear hp HP
      dsimp only at r0 r1 r2
      have i0 : (0 : Int) ≤ (k : Int) := by omega
      have i1 : (k : Int) < (ts.length : Int) := by omega
      have I0 : Hid (BoxRd (wr.alloc (.cells #[.int .i64 q, .int .i64 f, .int .i64 t] 31)) wr.heap.size ⟨q, f, t⟩) := heap_alloc_new wr _
      have bA : Below wr.heap.size wr (wr.alloc (.cells #[.int .i64 q, .int .i64 f, .int .i64 t] 31)) := (Below.refl _ _).alloc (Nat.le_refl _) _
      have hsz : w0.heap.size ≤ wr.heap.size := (hb0.out.trans hG.below).size
      have G0 : Hid (GoSt w (wr.alloc (.cells #[.int .i64 q, .int .i64 f, .int .i64 t] 31)) w0.heap.size c L ts (xs, xc) k v' L') :=
        ⟨hG.at'.below bA, hG.heap, hG.len, hG.mem, hG.keep.trans (KeepT.ofBelow bA), hG.below.trans (bA.mono hsz)⟩
      go_wp2_with fail
      clear r0 r1 r2 hG bA HG
      obtain ⟨rb, hrb⟩ : ∃ rb, rb = wr.heap.size := ⟨_, rfl⟩
      rw [← hrb] at I0 ⊢
      clear hrb
      generalize wr.alloc (.cells #[.int .i64 q, .int .i64 f, .int .i64 t] 31) = W0 at *
      obtain ⟨s0, s1⟩ := (hs.out.keep G0.out.keep).cells
      obtain ⟨d0, d1, d2⟩ := I0.out.cells
      dsimp only at s0 s1 d0 d1 d2
      have hxb : xb < W0.heap.size := (Array.getElem?_eq_some_iff.1 (hs.out.keep G0.out.keep)).1
      cases hE : decide (endI ⟨q, f, t⟩ xs = -1) with
      | true =>
        have hE := of_decide_eq_true hE
        go_region_held3 (fun w' => w'.cell? ⟨rb, 0, none⟩ = some (.int .i64 q) ∧ w'.cell? ⟨rb, 1, none⟩ = some (.int .i64 f) ∧ w'.cell? ⟨rb, 2, none⟩ = some (.int .i64 t) ∧ w'.cell? ⟨xb, 0, none⟩ = some (.int .i64 xs))
          (first | exact ⟨(hb3.cell (p := ⟨rb, 0, none⟩) I0.out.lt).trans d0, (hb3.cell (p := ⟨rb, 1, none⟩) I0.out.lt).trans d1, (hb3.cell (p := ⟨rb, 2, none⟩) I0.out.lt).trans d2, (hb3.cell (p := ⟨xb, 0, none⟩) hxb).trans s0⟩ | exact ⟨d0, d1, d2, s0⟩)
          (first | (go_at_call 59; refine (end_is _ hE).mono ?_; rintro e w3 ⟨rfl, hb3⟩))
        have b3 : Below W0.heap.size W0 w3 := (Below.refl _ _).drew.trans hb3
        have G3 : Hid (GoSt w w3 w0.heap.size c L ts (xs, xc) k v' L') :=
          ⟨G0.out.at'.below b3, G0.out.heap, G0.out.len, G0.out.mem, G0.out.keep.trans (KeepT.ofBelow b3), G0.out.below.trans (b3.mono (by have := hb0.out.size; have := G0.out.below.size; omega))⟩
        have I3 : Hid (BoxRd w3 rb ⟨q, f, t⟩) := I0.out.stays b3 I0.out.lt
        clear hb3 b3 s0 s1 d0 d1 d2 I0 G0
        have G4 : Hid (GoSt w w3 w0.heap.size c L ts (xs, xc) (k + 1) v' L') := ⟨G3.out.at', G3.out.heap, by have := G3.out.len; omega, fun p => by
          rw [G3.out.mem, New.next hlt, ← HQ.out]
          constructor
          · rintro (h | h)
            · exact Or.inl h
            · exact Or.inr (Or.inl h)
          · rintro (h | h | ⟨h, _⟩)
            · exact Or.inl h
            · exact Or.inr h
            · exact absurd hE h, G3.out.keep, G3.out.below⟩
        go_wp2_with fail
        go_roundw
        case rel => exact ⟨k + 1, by omega, by go_num, ⟨v', L', G4.out⟩⟩
        case measure => simp [intOf]; omega
      | false =>
        have hE2 := of_decide_eq_false hE
        obtain ⟨to, hE⟩ : ∃ to, endI ⟨q, f, t⟩ xs = to := ⟨_, rfl⟩
        rw [hE] at hE2
        have HE : Hid (endI ⟨q, f, t⟩ xs = to) := hE
        go_region_held3 (fun w' => w'.cell? ⟨rb, 0, none⟩ = some (.int .i64 q) ∧ w'.cell? ⟨rb, 1, none⟩ = some (.int .i64 f) ∧ w'.cell? ⟨rb, 2, none⟩ = some (.int .i64 t) ∧ w'.cell? ⟨xb, 0, none⟩ = some (.int .i64 xs))
          (first | exact ⟨(hb3.cell (p := ⟨rb, 0, none⟩) I0.out.lt).trans d0, (hb3.cell (p := ⟨rb, 1, none⟩) I0.out.lt).trans d1, (hb3.cell (p := ⟨rb, 2, none⟩) I0.out.lt).trans d2, (hb3.cell (p := ⟨xb, 0, none⟩) hxb).trans s0⟩ | exact ⟨d0, d1, d2, s0⟩)
          (first | (go_at_call 59; refine (end_is _ hE).mono ?_; rintro e w3 ⟨rfl, hb3⟩))
        have b3 : Below W0.heap.size W0 w3 := (Below.refl _ _).drew.trans hb3
        have G3 : Hid (GoSt w w3 w0.heap.size c L ts (xs, xc) k v' L') :=
          ⟨G0.out.at'.below b3, G0.out.heap, G0.out.len, G0.out.mem, G0.out.keep.trans (KeepT.ofBelow b3), G0.out.below.trans (b3.mono (by have := hb0.out.size; have := G0.out.below.size; omega))⟩
        have I3 : Hid (BoxRd w3 rb ⟨q, f, t⟩) := I0.out.stays b3 I0.out.lt
        clear hb3 b3 s0 s1 d0 d1 d2 I0 G0 hE
        have hS3 := hs.out.keep G3.out.keep
        obtain ⟨s0, s1⟩ := hS3.cells
        obtain ⟨d0, d1, d2⟩ := I3.out.cells
        have hxb3 : xb < w3.heap.size := (Array.getElem?_eq_some_iff.1 hS3).1
        have hrb3 := I3.out.lt
        dsimp only at s0 s1 d0 d1 d2
        have hw1 : IntKind.i64.wrap (xc + t) = xc + t := by rw [IntKind.wrap_i64]; omega
        have bA : Below w3.heap.size w3 (w3.alloc (.cells #[.int .i64 to, .int .i64 (xc + t)] 58)).drew := ((Below.refl _ _).alloc (Nat.le_refl _) _).drew
        have A5 : HpAt (w3.alloc (.cells #[.int .i64 to, .int .i64 (xc + t)] 58)).drew w0.heap.size c v' L' := G3.out.at'.below bA
        have X5 : w0.heap.size ≤ w3.heap.size ∧ StAt (w3.alloc (.cells #[.int .i64 to, .int .i64 (xc + t)] 58)).drew (w3.heap.size, to, xc + t) := ⟨by have := hb0.out.size; have := G3.out.below.size; omega, heap_alloc_new w3 _⟩
        have K5 : KeepT w3 (w3.alloc (.cells #[.int .i64 to, .int .i64 (xc + t)] 58)).drew := KeepT.ofBelow bA
        have T5 : Hid (StAt (w3.alloc (.cells #[.int .i64 to, .int .i64 (xc + t)] 58)).drew (xb, xs, xc)) := hS3.keep K5
        have J5 : Hid (BoxRd (w3.alloc (.cells #[.int .i64 to, .int .i64 (xc + t)] 58)).drew rb ⟨q, f, t⟩) := I3.out.keep K5
        have s5 : (w3.alloc (.cells #[.int .i64 to, .int .i64 (xc + t)] 58)).drew.cell? ⟨xb, 1, none⟩ = some (.int .i64 xc) := T5.out.cells.2
        have d5 : (w3.alloc (.cells #[.int .i64 to, .int .i64 (xc + t)] 58)).drew.cell? ⟨rb, 2, none⟩ = some (.int .i64 t) := J5.out.cells.2.2
        have hl5 : L'.length ≤ 900 := by have := G3.out.len; omega
        have HL5 : Hid (L'.length ≤ 900) := hl5
        have HA5 : Hid _ := A5
        have HX5 : Hid _ := X5
        have HK5 : Hid _ := K5
        have hS3' : Hid _ := hS3
        clear A5 X5 K5 hl5 hS3
        have HBA : Hid _ := bA
        clear bA
        go_wp2_with fail
        go_region_held3 (fun w' => w'.cell? ⟨xb, 1, none⟩ = some (.int .i64 xc) ∧ w'.cell? ⟨rb, 2, none⟩ = some (.int .i64 t))
          (first | exact ⟨s6, d6⟩ | exact ⟨s5, d5⟩ | exact ⟨s1, d2⟩)
          (first | (go_at_call 60; refine (hpush_any (x := (w3.heap.size, to, xc + t)) HA5.out HL5.out HX5.out G3.out.heap).mono ?_; rintro e w4 ⟨⟨u, rfl⟩, v4, L4, a4, l4, m4, h4, k4, b4⟩; have s6 : w4.cell? ⟨xb, 1, none⟩ = some (.int .i64 xc) := (T5.out.keep k4).cells.2; have d6 : w4.cell? ⟨rb, 2, none⟩ = some (.int .i64 t) := (J5.out.keep k4).cells.2.2))
        have G4 : Hid (GoSt w w4 w0.heap.size c L ts (xs, xc) (k + 1) v4 L4) := ⟨a4, h4, by have := G3.out.len; omega, fun p => by
          rw [pr_mem_push m4 p, G3.out.mem, New.next hlt, ← HQ.out]
          dsimp only
          rw [HE.out]
          constructor
          · rintro ((h | h) | h)
            · exact Or.inl h
            · exact Or.inr (Or.inl h)
            · exact Or.inr (Or.inr ⟨hE2, h⟩)
          · rintro (h | h | ⟨_, h⟩)
            · exact Or.inl (Or.inl h)
            · exact Or.inl (Or.inr h)
            · exact Or.inr h, (G3.out.keep.trans HK5.out).trans k4, (G3.out.below.trans (HBA.out.mono (by have := hb0.out.size; have := G3.out.below.size; omega))).trans b4⟩
        clear s0 s1 d0 d1 d2 s5 d5 s6 d6
        go_wp2_with fail
        go_roundw
        case rel => exact ⟨k + 1, by omega, by go_num, ⟨v4, L4, G4.out⟩⟩
        case measure => simp [intOf]; omega
    · obtain rfl : k = ts.length := by omega
      go_wp2_with fail
      go_end0
      exact ⟨⟨_, rfl⟩, HG.out⟩
end Go.Proofs.Ytlfgglmgajcpoaa
