/- Lists of bundles in plain words and in memory; lists that a law measures, copies, compares. -/
import Derived.Test.YtlflcjdpdbdbkaaRh13
import Derived.Test.YtlflcjdpdbdbkaaWl
import Derived.Laws.MakeOwn
namespace Go.Proofs.Ytlflcjdpdbdbkaa
open Go.RowKit Pl
set_option linter.unusedVariables false
set_option linter.unusedSimpArgs false

/-- a bundle, and where its list lies. -/
structure Bu where
  f : Int
  n : Int
  o : Int
  ts : List It
  s : Sv
def Bu.ok (b : Bu) : Bool := bunB b.f b.n b.o b.ts
/-- what a bundle says. -/
def Bu.pl (b : Bu) : Int × Int × Int × List It := (b.f, b.n, b.o, b.ts)
def Bu.row (b : Bu) : List Value := [.int .i64 b.f, .int .i64 b.n, .int .i64 b.o, .slice b.s.a b.s.n b.s.c]
/-- the bundles' cells of a slice. -/
def BnsAt (w : World) (ao : Option Addr) (bs : List Bu) : Prop :=
  ∀ i (h : i < bs.length), ∃ b off, ao = some ⟨b, off, none⟩ ∧ b < w.heap.size ∧ w.cell? ⟨b, off + i * 4, none⟩ = some (.int .i64 bs[i].f) ∧ w.cell? ⟨b, off + i * 4 + 1, none⟩ = some (.int .i64 bs[i].n) ∧ w.cell? ⟨b, off + i * 4 + 2, none⟩ = some (.int .i64 bs[i].o) ∧ w.cell? ⟨b, off + i * 4 + 3, none⟩ = some (.slice bs[i].s.a bs[i].s.n bs[i].s.c) ∧ RIt w bs[i].s bs[i].ts
theorem BnsAt.stays {w w' : World} {ao : Option Addr} {bs : List Bu} (h : BnsAt w ao bs) (hb : Below w.heap.size w w') : BnsAt w' ao bs := by
  intro i hi
  obtain ⟨b, off, h1, h2, h3, h4, h5, h6, h7⟩ := h i hi
  exact ⟨b, off, h1, Nat.lt_of_lt_of_le h2 hb.size, (hb.cell (p := ⟨b, off + i * 4, none⟩) h2).trans h3, (hb.cell (p := ⟨b, off + i * 4 + 1, none⟩) h2).trans h4, (hb.cell (p := ⟨b, off + i * 4 + 2, none⟩) h2).trans h5, (hb.cell (p := ⟨b, off + i * 4 + 3, none⟩) h2).trans h6, h7.stays hb⟩
/-- a list of the call's own: the rows, and each one's items. -/
def OwnBs (w : World) (B : Nat) (v : Value) (bs : List Bu) : Prop := SlN w 29 4 B v (bs.map Bu.row) ∧ ∀ b ∈ bs, RIt w b.s b.ts
theorem SlN.bns {w : World} {B : Nat} {v : Value} {bs : List Bu} (h : SlN w 29 4 B v (bs.map Bu.row)) (hi : ∀ b ∈ bs, RIt w b.s b.ts) : ∃ ao cap, v = .slice ao bs.length cap ∧ BnsAt w ao bs := by
  obtain ⟨ao, cap, hv⟩ := Sl.form h.1
  rw [List.length_map] at hv
  refine ⟨ao, cap, hv, fun i hi' => ?_⟩
  obtain ⟨g, off, cap', hv', _, hlt, hr⟩ := h.read (i := i) (by rw [List.length_map]; exact hi')
  rw [hv] at hv'
  simp only [Value.slice.injEq] at hv'
  refine ⟨g, off, hv'.1, hlt, ?_, ?_, ?_, ?_, hi _ (List.getElem_mem hi')⟩
  · have := hr 0 (.int .i64 bs[i].f) (by simp [Bu.row]); simpa using this
  · have := hr 1 (.int .i64 bs[i].n) (by simp [Bu.row]); simpa using this
  · have := hr 2 (.int .i64 bs[i].o) (by simp [Bu.row]); simpa using this
  · have := hr 3 (.slice bs[i].s.a bs[i].s.n bs[i].s.c) (by simp [Bu.row]); simpa using this

set_option maxRecDepth 100000 in
set_option maxHeartbeats 2000000 in
theorem szBundles_any (left : Nat) (hleft : left ≤ 1048576) (ao : Option Addr) (cap : Nat) (bs : List Bu) (w : World) (hx : Hid (BnsAt w ao bs)) (hl : bs.length ≤ 9223372036854775807) (hs : Hid (∀ b ∈ bs, b.ts.length ≤ 9223372036854775807 ∧ ∀ x ∈ b.ts, x.2.2.2.size ≤ 9223372036854775807)) :
    Calls Try.prog 12 #[.slice ao bs.length cap, .int .i64 left] w fun e w' => (e = .returned (.int .i64 (-1)) ∨ (∃ z : Nat, e = .returned (.int .i64 z) ∧ z + bs.length ≤ left ∧ Hid (∀ b ∈ bs, b.ts.length ≤ 1048576))) ∧ Below w.heap.size w w' := by
  by_cases h1 : left < bs.length
  · have hd : decide ((left : Int) - (bs.length : Int) < 0) = true := by simp; omega
    go_enter Try.func12, Try.ntmps12
    go_wp2
    go_ret
    exact ⟨.inl rfl, Below.refl _ _⟩
  have hl2 : bs.length ≤ left := by omega
  have hd : decide ((left : Int) - (bs.length : Int) < 0) = false := by simp; omega
  go_enter Try.func12, Try.ntmps12
  go_wp2
  clear hd
  go_loopw [1, 5] (fun lf i wr => ∃ (k z : Nat), k ≤ bs.length ∧ z + bs.length ≤ left ∧ lf = .int .i64 z ∧ i = .int .i64 k ∧ Hid (∀ b ∈ bs.take k, b.ts.length ≤ 1048576) ∧ Hid (Below w.heap.size w wr)) (fun _ i _ => bs.length - (intOf i).toNat)
  case atStart => exact ⟨0, left - bs.length, Nat.zero_le _, by omega, by congr 1; omega, rfl, (fun x hx => by simp at hx : ∀ b ∈ bs.take 0, b.ts.length ≤ 1048576), Below.refl _ _⟩
  case round =>
    obtain ⟨k, z, hk, hz, rfl, rfl, hsm, hb⟩ := hrel
    by_cases hlt : k < bs.length
    · obtain ⟨b, off, rfl, hbb, c0, c1, c2, c3, hrit⟩ := hx.out.stays hb.out k hlt
      obtain ⟨hq1, hq2⟩ := hs.out _ (List.getElem_mem hlt)
      have HP : Hid (∃ x : Bu, x = bs[k]) := ⟨_, rfl⟩
      obtain ⟨⟨f, n, o, ts, s⟩, hp⟩ := HP.out
      rw [← hp] at c0 c1 c2 c3 hq1 hq2 hrit
      have HQ : Hid (Bu.mk f n o ts s = bs[k]) := hp
      have HRI : Hid (RIt wr s ts) := hrit
      have HQ2 : Hid (∀ x ∈ ts, x.2.2.2.size ≤ 9223372036854775807) := hq2
      clear hp HP hrit hq2
      dsimp only at c0 c1 c2 c3 hq1
      go_wp2_with fail
      refine (szBundle_any f n o s ts z _ HRI hq1 HQ2 (by omega)).mono ?_
      rintro e w1 ⟨rfl | ⟨r, rfl, hr1, hr2⟩, hb1⟩
      · go_wp2_with fail
        go_ret
        exact ⟨.inl rfl, hb.out.trans (hb1.mono hb.out.size)⟩
      · have B1 : Hid (Below w.heap.size w w1) := hb.out.trans (hb1.mono hb.out.size)
        have hrz := hr2.out.1
        have HSM : Hid (∀ b ∈ bs.take (k + 1), b.ts.length ≤ 1048576) := by
          intro x hx
          rw [List.take_succ_eq_append_getElem hlt] at hx
          rcases List.mem_append.1 hx with h1 | h1
          · exact hsm.out x h1
          · rw [List.mem_singleton.1 h1, ← HQ.out]; show ts.length ≤ 1048576; omega
        have hd : decide ((r : Int) < 0) = false := by simp
        clear hb1 c0 c1 c2 c3
        go_wp2_with fail
        go_roundw
        case rel => exact ⟨k + 1, r, by omega, by omega, rfl, by go_num, HSM, B1⟩
        case measure => simp [intOf]; omega
    · go_wp2_with fail
      go_ret
      exact ⟨.inr ⟨z, rfl, hz, by have := hsm.out; rwa [List.take_of_length_le (by omega)] at this⟩, hb.out⟩
end Go.Proofs.Ytlflcjdpdbdbkaa
