/- The law on AddPiece, walked. Written by gen_la.py. -/
import Derived.Test.YtfefjkldjaabbaaIa2
import Derived.Test.YtfefjkldjaabbaaHp
namespace Go.Proofs.Ytfefjkldjaabbaa
open Go.RowKit Pl
set_option linter.unusedVariables false
set_option linter.unusedSimpArgs false

theorem PiB3.cells {w : World} {g T : Nat} {num cnt : Int} {s : Sv} (h : Bx w g T [.int .i64 num, .int .i64 cnt, .slice s.a s.n s.c]) : w.cell? ⟨g, 0, none⟩ = some (.int .i64 num) ∧ w.cell? ⟨g, 1, none⟩ = some (.int .i64 cnt) ∧ w.cell? ⟨g, 2, none⟩ = some (.slice s.a s.n s.c) := ⟨Bx.cell h 0, Bx.cell h 1, Bx.cell h 2⟩
theorem mine_alloc {w : World} {v : Value} {ss : List ByteArray} {lo hi : Nat} (h : Mine w v ss lo hi) (o : Obj) : Mine (w.alloc o) v ss lo hi := h.stays ((Below.refl _ _).alloc (Nat.le_refl _) o)
theorem Try.sizeLP : (Try.prog.info? 41).map (·.size) = some 3 := by kernel_rfl

set_option maxRecDepth 100000 in
set_option maxHeartbeats 8000000 in
theorem lawAddPiece (num cnt : Int) (s : Sv) (ts : List ByteArray) (x : ByteArray) (w : World) (hx : Hid (TextsAt w s.a ts)) (hn : Hid (s.n = ts.length)) (hlen : ts.length ≤ maxLen) (hmax : Hid (∀ t ∈ ts, t.size ≤ maxLen)) (hxm : x.size ≤ maxLen) :
    Calls Try.prog 7 #[.agg #[.int .i64 num, .int .i64 cnt, .slice s.a s.n s.c], .string x] w fun e w' => e = .returned (.bool true) ∧ Below w.heap.size w w' := by
  have B0 : Below w.heap.size w (w.alloc (.cells #[.int .i64 num, .int .i64 cnt, .slice s.a s.n s.c] 41)) := (Below.refl _ _).alloc (Nat.le_refl _) _
  have A0 : Bx (w.alloc (.cells #[.int .i64 num, .int .i64 cnt, .slice s.a s.n s.c] 41)) w.heap.size 41 [.int .i64 num, .int .i64 cnt, .slice s.a s.n s.c] := Bx.new w 41 [.int .i64 num, .int .i64 cnt, .slice s.a s.n s.c]
  have X0 : TextsAt (w.alloc (.cells #[.int .i64 num, .int .i64 cnt, .slice s.a s.n s.c] 41)) s.a ts := hx.out.stays B0
  obtain ⟨k0, k1, k2⟩ := PiB3.cells A0
  by_cases hxs : x.size ≤ 1048576
  case neg =>
    unfold maxLen at hxm
    clear A0 X0
    go_enter Try.func7, Try.ntmps7
    go_wp2
    go_ret
    exact ⟨rfl, B0⟩
  go_enter Try.func7, Try.ntmps7
  go_wp2_with fail
  generalize w.alloc (.cells #[.int .i64 num, .int .i64 cnt, .slice s.a s.n s.c] 41) = W at *
  refine (szPile_any num cnt s ts 1048576 W X0 hn hlen hmax (Nat.le_refl _)).mono ?_
  rintro e w1 ⟨rfl | ⟨z, rfl, hz⟩, hb1⟩
  · go_wp2
    go_ret
    exact ⟨rfl, B0.trans (hb1.mono B0.size)⟩
  have hsh : (Pi.mk num cnt ts).short := ⟨by have := hz.out.1; show ts.length ≤ _; omega, hz.out.2⟩
  have HSH : Hid ((Pi.mk num cnt ts).short) := hsh
  have htl : ts.length ≤ 1048576 := hsh.1
  generalize hA : addP ⟨num, cnt, ts⟩ x = a4
  have HA : Hid (addP ⟨num, cnt, ts⟩ x = a4) := hA
  have hul : a4.1.ps.length ≤ 1048576 := by rw [← hA]; exact (addP_short hsh).1
  have hz0 : decide ((z : Int) < 0) = false := by simp
  clear hA hz hsh hlen
  have AA : Bx w1 w.heap.size 41 [.int .i64 num, .int .i64 cnt, .slice s.a s.n s.c] := A0.later hb1
  have BB : Below w.heap.size w w1 := B0.trans (hb1.mono B0.size)
  have Zw : w.heap.size ≤ w1.heap.size := BB.size
  clear A0 X0 B0 k0 k1 k2 hb1
  obtain ⟨r0_0, r0_1, r0_2⟩ := PiB3.cells AA
  have H_AA : Hid _ := AA
  have H_BB : Hid _ := BB
  clear AA BB
  go_wp2_with fail
  clear r0_0 r0_1 r0_2
  have AA : Bx w1 w.heap.size 41 [.int .i64 num, .int .i64 cnt, .slice s.a s.n s.c] := H_AA.out
  have BB : Below w.heap.size w w1 := H_BB.out
  clear H_AA H_BB
  have X : TextsAt w1 s.a ts := hx.out.stays BB
  refine (toPile_any num cnt s ts w1 X hn htl).mono ?_
  rintro e w2 ⟨sa, rfl, ho, hb⟩
  clear X
  have Za : w1.heap.size ≤ w2.heap.size := hb.size
  have AA : Bx w2 w.heap.size 41 [.int .i64 num, .int .i64 cnt, .slice s.a s.n s.c] := AA.later hb
  have BB : Below w.heap.size w w2 := BB.trans (hb.mono BB.size)
  have RA : Hid (RT w2 (.slice sa.a sa.n sa.c) ts) := ho.rt
  clear ho hb
  have H_AA : Hid _ := AA
  have H_BB : Hid _ := BB
  clear AA BB
  go_wp2_with fail
  have AA : Bx w2 w.heap.size 41 [.int .i64 num, .int .i64 cnt, .slice s.a s.n s.c] := H_AA.out
  have BB : Below w.heap.size w w2 := H_BB.out
  clear H_AA H_BB
  refine (spAdd_any ⟨num, cnt, ts⟩ x sa w2 RA HSH hxs).mono ?_
  rintro e w3 ⟨s0, rfl, ho, hb⟩
  rw [HA.out] at ho ⊢
  have Z3 : w2.heap.size ≤ w3.heap.size := hb.size
  have AA : Bx w3 w.heap.size 41 [.int .i64 num, .int .i64 cnt, .slice s.a s.n s.c] := AA.later hb
  have BB : Below w.heap.size w w3 := BB.trans (hb.mono BB.size)
  have M0 : Mine w3 s0.v a4.1.ps w2.heap.size w3.heap.size := Mine.mk' ho
  have hal : Below w3.heap.size w3 (w3.alloc (.cells #[.int .i64 a4.1.num, .int .i64 a4.1.cnt, .slice s0.a s0.n s0.c] 35)) := (Below.refl _ _).alloc (Nat.le_refl _) _
  have AA : Bx (w3.alloc (.cells #[.int .i64 a4.1.num, .int .i64 a4.1.cnt, .slice s0.a s0.n s0.c] 35)) w.heap.size 41 [.int .i64 num, .int .i64 cnt, .slice s.a s.n s.c] := AA.later hal
  have M0 : Mine (w3.alloc (.cells #[.int .i64 a4.1.num, .int .i64 a4.1.cnt, .slice s0.a s0.n s0.c] 35)) s0.v (a4.1.ps) w2.heap.size w3.heap.size := M0.stays hal
  have BB : Below w.heap.size w (w3.alloc (.cells #[.int .i64 a4.1.num, .int .i64 a4.1.cnt, .slice s0.a s0.n s0.c] 35)) := BB.trans (hal.mono BB.size)
  have B6 : Bx (w3.alloc (.cells #[.int .i64 a4.1.num, .int .i64 a4.1.cnt, .slice s0.a s0.n s0.c] 35)) w3.heap.size 35 [.int .i64 a4.1.num, .int .i64 a4.1.cnt, .slice s0.a s0.n s0.c] := Bx.new w3 35 [.int .i64 a4.1.num, .int .i64 a4.1.cnt, .slice s0.a s0.n s0.c]
  have Y3 : w3.heap.size < (w3.alloc (.cells #[.int .i64 a4.1.num, .int .i64 a4.1.cnt, .slice s0.a s0.n s0.c] 35)).heap.size := B6.lt
  clear ho hb hal
  obtain ⟨r0_0, r0_1, r0_2⟩ := PiB3.cells AA
  have H_AA : Hid _ := AA
  have H_B6 : Hid _ := B6
  have H_M0 : Hid _ := M0
  have H_BB : Hid _ := BB
  clear AA B6 M0 BB
  go_wp2_with fail
  clear r0_0 r0_1 r0_2
  have AA : Bx (w3.alloc (.cells #[.int .i64 a4.1.num, .int .i64 a4.1.cnt, .slice s0.a s0.n s0.c] 35)) w.heap.size 41 [.int .i64 num, .int .i64 cnt, .slice s.a s.n s.c] := H_AA.out
  have B6 : Bx (w3.alloc (.cells #[.int .i64 a4.1.num, .int .i64 a4.1.cnt, .slice s0.a s0.n s0.c] 35)) w3.heap.size 35 [.int .i64 a4.1.num, .int .i64 a4.1.cnt, .slice s0.a s0.n s0.c] := H_B6.out
  have M0 : Mine (w3.alloc (.cells #[.int .i64 a4.1.num, .int .i64 a4.1.cnt, .slice s0.a s0.n s0.c] 35)) s0.v (a4.1.ps) w2.heap.size w3.heap.size := H_M0.out
  have BB : Below w.heap.size w (w3.alloc (.cells #[.int .i64 a4.1.num, .int .i64 a4.1.cnt, .slice s0.a s0.n s0.c] 35)) := H_BB.out
  clear H_AA H_B6 H_M0 H_BB
  generalize (w3.alloc (.cells #[.int .i64 a4.1.num, .int .i64 a4.1.cnt, .slice s0.a s0.n s0.c] 35)) = V3 at *
  have X : TextsAt V3 s.a ts := hx.out.stays BB
  refine (toPile_any num cnt s ts V3 X hn htl).mono ?_
  rintro e w4 ⟨sx, rfl, ho, hb⟩
  clear X
  have Z4 : V3.heap.size ≤ w4.heap.size := hb.size
  have AA : Bx w4 w.heap.size 41 [.int .i64 num, .int .i64 cnt, .slice s.a s.n s.c] := AA.later hb
  have B6 : Bx w4 w3.heap.size 35 [.int .i64 a4.1.num, .int .i64 a4.1.cnt, .slice s0.a s0.n s0.c] := B6.later hb
  have M0 : Mine w4 s0.v (a4.1.ps) w2.heap.size w3.heap.size := M0.stays hb
  have BB : Below w.heap.size w w4 := BB.trans (hb.mono BB.size)
  have MX : Mine w4 sx.v ts V3.heap.size w4.heap.size := Mine.mk' ho
  have hal : Below w4.heap.size w4 (w4.alloc (.cells #[.int .i64 num, .int .i64 cnt, .slice sx.a sx.n sx.c] 35)) := (Below.refl _ _).alloc (Nat.le_refl _) _
  have AA : Bx (w4.alloc (.cells #[.int .i64 num, .int .i64 cnt, .slice sx.a sx.n sx.c] 35)) w.heap.size 41 [.int .i64 num, .int .i64 cnt, .slice s.a s.n s.c] := AA.later hal
  have B6 : Bx (w4.alloc (.cells #[.int .i64 num, .int .i64 cnt, .slice sx.a sx.n sx.c] 35)) w3.heap.size 35 [.int .i64 a4.1.num, .int .i64 a4.1.cnt, .slice s0.a s0.n s0.c] := B6.later hal
  have M0 : Mine (w4.alloc (.cells #[.int .i64 num, .int .i64 cnt, .slice sx.a sx.n sx.c] 35)) s0.v (a4.1.ps) w2.heap.size w3.heap.size := M0.stays hal
  have MX : Mine (w4.alloc (.cells #[.int .i64 num, .int .i64 cnt, .slice sx.a sx.n sx.c] 35)) sx.v (ts) V3.heap.size w4.heap.size := MX.stays hal
  have BB : Below w.heap.size w (w4.alloc (.cells #[.int .i64 num, .int .i64 cnt, .slice sx.a sx.n sx.c] 35)) := BB.trans (hal.mono BB.size)
  have B9 : Bx (w4.alloc (.cells #[.int .i64 num, .int .i64 cnt, .slice sx.a sx.n sx.c] 35)) w4.heap.size 35 [.int .i64 num, .int .i64 cnt, .slice sx.a sx.n sx.c] := Bx.new w4 35 [.int .i64 num, .int .i64 cnt, .slice sx.a sx.n sx.c]
  have Y4 : w4.heap.size < (w4.alloc (.cells #[.int .i64 num, .int .i64 cnt, .slice sx.a sx.n sx.c] 35)).heap.size := B9.lt
  clear ho hb hal
  obtain ⟨r0_0, r0_1, r0_2⟩ := PiB3.cells B9
  have H_AA : Hid _ := AA
  have H_B6 : Hid _ := B6
  have H_B9 : Hid _ := B9
  have H_M0 : Hid _ := M0
  have H_MX : Hid _ := MX
  have H_BB : Hid _ := BB
  clear AA B6 B9 M0 MX BB
  go_wp2_with fail
  clear r0_0 r0_1 r0_2
  have AA : Bx (w4.alloc (.cells #[.int .i64 num, .int .i64 cnt, .slice sx.a sx.n sx.c] 35)) w.heap.size 41 [.int .i64 num, .int .i64 cnt, .slice s.a s.n s.c] := H_AA.out
  have B6 : Bx (w4.alloc (.cells #[.int .i64 num, .int .i64 cnt, .slice sx.a sx.n sx.c] 35)) w3.heap.size 35 [.int .i64 a4.1.num, .int .i64 a4.1.cnt, .slice s0.a s0.n s0.c] := H_B6.out
  have B9 : Bx (w4.alloc (.cells #[.int .i64 num, .int .i64 cnt, .slice sx.a sx.n sx.c] 35)) w4.heap.size 35 [.int .i64 num, .int .i64 cnt, .slice sx.a sx.n sx.c] := H_B9.out
  have M0 : Mine (w4.alloc (.cells #[.int .i64 num, .int .i64 cnt, .slice sx.a sx.n sx.c] 35)) s0.v (a4.1.ps) w2.heap.size w3.heap.size := H_M0.out
  have MX : Mine (w4.alloc (.cells #[.int .i64 num, .int .i64 cnt, .slice sx.a sx.n sx.c] 35)) sx.v (ts) V3.heap.size w4.heap.size := H_MX.out
  have BB : Below w.heap.size w (w4.alloc (.cells #[.int .i64 num, .int .i64 cnt, .slice sx.a sx.n sx.c] 35)) := H_BB.out
  clear H_AA H_B6 H_B9 H_M0 H_MX H_BB
  generalize (w4.alloc (.cells #[.int .i64 num, .int .i64 cnt, .slice sx.a sx.n sx.c] 35)) = V4 at *
  have RX : Hid (RT V4 (.slice sx.a sx.n sx.c) ts) := MX.own.rt
  refine (implAdd_any ⟨num, cnt, ts⟩ x sx V4 RX HSH hxs).mono ?_
  rintro e w5 ⟨sg, rfl, ho, hb⟩
  rw [HA.out] at ho ⊢
  have Z5 : V4.heap.size ≤ w5.heap.size := hb.size
  have AA : Bx w5 w.heap.size 41 [.int .i64 num, .int .i64 cnt, .slice s.a s.n s.c] := AA.later hb
  have B6 : Bx w5 w3.heap.size 35 [.int .i64 a4.1.num, .int .i64 a4.1.cnt, .slice s0.a s0.n s0.c] := B6.later hb
  have B9 : Bx w5 w4.heap.size 35 [.int .i64 num, .int .i64 cnt, .slice sx.a sx.n sx.c] := B9.later hb
  have M0 : Mine w5 s0.v (a4.1.ps) w2.heap.size w3.heap.size := M0.stays hb
  have MX : Mine w5 sx.v (ts) V3.heap.size w4.heap.size := MX.stays hb
  have BB : Below w.heap.size w w5 := BB.trans (hb.mono BB.size)
  have MG : Mine w5 sg.v a4.1.ps V4.heap.size w5.heap.size := Mine.mk' ho
  have hal : Below w5.heap.size w5 (w5.alloc (.cells #[.int .i64 a4.1.num, .int .i64 a4.1.cnt, .slice sg.a sg.n sg.c] 35)) := (Below.refl _ _).alloc (Nat.le_refl _) _
  have AA : Bx (w5.alloc (.cells #[.int .i64 a4.1.num, .int .i64 a4.1.cnt, .slice sg.a sg.n sg.c] 35)) w.heap.size 41 [.int .i64 num, .int .i64 cnt, .slice s.a s.n s.c] := AA.later hal
  have B6 : Bx (w5.alloc (.cells #[.int .i64 a4.1.num, .int .i64 a4.1.cnt, .slice sg.a sg.n sg.c] 35)) w3.heap.size 35 [.int .i64 a4.1.num, .int .i64 a4.1.cnt, .slice s0.a s0.n s0.c] := B6.later hal
  have B9 : Bx (w5.alloc (.cells #[.int .i64 a4.1.num, .int .i64 a4.1.cnt, .slice sg.a sg.n sg.c] 35)) w4.heap.size 35 [.int .i64 num, .int .i64 cnt, .slice sx.a sx.n sx.c] := B9.later hal
  have M0 : Mine (w5.alloc (.cells #[.int .i64 a4.1.num, .int .i64 a4.1.cnt, .slice sg.a sg.n sg.c] 35)) s0.v (a4.1.ps) w2.heap.size w3.heap.size := M0.stays hal
  have MX : Mine (w5.alloc (.cells #[.int .i64 a4.1.num, .int .i64 a4.1.cnt, .slice sg.a sg.n sg.c] 35)) sx.v (ts) V3.heap.size w4.heap.size := MX.stays hal
  have MG : Mine (w5.alloc (.cells #[.int .i64 a4.1.num, .int .i64 a4.1.cnt, .slice sg.a sg.n sg.c] 35)) sg.v (a4.1.ps) V4.heap.size w5.heap.size := MG.stays hal
  have BB : Below w.heap.size w (w5.alloc (.cells #[.int .i64 a4.1.num, .int .i64 a4.1.cnt, .slice sg.a sg.n sg.c] 35)) := BB.trans (hal.mono BB.size)
  have B10 : Bx (w5.alloc (.cells #[.int .i64 a4.1.num, .int .i64 a4.1.cnt, .slice sg.a sg.n sg.c] 35)) w5.heap.size 35 [.int .i64 a4.1.num, .int .i64 a4.1.cnt, .slice sg.a sg.n sg.c] := Bx.new w5 35 [.int .i64 a4.1.num, .int .i64 a4.1.cnt, .slice sg.a sg.n sg.c]
  have Y5 : w5.heap.size < (w5.alloc (.cells #[.int .i64 a4.1.num, .int .i64 a4.1.cnt, .slice sg.a sg.n sg.c] 35)).heap.size := B10.lt
  clear ho hb hal
  obtain ⟨r0_0, r0_1, r0_2⟩ := PiB3.cells B10
  obtain ⟨r1_0, r1_1, r1_2⟩ := PiB3.cells B6
  have H_AA : Hid _ := AA
  have H_B6 : Hid _ := B6
  have H_B9 : Hid _ := B9
  have H_B10 : Hid _ := B10
  have H_M0 : Hid _ := M0
  have H_MX : Hid _ := MX
  have H_MG : Hid _ := MG
  have H_BB : Hid _ := BB
  clear AA B6 B9 B10 M0 MX MG BB
  go_wp2_with fail
  clear r0_0 r0_1 r0_2 r1_0 r1_1 r1_2
  have AA : Bx (w5.alloc (.cells #[.int .i64 a4.1.num, .int .i64 a4.1.cnt, .slice sg.a sg.n sg.c] 35)) w.heap.size 41 [.int .i64 num, .int .i64 cnt, .slice s.a s.n s.c] := H_AA.out
  have B6 : Bx (w5.alloc (.cells #[.int .i64 a4.1.num, .int .i64 a4.1.cnt, .slice sg.a sg.n sg.c] 35)) w3.heap.size 35 [.int .i64 a4.1.num, .int .i64 a4.1.cnt, .slice s0.a s0.n s0.c] := H_B6.out
  have B9 : Bx (w5.alloc (.cells #[.int .i64 a4.1.num, .int .i64 a4.1.cnt, .slice sg.a sg.n sg.c] 35)) w4.heap.size 35 [.int .i64 num, .int .i64 cnt, .slice sx.a sx.n sx.c] := H_B9.out
  have B10 : Bx (w5.alloc (.cells #[.int .i64 a4.1.num, .int .i64 a4.1.cnt, .slice sg.a sg.n sg.c] 35)) w5.heap.size 35 [.int .i64 a4.1.num, .int .i64 a4.1.cnt, .slice sg.a sg.n sg.c] := H_B10.out
  have M0 : Mine (w5.alloc (.cells #[.int .i64 a4.1.num, .int .i64 a4.1.cnt, .slice sg.a sg.n sg.c] 35)) s0.v (a4.1.ps) w2.heap.size w3.heap.size := H_M0.out
  have MX : Mine (w5.alloc (.cells #[.int .i64 a4.1.num, .int .i64 a4.1.cnt, .slice sg.a sg.n sg.c] 35)) sx.v (ts) V3.heap.size w4.heap.size := H_MX.out
  have MG : Mine (w5.alloc (.cells #[.int .i64 a4.1.num, .int .i64 a4.1.cnt, .slice sg.a sg.n sg.c] 35)) sg.v (a4.1.ps) V4.heap.size w5.heap.size := H_MG.out
  have BB : Below w.heap.size w (w5.alloc (.cells #[.int .i64 a4.1.num, .int .i64 a4.1.cnt, .slice sg.a sg.n sg.c] 35)) := H_BB.out
  clear H_AA H_B6 H_B9 H_B10 H_M0 H_MX H_MG H_BB
  generalize (w5.alloc (.cells #[.int .i64 a4.1.num, .int .i64 a4.1.cnt, .slice sg.a sg.n sg.c] 35)) = V5 at *
  refine (eqPile_same a4.1.num a4.1.cnt sg s0 a4.1.ps 0 0 V5 MG.own M0.own (by omega)).mono ?_
  rintro e w6 ⟨rfl, hb⟩
  have Z6 : V5.heap.size ≤ w6.heap.size := hb.size
  have AA : Bx w6 w.heap.size 41 [.int .i64 num, .int .i64 cnt, .slice s.a s.n s.c] := AA.later hb
  have B6 : Bx w6 w3.heap.size 35 [.int .i64 a4.1.num, .int .i64 a4.1.cnt, .slice s0.a s0.n s0.c] := B6.later hb
  have B9 : Bx w6 w4.heap.size 35 [.int .i64 num, .int .i64 cnt, .slice sx.a sx.n sx.c] := B9.later hb
  have B10 : Bx w6 w5.heap.size 35 [.int .i64 a4.1.num, .int .i64 a4.1.cnt, .slice sg.a sg.n sg.c] := B10.later hb
  have M0 : Mine w6 s0.v (a4.1.ps) w2.heap.size w3.heap.size := M0.stays hb
  have MX : Mine w6 sx.v (ts) V3.heap.size w4.heap.size := MX.stays hb
  have MG : Mine w6 sg.v (a4.1.ps) V4.heap.size w5.heap.size := MG.stays hb
  have BB : Below w.heap.size w w6 := BB.trans (hb.mono BB.size)
  clear hb
  have H_AA : Hid _ := AA
  have H_B6 : Hid _ := B6
  have H_B9 : Hid _ := B9
  have H_B10 : Hid _ := B10
  have H_M0 : Hid _ := M0
  have H_MX : Hid _ := MX
  have H_MG : Hid _ := MG
  have H_BB : Hid _ := BB
  clear AA B6 B9 B10 M0 MX MG BB
  go_wp2_with fail
  have AA : Bx w6 w.heap.size 41 [.int .i64 num, .int .i64 cnt, .slice s.a s.n s.c] := H_AA.out
  have B6 : Bx w6 w3.heap.size 35 [.int .i64 a4.1.num, .int .i64 a4.1.cnt, .slice s0.a s0.n s0.c] := H_B6.out
  have B9 : Bx w6 w4.heap.size 35 [.int .i64 num, .int .i64 cnt, .slice sx.a sx.n sx.c] := H_B9.out
  have B10 : Bx w6 w5.heap.size 35 [.int .i64 a4.1.num, .int .i64 a4.1.cnt, .slice sg.a sg.n sg.c] := H_B10.out
  have M0 : Mine w6 s0.v (a4.1.ps) w2.heap.size w3.heap.size := H_M0.out
  have MX : Mine w6 sx.v (ts) V3.heap.size w4.heap.size := H_MX.out
  have MG : Mine w6 sg.v (a4.1.ps) V4.heap.size w5.heap.size := H_MG.out
  have BB : Below w.heap.size w w6 := H_BB.out
  clear H_AA H_B6 H_B9 H_B10 H_M0 H_MX H_MG H_BB
  have KEEP : Hid (∀ w', Below w6.heap.size w6 w' → Hid (Below w6.heap.size w6 w')) := fun w' hb => hb
  have c : Below w6.heap.size w6 w6.drew := (Below.refl _ _).drew
  refine wp_region_held_drew (S := fun w' => Hid (Below w6.heap.size w6 w')) (by kernel_rfl) (KEEP.out _ c) (fun hHeld => ?_)
  refine wpAnyH_take (i := 0) (v := _) rfl (by kernel_rfl) (by kernel_rfl) (by kernel_rfl) (fun _ _ _ h => h) (ld_yield (by rfl) 35 _ rfl w4.heap.size 0 rfl 35 _ (fun w hS => B9.later hS.out) [.int .i64 num, .int .i64 cnt, .slice sx.a sx.n sx.c] rfl _ Try.underlying35 rfl Try.sizeP) (by assumption) ?_
  try simp only [Act.put, List.getElem_toArray, List.getElem_cons_zero, List.getElem_cons_succ, List.setIfInBounds_toArray, List.set_cons_zero, List.set_cons_succ]
  refine wpAnyH_take (i := 1) (v := _) rfl (by kernel_rfl) (by kernel_rfl) (by kernel_rfl) (fun _ _ _ h => h) (ld_yield (by rfl) 41 _ rfl w.heap.size 0 rfl 41 _ (fun w hS => AA.later hS.out) [.int .i64 num, .int .i64 cnt, .slice s.a s.n s.c] rfl _ Try.underlying41 rfl Try.sizeLP) (by assumption) ?_
  try simp only [Act.put, List.getElem_toArray, List.getElem_cons_zero, List.getElem_cons_succ, List.setIfInBounds_toArray, List.set_cons_zero, List.set_cons_succ]
  refine wpAnyH_ready (rs := [2]) (by kernel_rfl) (by simp) ?_
  refine AllReadyH.cons (i := 2) rfl (fun K hK => ?_) AllReadyH.nil
  rw [if_pos (by rfl)]
  simp only [List.getElem_toArray, List.getElem_cons_zero, List.getElem_cons_succ]
  go_simp
  refine (toPile_any num cnt s ts w6.drew (show Hid (TextsAt w6.drew s.a ts) from hx.out.stays (BB.trans (c.mono BB.size))) hn htl).mono ?_
  rintro e y1 ⟨sy, rfl, oy, b⟩
  have c : Below w6.heap.size w6 y1 := bl_next c b
  refine hK.out _ _ (KEEP.out _ c) (fun hHeld => ?_)
  clear hK K
  try simp only [Act.put, List.getElem_toArray, List.getElem_cons_zero, List.getElem_cons_succ, List.setIfInBounds_toArray, List.set_cons_zero, List.set_cons_succ]
  refine wpAnyH_ready (rs := [3]) (by kernel_rfl) (by simp) ?_
  refine AllReadyH.cons (i := 3) rfl (fun K hK => ?_) AllReadyH.nil
  rw [if_pos (by rfl)]
  simp only [List.getElem_toArray, List.getElem_cons_zero, List.getElem_cons_succ]
  go_simp
  refine (eqPile_same num cnt sx sy ts 0 _ y1 (MX.stays c).own oy (by omega)).mono ?_
  rintro e y2 ⟨rfl, b2⟩
  have c : Below w6.heap.size w6 y2 := bl_next c b2
  refine hK.out _ _ (KEEP.out _ c) (fun hHeld => ?_)
  clear hK K
  try simp only [Act.put, List.getElem_toArray, List.getElem_cons_zero, List.getElem_cons_succ, List.setIfInBounds_toArray, List.set_cons_zero, List.set_cons_succ]
  refine wpAnyH_take (i := 4) (v := ?v4b3) rfl (by kernel_rfl) (by kernel_rfl) (by kernel_rfl) (fun _ _ _ h => h) (Or.inl ⟨by rfl, ?hy4b3⟩) (by assumption) ?_
  case hy4b3 => (intro w hSw; (try dsimp only at hSw); simp only [List.getElem_toArray, List.getElem_cons_zero, List.getElem_cons_succ]; go_simp; try with_reducible rfl)
  try simp only [Act.put, List.getElem_toArray, List.getElem_cons_zero, List.getElem_cons_succ, List.setIfInBounds_toArray, List.set_cons_zero, List.set_cons_succ]
  refine wpAnyH_done (by kernel_rfl) ?_ _
  have Z7 : w6.heap.size ≤ y2.heap.size := c.size
  have AA : Bx y2 w.heap.size 41 [.int .i64 num, .int .i64 cnt, .slice s.a s.n s.c] := AA.later c
  have B6 : Bx y2 w3.heap.size 35 [.int .i64 a4.1.num, .int .i64 a4.1.cnt, .slice s0.a s0.n s0.c] := B6.later c
  have B9 : Bx y2 w4.heap.size 35 [.int .i64 num, .int .i64 cnt, .slice sx.a sx.n sx.c] := B9.later c
  have B10 : Bx y2 w5.heap.size 35 [.int .i64 a4.1.num, .int .i64 a4.1.cnt, .slice sg.a sg.n sg.c] := B10.later c
  have M0 : Mine y2 s0.v (a4.1.ps) w2.heap.size w3.heap.size := M0.stays c
  have MX : Mine y2 sx.v (ts) V3.heap.size w4.heap.size := MX.stays c
  have MG : Mine y2 sg.v (a4.1.ps) V4.heap.size w5.heap.size := MG.stays c
  have BB : Below w.heap.size w y2 := BB.trans (c.mono BB.size)
  clear c oy b b2 KEEP hHeld
  obtain ⟨r0_0, r0_1, r0_2⟩ := PiB3.cells B9
  have H_AA : Hid _ := AA
  have H_B6 : Hid _ := B6
  have H_B9 : Hid _ := B9
  have H_B10 : Hid _ := B10
  have H_M0 : Hid _ := M0
  have H_MX : Hid _ := MX
  have H_MG : Hid _ := MG
  have H_BB : Hid _ := BB
  clear AA B6 B9 B10 M0 MX MG BB
  go_wp2_with fail
  clear r0_0 r0_1 r0_2
  have AA : Bx y2 w.heap.size 41 [.int .i64 num, .int .i64 cnt, .slice s.a s.n s.c] := H_AA.out
  have B6 : Bx y2 w3.heap.size 35 [.int .i64 a4.1.num, .int .i64 a4.1.cnt, .slice s0.a s0.n s0.c] := H_B6.out
  have B9 : Bx y2 w4.heap.size 35 [.int .i64 num, .int .i64 cnt, .slice sx.a sx.n sx.c] := H_B9.out
  have B10 : Bx y2 w5.heap.size 35 [.int .i64 a4.1.num, .int .i64 a4.1.cnt, .slice sg.a sg.n sg.c] := H_B10.out
  have M0 : Mine y2 s0.v (a4.1.ps) w2.heap.size w3.heap.size := H_M0.out
  have MX : Mine y2 sx.v (ts) V3.heap.size w4.heap.size := H_MX.out
  have MG : Mine y2 sg.v (a4.1.ps) V4.heap.size w5.heap.size := H_MG.out
  have BB : Below w.heap.size w y2 := H_BB.out
  clear H_AA H_B6 H_B9 H_B10 H_M0 H_MX H_MG H_BB
  refine (markPile_any num cnt sx ts 0 1 y2 MX.own (by omega) (by omega)).mono ?_
  rintro e w8 ⟨rfl, _, hg⟩
  have Z8 : y2.heap.size ≤ w8.heap.size := hg.size
  have AA : Bx w8 w.heap.size 41 [.int .i64 num, .int .i64 cnt, .slice s.a s.n s.c] := AA.grown hg (fun e => bx_s_ne MX.own AA (by decide) e.symm)
  have B6 : Bx w8 w3.heap.size 35 [.int .i64 a4.1.num, .int .i64 a4.1.cnt, .slice s0.a s0.n s0.c] := B6.grown hg (fun e => bx_s_ne MX.own B6 (by decide) e.symm)
  have B9 : Bx w8 w4.heap.size 35 [.int .i64 num, .int .i64 cnt, .slice sx.a sx.n sx.c] := B9.grown hg (fun e => bx_s_ne MX.own B9 (by decide) e.symm)
  have B10 : Bx w8 w5.heap.size 35 [.int .i64 a4.1.num, .int .i64 a4.1.cnt, .slice sg.a sg.n sg.c] := B10.grown hg (fun e => bx_s_ne MX.own B10 (by decide) e.symm)
  have M0 : Mine w8 s0.v (a4.1.ps) w2.heap.size w3.heap.size := M0.grown MX.at' hg (by omega)
  have MG : Mine w8 sg.v (a4.1.ps) V4.heap.size w5.heap.size := MG.grown MX.at' hg (by omega)
  have BB : Below w.heap.size w w8 := BB.grown hg BB.size (fun k hk => by have := (MX.at' k hk).1; omega)
  clear MX hg
  have hn0 : decide (1 + (ts.length : Int) < 0) = false := by simp; omega
  obtain ⟨r0_0, r0_1, r0_2⟩ := PiB3.cells B10
  obtain ⟨r1_0, r1_1, r1_2⟩ := PiB3.cells B6
  have H_AA : Hid _ := AA
  have H_B6 : Hid _ := B6
  have H_B9 : Hid _ := B9
  have H_B10 : Hid _ := B10
  have H_M0 : Hid _ := M0
  have H_MG : Hid _ := MG
  have H_BB : Hid _ := BB
  clear AA B6 B9 B10 M0 MG BB
  go_wp2_with fail
  clear r0_0 r0_1 r0_2 r1_0 r1_1 r1_2
  have AA : Bx w8 w.heap.size 41 [.int .i64 num, .int .i64 cnt, .slice s.a s.n s.c] := H_AA.out
  have B6 : Bx w8 w3.heap.size 35 [.int .i64 a4.1.num, .int .i64 a4.1.cnt, .slice s0.a s0.n s0.c] := H_B6.out
  have B9 : Bx w8 w4.heap.size 35 [.int .i64 num, .int .i64 cnt, .slice sx.a sx.n sx.c] := H_B9.out
  have B10 : Bx w8 w5.heap.size 35 [.int .i64 a4.1.num, .int .i64 a4.1.cnt, .slice sg.a sg.n sg.c] := H_B10.out
  have M0 : Mine w8 s0.v (a4.1.ps) w2.heap.size w3.heap.size := H_M0.out
  have MG : Mine w8 sg.v (a4.1.ps) V4.heap.size w5.heap.size := H_MG.out
  have BB : Below w.heap.size w w8 := H_BB.out
  clear H_AA H_B6 H_B9 H_B10 H_M0 H_MG H_BB
  refine (eqPile_same a4.1.num a4.1.cnt sg s0 a4.1.ps 0 0 w8 MG.own M0.own (by omega)).mono ?_
  rintro e w9 ⟨rfl, hb⟩
  have Z9 : w8.heap.size ≤ w9.heap.size := hb.size
  have AA : Bx w9 w.heap.size 41 [.int .i64 num, .int .i64 cnt, .slice s.a s.n s.c] := AA.later hb
  have B6 : Bx w9 w3.heap.size 35 [.int .i64 a4.1.num, .int .i64 a4.1.cnt, .slice s0.a s0.n s0.c] := B6.later hb
  have B9 : Bx w9 w4.heap.size 35 [.int .i64 num, .int .i64 cnt, .slice sx.a sx.n sx.c] := B9.later hb
  have B10 : Bx w9 w5.heap.size 35 [.int .i64 a4.1.num, .int .i64 a4.1.cnt, .slice sg.a sg.n sg.c] := B10.later hb
  have M0 : Mine w9 s0.v (a4.1.ps) w2.heap.size w3.heap.size := M0.stays hb
  have MG : Mine w9 sg.v (a4.1.ps) V4.heap.size w5.heap.size := MG.stays hb
  have BB : Below w.heap.size w w9 := BB.trans (hb.mono BB.size)
  clear hb
  clear hn0
  obtain ⟨r0_0, r0_1, r0_2⟩ := PiB3.cells B10
  have H_AA : Hid _ := AA
  have H_B6 : Hid _ := B6
  have H_B9 : Hid _ := B9
  have H_B10 : Hid _ := B10
  have H_M0 : Hid _ := M0
  have H_MG : Hid _ := MG
  have H_BB : Hid _ := BB
  clear AA B6 B9 B10 M0 MG BB
  go_wp2_with fail
  clear r0_0 r0_1 r0_2
  have AA : Bx w9 w.heap.size 41 [.int .i64 num, .int .i64 cnt, .slice s.a s.n s.c] := H_AA.out
  have B6 : Bx w9 w3.heap.size 35 [.int .i64 a4.1.num, .int .i64 a4.1.cnt, .slice s0.a s0.n s0.c] := H_B6.out
  have B9 : Bx w9 w4.heap.size 35 [.int .i64 num, .int .i64 cnt, .slice sx.a sx.n sx.c] := H_B9.out
  have B10 : Bx w9 w5.heap.size 35 [.int .i64 a4.1.num, .int .i64 a4.1.cnt, .slice sg.a sg.n sg.c] := H_B10.out
  have M0 : Mine w9 s0.v (a4.1.ps) w2.heap.size w3.heap.size := H_M0.out
  have MG : Mine w9 sg.v (a4.1.ps) V4.heap.size w5.heap.size := H_MG.out
  have BB : Below w.heap.size w w9 := H_BB.out
  clear H_AA H_B6 H_B9 H_B10 H_M0 H_MG H_BB
  refine (markPile_any a4.1.num a4.1.cnt sg a4.1.ps 0 1 w9 MG.own (by omega) (by omega)).mono ?_
  rintro e w10 ⟨rfl, ho, hg⟩
  have Z10 : w9.heap.size ≤ w10.heap.size := hg.size
  have AA : Bx w10 w.heap.size 41 [.int .i64 num, .int .i64 cnt, .slice s.a s.n s.c] := AA.grown hg (fun e => bx_s_ne MG.own AA (by decide) e.symm)
  have B6 : Bx w10 w3.heap.size 35 [.int .i64 a4.1.num, .int .i64 a4.1.cnt, .slice s0.a s0.n s0.c] := B6.grown hg (fun e => bx_s_ne MG.own B6 (by decide) e.symm)
  have B9 : Bx w10 w4.heap.size 35 [.int .i64 num, .int .i64 cnt, .slice sx.a sx.n sx.c] := B9.grown hg (fun e => bx_s_ne MG.own B9 (by decide) e.symm)
  have B10 : Bx w10 w5.heap.size 35 [.int .i64 a4.1.num, .int .i64 a4.1.cnt, .slice sg.a sg.n sg.c] := B10.grown hg (fun e => bx_s_ne MG.own B10 (by decide) e.symm)
  have M0 : Mine w10 s0.v (a4.1.ps) w2.heap.size w3.heap.size := M0.grown MG.at' hg (by omega)
  have BB : Below w.heap.size w w10 := BB.grown hg BB.size (fun k hk => by have := (MG.at' k hk).1; omega)
  have MH : Mine w10 sg.v (mkT 1 a4.1.ps.length) V4.heap.size w5.heap.size := ⟨ho, MG.at', Nat.le_trans MG.le hg.size⟩
  clear MG ho hg
  obtain ⟨r0_0, r0_1, r0_2⟩ := PiB3.cells B10
  have H_AA : Hid _ := AA
  have H_B6 : Hid _ := B6
  have H_B9 : Hid _ := B9
  have H_B10 : Hid _ := B10
  have H_M0 : Hid _ := M0
  have H_MH : Hid _ := MH
  have H_BB : Hid _ := BB
  clear AA B6 B9 B10 M0 MH BB
  go_wp2_with fail
  clear r0_0 r0_1 r0_2
  have AA : Bx w10 w.heap.size 41 [.int .i64 num, .int .i64 cnt, .slice s.a s.n s.c] := H_AA.out
  have B6 : Bx w10 w3.heap.size 35 [.int .i64 a4.1.num, .int .i64 a4.1.cnt, .slice s0.a s0.n s0.c] := H_B6.out
  have B9 : Bx w10 w4.heap.size 35 [.int .i64 num, .int .i64 cnt, .slice sx.a sx.n sx.c] := H_B9.out
  have B10 : Bx w10 w5.heap.size 35 [.int .i64 a4.1.num, .int .i64 a4.1.cnt, .slice sg.a sg.n sg.c] := H_B10.out
  have M0 : Mine w10 s0.v (a4.1.ps) w2.heap.size w3.heap.size := H_M0.out
  have MH : Mine w10 sg.v (mkT 1 a4.1.ps.length) V4.heap.size w5.heap.size := H_MH.out
  have BB : Below w.heap.size w w10 := H_BB.out
  clear H_AA H_B6 H_B9 H_B10 H_M0 H_MH H_BB
  refine (heldPile_any a4.1.num a4.1.cnt sg a4.1.ps.length 0 1 w10 MH.own (by omega) (by omega)).mono ?_
  rintro e w11 ⟨rfl, hb⟩
  have Z11 : w10.heap.size ≤ w11.heap.size := hb.size
  have AA : Bx w11 w.heap.size 41 [.int .i64 num, .int .i64 cnt, .slice s.a s.n s.c] := AA.later hb
  have B6 : Bx w11 w3.heap.size 35 [.int .i64 a4.1.num, .int .i64 a4.1.cnt, .slice s0.a s0.n s0.c] := B6.later hb
  have B9 : Bx w11 w4.heap.size 35 [.int .i64 num, .int .i64 cnt, .slice sx.a sx.n sx.c] := B9.later hb
  have B10 : Bx w11 w5.heap.size 35 [.int .i64 a4.1.num, .int .i64 a4.1.cnt, .slice sg.a sg.n sg.c] := B10.later hb
  have M0 : Mine w11 s0.v (a4.1.ps) w2.heap.size w3.heap.size := M0.stays hb
  have MH : Mine w11 sg.v (mkT 1 a4.1.ps.length) V4.heap.size w5.heap.size := MH.stays hb
  have BB : Below w.heap.size w w11 := BB.trans (hb.mono BB.size)
  clear hb
  have hu0 : decide (1 + (a4.1.ps.length : Int) < 0) = false := by simp; omega
  obtain ⟨r0_0, r0_1, r0_2⟩ := PiB3.cells AA
  have H_AA : Hid _ := AA
  have H_B6 : Hid _ := B6
  have H_B9 : Hid _ := B9
  have H_B10 : Hid _ := B10
  have H_M0 : Hid _ := M0
  have H_MH : Hid _ := MH
  have H_BB : Hid _ := BB
  clear AA B6 B9 B10 M0 MH BB
  go_wp2_with fail
  clear r0_0 r0_1 r0_2
  have AA : Bx w11 w.heap.size 41 [.int .i64 num, .int .i64 cnt, .slice s.a s.n s.c] := H_AA.out
  have B6 : Bx w11 w3.heap.size 35 [.int .i64 a4.1.num, .int .i64 a4.1.cnt, .slice s0.a s0.n s0.c] := H_B6.out
  have B9 : Bx w11 w4.heap.size 35 [.int .i64 num, .int .i64 cnt, .slice sx.a sx.n sx.c] := H_B9.out
  have B10 : Bx w11 w5.heap.size 35 [.int .i64 a4.1.num, .int .i64 a4.1.cnt, .slice sg.a sg.n sg.c] := H_B10.out
  have M0 : Mine w11 s0.v (a4.1.ps) w2.heap.size w3.heap.size := H_M0.out
  have MH : Mine w11 sg.v (mkT 1 a4.1.ps.length) V4.heap.size w5.heap.size := H_MH.out
  have BB : Below w.heap.size w w11 := H_BB.out
  clear H_AA H_B6 H_B9 H_B10 H_M0 H_MH H_BB
  have X : TextsAt w11 s.a ts := hx.out.stays BB
  refine (toPile_any num cnt s ts w11 X hn htl).mono ?_
  rintro e w12 ⟨sh, rfl, ho, hb⟩
  clear X
  have Z12 : w11.heap.size ≤ w12.heap.size := hb.size
  have AA : Bx w12 w.heap.size 41 [.int .i64 num, .int .i64 cnt, .slice s.a s.n s.c] := AA.later hb
  have B6 : Bx w12 w3.heap.size 35 [.int .i64 a4.1.num, .int .i64 a4.1.cnt, .slice s0.a s0.n s0.c] := B6.later hb
  have B9 : Bx w12 w4.heap.size 35 [.int .i64 num, .int .i64 cnt, .slice sx.a sx.n sx.c] := B9.later hb
  have B10 : Bx w12 w5.heap.size 35 [.int .i64 a4.1.num, .int .i64 a4.1.cnt, .slice sg.a sg.n sg.c] := B10.later hb
  have M0 : Mine w12 s0.v (a4.1.ps) w2.heap.size w3.heap.size := M0.stays hb
  have MH : Mine w12 sg.v (mkT 1 a4.1.ps.length) V4.heap.size w5.heap.size := MH.stays hb
  have BB : Below w.heap.size w w12 := BB.trans (hb.mono BB.size)
  have RH : Hid (RT w12 (.slice sh.a sh.n sh.c) ts) := ho.rt
  clear ho hb
  have H_AA : Hid _ := AA
  have H_B6 : Hid _ := B6
  have H_B9 : Hid _ := B9
  have H_B10 : Hid _ := B10
  have H_M0 : Hid _ := M0
  have H_MH : Hid _ := MH
  have H_BB : Hid _ := BB
  clear AA B6 B9 B10 M0 MH BB
  go_wp2_with fail
  have AA : Bx w12 w.heap.size 41 [.int .i64 num, .int .i64 cnt, .slice s.a s.n s.c] := H_AA.out
  have B6 : Bx w12 w3.heap.size 35 [.int .i64 a4.1.num, .int .i64 a4.1.cnt, .slice s0.a s0.n s0.c] := H_B6.out
  have B9 : Bx w12 w4.heap.size 35 [.int .i64 num, .int .i64 cnt, .slice sx.a sx.n sx.c] := H_B9.out
  have B10 : Bx w12 w5.heap.size 35 [.int .i64 a4.1.num, .int .i64 a4.1.cnt, .slice sg.a sg.n sg.c] := H_B10.out
  have M0 : Mine w12 s0.v (a4.1.ps) w2.heap.size w3.heap.size := H_M0.out
  have MH : Mine w12 sg.v (mkT 1 a4.1.ps.length) V4.heap.size w5.heap.size := H_MH.out
  have BB : Below w.heap.size w w12 := H_BB.out
  clear H_AA H_B6 H_B9 H_B10 H_M0 H_MH H_BB
  refine (implAdd_any ⟨num, cnt, ts⟩ x sh w12 RH HSH hxs).mono ?_
  rintro e w13 ⟨s16, rfl, ho, hb⟩
  rw [HA.out] at ho ⊢
  have Z13 : w12.heap.size ≤ w13.heap.size := hb.size
  have AA : Bx w13 w.heap.size 41 [.int .i64 num, .int .i64 cnt, .slice s.a s.n s.c] := AA.later hb
  have B6 : Bx w13 w3.heap.size 35 [.int .i64 a4.1.num, .int .i64 a4.1.cnt, .slice s0.a s0.n s0.c] := B6.later hb
  have B9 : Bx w13 w4.heap.size 35 [.int .i64 num, .int .i64 cnt, .slice sx.a sx.n sx.c] := B9.later hb
  have B10 : Bx w13 w5.heap.size 35 [.int .i64 a4.1.num, .int .i64 a4.1.cnt, .slice sg.a sg.n sg.c] := B10.later hb
  have M0 : Mine w13 s0.v (a4.1.ps) w2.heap.size w3.heap.size := M0.stays hb
  have MH : Mine w13 sg.v (mkT 1 a4.1.ps.length) V4.heap.size w5.heap.size := MH.stays hb
  have BB : Below w.heap.size w w13 := BB.trans (hb.mono BB.size)
  have M16 : Mine w13 s16.v a4.1.ps w12.heap.size w13.heap.size := Mine.mk' ho
  have hal : Below w13.heap.size w13 (w13.alloc (.cells #[.int .i64 a4.1.num, .int .i64 a4.1.cnt, .slice s16.a s16.n s16.c] 35)) := (Below.refl _ _).alloc (Nat.le_refl _) _
  have AA : Bx (w13.alloc (.cells #[.int .i64 a4.1.num, .int .i64 a4.1.cnt, .slice s16.a s16.n s16.c] 35)) w.heap.size 41 [.int .i64 num, .int .i64 cnt, .slice s.a s.n s.c] := AA.later hal
  have B6 : Bx (w13.alloc (.cells #[.int .i64 a4.1.num, .int .i64 a4.1.cnt, .slice s16.a s16.n s16.c] 35)) w3.heap.size 35 [.int .i64 a4.1.num, .int .i64 a4.1.cnt, .slice s0.a s0.n s0.c] := B6.later hal
  have B9 : Bx (w13.alloc (.cells #[.int .i64 a4.1.num, .int .i64 a4.1.cnt, .slice s16.a s16.n s16.c] 35)) w4.heap.size 35 [.int .i64 num, .int .i64 cnt, .slice sx.a sx.n sx.c] := B9.later hal
  have B10 : Bx (w13.alloc (.cells #[.int .i64 a4.1.num, .int .i64 a4.1.cnt, .slice s16.a s16.n s16.c] 35)) w5.heap.size 35 [.int .i64 a4.1.num, .int .i64 a4.1.cnt, .slice sg.a sg.n sg.c] := B10.later hal
  have M0 : Mine (w13.alloc (.cells #[.int .i64 a4.1.num, .int .i64 a4.1.cnt, .slice s16.a s16.n s16.c] 35)) s0.v (a4.1.ps) w2.heap.size w3.heap.size := M0.stays hal
  have MH : Mine (w13.alloc (.cells #[.int .i64 a4.1.num, .int .i64 a4.1.cnt, .slice s16.a s16.n s16.c] 35)) sg.v (mkT 1 a4.1.ps.length) V4.heap.size w5.heap.size := MH.stays hal
  have M16 : Mine (w13.alloc (.cells #[.int .i64 a4.1.num, .int .i64 a4.1.cnt, .slice s16.a s16.n s16.c] 35)) s16.v (a4.1.ps) w12.heap.size w13.heap.size := M16.stays hal
  have BB : Below w.heap.size w (w13.alloc (.cells #[.int .i64 a4.1.num, .int .i64 a4.1.cnt, .slice s16.a s16.n s16.c] 35)) := BB.trans (hal.mono BB.size)
  have B16 : Bx (w13.alloc (.cells #[.int .i64 a4.1.num, .int .i64 a4.1.cnt, .slice s16.a s16.n s16.c] 35)) w13.heap.size 35 [.int .i64 a4.1.num, .int .i64 a4.1.cnt, .slice s16.a s16.n s16.c] := Bx.new w13 35 [.int .i64 a4.1.num, .int .i64 a4.1.cnt, .slice s16.a s16.n s16.c]
  have Y13 : w13.heap.size < (w13.alloc (.cells #[.int .i64 a4.1.num, .int .i64 a4.1.cnt, .slice s16.a s16.n s16.c] 35)).heap.size := B16.lt
  clear ho hb hal
  obtain ⟨r0_0, r0_1, r0_2⟩ := PiB3.cells B16
  obtain ⟨r1_0, r1_1, r1_2⟩ := PiB3.cells B6
  have H_AA : Hid _ := AA
  have H_B6 : Hid _ := B6
  have H_B9 : Hid _ := B9
  have H_B10 : Hid _ := B10
  have H_B16 : Hid _ := B16
  have H_M0 : Hid _ := M0
  have H_MH : Hid _ := MH
  have H_M16 : Hid _ := M16
  have H_BB : Hid _ := BB
  clear AA B6 B9 B10 B16 M0 MH M16 BB
  go_wp2_with fail
  clear r0_0 r0_1 r0_2 r1_0 r1_1 r1_2
  have AA : Bx (w13.alloc (.cells #[.int .i64 a4.1.num, .int .i64 a4.1.cnt, .slice s16.a s16.n s16.c] 35)) w.heap.size 41 [.int .i64 num, .int .i64 cnt, .slice s.a s.n s.c] := H_AA.out
  have B6 : Bx (w13.alloc (.cells #[.int .i64 a4.1.num, .int .i64 a4.1.cnt, .slice s16.a s16.n s16.c] 35)) w3.heap.size 35 [.int .i64 a4.1.num, .int .i64 a4.1.cnt, .slice s0.a s0.n s0.c] := H_B6.out
  have B9 : Bx (w13.alloc (.cells #[.int .i64 a4.1.num, .int .i64 a4.1.cnt, .slice s16.a s16.n s16.c] 35)) w4.heap.size 35 [.int .i64 num, .int .i64 cnt, .slice sx.a sx.n sx.c] := H_B9.out
  have B10 : Bx (w13.alloc (.cells #[.int .i64 a4.1.num, .int .i64 a4.1.cnt, .slice s16.a s16.n s16.c] 35)) w5.heap.size 35 [.int .i64 a4.1.num, .int .i64 a4.1.cnt, .slice sg.a sg.n sg.c] := H_B10.out
  have B16 : Bx (w13.alloc (.cells #[.int .i64 a4.1.num, .int .i64 a4.1.cnt, .slice s16.a s16.n s16.c] 35)) w13.heap.size 35 [.int .i64 a4.1.num, .int .i64 a4.1.cnt, .slice s16.a s16.n s16.c] := H_B16.out
  have M0 : Mine (w13.alloc (.cells #[.int .i64 a4.1.num, .int .i64 a4.1.cnt, .slice s16.a s16.n s16.c] 35)) s0.v (a4.1.ps) w2.heap.size w3.heap.size := H_M0.out
  have MH : Mine (w13.alloc (.cells #[.int .i64 a4.1.num, .int .i64 a4.1.cnt, .slice s16.a s16.n s16.c] 35)) sg.v (mkT 1 a4.1.ps.length) V4.heap.size w5.heap.size := H_MH.out
  have M16 : Mine (w13.alloc (.cells #[.int .i64 a4.1.num, .int .i64 a4.1.cnt, .slice s16.a s16.n s16.c] 35)) s16.v (a4.1.ps) w12.heap.size w13.heap.size := H_M16.out
  have BB : Below w.heap.size w (w13.alloc (.cells #[.int .i64 a4.1.num, .int .i64 a4.1.cnt, .slice s16.a s16.n s16.c] 35)) := H_BB.out
  clear H_AA H_B6 H_B9 H_B10 H_B16 H_M0 H_MH H_M16 H_BB
  generalize (w13.alloc (.cells #[.int .i64 a4.1.num, .int .i64 a4.1.cnt, .slice s16.a s16.n s16.c] 35)) = V13 at *
  refine (eqPile_same a4.1.num a4.1.cnt s16 s0 a4.1.ps 0 0 V13 M16.own M0.own (by omega)).mono ?_
  rintro e w14 ⟨rfl, hb⟩
  have Z14 : V13.heap.size ≤ w14.heap.size := hb.size
  have AA : Bx w14 w.heap.size 41 [.int .i64 num, .int .i64 cnt, .slice s.a s.n s.c] := AA.later hb
  have B6 : Bx w14 w3.heap.size 35 [.int .i64 a4.1.num, .int .i64 a4.1.cnt, .slice s0.a s0.n s0.c] := B6.later hb
  have B9 : Bx w14 w4.heap.size 35 [.int .i64 num, .int .i64 cnt, .slice sx.a sx.n sx.c] := B9.later hb
  have B10 : Bx w14 w5.heap.size 35 [.int .i64 a4.1.num, .int .i64 a4.1.cnt, .slice sg.a sg.n sg.c] := B10.later hb
  have B16 : Bx w14 w13.heap.size 35 [.int .i64 a4.1.num, .int .i64 a4.1.cnt, .slice s16.a s16.n s16.c] := B16.later hb
  have M0 : Mine w14 s0.v (a4.1.ps) w2.heap.size w3.heap.size := M0.stays hb
  have MH : Mine w14 sg.v (mkT 1 a4.1.ps.length) V4.heap.size w5.heap.size := MH.stays hb
  have M16 : Mine w14 s16.v (a4.1.ps) w12.heap.size w13.heap.size := M16.stays hb
  have BB : Below w.heap.size w w14 := BB.trans (hb.mono BB.size)
  clear hb
  obtain ⟨r0_0, r0_1, r0_2⟩ := PiB3.cells B10
  have H_AA : Hid _ := AA
  have H_B6 : Hid _ := B6
  have H_B9 : Hid _ := B9
  have H_B10 : Hid _ := B10
  have H_B16 : Hid _ := B16
  have H_M0 : Hid _ := M0
  have H_MH : Hid _ := MH
  have H_M16 : Hid _ := M16
  have H_BB : Hid _ := BB
  clear AA B6 B9 B10 B16 M0 MH M16 BB
  go_wp2_with fail
  clear r0_0 r0_1 r0_2
  have AA : Bx w14 w.heap.size 41 [.int .i64 num, .int .i64 cnt, .slice s.a s.n s.c] := H_AA.out
  have B6 : Bx w14 w3.heap.size 35 [.int .i64 a4.1.num, .int .i64 a4.1.cnt, .slice s0.a s0.n s0.c] := H_B6.out
  have B9 : Bx w14 w4.heap.size 35 [.int .i64 num, .int .i64 cnt, .slice sx.a sx.n sx.c] := H_B9.out
  have B10 : Bx w14 w5.heap.size 35 [.int .i64 a4.1.num, .int .i64 a4.1.cnt, .slice sg.a sg.n sg.c] := H_B10.out
  have B16 : Bx w14 w13.heap.size 35 [.int .i64 a4.1.num, .int .i64 a4.1.cnt, .slice s16.a s16.n s16.c] := H_B16.out
  have M0 : Mine w14 s0.v (a4.1.ps) w2.heap.size w3.heap.size := H_M0.out
  have MH : Mine w14 sg.v (mkT 1 a4.1.ps.length) V4.heap.size w5.heap.size := H_MH.out
  have M16 : Mine w14 s16.v (a4.1.ps) w12.heap.size w13.heap.size := H_M16.out
  have BB : Below w.heap.size w w14 := H_BB.out
  clear H_AA H_B6 H_B9 H_B10 H_B16 H_M0 H_MH H_M16 H_BB
  refine (heldPile_any a4.1.num a4.1.cnt sg a4.1.ps.length 0 1 w14 MH.own (by omega) (by omega)).mono ?_
  rintro e w15 ⟨rfl, hb⟩
  have Z15 : w14.heap.size ≤ w15.heap.size := hb.size
  have AA : Bx w15 w.heap.size 41 [.int .i64 num, .int .i64 cnt, .slice s.a s.n s.c] := AA.later hb
  have B6 : Bx w15 w3.heap.size 35 [.int .i64 a4.1.num, .int .i64 a4.1.cnt, .slice s0.a s0.n s0.c] := B6.later hb
  have B9 : Bx w15 w4.heap.size 35 [.int .i64 num, .int .i64 cnt, .slice sx.a sx.n sx.c] := B9.later hb
  have B10 : Bx w15 w5.heap.size 35 [.int .i64 a4.1.num, .int .i64 a4.1.cnt, .slice sg.a sg.n sg.c] := B10.later hb
  have B16 : Bx w15 w13.heap.size 35 [.int .i64 a4.1.num, .int .i64 a4.1.cnt, .slice s16.a s16.n s16.c] := B16.later hb
  have M0 : Mine w15 s0.v (a4.1.ps) w2.heap.size w3.heap.size := M0.stays hb
  have MH : Mine w15 sg.v (mkT 1 a4.1.ps.length) V4.heap.size w5.heap.size := MH.stays hb
  have M16 : Mine w15 s16.v (a4.1.ps) w12.heap.size w13.heap.size := M16.stays hb
  have BB : Below w.heap.size w w15 := BB.trans (hb.mono BB.size)
  clear hb
  have H_AA : Hid _ := AA
  have H_B6 : Hid _ := B6
  have H_B9 : Hid _ := B9
  have H_B10 : Hid _ := B10
  have H_B16 : Hid _ := B16
  have H_M0 : Hid _ := M0
  have H_MH : Hid _ := MH
  have H_M16 : Hid _ := M16
  have H_BB : Hid _ := BB
  clear AA B6 B9 B10 B16 M0 MH M16 BB
  go_wp2
  go_ret
  exact ⟨rfl, H_BB.out⟩
end Go.Proofs.Ytfefjkldjaabbaa
