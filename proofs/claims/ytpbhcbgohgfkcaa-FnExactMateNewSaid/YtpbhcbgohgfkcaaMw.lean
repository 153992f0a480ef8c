/- A new member: the walks over both MateNew. -/
import Derived.Test.YtpbhcbgohgfkcaaMn
import Derived.Test.YtpbhcbgohgfkcaaBw
namespace Go.Proofs.Ytpbhcbgohgfkcaa
open Go.RowKit Pl
set_option linter.unusedVariables false

/-- a new member. -/
def newM (id i : Int) (ms : List Int) : Mt := ⟨id, i, ms, [], [], [], 0, 0, 0, 0, zTok⟩

set_option maxRecDepth 100000 in
set_option maxHeartbeats 1000000 in
theorem mateNew_no (id i : Int) (s : Sv) (ms : List Int) (w : World) (h : Hid (RI w s.v ms)) (hl : ms.length ≤ 1048576) (hr : Hid ((ringB i ms && inB ms id) = false)) :
    Calls Try.prog 18 #[.int .i64 id, .agg #[.int .i64 i, .slice s.a s.n s.c]] w fun e w' => e = .returned (.tuple #[.agg #[.int .i64 0, .int .i64 0, .slice none 0 0, .slice none 0 0, .slice none 0 0, .slice none 0 0, .int .i64 0, .int .i64 0, .int .i64 0, .int .i64 0, .int .i64 0, .int .i64 0, .int .i64 0, .int .i64 0, .int .i64 0, .slice none 0 0], .bool false]) ∧ Below w.heap.size w w' := by
  have hn1 : (w.alloc (.cells #[.int .i64 i, .slice s.a s.n s.c] 26)).heap.size = w.heap.size + 1 := by simp
  have HR : Hid (Bx ((w.alloc (.cells #[.int .i64 i, .slice s.a s.n s.c] 26)).alloc (.cells #[.int .i64 0, .int .i64 0, .slice none 0 0, .slice none 0 0, .slice none 0 0, .slice none 0 0, .int .i64 0, .int .i64 0, .int .i64 0, .int .i64 0, .int .i64 0, .int .i64 0, .int .i64 0, .int .i64 0, .int .i64 0, .slice none 0 0] 32)) (w.heap.size + 1) 32 [.int .i64 0, .int .i64 0, .slice none 0 0, .slice none 0 0, .slice none 0 0, .slice none 0 0, .int .i64 0, .int .i64 0, .int .i64 0, .int .i64 0, .int .i64 0, .int .i64 0, .int .i64 0, .int .i64 0, .int .i64 0, .slice none 0 0]) := by
    have h := Bx.new (w.alloc (.cells #[.int .i64 i, .slice s.a s.n s.c] 26)) 32 [.int .i64 0, .int .i64 0, .slice none 0 0, .slice none 0 0, .slice none 0 0, .slice none 0 0, .int .i64 0, .int .i64 0, .int .i64 0, .int .i64 0, .int .i64 0, .int .i64 0, .int .i64 0, .int .i64 0, .int .i64 0, .slice none 0 0]
    rw [hn1] at h
    exact h
  have HB : Hid (Below w.heap.size w ((w.alloc (.cells #[.int .i64 i, .slice s.a s.n s.c] 26)).alloc (.cells #[.int .i64 0, .int .i64 0, .slice none 0 0, .slice none 0 0, .slice none 0 0, .slice none 0 0, .int .i64 0, .int .i64 0, .int .i64 0, .int .i64 0, .int .i64 0, .int .i64 0, .int .i64 0, .int .i64 0, .int .i64 0, .slice none 0 0] 32))) := ((Below.refl _ _).alloc (Nat.le_refl _) _).alloc (by simp) _
  have HX : Hid (RI ((w.alloc (.cells #[.int .i64 i, .slice s.a s.n s.c] 26)).alloc (.cells #[.int .i64 0, .int .i64 0, .slice none 0 0, .slice none 0 0, .slice none 0 0, .slice none 0 0, .int .i64 0, .int .i64 0, .int .i64 0, .int .i64 0, .int .i64 0, .int .i64 0, .int .i64 0, .int .i64 0, .int .i64 0, .slice none 0 0] 32)) s.v ms) := h.out.stays HB.out
  clear h hn1
  go_enter Try.func18, Try.ntmps18
  go_wp2_with fail
  generalize ((w.alloc (.cells #[.int .i64 i, .slice s.a s.n s.c] 26)).alloc (.cells #[.int .i64 0, .int .i64 0, .slice none 0 0, .slice none 0 0, .slice none 0 0, .slice none 0 0, .int .i64 0, .int .i64 0, .int .i64 0, .int .i64 0, .int .i64 0, .int .i64 0, .int .i64 0, .int .i64 0, .int .i64 0, .slice none 0 0] 32)) = W at *
  refine (isMember_any id i s.v ms W HX hl).mono ?_
  rintro e w1 ⟨rfl, b1⟩
  rw [hr.out]
  have R1 : Hid (Bx w1 (w.heap.size + 1) 32 [.int .i64 0, .int .i64 0, .slice none 0 0, .slice none 0 0, .slice none 0 0, .slice none 0 0, .int .i64 0, .int .i64 0, .int .i64 0, .int .i64 0, .int .i64 0, .int .i64 0, .int .i64 0, .int .i64 0, .int .i64 0, .slice none 0 0]) := HR.out.later b1
  have B1 : Hid (Below w.heap.size w w1) := bl_next HB.out b1
  clear HR HB HX b1 hr
  go_wp2_with (first | (refine wpList_stB rfl 32 _ _ rfl (w.heap.size + 1) 0 rfl 32 _ R1.out [.int .i64 0, .int .i64 0, .slice none 0 0, .slice none 0 0, .slice none 0 0, .slice none 0 0, .int .i64 0, .int .i64 0, .int .i64 0, .int .i64 0, .int .i64 0, .int .i64 0, .int .i64 0, .int .i64 0, .int .i64 0, .slice none 0 0] rfl (by simp) Try.sizeM rfl [.int .i64 0, .int .i64 0, .slice none 0 0, .slice none 0 0, .slice none 0 0, .slice none 0 0, .int .i64 0, .int .i64 0, .int .i64 0, .int .i64 0, .int .i64 0, .int .i64 0, .int .i64 0, .int .i64 0, .int .i64 0, .slice none 0 0] rfl ?_; intro w3 R3 T3))
  have B3 := B1.out.trans (T3.below (by omega))
  refine bodyPost_ret (results_bt Try.results18 (w.heap.size + 1) 32 [.int .i64 0, .int .i64 0, .slice none 0 0, .slice none 0 0, .slice none 0 0, .slice none 0 0, .int .i64 0, .int .i64 0, .int .i64 0, .int .i64 0, .int .i64 0, .int .i64 0, .int .i64 0, .int .i64 0, .int .i64 0, .slice none 0 0] _ rfl R3 Try.underlying32 rfl Try.sizeM) rfl ?_
  exact ⟨rfl, B3⟩

set_option maxRecDepth 100000 in
set_option maxHeartbeats 1000000 in
theorem mateNew_yes (id i : Int) (s : Sv) (ms : List Int) (w : World) (h : Hid (RI w s.v ms)) (hl : ms.length ≤ 1048576) (hr : Hid ((ringB i ms && inB ms id) = true)) :
    Calls Try.prog 18 #[.int .i64 id, .agg #[.int .i64 i, .slice s.a s.n s.c]] w fun e w' => ∃ u : Sv, e = .returned (.tuple #[.agg #[.int .i64 id, .int .i64 i, .slice u.a u.n u.c, .slice none 0 0, .slice none 0 0, .slice none 0 0, .int .i64 0, .int .i64 0, .int .i64 0, .int .i64 0, .int .i64 0, .int .i64 0, .int .i64 0, .int .i64 0, .int .i64 0, .slice none 0 0], .bool true]) ∧ OwnI w' w.heap.size u.v ms ∧ Below w.heap.size w w' := by
  have hn1 : (w.alloc (.cells #[.int .i64 i, .slice s.a s.n s.c] 26)).heap.size = w.heap.size + 1 := by simp
  have HA : Hid (Bx ((w.alloc (.cells #[.int .i64 i, .slice s.a s.n s.c] 26)).alloc (.cells #[.int .i64 0, .int .i64 0, .slice none 0 0, .slice none 0 0, .slice none 0 0, .slice none 0 0, .int .i64 0, .int .i64 0, .int .i64 0, .int .i64 0, .int .i64 0, .int .i64 0, .int .i64 0, .int .i64 0, .int .i64 0, .slice none 0 0] 32)) w.heap.size 26 [.int .i64 i, .slice s.a s.n s.c]) := by
    have h := Bx.new w 26 [.int .i64 i, .slice s.a s.n s.c]
    exact h.stays (B := w.heap.size + 1) ((Below.refl _ _).alloc (by rw [hn1]; exact Nat.le_refl _) _) (by omega)
  have HR : Hid (Bx ((w.alloc (.cells #[.int .i64 i, .slice s.a s.n s.c] 26)).alloc (.cells #[.int .i64 0, .int .i64 0, .slice none 0 0, .slice none 0 0, .slice none 0 0, .slice none 0 0, .int .i64 0, .int .i64 0, .int .i64 0, .int .i64 0, .int .i64 0, .int .i64 0, .int .i64 0, .int .i64 0, .int .i64 0, .slice none 0 0] 32)) (w.heap.size + 1) 32 [.int .i64 0, .int .i64 0, .slice none 0 0, .slice none 0 0, .slice none 0 0, .slice none 0 0, .int .i64 0, .int .i64 0, .int .i64 0, .int .i64 0, .int .i64 0, .int .i64 0, .int .i64 0, .int .i64 0, .int .i64 0, .slice none 0 0]) := by
    have h := Bx.new (w.alloc (.cells #[.int .i64 i, .slice s.a s.n s.c] 26)) 32 [.int .i64 0, .int .i64 0, .slice none 0 0, .slice none 0 0, .slice none 0 0, .slice none 0 0, .int .i64 0, .int .i64 0, .int .i64 0, .int .i64 0, .int .i64 0, .int .i64 0, .int .i64 0, .int .i64 0, .int .i64 0, .slice none 0 0]
    rw [hn1] at h
    exact h
  have HB : Hid (Below w.heap.size w ((w.alloc (.cells #[.int .i64 i, .slice s.a s.n s.c] 26)).alloc (.cells #[.int .i64 0, .int .i64 0, .slice none 0 0, .slice none 0 0, .slice none 0 0, .slice none 0 0, .int .i64 0, .int .i64 0, .int .i64 0, .int .i64 0, .int .i64 0, .int .i64 0, .int .i64 0, .int .i64 0, .int .i64 0, .slice none 0 0] 32))) := ((Below.refl _ _).alloc (Nat.le_refl _) _).alloc (by simp) _
  have HX : Hid (RI ((w.alloc (.cells #[.int .i64 i, .slice s.a s.n s.c] 26)).alloc (.cells #[.int .i64 0, .int .i64 0, .slice none 0 0, .slice none 0 0, .slice none 0 0, .slice none 0 0, .int .i64 0, .int .i64 0, .int .i64 0, .int .i64 0, .int .i64 0, .int .i64 0, .int .i64 0, .int .i64 0, .int .i64 0, .slice none 0 0] 32)) s.v ms) := h.out.stays HB.out
  clear h hn1
  go_enter Try.func18, Try.ntmps18
  go_wp2_with fail
  generalize ((w.alloc (.cells #[.int .i64 i, .slice s.a s.n s.c] 26)).alloc (.cells #[.int .i64 0, .int .i64 0, .slice none 0 0, .slice none 0 0, .slice none 0 0, .slice none 0 0, .int .i64 0, .int .i64 0, .int .i64 0, .int .i64 0, .int .i64 0, .int .i64 0, .int .i64 0, .int .i64 0, .int .i64 0, .slice none 0 0] 32)) = W at *
  refine (isMember_any id i s.v ms W HX hl).mono ?_
  rintro e w1 ⟨rfl, b1⟩
  rw [hr.out]
  have A1 : Hid (Bx w1 w.heap.size 26 [.int .i64 i, .slice s.a s.n s.c]) := HA.out.later b1
  have R1 : Hid (Bx w1 (w.heap.size + 1) 32 [.int .i64 0, .int .i64 0, .slice none 0 0, .slice none 0 0, .slice none 0 0, .slice none 0 0, .int .i64 0, .int .i64 0, .int .i64 0, .int .i64 0, .int .i64 0, .int .i64 0, .int .i64 0, .int .i64 0, .int .i64 0, .slice none 0 0]) := HR.out.later b1
  have B1 : Hid (Below w.heap.size w w1) := bl_next HB.out b1
  have X1 : Hid (RI w1 s.v ms) := HX.out.stays b1
  have a0 := A1.out.cell 0
  have a1 := A1.out.cell 1
  clear HA HR HB HX b1 hr
  go_wp2_with fail
  refine (copyRing_any i s.v ms w1 X1 hl).mono ?_
  rintro e w2 ⟨v2, rfl, hv2, b2⟩
  obtain ⟨ao2, cap2, hf2⟩ := hv2.form
  subst hf2
  have R2 : Hid (Bx w2 (w.heap.size + 1) 32 [.int .i64 0, .int .i64 0, .slice none 0 0, .slice none 0 0, .slice none 0 0, .slice none 0 0, .int .i64 0, .int .i64 0, .int .i64 0, .int .i64 0, .int .i64 0, .int .i64 0, .int .i64 0, .int .i64 0, .int .i64 0, .slice none 0 0]) := R1.out.later b2
  have B2 : Hid (Below w.heap.size w w2) := bl_next B1.out b2
  have V2 : Hid (OwnI w2 w.heap.size (.slice ao2 ms.length cap2) ms) := hv2.down B1.out.size
  clear A1 R1 B1 X1 a0 a1 b2 hv2
  go_wp2_with (first | (refine wpList_stB rfl 32 _ _ rfl (w.heap.size + 1) 0 rfl 32 _ R2.out [.int .i64 id, .int .i64 i, .slice ao2 ms.length cap2, .slice none 0 0, .slice none 0 0, .slice none 0 0, .int .i64 0, .int .i64 0, .int .i64 0, .int .i64 0, .int .i64 0, .int .i64 0, .int .i64 0, .int .i64 0, .int .i64 0, .slice none 0 0] rfl (by simp) Try.sizeM rfl [.int .i64 id, .int .i64 i, .slice ao2 ms.length cap2, .slice none 0 0, .slice none 0 0, .slice none 0 0, .int .i64 0, .int .i64 0, .int .i64 0, .int .i64 0, .int .i64 0, .int .i64 0, .int .i64 0, .int .i64 0, .int .i64 0, .slice none 0 0] rfl ?_; intro w3 R3 T3))
  have B3 := B2.out.trans (T3.below (by omega))
  have V3 := V2.out.keep fun k hk _ => T3.block k (fun e => bx_i_ne V2.out R2.out (by decide) (e ▸ hk))
  refine bodyPost_ret (results_bt Try.results18 (w.heap.size + 1) 32 [.int .i64 id, .int .i64 i, .slice ao2 ms.length cap2, .slice none 0 0, .slice none 0 0, .slice none 0 0, .int .i64 0, .int .i64 0, .int .i64 0, .int .i64 0, .int .i64 0, .int .i64 0, .int .i64 0, .int .i64 0, .int .i64 0, .slice none 0 0] _ rfl R3 Try.underlying32 rfl Try.sizeM) rfl ?_
  exact ⟨⟨ao2, ms.length, cap2⟩, rfl, V3, B3⟩
end Go.Proofs.Ytpbhcbgohgfkcaa
