/- Joined texts: Lct. -/
import Derived.Test.YtpbhcbgohgfkcaaJct1
import Derived.Test.YtpbhcbgohgfkcaaJct2
import Derived.Test.YtpbhcbgohgfkcaaJct3
import Derived.Test.YtpbhcbgohgfkcaaJct4
import Derived.Test.YtpbhcbgohgfkcaaJct5
import Derived.Test.YtpbhcbgohgfkcaaJct6
import Derived.Test.YtpbhcbgohgfkcaaJct7
import Derived.Test.YtpbhcbgohgfkcaaJct8
import Derived.Test.YtpbhcbgohgfkcaaJct9
import Derived.Test.YtpbhcbgohgfkcaaJct10
import Derived.Test.YtpbhcbgohgfkcaaJct11
import Derived.Test.YtpbhcbgohgfkcaaJct12
import Derived.Test.YtpbhcbgohgfkcaaJct13
import Derived.Test.YtpbhcbgohgfkcaaJct14
import Derived.Test.YtpbhcbgohgfkcaaJct15
import Derived.Test.YtpbhcbgohgfkcaaJct16
import Derived.Test.YtpbhcbgohgfkcaaJct17
import Derived.Test.YtpbhcbgohgfkcaaJct18
import Derived.Test.YtpbhcbgohgfkcaaJct19
import Derived.Deep.DeepCutAuto
/- The law on Catch. Written by gen_lct.py. -/
namespace Go.Proofs.Ytpbhcbgohgfkcaa
open Go.RowKit Pl
set_option linter.unusedVariables false
set_option linter.unusedSimpArgs false

theorem Try.sizeLI : (Try.prog.info? 72).map (·.size) = some 4 := by kernel_rfl
theorem MtO.off {w : World} {B g T : Nat} {m : Mt} {v : Mv} {cs : List Value} (h : MtO w B m v) (hB : Bx w g T cs) (h3 : T ≠ 3) (h9 : T ≠ 9) (hI : T ≠ 38) : ¬ v.own g := by
  rintro (e | e | e | e | e)
  · exact bx_i_ne h.ms hB h3 e
  · exact bx_it_ne h.its hB hI e
  · exact bx_i_ne h.lv hB h3 e
  · exact bx_s_ne h.tx hB h9 e
  · exact bx_i_ne h.ws hB h3 e
theorem ins1_mem {ts : List It} {y x : It} (h : x ∈ ins1 ts y) : x ∈ ts ∨ x = y := by
  unfold ins1 at h
  split at h
  · exact .inl h
  · simp only [List.mem_append, List.mem_filter, List.mem_cons] at h
    rcases h with h | h | h
    · exact .inl h.1
    · exact .inr h
    · exact .inl h.1
theorem mts_cat {m : Mt} {y : It} (hs : MtS m) (hy : y.2.2.2.size ≤ 1048576) : MtS (m.cat y) := by
  unfold Mt.cat
  split
  · rename_i hk
    obtain ⟨h1, h2, h3, h4, h5, h6, h7⟩ := ok_short hk
    have h8 := putP_len m.its y
    refine ⟨hs.ms, (by show (putP m.its y).length ≤ 1048576; omega), hs.lv, hs.tx, hs.ws, ?_, hs.te, (by show m.ms.length + (putP m.its y).length + m.lv.length + m.tx.length + m.la.ws.length ≤ 1048576; omega)⟩
    intro x hx
    have hx : x ∈ putP m.its y := hx
    unfold putP at hx
    split at hx
    · rcases ins1_mem hx with h | h
      · exact hs.it x h
      · rw [h]; exact hy
    · exact hs.it x hx
  · exact hs

set_option maxRecDepth 100000 in
set_option maxHeartbeats 8000000 in
theorem lawCatch (m : Mt) (v : Mv) (q f l : Int) (t : ByteArray) (w : World) (h : Hid (MtR w m v)) (hl : Hid (MtL m)) (ht : t.size ≤ maxLen) :
    Calls Try.prog 9 #[.agg #[.int .i64 m.id, .int .i64 m.rid, .slice v.ms.a v.ms.n v.ms.c, .slice v.its.a v.its.n v.its.c, .slice v.lv.a v.lv.n v.lv.c, .slice v.tx.a v.tx.n v.tx.c, .int .i64 m.rd, .int .i64 m.se, .int .i64 m.li, .int .i64 m.he, .int .i64 m.la.c, .int .i64 m.la.r, .int .i64 m.la.q, .int .i64 m.la.a, .int .i64 m.la.b, .slice v.ws.a v.ws.n v.ws.c], .agg #[.int .i64 q, .int .i64 f, .int .i64 l, .string t]] w fun e w' => e = .returned (.bool true) ∧ Below w.heap.size w w' := by
  unfold maxLen at ht
  have hn1 : (w.alloc (.cells #[.int .i64 m.id, .int .i64 m.rid, .slice v.ms.a v.ms.n v.ms.c, .slice v.its.a v.its.n v.its.c, .slice v.lv.a v.lv.n v.lv.c, .slice v.tx.a v.tx.n v.tx.c, .int .i64 m.rd, .int .i64 m.se, .int .i64 m.li, .int .i64 m.he, .int .i64 m.la.c, .int .i64 m.la.r, .int .i64 m.la.q, .int .i64 m.la.a, .int .i64 m.la.b, .slice v.ws.a v.ws.n v.ws.c] 67)).heap.size = w.heap.size + 1 := by simp
  have HA : Hid (Bx ((w.alloc (.cells #[.int .i64 m.id, .int .i64 m.rid, .slice v.ms.a v.ms.n v.ms.c, .slice v.its.a v.its.n v.its.c, .slice v.lv.a v.lv.n v.lv.c, .slice v.tx.a v.tx.n v.tx.c, .int .i64 m.rd, .int .i64 m.se, .int .i64 m.li, .int .i64 m.he, .int .i64 m.la.c, .int .i64 m.la.r, .int .i64 m.la.q, .int .i64 m.la.a, .int .i64 m.la.b, .slice v.ws.a v.ws.n v.ws.c] 67)).alloc (.cells #[.int .i64 q, .int .i64 f, .int .i64 l, .string t] 72)) w.heap.size 67 [.int .i64 m.id, .int .i64 m.rid, .slice v.ms.a v.ms.n v.ms.c, .slice v.its.a v.its.n v.its.c, .slice v.lv.a v.lv.n v.lv.c, .slice v.tx.a v.tx.n v.tx.c, .int .i64 m.rd, .int .i64 m.se, .int .i64 m.li, .int .i64 m.he, .int .i64 m.la.c, .int .i64 m.la.r, .int .i64 m.la.q, .int .i64 m.la.a, .int .i64 m.la.b, .slice v.ws.a v.ws.n v.ws.c]) := Bx.stays (B := w.heap.size + 1) (Bx.new w 67 [.int .i64 m.id, .int .i64 m.rid, .slice v.ms.a v.ms.n v.ms.c, .slice v.its.a v.its.n v.its.c, .slice v.lv.a v.lv.n v.lv.c, .slice v.tx.a v.tx.n v.tx.c, .int .i64 m.rd, .int .i64 m.se, .int .i64 m.li, .int .i64 m.he, .int .i64 m.la.c, .int .i64 m.la.r, .int .i64 m.la.q, .int .i64 m.la.a, .int .i64 m.la.b, .slice v.ws.a v.ws.n v.ws.c]) ((Below.refl _ _).alloc (by rw [hn1]; exact Nat.le_refl _) _) (by omega)
  have HX : Hid (Bx ((w.alloc (.cells #[.int .i64 m.id, .int .i64 m.rid, .slice v.ms.a v.ms.n v.ms.c, .slice v.its.a v.its.n v.its.c, .slice v.lv.a v.lv.n v.lv.c, .slice v.tx.a v.tx.n v.tx.c, .int .i64 m.rd, .int .i64 m.se, .int .i64 m.li, .int .i64 m.he, .int .i64 m.la.c, .int .i64 m.la.r, .int .i64 m.la.q, .int .i64 m.la.a, .int .i64 m.la.b, .slice v.ws.a v.ws.n v.ws.c] 67)).alloc (.cells #[.int .i64 q, .int .i64 f, .int .i64 l, .string t] 72)) (w.heap.size + 1) 72 [.int .i64 q, .int .i64 f, .int .i64 l, .string t]) := (by have h := Bx.new (w.alloc (.cells #[.int .i64 m.id, .int .i64 m.rid, .slice v.ms.a v.ms.n v.ms.c, .slice v.its.a v.its.n v.its.c, .slice v.lv.a v.lv.n v.lv.c, .slice v.tx.a v.tx.n v.tx.c, .int .i64 m.rd, .int .i64 m.se, .int .i64 m.li, .int .i64 m.he, .int .i64 m.la.c, .int .i64 m.la.r, .int .i64 m.la.q, .int .i64 m.la.a, .int .i64 m.la.b, .slice v.ws.a v.ws.n v.ws.c] 67)) 72 [.int .i64 q, .int .i64 f, .int .i64 l, .string t]; rw [hn1] at h; exact h : Bx ((w.alloc (.cells #[.int .i64 m.id, .int .i64 m.rid, .slice v.ms.a v.ms.n v.ms.c, .slice v.its.a v.its.n v.its.c, .slice v.lv.a v.lv.n v.lv.c, .slice v.tx.a v.tx.n v.tx.c, .int .i64 m.rd, .int .i64 m.se, .int .i64 m.li, .int .i64 m.he, .int .i64 m.la.c, .int .i64 m.la.r, .int .i64 m.la.q, .int .i64 m.la.a, .int .i64 m.la.b, .slice v.ws.a v.ws.n v.ws.c] 67)).alloc (.cells #[.int .i64 q, .int .i64 f, .int .i64 l, .string t] 72)) (w.heap.size + 1) 72 [.int .i64 q, .int .i64 f, .int .i64 l, .string t])
  have HB0 : Hid (Below w.heap.size w ((w.alloc (.cells #[.int .i64 m.id, .int .i64 m.rid, .slice v.ms.a v.ms.n v.ms.c, .slice v.its.a v.its.n v.its.c, .slice v.lv.a v.lv.n v.lv.c, .slice v.tx.a v.tx.n v.tx.c, .int .i64 m.rd, .int .i64 m.se, .int .i64 m.li, .int .i64 m.he, .int .i64 m.la.c, .int .i64 m.la.r, .int .i64 m.la.q, .int .i64 m.la.a, .int .i64 m.la.b, .slice v.ws.a v.ws.n v.ws.c] 67)).alloc (.cells #[.int .i64 q, .int .i64 f, .int .i64 l, .string t] 72))) := ((Below.refl _ _).alloc (Nat.le_refl _) _).alloc (by simp) _
  have HR : Hid (MtR ((w.alloc (.cells #[.int .i64 m.id, .int .i64 m.rid, .slice v.ms.a v.ms.n v.ms.c, .slice v.its.a v.its.n v.its.c, .slice v.lv.a v.lv.n v.lv.c, .slice v.tx.a v.tx.n v.tx.c, .int .i64 m.rd, .int .i64 m.se, .int .i64 m.li, .int .i64 m.he, .int .i64 m.la.c, .int .i64 m.la.r, .int .i64 m.la.q, .int .i64 m.la.a, .int .i64 m.la.b, .slice v.ws.a v.ws.n v.ws.c] 67)).alloc (.cells #[.int .i64 q, .int .i64 f, .int .i64 l, .string t] 72)) m v) := h.out.stays HB0.out
  clear hn1
  go_enter Try.func9, Try.ntmps9
  go_wp2_with (first | (refine wpList_ldG rfl 67 _ rfl w.heap.size 0 rfl 67 _ HA.out [.int .i64 m.id, .int .i64 m.rid, .slice v.ms.a v.ms.n v.ms.c, .slice v.its.a v.its.n v.its.c, .slice v.lv.a v.lv.n v.lv.c, .slice v.tx.a v.tx.n v.tx.c, .int .i64 m.rd, .int .i64 m.se, .int .i64 m.li, .int .i64 m.he, .int .i64 m.la.c, .int .i64 m.la.r, .int .i64 m.la.q, .int .i64 m.la.a, .int .i64 m.la.b, .slice v.ws.a v.ws.n v.ws.c] rfl _ Try.underlying67 rfl Try.sizeL ?_))
  generalize ((w.alloc (.cells #[.int .i64 m.id, .int .i64 m.rid, .slice v.ms.a v.ms.n v.ms.c, .slice v.its.a v.its.n v.its.c, .slice v.lv.a v.lv.n v.lv.c, .slice v.tx.a v.tx.n v.tx.c, .int .i64 m.rd, .int .i64 m.se, .int .i64 m.li, .int .i64 m.he, .int .i64 m.la.c, .int .i64 m.la.r, .int .i64 m.la.q, .int .i64 m.la.a, .int .i64 m.la.b, .slice v.ws.a v.ws.n v.ws.c] 67)).alloc (.cells #[.int .i64 q, .int .i64 f, .int .i64 l, .string t] 72)) = W0 at *
  refine (szMate_any m v _ HR hl).mono ?_
  rintro e w1 ⟨hz, b⟩
  have HA : Hid (Bx w1 w.heap.size 67 [.int .i64 m.id, .int .i64 m.rid, .slice v.ms.a v.ms.n v.ms.c, .slice v.its.a v.its.n v.its.c, .slice v.lv.a v.lv.n v.lv.c, .slice v.tx.a v.tx.n v.tx.c, .int .i64 m.rd, .int .i64 m.se, .int .i64 m.li, .int .i64 m.he, .int .i64 m.la.c, .int .i64 m.la.r, .int .i64 m.la.q, .int .i64 m.la.a, .int .i64 m.la.b, .slice v.ws.a v.ws.n v.ws.c]) := HA.out.later b
  have HX : Hid (Bx w1 (w.heap.size + 1) 72 [.int .i64 q, .int .i64 f, .int .i64 l, .string t]) := HX.out.later b
  have HB0 : Hid (Below w.heap.size w w1) := bl_next HB0.out b
  have HR : Hid (MtR w1 m v) := HR.out.stays b
  clear b
  rcases hz with rfl | ⟨z, rfl, hs, hz0⟩
  · go_wp2_with fail
    go_ret
    exact ⟨rfl, HB0.out⟩
  have hs : Hid (MtS m) := hs
  have hz : decide ((z : Int) < 0) = false := by simp
  by_cases htz : z < t.size
  · go_wp2_with (first | (refine wpList_ldG rfl 72 _ rfl (w.heap.size + 1) 0 rfl 72 _ HX.out [.int .i64 q, .int .i64 f, .int .i64 l, .string t] rfl _ Try.underlying72 rfl Try.sizeLI ?_))
    refine (szItem_long q f l t z _ htz (by omega) hz0).mono ?_
    rintro e w2 ⟨rfl, b⟩
    go_wp2_with fail
    go_ret
    exact ⟨rfl, bl_next HB0.out b⟩
  have htz : t.size ≤ z := by omega
  go_wp2_with (first | (refine wpList_ldG rfl 72 _ rfl (w.heap.size + 1) 0 rfl 72 _ HX.out [.int .i64 q, .int .i64 f, .int .i64 l, .string t] rfl _ Try.underlying72 rfl Try.sizeLI ?_))
  refine (szItem_any q f l t z _ htz hz0).mono ?_
  rintro e w1b ⟨rfl, b⟩
  have HA : Hid (Bx w1b w.heap.size 67 [.int .i64 m.id, .int .i64 m.rid, .slice v.ms.a v.ms.n v.ms.c, .slice v.its.a v.its.n v.its.c, .slice v.lv.a v.lv.n v.lv.c, .slice v.tx.a v.tx.n v.tx.c, .int .i64 m.rd, .int .i64 m.se, .int .i64 m.li, .int .i64 m.he, .int .i64 m.la.c, .int .i64 m.la.r, .int .i64 m.la.q, .int .i64 m.la.a, .int .i64 m.la.b, .slice v.ws.a v.ws.n v.ws.c]) := HA.out.later b
  have HX : Hid (Bx w1b (w.heap.size + 1) 72 [.int .i64 q, .int .i64 f, .int .i64 l, .string t]) := HX.out.later b
  have HB0 : Hid (Below w.heap.size w w1b) := bl_next HB0.out b
  have HR : Hid (MtR w1b m v) := HR.out.stays b
  clear b hz
  obtain ⟨z2, hz2⟩ : ∃ z2 : Nat, z2 = z - t.size := ⟨_, rfl⟩
  rw [← hz2]
  clear hz2
  have hz : decide ((z2 : Int) < 0) = false := by simp
  have ht2 : t.size ≤ 1048576 := by omega
  obtain ⟨R, hR⟩ : ∃ R : Mt, R = m.cat (q, f, l, t) := ⟨_, rfl⟩
  have SPC : Hid (∀ (s : Mv) (W : World), Hid (MtP W m s) → Calls Try.prog 40 #[.agg #[.int .i64 m.id, .int .i64 m.rid, .slice s.ms.a s.ms.n s.ms.c, .slice s.its.a s.its.n s.its.c, .slice s.lv.a s.lv.n s.lv.c, .slice s.tx.a s.tx.n s.tx.c, .int .i64 m.rd, .int .i64 m.se, .int .i64 m.li, .int .i64 m.he, .int .i64 m.la.c, .int .i64 m.la.r, .int .i64 m.la.q, .int .i64 m.la.a, .int .i64 m.la.b, .slice s.ws.a s.ws.n s.ws.c], .agg #[.int .i64 q, .int .i64 f, .int .i64 l, .string t]] W fun e w' => ∃ u : Mv, e = .returned (.agg #[.int .i64 R.id, .int .i64 R.rid, .slice u.ms.a u.ms.n u.ms.c, .slice u.its.a u.its.n u.its.c, .slice u.lv.a u.lv.n u.lv.c, .slice u.tx.a u.tx.n u.tx.c, .int .i64 R.rd, .int .i64 R.se, .int .i64 R.li, .int .i64 R.he, .int .i64 R.la.c, .int .i64 R.la.r, .int .i64 R.la.q, .int .i64 R.la.a, .int .i64 R.la.b, .slice u.ws.a u.ws.n u.ws.c]) ∧ MtO w' W.heap.size R u ∧ Below W.heap.size W w') := fun s W h => by rw [hR]; exact spCatch_any m s q f l t W h hs ht2
  have IMP : Hid (∀ (s : Mv) (W : World), Hid (MtP W m s) → Calls Try.prog 24 #[.agg #[.int .i64 m.id, .int .i64 m.rid, .slice s.ms.a s.ms.n s.ms.c, .slice s.its.a s.its.n s.its.c, .slice s.lv.a s.lv.n s.lv.c, .slice s.tx.a s.tx.n s.tx.c, .int .i64 m.rd, .int .i64 m.se, .int .i64 m.li, .int .i64 m.he, .int .i64 m.la.c, .int .i64 m.la.r, .int .i64 m.la.q, .int .i64 m.la.a, .int .i64 m.la.b, .slice s.ws.a s.ws.n s.ws.c], .agg #[.int .i64 q, .int .i64 f, .int .i64 l, .string t]] W fun e w' => ∃ u : Mv, e = .returned (.agg #[.int .i64 R.id, .int .i64 R.rid, .slice u.ms.a u.ms.n u.ms.c, .slice u.its.a u.its.n u.its.c, .slice u.lv.a u.lv.n u.lv.c, .slice u.tx.a u.tx.n u.tx.c, .int .i64 R.rd, .int .i64 R.se, .int .i64 R.li, .int .i64 R.he, .int .i64 R.la.c, .int .i64 R.la.r, .int .i64 R.la.q, .int .i64 R.la.a, .int .i64 R.la.b, .slice u.ws.a u.ws.n u.ws.c]) ∧ MtO w' W.heap.size R u ∧ Below W.heap.size W w') := fun s W h => by rw [hR]; exact catch_any m s q f l t W h hs ht2
  have hsR : Hid (MtS R) := (by rw [hR]; exact mts_cat hs.out ht2 : MtS R)
  clear hR
  go_wp2_with fail
  clear hz
  go_cut [6] (fun ux_ wx => ∃ (gq : Nat) (uq : Mv), ux_ = .pointer (some ⟨gq, 0, none⟩) ∧ Bx wx gq 32 [.int .i64 R.id, .int .i64 R.rid, .slice uq.ms.a uq.ms.n uq.ms.c, .slice uq.its.a uq.its.n uq.its.c, .slice uq.lv.a uq.lv.n uq.lv.c, .slice uq.tx.a uq.tx.n uq.tx.c, .int .i64 R.rd, .int .i64 R.se, .int .i64 R.li, .int .i64 R.he, .int .i64 R.la.c, .int .i64 R.la.r, .int .i64 R.la.q, .int .i64 R.la.a, .int .i64 R.la.b, .slice uq.ws.a uq.ws.n uq.ws.c] ∧ MtO wx w1b.heap.size R uq ∧ w1b.heap.size ≤ gq ∧ Below w1b.heap.size w1b wx)
  case first =>
    have c : Below w1b.heap.size w1b w1b.drew := (Below.refl _ _).drew
    refine wp_region_heldLast (S := fun w' => Below w1b.heap.size w1b w') _ (by simp) (by kernel_rfl) (by rfl) (by rfl) (by kernel_rfl) (by kernel_rfl) c (fun hHeld => ?_)
    simp only [List.dropLast_cons_cons, List.dropLast_singleton, List.getLast_cons_cons, List.getLast_singleton, List.cons_append, List.nil_append, List.length_cons, List.length_nil]
    refine wpAnyH_take (i := 0) (v := _) rfl (by kernel_rfl) (by kernel_rfl) (by kernel_rfl) (fun _ _ _ h => h) (ld_yield (by rfl) 67 _ rfl w.heap.size 0 rfl 67 _ (fun w hS => HA.out.later hS) [.int .i64 m.id, .int .i64 m.rid, .slice v.ms.a v.ms.n v.ms.c, .slice v.its.a v.its.n v.its.c, .slice v.lv.a v.lv.n v.lv.c, .slice v.tx.a v.tx.n v.tx.c, .int .i64 m.rd, .int .i64 m.se, .int .i64 m.li, .int .i64 m.he, .int .i64 m.la.c, .int .i64 m.la.r, .int .i64 m.la.q, .int .i64 m.la.a, .int .i64 m.la.b, .slice v.ws.a v.ws.n v.ws.c] rfl _ Try.underlying67 rfl Try.sizeL) (by assumption) ?_
    try simp only [Act.put, List.getElem_toArray, List.getElem_cons_zero, List.getElem_cons_succ, List.setIfInBounds_toArray, List.set_cons_zero, List.set_cons_succ]
    refine wpAnyH_take (i := 2) (v := _) rfl (by kernel_rfl) (by kernel_rfl) (by kernel_rfl) (fun _ _ _ h => h) (ld_yield (by rfl) 72 _ rfl (w.heap.size + 1) 0 rfl 72 _ (fun w hS => HX.out.later hS) [.int .i64 q, .int .i64 f, .int .i64 l, .string t] rfl _ Try.underlying72 rfl Try.sizeLI) (by assumption) ?_
    try simp only [Act.put, List.getElem_toArray, List.getElem_cons_zero, List.getElem_cons_succ, List.setIfInBounds_toArray, List.set_cons_zero, List.set_cons_succ]
    refine wpAnyH_ready (rs := [1, 5]) (by kernel_rfl) (by simp) ?_
    refine (AllReadyH.cons (i := 1) rfl (fun K hK => ?_) (AllReadyH.cons (i := 5) rfl (fun K hK => ?_) AllReadyH.nil))
    · have := c.size
      rw [if_pos (by rfl)]
      simp only [List.getElem_toArray, List.getElem_cons_zero, List.getElem_cons_succ]
      go_simp
      refine (toMate_any m v _ (show Hid (MtR w1b.drew m v) from HR.out.stays c) hs).mono ?_
      rintro e y1 ⟨um, rfl, om, b⟩
      have pm := om.p
      have c : Below w1b.heap.size w1b y1 := bl_next c b
      refine hK.out _ _ (c) (fun hHeld => ?_)
      clear hK K
      try simp only [Act.put, List.getElem_toArray, List.getElem_cons_zero, List.getElem_cons_succ, List.setIfInBounds_toArray, List.set_cons_zero, List.set_cons_succ]
      clear b
      refine wpAnyH_ready (rs := [3, 5]) (by kernel_rfl) (by simp) ?_
      refine (AllReadyH.cons (i := 3) rfl (fun K hK => ?_) (AllReadyH.cons (i := 5) rfl (fun K hK => ?_) AllReadyH.nil))
      · have := c.size
        rw [if_pos (by rfl)]
        simp only [List.getElem_toArray, List.getElem_cons_zero, List.getElem_cons_succ]
        go_simp
        refine (toItem_any q f l t _).mono ?_
        rintro e y2 ⟨rfl, b⟩
        have pm := pm.later b
        have c : Below w1b.heap.size w1b y2 := bl_next c b
        refine hK.out _ _ (c) (fun hHeld => ?_)
        clear hK K
        try simp only [Act.put, List.getElem_toArray, List.getElem_cons_zero, List.getElem_cons_succ, List.setIfInBounds_toArray, List.set_cons_zero, List.set_cons_succ]
        clear b
        refine wpAnyH_ready (rs := [4, 5]) (by kernel_rfl) (by simp) ?_
        refine (AllReadyH.cons (i := 4) rfl (fun K hK => ?_) (AllReadyH.cons (i := 5) rfl (fun K hK => ?_) AllReadyH.nil))
        · have := c.size
          rw [if_pos (by rfl)]
          simp only [List.getElem_toArray, List.getElem_cons_zero, List.getElem_cons_succ]
          go_simp
          refine (SPC.out um _ (show Hid (MtP y2 m um) from pm)).mono ?_
          rintro e y3 ⟨uq, rfl, oq, b⟩
          have zq : w1b.heap.size ≤ y2.heap.size := c.size
          have c : Below w1b.heap.size w1b y3 := bl_next c b
          refine hK.out _ _ (c) (fun hHeld => ?_)
          clear hK K
          try simp only [Act.put, List.getElem_toArray, List.getElem_cons_zero, List.getElem_cons_succ, List.setIfInBounds_toArray, List.set_cons_zero, List.set_cons_succ]
          clear b
          refine wpAnyH_ready (rs := [5]) (by kernel_rfl) (by simp) ?_
          refine AllReadyH.cons (i := 5) rfl (fun K hK => ?_) AllReadyH.nil
          rw [if_pos (by rfl)]
          simp only [List.getElem_toArray, List.getElem_cons_zero, List.getElem_cons_succ]
          go_simp
          have b : Below y3.heap.size y3 (y3.alloc (.cells #[.int .i64 0, .int .i64 0, .slice none 0 0, .slice none 0 0, .slice none 0 0, .slice none 0 0, .int .i64 0, .int .i64 0, .int .i64 0, .int .i64 0, .int .i64 0, .int .i64 0, .int .i64 0, .int .i64 0, .int .i64 0, .slice none 0 0] 32)) := (Below.refl _ _).alloc (Nat.le_refl _) _
          have ba : Bx (y3.alloc (.cells #[.int .i64 0, .int .i64 0, .slice none 0 0, .slice none 0 0, .slice none 0 0, .slice none 0 0, .int .i64 0, .int .i64 0, .int .i64 0, .int .i64 0, .int .i64 0, .int .i64 0, .int .i64 0, .int .i64 0, .int .i64 0, .slice none 0 0] 32)) y3.heap.size 32 [.int .i64 0, .int .i64 0, .slice none 0 0, .slice none 0 0, .slice none 0 0, .slice none 0 0, .int .i64 0, .int .i64 0, .int .i64 0, .int .i64 0, .int .i64 0, .int .i64 0, .int .i64 0, .int .i64 0, .int .i64 0, .slice none 0 0] := Bx.new y3 32 _
          have za : w1b.heap.size ≤ y3.heap.size := c.size
          have oq := oq.later b
          have c : Below w1b.heap.size w1b (y3.alloc (.cells #[.int .i64 0, .int .i64 0, .slice none 0 0, .slice none 0 0, .slice none 0 0, .slice none 0 0, .int .i64 0, .int .i64 0, .int .i64 0, .int .i64 0, .int .i64 0, .int .i64 0, .int .i64 0, .int .i64 0, .int .i64 0, .slice none 0 0] 32)) := bl_next c b
          refine hK.out _ _ (c) (fun hHeld => ?_)
          clear hK K
          try simp only [Act.put, List.getElem_toArray, List.getElem_cons_zero, List.getElem_cons_succ, List.setIfInBounds_toArray, List.set_cons_zero, List.set_cons_succ]
          clear b
          refine wpAnyH_take (i := 6) (v := ?v6) rfl (by kernel_rfl) (by kernel_rfl) (by kernel_rfl) (fun _ _ _ h => h) (Or.inl ⟨by rfl, ?hy6⟩) (by assumption) ?_
          case hy6 => (intro w hSw; (try dsimp only at hSw); simp only [List.getElem_toArray, List.getElem_cons_zero, List.getElem_cons_succ]; go_simp; try with_reducible rfl)
          try simp only [Act.put, List.getElem_toArray, List.getElem_cons_zero, List.getElem_cons_succ, List.setIfInBounds_toArray, List.set_cons_zero, List.set_cons_succ]
          refine wpAnyH_done (by kernel_rfl) ?_ _
          refine lastQ_of rfl rfl ?_
          refine wp_stB 32 _ _ rfl y3.heap.size 0 rfl 32 _ ba [.int .i64 R.id, .int .i64 R.rid, .slice uq.ms.a uq.ms.n uq.ms.c, .slice uq.its.a uq.its.n uq.its.c, .slice uq.lv.a uq.lv.n uq.lv.c, .slice uq.tx.a uq.tx.n uq.tx.c, .int .i64 R.rd, .int .i64 R.se, .int .i64 R.li, .int .i64 R.he, .int .i64 R.la.c, .int .i64 R.la.r, .int .i64 R.la.q, .int .i64 R.la.a, .int .i64 R.la.b, .slice uq.ws.a uq.ws.n uq.ws.c] rfl (by simp) Try.sizeM rfl [.int .i64 R.id, .int .i64 R.rid, .slice uq.ms.a uq.ms.n uq.ms.c, .slice uq.its.a uq.its.n uq.its.c, .slice uq.lv.a uq.lv.n uq.lv.c, .slice uq.tx.a uq.tx.n uq.tx.c, .int .i64 R.rd, .int .i64 R.se, .int .i64 R.li, .int .i64 R.he, .int .i64 R.la.c, .int .i64 R.la.r, .int .i64 R.la.q, .int .i64 R.la.a, .int .i64 R.la.b, .slice uq.ws.a uq.ws.n uq.ws.c] rfl ?_
          intro we OB TB
          try go_wp2_with fail
          go_meet
          exact ⟨_, uq, rfl, OB, (oq.past ba TB (by decide) (by decide) (by decide)).down (by omega), by omega, c.trans (TB.below (by omega))⟩
        · have := c.size
          rw [if_pos (by rfl)]
          simp only [List.getElem_toArray, List.getElem_cons_zero, List.getElem_cons_succ]
          go_simp
          have b : Below y2.heap.size y2 (y2.alloc (.cells #[.int .i64 0, .int .i64 0, .slice none 0 0, .slice none 0 0, .slice none 0 0, .slice none 0 0, .int .i64 0, .int .i64 0, .int .i64 0, .int .i64 0, .int .i64 0, .int .i64 0, .int .i64 0, .int .i64 0, .int .i64 0, .slice none 0 0] 32)) := (Below.refl _ _).alloc (Nat.le_refl _) _
          have ba : Bx (y2.alloc (.cells #[.int .i64 0, .int .i64 0, .slice none 0 0, .slice none 0 0, .slice none 0 0, .slice none 0 0, .int .i64 0, .int .i64 0, .int .i64 0, .int .i64 0, .int .i64 0, .int .i64 0, .int .i64 0, .int .i64 0, .int .i64 0, .slice none 0 0] 32)) y2.heap.size 32 [.int .i64 0, .int .i64 0, .slice none 0 0, .slice none 0 0, .slice none 0 0, .slice none 0 0, .int .i64 0, .int .i64 0, .int .i64 0, .int .i64 0, .int .i64 0, .int .i64 0, .int .i64 0, .int .i64 0, .int .i64 0, .slice none 0 0] := Bx.new y2 32 _
          have za : w1b.heap.size ≤ y2.heap.size := c.size
          have pm := pm.later b
          have c : Below w1b.heap.size w1b (y2.alloc (.cells #[.int .i64 0, .int .i64 0, .slice none 0 0, .slice none 0 0, .slice none 0 0, .slice none 0 0, .int .i64 0, .int .i64 0, .int .i64 0, .int .i64 0, .int .i64 0, .int .i64 0, .int .i64 0, .int .i64 0, .int .i64 0, .slice none 0 0] 32)) := bl_next c b
          refine hK.out _ _ (c) (fun hHeld => ?_)
          clear hK K
          try simp only [Act.put, List.getElem_toArray, List.getElem_cons_zero, List.getElem_cons_succ, List.setIfInBounds_toArray, List.set_cons_zero, List.set_cons_succ]
          clear b
          refine wpAnyH_ready (rs := [4]) (by kernel_rfl) (by simp) ?_
          refine AllReadyH.cons (i := 4) rfl (fun K hK => ?_) AllReadyH.nil
          rw [if_pos (by rfl)]
          simp only [List.getElem_toArray, List.getElem_cons_zero, List.getElem_cons_succ]
          go_simp
          refine (SPC.out um _ (show Hid (MtP (y2.alloc (.cells #[.int .i64 0, .int .i64 0, .slice none 0 0, .slice none 0 0, .slice none 0 0, .slice none 0 0, .int .i64 0, .int .i64 0, .int .i64 0, .int .i64 0, .int .i64 0, .int .i64 0, .int .i64 0, .int .i64 0, .int .i64 0, .slice none 0 0] 32)) m um) from pm)).mono ?_
          rintro e y6 ⟨uq, rfl, oq, b⟩
          have zq : w1b.heap.size ≤ (y2.alloc (.cells #[.int .i64 0, .int .i64 0, .slice none 0 0, .slice none 0 0, .slice none 0 0, .slice none 0 0, .int .i64 0, .int .i64 0, .int .i64 0, .int .i64 0, .int .i64 0, .int .i64 0, .int .i64 0, .int .i64 0, .int .i64 0, .slice none 0 0] 32)).heap.size := c.size
          have ba := ba.later b
          have c : Below w1b.heap.size w1b y6 := bl_next c b
          refine hK.out _ _ (c) (fun hHeld => ?_)
          clear hK K
          try simp only [Act.put, List.getElem_toArray, List.getElem_cons_zero, List.getElem_cons_succ, List.setIfInBounds_toArray, List.set_cons_zero, List.set_cons_succ]
          clear b
          refine wpAnyH_take (i := 6) (v := ?v6) rfl (by kernel_rfl) (by kernel_rfl) (by kernel_rfl) (fun _ _ _ h => h) (Or.inl ⟨by rfl, ?hy6⟩) (by assumption) ?_
          case hy6 => (intro w hSw; (try dsimp only at hSw); simp only [List.getElem_toArray, List.getElem_cons_zero, List.getElem_cons_succ]; go_simp; try with_reducible rfl)
          try simp only [Act.put, List.getElem_toArray, List.getElem_cons_zero, List.getElem_cons_succ, List.setIfInBounds_toArray, List.set_cons_zero, List.set_cons_succ]
          refine wpAnyH_done (by kernel_rfl) ?_ _
          refine lastQ_of rfl rfl ?_
          refine wp_stB 32 _ _ rfl y2.heap.size 0 rfl 32 _ ba [.int .i64 R.id, .int .i64 R.rid, .slice uq.ms.a uq.ms.n uq.ms.c, .slice uq.its.a uq.its.n uq.its.c, .slice uq.lv.a uq.lv.n uq.lv.c, .slice uq.tx.a uq.tx.n uq.tx.c, .int .i64 R.rd, .int .i64 R.se, .int .i64 R.li, .int .i64 R.he, .int .i64 R.la.c, .int .i64 R.la.r, .int .i64 R.la.q, .int .i64 R.la.a, .int .i64 R.la.b, .slice uq.ws.a uq.ws.n uq.ws.c] rfl (by simp) Try.sizeM rfl [.int .i64 R.id, .int .i64 R.rid, .slice uq.ms.a uq.ms.n uq.ms.c, .slice uq.its.a uq.its.n uq.its.c, .slice uq.lv.a uq.lv.n uq.lv.c, .slice uq.tx.a uq.tx.n uq.tx.c, .int .i64 R.rd, .int .i64 R.se, .int .i64 R.li, .int .i64 R.he, .int .i64 R.la.c, .int .i64 R.la.r, .int .i64 R.la.q, .int .i64 R.la.a, .int .i64 R.la.b, .slice uq.ws.a uq.ws.n uq.ws.c] rfl ?_
          intro we OB TB
          try go_wp2_with fail
          go_meet
          exact ⟨_, uq, rfl, OB, (oq.past ba TB (by decide) (by decide) (by decide)).down (by omega), by omega, c.trans (TB.below (by omega))⟩
      · have := c.size
        rw [if_pos (by rfl)]
        simp only [List.getElem_toArray, List.getElem_cons_zero, List.getElem_cons_succ]
        go_simp
        have b : Below y1.heap.size y1 (y1.alloc (.cells #[.int .i64 0, .int .i64 0, .slice none 0 0, .slice none 0 0, .slice none 0 0, .slice none 0 0, .int .i64 0, .int .i64 0, .int .i64 0, .int .i64 0, .int .i64 0, .int .i64 0, .int .i64 0, .int .i64 0, .int .i64 0, .slice none 0 0] 32)) := (Below.refl _ _).alloc (Nat.le_refl _) _
        have ba : Bx (y1.alloc (.cells #[.int .i64 0, .int .i64 0, .slice none 0 0, .slice none 0 0, .slice none 0 0, .slice none 0 0, .int .i64 0, .int .i64 0, .int .i64 0, .int .i64 0, .int .i64 0, .int .i64 0, .int .i64 0, .int .i64 0, .int .i64 0, .slice none 0 0] 32)) y1.heap.size 32 [.int .i64 0, .int .i64 0, .slice none 0 0, .slice none 0 0, .slice none 0 0, .slice none 0 0, .int .i64 0, .int .i64 0, .int .i64 0, .int .i64 0, .int .i64 0, .int .i64 0, .int .i64 0, .int .i64 0, .int .i64 0, .slice none 0 0] := Bx.new y1 32 _
        have za : w1b.heap.size ≤ y1.heap.size := c.size
        have pm := pm.later b
        have c : Below w1b.heap.size w1b (y1.alloc (.cells #[.int .i64 0, .int .i64 0, .slice none 0 0, .slice none 0 0, .slice none 0 0, .slice none 0 0, .int .i64 0, .int .i64 0, .int .i64 0, .int .i64 0, .int .i64 0, .int .i64 0, .int .i64 0, .int .i64 0, .int .i64 0, .slice none 0 0] 32)) := bl_next c b
        refine hK.out _ _ (c) (fun hHeld => ?_)
        clear hK K
        try simp only [Act.put, List.getElem_toArray, List.getElem_cons_zero, List.getElem_cons_succ, List.setIfInBounds_toArray, List.set_cons_zero, List.set_cons_succ]
        clear b
        refine wpAnyH_ready (rs := [3]) (by kernel_rfl) (by simp) ?_
        refine AllReadyH.cons (i := 3) rfl (fun K hK => ?_) AllReadyH.nil
        rw [if_pos (by rfl)]
        simp only [List.getElem_toArray, List.getElem_cons_zero, List.getElem_cons_succ]
        go_simp
        refine (toItem_any q f l t _).mono ?_
        rintro e y8 ⟨rfl, b⟩
        have ba := ba.later b
        have pm := pm.later b
        have c : Below w1b.heap.size w1b y8 := bl_next c b
        refine hK.out _ _ (c) (fun hHeld => ?_)
        clear hK K
        try simp only [Act.put, List.getElem_toArray, List.getElem_cons_zero, List.getElem_cons_succ, List.setIfInBounds_toArray, List.set_cons_zero, List.set_cons_succ]
        clear b
        refine wpAnyH_ready (rs := [4]) (by kernel_rfl) (by simp) ?_
        refine AllReadyH.cons (i := 4) rfl (fun K hK => ?_) AllReadyH.nil
        rw [if_pos (by rfl)]
        simp only [List.getElem_toArray, List.getElem_cons_zero, List.getElem_cons_succ]
        go_simp
        refine (SPC.out um _ (show Hid (MtP y8 m um) from pm)).mono ?_
        rintro e y9 ⟨uq, rfl, oq, b⟩
        have zq : w1b.heap.size ≤ y8.heap.size := c.size
        have ba := ba.later b
        have c : Below w1b.heap.size w1b y9 := bl_next c b
        refine hK.out _ _ (c) (fun hHeld => ?_)
        clear hK K
        try simp only [Act.put, List.getElem_toArray, List.getElem_cons_zero, List.getElem_cons_succ, List.setIfInBounds_toArray, List.set_cons_zero, List.set_cons_succ]
        clear b
        refine wpAnyH_take (i := 6) (v := ?v6) rfl (by kernel_rfl) (by kernel_rfl) (by kernel_rfl) (fun _ _ _ h => h) (Or.inl ⟨by rfl, ?hy6⟩) (by assumption) ?_
        case hy6 => (intro w hSw; (try dsimp only at hSw); simp only [List.getElem_toArray, List.getElem_cons_zero, List.getElem_cons_succ]; go_simp; try with_reducible rfl)
        try simp only [Act.put, List.getElem_toArray, List.getElem_cons_zero, List.getElem_cons_succ, List.setIfInBounds_toArray, List.set_cons_zero, List.set_cons_succ]
        refine wpAnyH_done (by kernel_rfl) ?_ _
        refine lastQ_of rfl rfl ?_
        refine wp_stB 32 _ _ rfl y1.heap.size 0 rfl 32 _ ba [.int .i64 R.id, .int .i64 R.rid, .slice uq.ms.a uq.ms.n uq.ms.c, .slice uq.its.a uq.its.n uq.its.c, .slice uq.lv.a uq.lv.n uq.lv.c, .slice uq.tx.a uq.tx.n uq.tx.c, .int .i64 R.rd, .int .i64 R.se, .int .i64 R.li, .int .i64 R.he, .int .i64 R.la.c, .int .i64 R.la.r, .int .i64 R.la.q, .int .i64 R.la.a, .int .i64 R.la.b, .slice uq.ws.a uq.ws.n uq.ws.c] rfl (by simp) Try.sizeM rfl [.int .i64 R.id, .int .i64 R.rid, .slice uq.ms.a uq.ms.n uq.ms.c, .slice uq.its.a uq.its.n uq.its.c, .slice uq.lv.a uq.lv.n uq.lv.c, .slice uq.tx.a uq.tx.n uq.tx.c, .int .i64 R.rd, .int .i64 R.se, .int .i64 R.li, .int .i64 R.he, .int .i64 R.la.c, .int .i64 R.la.r, .int .i64 R.la.q, .int .i64 R.la.a, .int .i64 R.la.b, .slice uq.ws.a uq.ws.n uq.ws.c] rfl ?_
        intro we OB TB
        try go_wp2_with fail
        go_meet
        exact ⟨_, uq, rfl, OB, (oq.past ba TB (by decide) (by decide) (by decide)).down (by omega), by omega, c.trans (TB.below (by omega))⟩
    · have := c.size
      rw [if_pos (by rfl)]
      simp only [List.getElem_toArray, List.getElem_cons_zero, List.getElem_cons_succ]
      go_simp
      have b : Below w1b.drew.heap.size w1b.drew (w1b.drew.alloc (.cells #[.int .i64 0, .int .i64 0, .slice none 0 0, .slice none 0 0, .slice none 0 0, .slice none 0 0, .int .i64 0, .int .i64 0, .int .i64 0, .int .i64 0, .int .i64 0, .int .i64 0, .int .i64 0, .int .i64 0, .int .i64 0, .slice none 0 0] 32)) := (Below.refl _ _).alloc (Nat.le_refl _) _
      have ba : Bx (w1b.drew.alloc (.cells #[.int .i64 0, .int .i64 0, .slice none 0 0, .slice none 0 0, .slice none 0 0, .slice none 0 0, .int .i64 0, .int .i64 0, .int .i64 0, .int .i64 0, .int .i64 0, .int .i64 0, .int .i64 0, .int .i64 0, .int .i64 0, .slice none 0 0] 32)) w1b.drew.heap.size 32 [.int .i64 0, .int .i64 0, .slice none 0 0, .slice none 0 0, .slice none 0 0, .slice none 0 0, .int .i64 0, .int .i64 0, .int .i64 0, .int .i64 0, .int .i64 0, .int .i64 0, .int .i64 0, .int .i64 0, .int .i64 0, .slice none 0 0] := Bx.new w1b.drew 32 _
      have za : w1b.heap.size ≤ w1b.drew.heap.size := c.size
      have c : Below w1b.heap.size w1b (w1b.drew.alloc (.cells #[.int .i64 0, .int .i64 0, .slice none 0 0, .slice none 0 0, .slice none 0 0, .slice none 0 0, .int .i64 0, .int .i64 0, .int .i64 0, .int .i64 0, .int .i64 0, .int .i64 0, .int .i64 0, .int .i64 0, .int .i64 0, .slice none 0 0] 32)) := bl_next c b
      refine hK.out _ _ (c) (fun hHeld => ?_)
      clear hK K
      try simp only [Act.put, List.getElem_toArray, List.getElem_cons_zero, List.getElem_cons_succ, List.setIfInBounds_toArray, List.set_cons_zero, List.set_cons_succ]
      clear b
      refine wpAnyH_ready (rs := [1]) (by kernel_rfl) (by simp) ?_
      refine AllReadyH.cons (i := 1) rfl (fun K hK => ?_) AllReadyH.nil
      rw [if_pos (by rfl)]
      simp only [List.getElem_toArray, List.getElem_cons_zero, List.getElem_cons_succ]
      go_simp
      refine (toMate_any m v _ (show Hid (MtR (w1b.drew.alloc (.cells #[.int .i64 0, .int .i64 0, .slice none 0 0, .slice none 0 0, .slice none 0 0, .slice none 0 0, .int .i64 0, .int .i64 0, .int .i64 0, .int .i64 0, .int .i64 0, .int .i64 0, .int .i64 0, .int .i64 0, .int .i64 0, .slice none 0 0] 32)) m v) from HR.out.stays c) hs).mono ?_
      rintro e y11 ⟨um, rfl, om, b⟩
      have pm := om.p
      have ba := ba.later b
      have c : Below w1b.heap.size w1b y11 := bl_next c b
      refine hK.out _ _ (c) (fun hHeld => ?_)
      clear hK K
      try simp only [Act.put, List.getElem_toArray, List.getElem_cons_zero, List.getElem_cons_succ, List.setIfInBounds_toArray, List.set_cons_zero, List.set_cons_succ]
      clear b
      refine wpAnyH_ready (rs := [3]) (by kernel_rfl) (by simp) ?_
      refine AllReadyH.cons (i := 3) rfl (fun K hK => ?_) AllReadyH.nil
      rw [if_pos (by rfl)]
      simp only [List.getElem_toArray, List.getElem_cons_zero, List.getElem_cons_succ]
      go_simp
      refine (toItem_any q f l t _).mono ?_
      rintro e y12 ⟨rfl, b⟩
      have ba := ba.later b
      have pm := pm.later b
      have c : Below w1b.heap.size w1b y12 := bl_next c b
      refine hK.out _ _ (c) (fun hHeld => ?_)
      clear hK K
      try simp only [Act.put, List.getElem_toArray, List.getElem_cons_zero, List.getElem_cons_succ, List.setIfInBounds_toArray, List.set_cons_zero, List.set_cons_succ]
      clear b
      refine wpAnyH_ready (rs := [4]) (by kernel_rfl) (by simp) ?_
      refine AllReadyH.cons (i := 4) rfl (fun K hK => ?_) AllReadyH.nil
      rw [if_pos (by rfl)]
      simp only [List.getElem_toArray, List.getElem_cons_zero, List.getElem_cons_succ]
      go_simp
      refine (SPC.out um _ (show Hid (MtP y12 m um) from pm)).mono ?_
      rintro e y13 ⟨uq, rfl, oq, b⟩
      have zq : w1b.heap.size ≤ y12.heap.size := c.size
      have ba := ba.later b
      have c : Below w1b.heap.size w1b y13 := bl_next c b
      refine hK.out _ _ (c) (fun hHeld => ?_)
      clear hK K
      try simp only [Act.put, List.getElem_toArray, List.getElem_cons_zero, List.getElem_cons_succ, List.setIfInBounds_toArray, List.set_cons_zero, List.set_cons_succ]
      clear b
      refine wpAnyH_take (i := 6) (v := ?v6) rfl (by kernel_rfl) (by kernel_rfl) (by kernel_rfl) (fun _ _ _ h => h) (Or.inl ⟨by rfl, ?hy6⟩) (by assumption) ?_
      case hy6 => (intro w hSw; (try dsimp only at hSw); simp only [List.getElem_toArray, List.getElem_cons_zero, List.getElem_cons_succ]; go_simp; try with_reducible rfl)
      try simp only [Act.put, List.getElem_toArray, List.getElem_cons_zero, List.getElem_cons_succ, List.setIfInBounds_toArray, List.set_cons_zero, List.set_cons_succ]
      refine wpAnyH_done (by kernel_rfl) ?_ _
      refine lastQ_of rfl rfl ?_
      refine wp_stB 32 _ _ rfl w1b.drew.heap.size 0 rfl 32 _ ba [.int .i64 R.id, .int .i64 R.rid, .slice uq.ms.a uq.ms.n uq.ms.c, .slice uq.its.a uq.its.n uq.its.c, .slice uq.lv.a uq.lv.n uq.lv.c, .slice uq.tx.a uq.tx.n uq.tx.c, .int .i64 R.rd, .int .i64 R.se, .int .i64 R.li, .int .i64 R.he, .int .i64 R.la.c, .int .i64 R.la.r, .int .i64 R.la.q, .int .i64 R.la.a, .int .i64 R.la.b, .slice uq.ws.a uq.ws.n uq.ws.c] rfl (by simp) Try.sizeM rfl [.int .i64 R.id, .int .i64 R.rid, .slice uq.ms.a uq.ms.n uq.ms.c, .slice uq.its.a uq.its.n uq.its.c, .slice uq.lv.a uq.lv.n uq.lv.c, .slice uq.tx.a uq.tx.n uq.tx.c, .int .i64 R.rd, .int .i64 R.se, .int .i64 R.li, .int .i64 R.he, .int .i64 R.la.c, .int .i64 R.la.r, .int .i64 R.la.q, .int .i64 R.la.a, .int .i64 R.la.b, .slice uq.ws.a uq.ws.n uq.ws.c] rfl ?_
      intro we OB TB
      try go_wp2_with fail
      go_meet
      exact ⟨_, uq, rfl, OB, (oq.past ba TB (by decide) (by decide) (by decide)).down (by omega), by omega, c.trans (TB.below (by omega))⟩
  case rest =>
  obtain ⟨gK, uK, rfl, hbx, hmo, zz, b⟩ := hcut
  generalize wc = WK at *
  have HA : Hid (Bx WK w.heap.size 67 [.int .i64 m.id, .int .i64 m.rid, .slice v.ms.a v.ms.n v.ms.c, .slice v.its.a v.its.n v.its.c, .slice v.lv.a v.lv.n v.lv.c, .slice v.tx.a v.tx.n v.tx.c, .int .i64 m.rd, .int .i64 m.se, .int .i64 m.li, .int .i64 m.he, .int .i64 m.la.c, .int .i64 m.la.r, .int .i64 m.la.q, .int .i64 m.la.a, .int .i64 m.la.b, .slice v.ws.a v.ws.n v.ws.c]) := HA.out.later b
  have HX : Hid (Bx WK (w.heap.size + 1) 72 [.int .i64 q, .int .i64 f, .int .i64 l, .string t]) := HX.out.later b
  have HB0 : Hid (Below w.heap.size w WK) := bl_next HB0.out b
  have HR : Hid (MtR WK m v) := HR.out.stays b
  have WKB : Hid (Bx WK gK 32 [.int .i64 R.id, .int .i64 R.rid, .slice uK.ms.a uK.ms.n uK.ms.c, .slice uK.its.a uK.its.n uK.its.c, .slice uK.lv.a uK.lv.n uK.lv.c, .slice uK.tx.a uK.tx.n uK.tx.c, .int .i64 R.rd, .int .i64 R.se, .int .i64 R.li, .int .i64 R.he, .int .i64 R.la.c, .int .i64 R.la.r, .int .i64 R.la.q, .int .i64 R.la.a, .int .i64 R.la.b, .slice uK.ws.a uK.ws.n uK.ws.c]) := hbx
  have hKO : Hid (MtO WK w1b.heap.size R uK) := hmo
  have KL : Hid (∀ k, uK.own k → k < WK.heap.size) := fun k hk => (hmo.lt hk).2
  have zK : gK < WK.heap.size := WKB.out.lt
  have zL : w.heap.size < WK.heap.size := HA.out.lt
  have zL2 : w.heap.size + 1 < WK.heap.size := HX.out.lt
  clear hbx hmo zz b SPC
  go_wp2_with (first | (refine wpList_ldG rfl 67 _ rfl w.heap.size 0 rfl 67 _ HA.out [.int .i64 m.id, .int .i64 m.rid, .slice v.ms.a v.ms.n v.ms.c, .slice v.its.a v.its.n v.its.c, .slice v.lv.a v.lv.n v.lv.c, .slice v.tx.a v.tx.n v.tx.c, .int .i64 m.rd, .int .i64 m.se, .int .i64 m.li, .int .i64 m.he, .int .i64 m.la.c, .int .i64 m.la.r, .int .i64 m.la.q, .int .i64 m.la.a, .int .i64 m.la.b, .slice v.ws.a v.ws.n v.ws.c] rfl _ Try.underlying67 rfl Try.sizeL ?_))
  refine (toMate_any m v _ HR hs).mono ?_
  rintro e w4 ⟨uX, rfl, o, b⟩
  have HA : Hid (Bx w4 w.heap.size 67 [.int .i64 m.id, .int .i64 m.rid, .slice v.ms.a v.ms.n v.ms.c, .slice v.its.a v.its.n v.its.c, .slice v.lv.a v.lv.n v.lv.c, .slice v.tx.a v.tx.n v.tx.c, .int .i64 m.rd, .int .i64 m.se, .int .i64 m.li, .int .i64 m.he, .int .i64 m.la.c, .int .i64 m.la.r, .int .i64 m.la.q, .int .i64 m.la.a, .int .i64 m.la.b, .slice v.ws.a v.ws.n v.ws.c]) := HA.out.later b
  have HX : Hid (Bx w4 (w.heap.size + 1) 72 [.int .i64 q, .int .i64 f, .int .i64 l, .string t]) := HX.out.later b
  have HB0 : Hid (Below w.heap.size w w4) := bl_next HB0.out b
  have HR : Hid (MtR w4 m v) := HR.out.stays b
  have hKO : Hid (MtO w4 w1b.heap.size R uK) := hKO.out.later b
  have WKB : Hid (Bx w4 gK 32 [.int .i64 R.id, .int .i64 R.rid, .slice uK.ms.a uK.ms.n uK.ms.c, .slice uK.its.a uK.its.n uK.its.c, .slice uK.lv.a uK.lv.n uK.lv.c, .slice uK.tx.a uK.tx.n uK.tx.c, .int .i64 R.rd, .int .i64 R.se, .int .i64 R.li, .int .i64 R.he, .int .i64 R.la.c, .int .i64 R.la.r, .int .i64 R.la.q, .int .i64 R.la.a, .int .i64 R.la.b, .slice uK.ws.a uK.ws.n uK.ws.c]) := WKB.out.later b
  have XL : Hid (∀ k, uX.own k → WK.heap.size ≤ k ∧ k < w4.heap.size) := fun k hk => o.lt hk
  have zWX : WK.heap.size ≤ w4.heap.size := b.size
  clear b
  have hz_WX : Hid (Bx (w4.alloc (.cells #[.int .i64 0, .int .i64 0, .slice none 0 0, .slice none 0 0, .slice none 0 0, .slice none 0 0, .int .i64 0, .int .i64 0, .int .i64 0, .int .i64 0, .int .i64 0, .int .i64 0, .int .i64 0, .int .i64 0, .int .i64 0, .slice none 0 0] 32)) w4.heap.size 32 [.int .i64 0, .int .i64 0, .slice none 0 0, .slice none 0 0, .slice none 0 0, .slice none 0 0, .int .i64 0, .int .i64 0, .int .i64 0, .int .i64 0, .int .i64 0, .int .i64 0, .int .i64 0, .int .i64 0, .int .i64 0, .slice none 0 0]) := Bx.new w4 32 _
  go_wp2_with (first | (refine wpList_stB rfl 32 _ _ rfl w4.heap.size 0 rfl 32 _ hz_WX.out [.int .i64 m.id, .int .i64 m.rid, .slice uX.ms.a uX.ms.n uX.ms.c, .slice uX.its.a uX.its.n uX.its.c, .slice uX.lv.a uX.lv.n uX.lv.c, .slice uX.tx.a uX.tx.n uX.tx.c, .int .i64 m.rd, .int .i64 m.se, .int .i64 m.li, .int .i64 m.he, .int .i64 m.la.c, .int .i64 m.la.r, .int .i64 m.la.q, .int .i64 m.la.a, .int .i64 m.la.b, .slice uX.ws.a uX.ws.n uX.ws.c] rfl (by simp) Try.sizeM rfl [.int .i64 m.id, .int .i64 m.rid, .slice uX.ms.a uX.ms.n uX.ms.c, .slice uX.its.a uX.its.n uX.its.c, .slice uX.lv.a uX.lv.n uX.lv.c, .slice uX.tx.a uX.tx.n uX.tx.c, .int .i64 m.rd, .int .i64 m.se, .int .i64 m.li, .int .i64 m.he, .int .i64 m.la.c, .int .i64 m.la.r, .int .i64 m.la.q, .int .i64 m.la.a, .int .i64 m.la.b, .slice uX.ws.a uX.ws.n uX.ws.c] rfl ?_; intro WX kb kt; have bb : Below w4.heap.size w4 WX := ((Below.refl _ _).alloc (Nat.le_refl _) _).trans (kt.below (Nat.le_refl _)); have HA : Hid (Bx WX w.heap.size 67 [.int .i64 m.id, .int .i64 m.rid, .slice v.ms.a v.ms.n v.ms.c, .slice v.its.a v.its.n v.its.c, .slice v.lv.a v.lv.n v.lv.c, .slice v.tx.a v.tx.n v.tx.c, .int .i64 m.rd, .int .i64 m.se, .int .i64 m.li, .int .i64 m.he, .int .i64 m.la.c, .int .i64 m.la.r, .int .i64 m.la.q, .int .i64 m.la.a, .int .i64 m.la.b, .slice v.ws.a v.ws.n v.ws.c]) := HA.out.later bb; have HX : Hid (Bx WX (w.heap.size + 1) 72 [.int .i64 q, .int .i64 f, .int .i64 l, .string t]) := HX.out.later bb; have HB0 : Hid (Below w.heap.size w WX) := bl_next HB0.out bb; have HR : Hid (MtR WX m v) := HR.out.stays bb; have hKO : Hid (MtO WX w1b.heap.size R uK) := hKO.out.later bb; have WKB : Hid (Bx WX gK 32 [.int .i64 R.id, .int .i64 R.rid, .slice uK.ms.a uK.ms.n uK.ms.c, .slice uK.its.a uK.its.n uK.its.c, .slice uK.lv.a uK.lv.n uK.lv.c, .slice uK.tx.a uK.tx.n uK.tx.c, .int .i64 R.rd, .int .i64 R.se, .int .i64 R.li, .int .i64 R.he, .int .i64 R.la.c, .int .i64 R.la.r, .int .i64 R.la.q, .int .i64 R.la.a, .int .i64 R.la.b, .slice uK.ws.a uK.ws.n uK.ws.c]) := WKB.out.later bb; have WXB : Hid (Bx WX w4.heap.size 32 [.int .i64 m.id, .int .i64 m.rid, .slice uX.ms.a uX.ms.n uX.ms.c, .slice uX.its.a uX.its.n uX.its.c, .slice uX.lv.a uX.lv.n uX.lv.c, .slice uX.tx.a uX.tx.n uX.tx.c, .int .i64 m.rd, .int .i64 m.se, .int .i64 m.li, .int .i64 m.he, .int .i64 m.la.c, .int .i64 m.la.r, .int .i64 m.la.q, .int .i64 m.la.a, .int .i64 m.la.b, .slice uX.ws.a uX.ws.n uX.ws.c]) := kb; have hXO : Hid (MtO WX WK.heap.size m uX) := o.later bb; clear kb kt))
  clear o bb hz_WX
  have zX : w4.heap.size < WX.heap.size := WXB.out.lt
  generalize w4.heap.size = gX at *
  go_simp
  go_cut [8] (fun ux_ wx => ∃ (gq : Nat) (uq : Mv), ux_ = .pointer (some ⟨gq, 0, none⟩) ∧ Bx wx gq 32 [.int .i64 R.id, .int .i64 R.rid, .slice uq.ms.a uq.ms.n uq.ms.c, .slice uq.its.a uq.its.n uq.its.c, .slice uq.lv.a uq.lv.n uq.lv.c, .slice uq.tx.a uq.tx.n uq.tx.c, .int .i64 R.rd, .int .i64 R.se, .int .i64 R.li, .int .i64 R.he, .int .i64 R.la.c, .int .i64 R.la.r, .int .i64 R.la.q, .int .i64 R.la.a, .int .i64 R.la.b, .slice uq.ws.a uq.ws.n uq.ws.c] ∧ MtO wx WX.heap.size R uq ∧ WX.heap.size ≤ gq ∧ Below WX.heap.size WX wx)
  case first =>
    have c : Below WX.heap.size WX WX.drew := (Below.refl _ _).drew
    refine wp_region_heldLast (S := fun w' => Below WX.heap.size WX w') _ (by simp) (by kernel_rfl) (by rfl) (by rfl) (by kernel_rfl) (by kernel_rfl) c (fun hHeld => ?_)
    simp only [List.dropLast_cons_cons, List.dropLast_singleton, List.getLast_cons_cons, List.getLast_singleton, List.cons_append, List.nil_append, List.length_cons, List.length_nil]
    refine wpAnyH_take (i := 0) (v := _) rfl (by kernel_rfl) (by kernel_rfl) (by kernel_rfl) (fun _ _ _ h => h) (ld_yield (by rfl) 32 _ rfl gX 0 rfl 32 _ (fun w hS => WXB.out.later hS) [.int .i64 m.id, .int .i64 m.rid, .slice uX.ms.a uX.ms.n uX.ms.c, .slice uX.its.a uX.its.n uX.its.c, .slice uX.lv.a uX.lv.n uX.lv.c, .slice uX.tx.a uX.tx.n uX.tx.c, .int .i64 m.rd, .int .i64 m.se, .int .i64 m.li, .int .i64 m.he, .int .i64 m.la.c, .int .i64 m.la.r, .int .i64 m.la.q, .int .i64 m.la.a, .int .i64 m.la.b, .slice uX.ws.a uX.ws.n uX.ws.c] rfl _ Try.underlying32 rfl Try.sizeM) (by assumption) ?_
    try simp only [Act.put, List.getElem_toArray, List.getElem_cons_zero, List.getElem_cons_succ, List.setIfInBounds_toArray, List.set_cons_zero, List.set_cons_succ]
    refine wpAnyH_take (i := 1) (v := _) rfl (by kernel_rfl) (by kernel_rfl) (by kernel_rfl) (fun _ _ _ h => h) (ld_yield (by rfl) 72 _ rfl (w.heap.size + 1) 0 rfl 72 _ (fun w hS => HX.out.later hS) [.int .i64 q, .int .i64 f, .int .i64 l, .string t] rfl _ Try.underlying72 rfl Try.sizeLI) (by assumption) ?_
    try simp only [Act.put, List.getElem_toArray, List.getElem_cons_zero, List.getElem_cons_succ, List.setIfInBounds_toArray, List.set_cons_zero, List.set_cons_succ]
    refine wpAnyH_ready (rs := [2, 4]) (by kernel_rfl) (by simp) ?_
    refine (AllReadyH.cons (i := 2) rfl (fun K hK => ?_) (AllReadyH.cons (i := 4) rfl (fun K hK => ?_) AllReadyH.nil))
    · have := c.size
      rw [if_pos (by rfl)]
      simp only [List.getElem_toArray, List.getElem_cons_zero, List.getElem_cons_succ]
      go_simp
      refine (toItem_any q f l t _).mono ?_
      rintro e y1 ⟨rfl, b⟩
      have c : Below WX.heap.size WX y1 := bl_next c b
      refine hK.out _ _ (c) (fun hHeld => ?_)
      clear hK K
      try simp only [Act.put, List.getElem_toArray, List.getElem_cons_zero, List.getElem_cons_succ, List.setIfInBounds_toArray, List.set_cons_zero, List.set_cons_succ]
      clear b
      refine wpAnyH_ready (rs := [3, 4]) (by kernel_rfl) (by simp) ?_
      refine (AllReadyH.cons (i := 3) rfl (fun K hK => ?_) (AllReadyH.cons (i := 4) rfl (fun K hK => ?_) AllReadyH.nil))
      · have := c.size
        rw [if_pos (by rfl)]
        simp only [List.getElem_toArray, List.getElem_cons_zero, List.getElem_cons_succ]
        go_simp
        refine (IMP.out uX _ (show Hid (MtP y1 m uX) from hXO.out.p.later c)).mono ?_
        rintro e y2 ⟨uq, rfl, oq, b⟩
        have zq : WX.heap.size ≤ y1.heap.size := c.size
        have c : Below WX.heap.size WX y2 := bl_next c b
        refine hK.out _ _ (c) (fun hHeld => ?_)
        clear hK K
        try simp only [Act.put, List.getElem_toArray, List.getElem_cons_zero, List.getElem_cons_succ, List.setIfInBounds_toArray, List.set_cons_zero, List.set_cons_succ]
        clear b
        refine wpAnyH_ready (rs := [4]) (by kernel_rfl) (by simp) ?_
        refine AllReadyH.cons (i := 4) rfl (fun K hK => ?_) AllReadyH.nil
        rw [if_pos (by rfl)]
        simp only [List.getElem_toArray, List.getElem_cons_zero, List.getElem_cons_succ]
        go_simp
        have b : Below y2.heap.size y2 (y2.alloc (.cells #[.int .i64 0, .int .i64 0, .slice none 0 0, .slice none 0 0, .slice none 0 0, .slice none 0 0, .int .i64 0, .int .i64 0, .int .i64 0, .int .i64 0, .int .i64 0, .int .i64 0, .int .i64 0, .int .i64 0, .int .i64 0, .slice none 0 0] 32)) := (Below.refl _ _).alloc (Nat.le_refl _) _
        have ba : Bx (y2.alloc (.cells #[.int .i64 0, .int .i64 0, .slice none 0 0, .slice none 0 0, .slice none 0 0, .slice none 0 0, .int .i64 0, .int .i64 0, .int .i64 0, .int .i64 0, .int .i64 0, .int .i64 0, .int .i64 0, .int .i64 0, .int .i64 0, .slice none 0 0] 32)) y2.heap.size 32 [.int .i64 0, .int .i64 0, .slice none 0 0, .slice none 0 0, .slice none 0 0, .slice none 0 0, .int .i64 0, .int .i64 0, .int .i64 0, .int .i64 0, .int .i64 0, .int .i64 0, .int .i64 0, .int .i64 0, .int .i64 0, .slice none 0 0] := Bx.new y2 32 _
        have za : WX.heap.size ≤ y2.heap.size := c.size
        have oq := oq.later b
        have c : Below WX.heap.size WX (y2.alloc (.cells #[.int .i64 0, .int .i64 0, .slice none 0 0, .slice none 0 0, .slice none 0 0, .slice none 0 0, .int .i64 0, .int .i64 0, .int .i64 0, .int .i64 0, .int .i64 0, .int .i64 0, .int .i64 0, .int .i64 0, .int .i64 0, .slice none 0 0] 32)) := bl_next c b
        refine hK.out _ _ (c) (fun hHeld => ?_)
        clear hK K
        try simp only [Act.put, List.getElem_toArray, List.getElem_cons_zero, List.getElem_cons_succ, List.setIfInBounds_toArray, List.set_cons_zero, List.set_cons_succ]
        clear b
        refine wpAnyH_take (i := 5) (v := ?v5) rfl (by kernel_rfl) (by kernel_rfl) (by kernel_rfl) (fun _ _ _ h => h) (Or.inl ⟨by rfl, ?hy5⟩) (by assumption) ?_
        case hy5 => (intro w hSw; (try dsimp only at hSw); simp only [List.getElem_toArray, List.getElem_cons_zero, List.getElem_cons_succ]; go_simp; try with_reducible rfl)
        try simp only [Act.put, List.getElem_toArray, List.getElem_cons_zero, List.getElem_cons_succ, List.setIfInBounds_toArray, List.set_cons_zero, List.set_cons_succ]
        refine wpAnyH_done (by kernel_rfl) ?_ _
        refine lastQ_of rfl rfl ?_
        refine wp_stB 32 _ _ rfl y2.heap.size 0 rfl 32 _ ba [.int .i64 R.id, .int .i64 R.rid, .slice uq.ms.a uq.ms.n uq.ms.c, .slice uq.its.a uq.its.n uq.its.c, .slice uq.lv.a uq.lv.n uq.lv.c, .slice uq.tx.a uq.tx.n uq.tx.c, .int .i64 R.rd, .int .i64 R.se, .int .i64 R.li, .int .i64 R.he, .int .i64 R.la.c, .int .i64 R.la.r, .int .i64 R.la.q, .int .i64 R.la.a, .int .i64 R.la.b, .slice uq.ws.a uq.ws.n uq.ws.c] rfl (by simp) Try.sizeM rfl [.int .i64 R.id, .int .i64 R.rid, .slice uq.ms.a uq.ms.n uq.ms.c, .slice uq.its.a uq.its.n uq.its.c, .slice uq.lv.a uq.lv.n uq.lv.c, .slice uq.tx.a uq.tx.n uq.tx.c, .int .i64 R.rd, .int .i64 R.se, .int .i64 R.li, .int .i64 R.he, .int .i64 R.la.c, .int .i64 R.la.r, .int .i64 R.la.q, .int .i64 R.la.a, .int .i64 R.la.b, .slice uq.ws.a uq.ws.n uq.ws.c] rfl ?_
        intro we OB TB
        try go_wp2_with fail
        go_meet
        exact ⟨_, uq, rfl, OB, (oq.past ba TB (by decide) (by decide) (by decide)).down (by omega), by omega, c.trans (TB.below (by omega))⟩
      · have := c.size
        rw [if_pos (by rfl)]
        simp only [List.getElem_toArray, List.getElem_cons_zero, List.getElem_cons_succ]
        go_simp
        have b : Below y1.heap.size y1 (y1.alloc (.cells #[.int .i64 0, .int .i64 0, .slice none 0 0, .slice none 0 0, .slice none 0 0, .slice none 0 0, .int .i64 0, .int .i64 0, .int .i64 0, .int .i64 0, .int .i64 0, .int .i64 0, .int .i64 0, .int .i64 0, .int .i64 0, .slice none 0 0] 32)) := (Below.refl _ _).alloc (Nat.le_refl _) _
        have ba : Bx (y1.alloc (.cells #[.int .i64 0, .int .i64 0, .slice none 0 0, .slice none 0 0, .slice none 0 0, .slice none 0 0, .int .i64 0, .int .i64 0, .int .i64 0, .int .i64 0, .int .i64 0, .int .i64 0, .int .i64 0, .int .i64 0, .int .i64 0, .slice none 0 0] 32)) y1.heap.size 32 [.int .i64 0, .int .i64 0, .slice none 0 0, .slice none 0 0, .slice none 0 0, .slice none 0 0, .int .i64 0, .int .i64 0, .int .i64 0, .int .i64 0, .int .i64 0, .int .i64 0, .int .i64 0, .int .i64 0, .int .i64 0, .slice none 0 0] := Bx.new y1 32 _
        have za : WX.heap.size ≤ y1.heap.size := c.size
        have c : Below WX.heap.size WX (y1.alloc (.cells #[.int .i64 0, .int .i64 0, .slice none 0 0, .slice none 0 0, .slice none 0 0, .slice none 0 0, .int .i64 0, .int .i64 0, .int .i64 0, .int .i64 0, .int .i64 0, .int .i64 0, .int .i64 0, .int .i64 0, .int .i64 0, .slice none 0 0] 32)) := bl_next c b
        refine hK.out _ _ (c) (fun hHeld => ?_)
        clear hK K
        try simp only [Act.put, List.getElem_toArray, List.getElem_cons_zero, List.getElem_cons_succ, List.setIfInBounds_toArray, List.set_cons_zero, List.set_cons_succ]
        clear b
        refine wpAnyH_ready (rs := [3]) (by kernel_rfl) (by simp) ?_
        refine AllReadyH.cons (i := 3) rfl (fun K hK => ?_) AllReadyH.nil
        rw [if_pos (by rfl)]
        simp only [List.getElem_toArray, List.getElem_cons_zero, List.getElem_cons_succ]
        go_simp
        refine (IMP.out uX _ (show Hid (MtP (y1.alloc (.cells #[.int .i64 0, .int .i64 0, .slice none 0 0, .slice none 0 0, .slice none 0 0, .slice none 0 0, .int .i64 0, .int .i64 0, .int .i64 0, .int .i64 0, .int .i64 0, .int .i64 0, .int .i64 0, .int .i64 0, .int .i64 0, .slice none 0 0] 32)) m uX) from hXO.out.p.later c)).mono ?_
        rintro e y5 ⟨uq, rfl, oq, b⟩
        have zq : WX.heap.size ≤ (y1.alloc (.cells #[.int .i64 0, .int .i64 0, .slice none 0 0, .slice none 0 0, .slice none 0 0, .slice none 0 0, .int .i64 0, .int .i64 0, .int .i64 0, .int .i64 0, .int .i64 0, .int .i64 0, .int .i64 0, .int .i64 0, .int .i64 0, .slice none 0 0] 32)).heap.size := c.size
        have ba := ba.later b
        have c : Below WX.heap.size WX y5 := bl_next c b
        refine hK.out _ _ (c) (fun hHeld => ?_)
        clear hK K
        try simp only [Act.put, List.getElem_toArray, List.getElem_cons_zero, List.getElem_cons_succ, List.setIfInBounds_toArray, List.set_cons_zero, List.set_cons_succ]
        clear b
        refine wpAnyH_take (i := 5) (v := ?v5) rfl (by kernel_rfl) (by kernel_rfl) (by kernel_rfl) (fun _ _ _ h => h) (Or.inl ⟨by rfl, ?hy5⟩) (by assumption) ?_
        case hy5 => (intro w hSw; (try dsimp only at hSw); simp only [List.getElem_toArray, List.getElem_cons_zero, List.getElem_cons_succ]; go_simp; try with_reducible rfl)
        try simp only [Act.put, List.getElem_toArray, List.getElem_cons_zero, List.getElem_cons_succ, List.setIfInBounds_toArray, List.set_cons_zero, List.set_cons_succ]
        refine wpAnyH_done (by kernel_rfl) ?_ _
        refine lastQ_of rfl rfl ?_
        refine wp_stB 32 _ _ rfl y1.heap.size 0 rfl 32 _ ba [.int .i64 R.id, .int .i64 R.rid, .slice uq.ms.a uq.ms.n uq.ms.c, .slice uq.its.a uq.its.n uq.its.c, .slice uq.lv.a uq.lv.n uq.lv.c, .slice uq.tx.a uq.tx.n uq.tx.c, .int .i64 R.rd, .int .i64 R.se, .int .i64 R.li, .int .i64 R.he, .int .i64 R.la.c, .int .i64 R.la.r, .int .i64 R.la.q, .int .i64 R.la.a, .int .i64 R.la.b, .slice uq.ws.a uq.ws.n uq.ws.c] rfl (by simp) Try.sizeM rfl [.int .i64 R.id, .int .i64 R.rid, .slice uq.ms.a uq.ms.n uq.ms.c, .slice uq.its.a uq.its.n uq.its.c, .slice uq.lv.a uq.lv.n uq.lv.c, .slice uq.tx.a uq.tx.n uq.tx.c, .int .i64 R.rd, .int .i64 R.se, .int .i64 R.li, .int .i64 R.he, .int .i64 R.la.c, .int .i64 R.la.r, .int .i64 R.la.q, .int .i64 R.la.a, .int .i64 R.la.b, .slice uq.ws.a uq.ws.n uq.ws.c] rfl ?_
        intro we OB TB
        try go_wp2_with fail
        go_meet
        exact ⟨_, uq, rfl, OB, (oq.past ba TB (by decide) (by decide) (by decide)).down (by omega), by omega, c.trans (TB.below (by omega))⟩
    · have := c.size
      rw [if_pos (by rfl)]
      simp only [List.getElem_toArray, List.getElem_cons_zero, List.getElem_cons_succ]
      go_simp
      have b : Below WX.drew.heap.size WX.drew (WX.drew.alloc (.cells #[.int .i64 0, .int .i64 0, .slice none 0 0, .slice none 0 0, .slice none 0 0, .slice none 0 0, .int .i64 0, .int .i64 0, .int .i64 0, .int .i64 0, .int .i64 0, .int .i64 0, .int .i64 0, .int .i64 0, .int .i64 0, .slice none 0 0] 32)) := (Below.refl _ _).alloc (Nat.le_refl _) _
      have ba : Bx (WX.drew.alloc (.cells #[.int .i64 0, .int .i64 0, .slice none 0 0, .slice none 0 0, .slice none 0 0, .slice none 0 0, .int .i64 0, .int .i64 0, .int .i64 0, .int .i64 0, .int .i64 0, .int .i64 0, .int .i64 0, .int .i64 0, .int .i64 0, .slice none 0 0] 32)) WX.drew.heap.size 32 [.int .i64 0, .int .i64 0, .slice none 0 0, .slice none 0 0, .slice none 0 0, .slice none 0 0, .int .i64 0, .int .i64 0, .int .i64 0, .int .i64 0, .int .i64 0, .int .i64 0, .int .i64 0, .int .i64 0, .int .i64 0, .slice none 0 0] := Bx.new WX.drew 32 _
      have za : WX.heap.size ≤ WX.drew.heap.size := c.size
      have c : Below WX.heap.size WX (WX.drew.alloc (.cells #[.int .i64 0, .int .i64 0, .slice none 0 0, .slice none 0 0, .slice none 0 0, .slice none 0 0, .int .i64 0, .int .i64 0, .int .i64 0, .int .i64 0, .int .i64 0, .int .i64 0, .int .i64 0, .int .i64 0, .int .i64 0, .slice none 0 0] 32)) := bl_next c b
      refine hK.out _ _ (c) (fun hHeld => ?_)
      clear hK K
      try simp only [Act.put, List.getElem_toArray, List.getElem_cons_zero, List.getElem_cons_succ, List.setIfInBounds_toArray, List.set_cons_zero, List.set_cons_succ]
      clear b
      refine wpAnyH_ready (rs := [2]) (by kernel_rfl) (by simp) ?_
      refine AllReadyH.cons (i := 2) rfl (fun K hK => ?_) AllReadyH.nil
      rw [if_pos (by rfl)]
      simp only [List.getElem_toArray, List.getElem_cons_zero, List.getElem_cons_succ]
      go_simp
      refine (toItem_any q f l t _).mono ?_
      rintro e y7 ⟨rfl, b⟩
      have ba := ba.later b
      have c : Below WX.heap.size WX y7 := bl_next c b
      refine hK.out _ _ (c) (fun hHeld => ?_)
      clear hK K
      try simp only [Act.put, List.getElem_toArray, List.getElem_cons_zero, List.getElem_cons_succ, List.setIfInBounds_toArray, List.set_cons_zero, List.set_cons_succ]
      clear b
      refine wpAnyH_ready (rs := [3]) (by kernel_rfl) (by simp) ?_
      refine AllReadyH.cons (i := 3) rfl (fun K hK => ?_) AllReadyH.nil
      rw [if_pos (by rfl)]
      simp only [List.getElem_toArray, List.getElem_cons_zero, List.getElem_cons_succ]
      go_simp
      refine (IMP.out uX _ (show Hid (MtP y7 m uX) from hXO.out.p.later c)).mono ?_
      rintro e y8 ⟨uq, rfl, oq, b⟩
      have zq : WX.heap.size ≤ y7.heap.size := c.size
      have ba := ba.later b
      have c : Below WX.heap.size WX y8 := bl_next c b
      refine hK.out _ _ (c) (fun hHeld => ?_)
      clear hK K
      try simp only [Act.put, List.getElem_toArray, List.getElem_cons_zero, List.getElem_cons_succ, List.setIfInBounds_toArray, List.set_cons_zero, List.set_cons_succ]
      clear b
      refine wpAnyH_take (i := 5) (v := ?v5) rfl (by kernel_rfl) (by kernel_rfl) (by kernel_rfl) (fun _ _ _ h => h) (Or.inl ⟨by rfl, ?hy5⟩) (by assumption) ?_
      case hy5 => (intro w hSw; (try dsimp only at hSw); simp only [List.getElem_toArray, List.getElem_cons_zero, List.getElem_cons_succ]; go_simp; try with_reducible rfl)
      try simp only [Act.put, List.getElem_toArray, List.getElem_cons_zero, List.getElem_cons_succ, List.setIfInBounds_toArray, List.set_cons_zero, List.set_cons_succ]
      refine wpAnyH_done (by kernel_rfl) ?_ _
      refine lastQ_of rfl rfl ?_
      refine wp_stB 32 _ _ rfl WX.drew.heap.size 0 rfl 32 _ ba [.int .i64 R.id, .int .i64 R.rid, .slice uq.ms.a uq.ms.n uq.ms.c, .slice uq.its.a uq.its.n uq.its.c, .slice uq.lv.a uq.lv.n uq.lv.c, .slice uq.tx.a uq.tx.n uq.tx.c, .int .i64 R.rd, .int .i64 R.se, .int .i64 R.li, .int .i64 R.he, .int .i64 R.la.c, .int .i64 R.la.r, .int .i64 R.la.q, .int .i64 R.la.a, .int .i64 R.la.b, .slice uq.ws.a uq.ws.n uq.ws.c] rfl (by simp) Try.sizeM rfl [.int .i64 R.id, .int .i64 R.rid, .slice uq.ms.a uq.ms.n uq.ms.c, .slice uq.its.a uq.its.n uq.its.c, .slice uq.lv.a uq.lv.n uq.lv.c, .slice uq.tx.a uq.tx.n uq.tx.c, .int .i64 R.rd, .int .i64 R.se, .int .i64 R.li, .int .i64 R.he, .int .i64 R.la.c, .int .i64 R.la.r, .int .i64 R.la.q, .int .i64 R.la.a, .int .i64 R.la.b, .slice uq.ws.a uq.ws.n uq.ws.c] rfl ?_
      intro we OB TB
      try go_wp2_with fail
      go_meet
      exact ⟨_, uq, rfl, OB, (oq.past ba TB (by decide) (by decide) (by decide)).down (by omega), by omega, c.trans (TB.below (by omega))⟩
  case rest =>
  obtain ⟨gG, uG, rfl, hbx, hmo, zz, b⟩ := hcut
  generalize wc = WG at *
  have HA : Hid (Bx WG w.heap.size 67 [.int .i64 m.id, .int .i64 m.rid, .slice v.ms.a v.ms.n v.ms.c, .slice v.its.a v.its.n v.its.c, .slice v.lv.a v.lv.n v.lv.c, .slice v.tx.a v.tx.n v.tx.c, .int .i64 m.rd, .int .i64 m.se, .int .i64 m.li, .int .i64 m.he, .int .i64 m.la.c, .int .i64 m.la.r, .int .i64 m.la.q, .int .i64 m.la.a, .int .i64 m.la.b, .slice v.ws.a v.ws.n v.ws.c]) := HA.out.later b
  have HX : Hid (Bx WG (w.heap.size + 1) 72 [.int .i64 q, .int .i64 f, .int .i64 l, .string t]) := HX.out.later b
  have HB0 : Hid (Below w.heap.size w WG) := bl_next HB0.out b
  have HR : Hid (MtR WG m v) := HR.out.stays b
  have hKO : Hid (MtO WG w1b.heap.size R uK) := hKO.out.later b
  have WKB : Hid (Bx WG gK 32 [.int .i64 R.id, .int .i64 R.rid, .slice uK.ms.a uK.ms.n uK.ms.c, .slice uK.its.a uK.its.n uK.its.c, .slice uK.lv.a uK.lv.n uK.lv.c, .slice uK.tx.a uK.tx.n uK.tx.c, .int .i64 R.rd, .int .i64 R.se, .int .i64 R.li, .int .i64 R.he, .int .i64 R.la.c, .int .i64 R.la.r, .int .i64 R.la.q, .int .i64 R.la.a, .int .i64 R.la.b, .slice uK.ws.a uK.ws.n uK.ws.c]) := WKB.out.later b
  have WXB : Hid (Bx WG gX 32 [.int .i64 m.id, .int .i64 m.rid, .slice uX.ms.a uX.ms.n uX.ms.c, .slice uX.its.a uX.its.n uX.its.c, .slice uX.lv.a uX.lv.n uX.lv.c, .slice uX.tx.a uX.tx.n uX.tx.c, .int .i64 m.rd, .int .i64 m.se, .int .i64 m.li, .int .i64 m.he, .int .i64 m.la.c, .int .i64 m.la.r, .int .i64 m.la.q, .int .i64 m.la.a, .int .i64 m.la.b, .slice uX.ws.a uX.ws.n uX.ws.c]) := WXB.out.later b
  have hXO : Hid (MtO WG WK.heap.size m uX) := hXO.out.later b
  have WGB : Hid (Bx WG gG 32 [.int .i64 R.id, .int .i64 R.rid, .slice uG.ms.a uG.ms.n uG.ms.c, .slice uG.its.a uG.its.n uG.its.c, .slice uG.lv.a uG.lv.n uG.lv.c, .slice uG.tx.a uG.tx.n uG.tx.c, .int .i64 R.rd, .int .i64 R.se, .int .i64 R.li, .int .i64 R.he, .int .i64 R.la.c, .int .i64 R.la.r, .int .i64 R.la.q, .int .i64 R.la.a, .int .i64 R.la.b, .slice uG.ws.a uG.ws.n uG.ws.c]) := hbx
  have hGO : Hid (MtO WG WX.heap.size R uG) := hmo
  have GL : Hid (∀ k, uG.own k → WX.heap.size ≤ k ∧ k < WG.heap.size) := fun k hk => hmo.lt hk
  have zG : gG < WG.heap.size := WGB.out.lt
  have zG1 : WX.heap.size ≤ gG := zz
  clear hbx hmo zz b
  go_wp2_with (first | (refine wpList_ldG rfl 32 _ rfl (gG) 0 rfl 32 _ WGB.out [.int .i64 R.id, .int .i64 R.rid, .slice uG.ms.a uG.ms.n uG.ms.c, .slice uG.its.a uG.its.n uG.its.c, .slice uG.lv.a uG.lv.n uG.lv.c, .slice uG.tx.a uG.tx.n uG.tx.c, .int .i64 R.rd, .int .i64 R.se, .int .i64 R.li, .int .i64 R.he, .int .i64 R.la.c, .int .i64 R.la.r, .int .i64 R.la.q, .int .i64 R.la.a, .int .i64 R.la.b, .slice uG.ws.a uG.ws.n uG.ws.c] rfl _ Try.underlying32 rfl Try.sizeM ?_) | (refine wpList_ldG rfl 32 _ rfl (gK) 0 rfl 32 _ WKB.out [.int .i64 R.id, .int .i64 R.rid, .slice uK.ms.a uK.ms.n uK.ms.c, .slice uK.its.a uK.its.n uK.its.c, .slice uK.lv.a uK.lv.n uK.lv.c, .slice uK.tx.a uK.tx.n uK.tx.c, .int .i64 R.rd, .int .i64 R.se, .int .i64 R.li, .int .i64 R.he, .int .i64 R.la.c, .int .i64 R.la.r, .int .i64 R.la.q, .int .i64 R.la.a, .int .i64 R.la.b, .slice uK.ws.a uK.ws.n uK.ws.c] rfl _ Try.underlying32 rfl Try.sizeM ?_))
  refine (eqMate_same R uG uK WX.heap.size w1b.heap.size _ hGO hKO hsR).mono ?_
  rintro e w6 ⟨rfl, b⟩
  have HA : Hid (Bx w6 w.heap.size 67 [.int .i64 m.id, .int .i64 m.rid, .slice v.ms.a v.ms.n v.ms.c, .slice v.its.a v.its.n v.its.c, .slice v.lv.a v.lv.n v.lv.c, .slice v.tx.a v.tx.n v.tx.c, .int .i64 m.rd, .int .i64 m.se, .int .i64 m.li, .int .i64 m.he, .int .i64 m.la.c, .int .i64 m.la.r, .int .i64 m.la.q, .int .i64 m.la.a, .int .i64 m.la.b, .slice v.ws.a v.ws.n v.ws.c]) := HA.out.later b
  have HX : Hid (Bx w6 (w.heap.size + 1) 72 [.int .i64 q, .int .i64 f, .int .i64 l, .string t]) := HX.out.later b
  have HB0 : Hid (Below w.heap.size w w6) := bl_next HB0.out b
  have HR : Hid (MtR w6 m v) := HR.out.stays b
  have hKO : Hid (MtO w6 w1b.heap.size R uK) := hKO.out.later b
  have WKB : Hid (Bx w6 gK 32 [.int .i64 R.id, .int .i64 R.rid, .slice uK.ms.a uK.ms.n uK.ms.c, .slice uK.its.a uK.its.n uK.its.c, .slice uK.lv.a uK.lv.n uK.lv.c, .slice uK.tx.a uK.tx.n uK.tx.c, .int .i64 R.rd, .int .i64 R.se, .int .i64 R.li, .int .i64 R.he, .int .i64 R.la.c, .int .i64 R.la.r, .int .i64 R.la.q, .int .i64 R.la.a, .int .i64 R.la.b, .slice uK.ws.a uK.ws.n uK.ws.c]) := WKB.out.later b
  have WXB : Hid (Bx w6 gX 32 [.int .i64 m.id, .int .i64 m.rid, .slice uX.ms.a uX.ms.n uX.ms.c, .slice uX.its.a uX.its.n uX.its.c, .slice uX.lv.a uX.lv.n uX.lv.c, .slice uX.tx.a uX.tx.n uX.tx.c, .int .i64 m.rd, .int .i64 m.se, .int .i64 m.li, .int .i64 m.he, .int .i64 m.la.c, .int .i64 m.la.r, .int .i64 m.la.q, .int .i64 m.la.a, .int .i64 m.la.b, .slice uX.ws.a uX.ws.n uX.ws.c]) := WXB.out.later b
  have hXO : Hid (MtO w6 WK.heap.size m uX) := hXO.out.later b
  have hGO : Hid (MtO w6 WX.heap.size R uG) := hGO.out.later b
  have WGB : Hid (Bx w6 gG 32 [.int .i64 R.id, .int .i64 R.rid, .slice uG.ms.a uG.ms.n uG.ms.c, .slice uG.its.a uG.its.n uG.its.c, .slice uG.lv.a uG.lv.n uG.lv.c, .slice uG.tx.a uG.tx.n uG.tx.c, .int .i64 R.rd, .int .i64 R.se, .int .i64 R.li, .int .i64 R.he, .int .i64 R.la.c, .int .i64 R.la.r, .int .i64 R.la.q, .int .i64 R.la.a, .int .i64 R.la.b, .slice uG.ws.a uG.ws.n uG.ws.c]) := WGB.out.later b
  clear b
  go_wp2_with fail
  refine wp_region_held_drew (S := fun w' => Below w6.heap.size w6 w') (by kernel_rfl) (Below.refl _ _).drew (fun hHeld => ?_)
  refine wpAnyH_take (i := 0) (v := _) rfl (by kernel_rfl) (by kernel_rfl) (by kernel_rfl) (fun _ _ _ h => h) (ld_yield (by rfl) 32 _ rfl gX 0 rfl 32 _ (fun w hS => WXB.out.later hS) [.int .i64 m.id, .int .i64 m.rid, .slice uX.ms.a uX.ms.n uX.ms.c, .slice uX.its.a uX.its.n uX.its.c, .slice uX.lv.a uX.lv.n uX.lv.c, .slice uX.tx.a uX.tx.n uX.tx.c, .int .i64 m.rd, .int .i64 m.se, .int .i64 m.li, .int .i64 m.he, .int .i64 m.la.c, .int .i64 m.la.r, .int .i64 m.la.q, .int .i64 m.la.a, .int .i64 m.la.b, .slice uX.ws.a uX.ws.n uX.ws.c] rfl _ Try.underlying32 rfl Try.sizeM) (by assumption) ?_
  try simp only [Act.put, List.getElem_toArray, List.getElem_cons_zero, List.getElem_cons_succ, List.setIfInBounds_toArray, List.set_cons_zero, List.set_cons_succ]
  refine wpAnyH_take (i := 1) (v := _) rfl (by kernel_rfl) (by kernel_rfl) (by kernel_rfl) (fun _ _ _ h => h) (ld_yield (by rfl) 67 _ rfl w.heap.size 0 rfl 67 _ (fun w hS => HA.out.later hS) [.int .i64 m.id, .int .i64 m.rid, .slice v.ms.a v.ms.n v.ms.c, .slice v.its.a v.its.n v.its.c, .slice v.lv.a v.lv.n v.lv.c, .slice v.tx.a v.tx.n v.tx.c, .int .i64 m.rd, .int .i64 m.se, .int .i64 m.li, .int .i64 m.he, .int .i64 m.la.c, .int .i64 m.la.r, .int .i64 m.la.q, .int .i64 m.la.a, .int .i64 m.la.b, .slice v.ws.a v.ws.n v.ws.c] rfl _ Try.underlying67 rfl Try.sizeL) (by assumption) ?_
  try simp only [Act.put, List.getElem_toArray, List.getElem_cons_zero, List.getElem_cons_succ, List.setIfInBounds_toArray, List.set_cons_zero, List.set_cons_succ]
  refine wpAnyH_ready (rs := [2]) (by kernel_rfl) (by simp) ?_
  refine AllReadyH.cons (i := 2) rfl (fun K hK => ?_) AllReadyH.nil
  rw [if_pos (by rfl)]
  simp only [List.getElem_toArray, List.getElem_cons_zero, List.getElem_cons_succ]
  go_simp
  refine (toMate_any m v _ (show Hid (MtR w6.drew m v) from HR.out.stays (Below.refl _ _).drew) hs).mono ?_
  rintro e w7 ⟨u7, rfl, o7, b7⟩
  have c7 : Below w6.heap.size w6 w7 := (Below.refl w6.heap.size w6).drew.trans b7
  refine hK.out _ _ (c7) (fun hHeld => ?_)
  clear hK K
  try simp only [Act.put, List.getElem_toArray, List.getElem_cons_zero, List.getElem_cons_succ, List.setIfInBounds_toArray, List.set_cons_zero, List.set_cons_succ]
  refine wpAnyH_ready (rs := [3]) (by kernel_rfl) (by simp) ?_
  refine AllReadyH.cons (i := 3) rfl (fun K hK => ?_) AllReadyH.nil
  rw [if_pos (by rfl)]
  simp only [List.getElem_toArray, List.getElem_cons_zero, List.getElem_cons_succ]
  go_simp
  refine (eqMate_same m uX u7 WK.heap.size _ _ (show Hid (MtO w7 _ m uX) from hXO.out.later c7) (show Hid (MtO w7 _ m u7) from o7) hs).mono ?_
  rintro e w8 ⟨rfl, b8⟩
  have c8 : Below w6.heap.size w6 w8 := bl_next c7 b8
  refine hK.out _ _ (c8) (fun hHeld => ?_)
  clear hK K
  try simp only [Act.put, List.getElem_toArray, List.getElem_cons_zero, List.getElem_cons_succ, List.setIfInBounds_toArray, List.set_cons_zero, List.set_cons_succ]
  refine wpAnyH_take (i := 4) (v := ?v4) rfl (by kernel_rfl) (by kernel_rfl) (by kernel_rfl) (fun _ _ _ h => h) (Or.inl ⟨by rfl, ?hy4⟩) (by assumption) ?_
  case hy4 => (intro w hSw; (try dsimp only at hSw); simp only [List.getElem_toArray, List.getElem_cons_zero, List.getElem_cons_succ]; go_simp; try with_reducible rfl)
  try simp only [Act.put, List.getElem_toArray, List.getElem_cons_zero, List.getElem_cons_succ, List.setIfInBounds_toArray, List.set_cons_zero, List.set_cons_succ]
  refine wpAnyH_done (by kernel_rfl) ?_ _
  have HA : Hid (Bx w8 w.heap.size 67 [.int .i64 m.id, .int .i64 m.rid, .slice v.ms.a v.ms.n v.ms.c, .slice v.its.a v.its.n v.its.c, .slice v.lv.a v.lv.n v.lv.c, .slice v.tx.a v.tx.n v.tx.c, .int .i64 m.rd, .int .i64 m.se, .int .i64 m.li, .int .i64 m.he, .int .i64 m.la.c, .int .i64 m.la.r, .int .i64 m.la.q, .int .i64 m.la.a, .int .i64 m.la.b, .slice v.ws.a v.ws.n v.ws.c]) := HA.out.later c8
  have HX : Hid (Bx w8 (w.heap.size + 1) 72 [.int .i64 q, .int .i64 f, .int .i64 l, .string t]) := HX.out.later c8
  have HB0 : Hid (Below w.heap.size w w8) := bl_next HB0.out c8
  have HR : Hid (MtR w8 m v) := HR.out.stays c8
  have hKO : Hid (MtO w8 w1b.heap.size R uK) := hKO.out.later c8
  have WKB : Hid (Bx w8 gK 32 [.int .i64 R.id, .int .i64 R.rid, .slice uK.ms.a uK.ms.n uK.ms.c, .slice uK.its.a uK.its.n uK.its.c, .slice uK.lv.a uK.lv.n uK.lv.c, .slice uK.tx.a uK.tx.n uK.tx.c, .int .i64 R.rd, .int .i64 R.se, .int .i64 R.li, .int .i64 R.he, .int .i64 R.la.c, .int .i64 R.la.r, .int .i64 R.la.q, .int .i64 R.la.a, .int .i64 R.la.b, .slice uK.ws.a uK.ws.n uK.ws.c]) := WKB.out.later c8
  have WXB : Hid (Bx w8 gX 32 [.int .i64 m.id, .int .i64 m.rid, .slice uX.ms.a uX.ms.n uX.ms.c, .slice uX.its.a uX.its.n uX.its.c, .slice uX.lv.a uX.lv.n uX.lv.c, .slice uX.tx.a uX.tx.n uX.tx.c, .int .i64 m.rd, .int .i64 m.se, .int .i64 m.li, .int .i64 m.he, .int .i64 m.la.c, .int .i64 m.la.r, .int .i64 m.la.q, .int .i64 m.la.a, .int .i64 m.la.b, .slice uX.ws.a uX.ws.n uX.ws.c]) := WXB.out.later c8
  have hXO : Hid (MtO w8 WK.heap.size m uX) := hXO.out.later c8
  have hGO : Hid (MtO w8 WX.heap.size R uG) := hGO.out.later c8
  have WGB : Hid (Bx w8 gG 32 [.int .i64 R.id, .int .i64 R.rid, .slice uG.ms.a uG.ms.n uG.ms.c, .slice uG.its.a uG.its.n uG.its.c, .slice uG.lv.a uG.lv.n uG.lv.c, .slice uG.tx.a uG.tx.n uG.tx.c, .int .i64 R.rd, .int .i64 R.se, .int .i64 R.li, .int .i64 R.he, .int .i64 R.la.c, .int .i64 R.la.r, .int .i64 R.la.q, .int .i64 R.la.a, .int .i64 R.la.b, .slice uG.ws.a uG.ws.n uG.ws.c]) := WGB.out.later c8
  clear c8 b8 c7 o7 b7 hHeld
  go_wp2_with (first | (refine wpList_ldG rfl 32 _ rfl (gX) 0 rfl 32 _ WXB.out [.int .i64 m.id, .int .i64 m.rid, .slice uX.ms.a uX.ms.n uX.ms.c, .slice uX.its.a uX.its.n uX.its.c, .slice uX.lv.a uX.lv.n uX.lv.c, .slice uX.tx.a uX.tx.n uX.tx.c, .int .i64 m.rd, .int .i64 m.se, .int .i64 m.li, .int .i64 m.he, .int .i64 m.la.c, .int .i64 m.la.r, .int .i64 m.la.q, .int .i64 m.la.a, .int .i64 m.la.b, .slice uX.ws.a uX.ws.n uX.ws.c] rfl _ Try.underlying32 rfl Try.sizeM ?_))
  refine (markMate_any m uX WK.heap.size 1 _ hXO (endM_le hs.out) (by omega)).mono ?_
  rintro e w9 ⟨rfl, _, G9⟩
  have HB0 : Hid (Below w.heap.size w w9) := HB0.out.trans (G9.below (fun k hk => by have := (XL.out k hk).1; omega) HB0.out.size)
  have HA : Hid (Bx w9 w.heap.size 67 [.int .i64 m.id, .int .i64 m.rid, .slice v.ms.a v.ms.n v.ms.c, .slice v.its.a v.its.n v.its.c, .slice v.lv.a v.lv.n v.lv.c, .slice v.tx.a v.tx.n v.tx.c, .int .i64 m.rd, .int .i64 m.se, .int .i64 m.li, .int .i64 m.he, .int .i64 m.la.c, .int .i64 m.la.r, .int .i64 m.la.q, .int .i64 m.la.a, .int .i64 m.la.b, .slice v.ws.a v.ws.n v.ws.c]) := (G9.block _ HA.out.lt (fun hk => by have := (XL.out _ hk).1; omega)).trans HA.out
  have HX : Hid (Bx w9 (w.heap.size + 1) 72 [.int .i64 q, .int .i64 f, .int .i64 l, .string t]) := (G9.block _ HX.out.lt (fun hk => by have := (XL.out _ hk).1; omega)).trans HX.out
  have HR : Hid (MtR w9 m v) := h.out.stays HB0.out
  have WKB : Hid (Bx w9 gK 32 [.int .i64 R.id, .int .i64 R.rid, .slice uK.ms.a uK.ms.n uK.ms.c, .slice uK.its.a uK.its.n uK.its.c, .slice uK.lv.a uK.lv.n uK.lv.c, .slice uK.tx.a uK.tx.n uK.tx.c, .int .i64 R.rd, .int .i64 R.se, .int .i64 R.li, .int .i64 R.he, .int .i64 R.la.c, .int .i64 R.la.r, .int .i64 R.la.q, .int .i64 R.la.a, .int .i64 R.la.b, .slice uK.ws.a uK.ws.n uK.ws.c]) := (G9.block _ WKB.out.lt (fun hk => by have := (XL.out _ hk).1; omega)).trans WKB.out
  have hKO : Hid (MtO w9 w1b.heap.size R uK) := hKO.out.keep (fun k hk hlt => G9.block k hlt (fun h2 => by have := (XL.out _ h2).1; have := KL.out k hk; omega))
  have WGB : Hid (Bx w9 gG 32 [.int .i64 R.id, .int .i64 R.rid, .slice uG.ms.a uG.ms.n uG.ms.c, .slice uG.its.a uG.its.n uG.its.c, .slice uG.lv.a uG.lv.n uG.lv.c, .slice uG.tx.a uG.tx.n uG.tx.c, .int .i64 R.rd, .int .i64 R.se, .int .i64 R.li, .int .i64 R.he, .int .i64 R.la.c, .int .i64 R.la.r, .int .i64 R.la.q, .int .i64 R.la.a, .int .i64 R.la.b, .slice uG.ws.a uG.ws.n uG.ws.c]) := (G9.block _ WGB.out.lt (fun hk => by have := (XL.out _ hk).2; omega)).trans WGB.out
  have hGO : Hid (MtO w9 WX.heap.size R uG) := hGO.out.keep (fun k hk hlt => G9.block k hlt (fun h2 => by have := (XL.out _ h2).2; have := (GL.out k hk).1; omega))
  obtain ⟨z9, hz9⟩ : ∃ z9 : Nat, endM 1 m = z9 := ⟨_, rfl⟩
  rw [hz9]
  have hz9 : decide ((z9 : Int) < 0) = false := by simp
  clear WXB hXO G9
  go_wp2_with (first | (refine wpList_ldG rfl 32 _ rfl (gG) 0 rfl 32 _ WGB.out [.int .i64 R.id, .int .i64 R.rid, .slice uG.ms.a uG.ms.n uG.ms.c, .slice uG.its.a uG.its.n uG.its.c, .slice uG.lv.a uG.lv.n uG.lv.c, .slice uG.tx.a uG.tx.n uG.tx.c, .int .i64 R.rd, .int .i64 R.se, .int .i64 R.li, .int .i64 R.he, .int .i64 R.la.c, .int .i64 R.la.r, .int .i64 R.la.q, .int .i64 R.la.a, .int .i64 R.la.b, .slice uG.ws.a uG.ws.n uG.ws.c] rfl _ Try.underlying32 rfl Try.sizeM ?_) | (refine wpList_ldG rfl 32 _ rfl (gK) 0 rfl 32 _ WKB.out [.int .i64 R.id, .int .i64 R.rid, .slice uK.ms.a uK.ms.n uK.ms.c, .slice uK.its.a uK.its.n uK.its.c, .slice uK.lv.a uK.lv.n uK.lv.c, .slice uK.tx.a uK.tx.n uK.tx.c, .int .i64 R.rd, .int .i64 R.se, .int .i64 R.li, .int .i64 R.he, .int .i64 R.la.c, .int .i64 R.la.r, .int .i64 R.la.q, .int .i64 R.la.a, .int .i64 R.la.b, .slice uK.ws.a uK.ws.n uK.ws.c] rfl _ Try.underlying32 rfl Try.sizeM ?_))
  refine (eqMate_same R uG uK WX.heap.size w1b.heap.size _ hGO hKO hsR).mono ?_
  rintro e w10 ⟨rfl, b⟩
  have HA : Hid (Bx w10 w.heap.size 67 [.int .i64 m.id, .int .i64 m.rid, .slice v.ms.a v.ms.n v.ms.c, .slice v.its.a v.its.n v.its.c, .slice v.lv.a v.lv.n v.lv.c, .slice v.tx.a v.tx.n v.tx.c, .int .i64 m.rd, .int .i64 m.se, .int .i64 m.li, .int .i64 m.he, .int .i64 m.la.c, .int .i64 m.la.r, .int .i64 m.la.q, .int .i64 m.la.a, .int .i64 m.la.b, .slice v.ws.a v.ws.n v.ws.c]) := HA.out.later b
  have HX : Hid (Bx w10 (w.heap.size + 1) 72 [.int .i64 q, .int .i64 f, .int .i64 l, .string t]) := HX.out.later b
  have HB0 : Hid (Below w.heap.size w w10) := bl_next HB0.out b
  have HR : Hid (MtR w10 m v) := HR.out.stays b
  have hKO : Hid (MtO w10 w1b.heap.size R uK) := hKO.out.later b
  have WKB : Hid (Bx w10 gK 32 [.int .i64 R.id, .int .i64 R.rid, .slice uK.ms.a uK.ms.n uK.ms.c, .slice uK.its.a uK.its.n uK.its.c, .slice uK.lv.a uK.lv.n uK.lv.c, .slice uK.tx.a uK.tx.n uK.tx.c, .int .i64 R.rd, .int .i64 R.se, .int .i64 R.li, .int .i64 R.he, .int .i64 R.la.c, .int .i64 R.la.r, .int .i64 R.la.q, .int .i64 R.la.a, .int .i64 R.la.b, .slice uK.ws.a uK.ws.n uK.ws.c]) := WKB.out.later b
  have hGO : Hid (MtO w10 WX.heap.size R uG) := hGO.out.later b
  have WGB : Hid (Bx w10 gG 32 [.int .i64 R.id, .int .i64 R.rid, .slice uG.ms.a uG.ms.n uG.ms.c, .slice uG.its.a uG.its.n uG.its.c, .slice uG.lv.a uG.lv.n uG.lv.c, .slice uG.tx.a uG.tx.n uG.tx.c, .int .i64 R.rd, .int .i64 R.se, .int .i64 R.li, .int .i64 R.he, .int .i64 R.la.c, .int .i64 R.la.r, .int .i64 R.la.q, .int .i64 R.la.a, .int .i64 R.la.b, .slice uG.ws.a uG.ws.n uG.ws.c]) := WGB.out.later b
  clear b
  clear hz9
  go_wp2_with (first | (refine wpList_ldG rfl 32 _ rfl (gG) 0 rfl 32 _ WGB.out [.int .i64 R.id, .int .i64 R.rid, .slice uG.ms.a uG.ms.n uG.ms.c, .slice uG.its.a uG.its.n uG.its.c, .slice uG.lv.a uG.lv.n uG.lv.c, .slice uG.tx.a uG.tx.n uG.tx.c, .int .i64 R.rd, .int .i64 R.se, .int .i64 R.li, .int .i64 R.he, .int .i64 R.la.c, .int .i64 R.la.r, .int .i64 R.la.q, .int .i64 R.la.a, .int .i64 R.la.b, .slice uG.ws.a uG.ws.n uG.ws.c] rfl _ Try.underlying32 rfl Try.sizeM ?_))
  refine (markMate_any R uG WX.heap.size 1 _ hGO (endM_le hsR.out) (by omega)).mono ?_
  rintro e w11 ⟨rfl, hv, G⟩
  have HB0 : Hid (Below w.heap.size w w11) := HB0.out.trans (G.below (fun k hk => by have := (GL.out k hk).1; omega) HB0.out.size)
  have HA : Hid (Bx w11 w.heap.size 67 [.int .i64 m.id, .int .i64 m.rid, .slice v.ms.a v.ms.n v.ms.c, .slice v.its.a v.its.n v.its.c, .slice v.lv.a v.lv.n v.lv.c, .slice v.tx.a v.tx.n v.tx.c, .int .i64 m.rd, .int .i64 m.se, .int .i64 m.li, .int .i64 m.he, .int .i64 m.la.c, .int .i64 m.la.r, .int .i64 m.la.q, .int .i64 m.la.a, .int .i64 m.la.b, .slice v.ws.a v.ws.n v.ws.c]) := (G.block _ HA.out.lt (fun hk => by have := (GL.out _ hk).1; omega)).trans HA.out
  have HX : Hid (Bx w11 (w.heap.size + 1) 72 [.int .i64 q, .int .i64 f, .int .i64 l, .string t]) := (G.block _ HX.out.lt (fun hk => by have := (GL.out _ hk).1; omega)).trans HX.out
  have HR : Hid (MtR w11 m v) := h.out.stays HB0.out
  have WKB : Hid (Bx w11 gK 32 [.int .i64 R.id, .int .i64 R.rid, .slice uK.ms.a uK.ms.n uK.ms.c, .slice uK.its.a uK.its.n uK.its.c, .slice uK.lv.a uK.lv.n uK.lv.c, .slice uK.tx.a uK.tx.n uK.tx.c, .int .i64 R.rd, .int .i64 R.se, .int .i64 R.li, .int .i64 R.he, .int .i64 R.la.c, .int .i64 R.la.r, .int .i64 R.la.q, .int .i64 R.la.a, .int .i64 R.la.b, .slice uK.ws.a uK.ws.n uK.ws.c]) := (G.block _ WKB.out.lt (fun hk => by have := (GL.out _ hk).1; omega)).trans WKB.out
  have hKO : Hid (MtO w11 w1b.heap.size R uK) := hKO.out.keep (fun k hk hlt => G.block k hlt (fun h2 => by have := (GL.out _ h2).1; have := KL.out k hk; omega))
  have WGB : Hid (Bx w11 gG 32 [.int .i64 R.id, .int .i64 R.rid, .slice uG.ms.a uG.ms.n uG.ms.c, .slice uG.its.a uG.its.n uG.its.c, .slice uG.lv.a uG.lv.n uG.lv.c, .slice uG.tx.a uG.tx.n uG.tx.c, .int .i64 R.rd, .int .i64 R.se, .int .i64 R.li, .int .i64 R.he, .int .i64 R.la.c, .int .i64 R.la.r, .int .i64 R.la.q, .int .i64 R.la.a, .int .i64 R.la.b, .slice uG.ws.a uG.ws.n uG.ws.c]) := (G.block _ WGB.out.lt (fun hk => hGO.out.off WGB.out (by decide) (by decide) (by decide) hk)).trans WGB.out
  have hGO : Hid (MtO w11 WX.heap.size (markM 1 R) uG) := hv
  clear hv G
  obtain ⟨M, hM⟩ : ∃ M : Nat, endM 1 R = M := ⟨_, rfl⟩
  rw [hM]
  have HM : Hid (endM 1 R = M) := hM
  have hM0 : decide ((M : Int) < 0) = false := by simp
  clear hM
  go_wp2_with (first | (refine wpList_ldG rfl 32 _ rfl (gG) 0 rfl 32 _ WGB.out [.int .i64 R.id, .int .i64 R.rid, .slice uG.ms.a uG.ms.n uG.ms.c, .slice uG.its.a uG.its.n uG.its.c, .slice uG.lv.a uG.lv.n uG.lv.c, .slice uG.tx.a uG.tx.n uG.tx.c, .int .i64 R.rd, .int .i64 R.se, .int .i64 R.li, .int .i64 R.he, .int .i64 R.la.c, .int .i64 R.la.r, .int .i64 R.la.q, .int .i64 R.la.a, .int .i64 R.la.b, .slice uG.ws.a uG.ws.n uG.ws.c] rfl _ Try.underlying32 rfl Try.sizeM ?_))
  refine (heldMate_any R uG WX.heap.size 1 _ hGO (endM_le hsR.out) (by omega)).mono ?_
  rintro e w12 ⟨rfl, b⟩
  rw [HM.out]
  have HA : Hid (Bx w12 w.heap.size 67 [.int .i64 m.id, .int .i64 m.rid, .slice v.ms.a v.ms.n v.ms.c, .slice v.its.a v.its.n v.its.c, .slice v.lv.a v.lv.n v.lv.c, .slice v.tx.a v.tx.n v.tx.c, .int .i64 m.rd, .int .i64 m.se, .int .i64 m.li, .int .i64 m.he, .int .i64 m.la.c, .int .i64 m.la.r, .int .i64 m.la.q, .int .i64 m.la.a, .int .i64 m.la.b, .slice v.ws.a v.ws.n v.ws.c]) := HA.out.later b
  have HX : Hid (Bx w12 (w.heap.size + 1) 72 [.int .i64 q, .int .i64 f, .int .i64 l, .string t]) := HX.out.later b
  have HB0 : Hid (Below w.heap.size w w12) := bl_next HB0.out b
  have HR : Hid (MtR w12 m v) := HR.out.stays b
  have hKO : Hid (MtO w12 w1b.heap.size R uK) := hKO.out.later b
  have WKB : Hid (Bx w12 gK 32 [.int .i64 R.id, .int .i64 R.rid, .slice uK.ms.a uK.ms.n uK.ms.c, .slice uK.its.a uK.its.n uK.its.c, .slice uK.lv.a uK.lv.n uK.lv.c, .slice uK.tx.a uK.tx.n uK.tx.c, .int .i64 R.rd, .int .i64 R.se, .int .i64 R.li, .int .i64 R.he, .int .i64 R.la.c, .int .i64 R.la.r, .int .i64 R.la.q, .int .i64 R.la.a, .int .i64 R.la.b, .slice uK.ws.a uK.ws.n uK.ws.c]) := WKB.out.later b
  have hGO : Hid (MtO w12 WX.heap.size (markM 1 R) uG) := hGO.out.later b
  have WGB : Hid (Bx w12 gG 32 [.int .i64 R.id, .int .i64 R.rid, .slice uG.ms.a uG.ms.n uG.ms.c, .slice uG.its.a uG.its.n uG.its.c, .slice uG.lv.a uG.lv.n uG.lv.c, .slice uG.tx.a uG.tx.n uG.tx.c, .int .i64 R.rd, .int .i64 R.se, .int .i64 R.li, .int .i64 R.he, .int .i64 R.la.c, .int .i64 R.la.r, .int .i64 R.la.q, .int .i64 R.la.a, .int .i64 R.la.b, .slice uG.ws.a uG.ws.n uG.ws.c]) := WGB.out.later b
  clear b
  go_wp2_with fail
  go_cut [12] (fun ux_ wx => ∃ (gq : Nat) (uq : Mv), ux_ = .pointer (some ⟨gq, 0, none⟩) ∧ Bx wx gq 32 [.int .i64 R.id, .int .i64 R.rid, .slice uq.ms.a uq.ms.n uq.ms.c, .slice uq.its.a uq.its.n uq.its.c, .slice uq.lv.a uq.lv.n uq.lv.c, .slice uq.tx.a uq.tx.n uq.tx.c, .int .i64 R.rd, .int .i64 R.se, .int .i64 R.li, .int .i64 R.he, .int .i64 R.la.c, .int .i64 R.la.r, .int .i64 R.la.q, .int .i64 R.la.a, .int .i64 R.la.b, .slice uq.ws.a uq.ws.n uq.ws.c] ∧ MtO wx w12.heap.size R uq ∧ w12.heap.size ≤ gq ∧ Below w12.heap.size w12 wx)
  case first =>
    have c : Below w12.heap.size w12 w12.drew := (Below.refl _ _).drew
    refine wp_region_heldLast (S := fun w' => Below w12.heap.size w12 w') _ (by simp) (by kernel_rfl) (by rfl) (by rfl) (by kernel_rfl) (by kernel_rfl) c (fun hHeld => ?_)
    simp only [List.dropLast_cons_cons, List.dropLast_singleton, List.getLast_cons_cons, List.getLast_singleton, List.cons_append, List.nil_append, List.length_cons, List.length_nil]
    refine wpAnyH_take (i := 0) (v := _) rfl (by kernel_rfl) (by kernel_rfl) (by kernel_rfl) (fun _ _ _ h => h) (ld_yield (by rfl) 67 _ rfl w.heap.size 0 rfl 67 _ (fun w hS => HA.out.later hS) [.int .i64 m.id, .int .i64 m.rid, .slice v.ms.a v.ms.n v.ms.c, .slice v.its.a v.its.n v.its.c, .slice v.lv.a v.lv.n v.lv.c, .slice v.tx.a v.tx.n v.tx.c, .int .i64 m.rd, .int .i64 m.se, .int .i64 m.li, .int .i64 m.he, .int .i64 m.la.c, .int .i64 m.la.r, .int .i64 m.la.q, .int .i64 m.la.a, .int .i64 m.la.b, .slice v.ws.a v.ws.n v.ws.c] rfl _ Try.underlying67 rfl Try.sizeL) (by assumption) ?_
    try simp only [Act.put, List.getElem_toArray, List.getElem_cons_zero, List.getElem_cons_succ, List.setIfInBounds_toArray, List.set_cons_zero, List.set_cons_succ]
    refine wpAnyH_take (i := 2) (v := _) rfl (by kernel_rfl) (by kernel_rfl) (by kernel_rfl) (fun _ _ _ h => h) (ld_yield (by rfl) 72 _ rfl (w.heap.size + 1) 0 rfl 72 _ (fun w hS => HX.out.later hS) [.int .i64 q, .int .i64 f, .int .i64 l, .string t] rfl _ Try.underlying72 rfl Try.sizeLI) (by assumption) ?_
    try simp only [Act.put, List.getElem_toArray, List.getElem_cons_zero, List.getElem_cons_succ, List.setIfInBounds_toArray, List.set_cons_zero, List.set_cons_succ]
    refine wpAnyH_ready (rs := [1, 5]) (by kernel_rfl) (by simp) ?_
    refine (AllReadyH.cons (i := 1) rfl (fun K hK => ?_) (AllReadyH.cons (i := 5) rfl (fun K hK => ?_) AllReadyH.nil))
    · have := c.size
      rw [if_pos (by rfl)]
      simp only [List.getElem_toArray, List.getElem_cons_zero, List.getElem_cons_succ]
      go_simp
      refine (toMate_any m v _ (show Hid (MtR w12.drew m v) from HR.out.stays c) hs).mono ?_
      rintro e y1 ⟨um, rfl, om, b⟩
      have pm := om.p
      have c : Below w12.heap.size w12 y1 := bl_next c b
      refine hK.out _ _ (c) (fun hHeld => ?_)
      clear hK K
      try simp only [Act.put, List.getElem_toArray, List.getElem_cons_zero, List.getElem_cons_succ, List.setIfInBounds_toArray, List.set_cons_zero, List.set_cons_succ]
      clear b
      refine wpAnyH_ready (rs := [3, 5]) (by kernel_rfl) (by simp) ?_
      refine (AllReadyH.cons (i := 3) rfl (fun K hK => ?_) (AllReadyH.cons (i := 5) rfl (fun K hK => ?_) AllReadyH.nil))
      · have := c.size
        rw [if_pos (by rfl)]
        simp only [List.getElem_toArray, List.getElem_cons_zero, List.getElem_cons_succ]
        go_simp
        refine (toItem_any q f l t _).mono ?_
        rintro e y2 ⟨rfl, b⟩
        have pm := pm.later b
        have c : Below w12.heap.size w12 y2 := bl_next c b
        refine hK.out _ _ (c) (fun hHeld => ?_)
        clear hK K
        try simp only [Act.put, List.getElem_toArray, List.getElem_cons_zero, List.getElem_cons_succ, List.setIfInBounds_toArray, List.set_cons_zero, List.set_cons_succ]
        clear b
        refine wpAnyH_ready (rs := [4, 5]) (by kernel_rfl) (by simp) ?_
        refine (AllReadyH.cons (i := 4) rfl (fun K hK => ?_) (AllReadyH.cons (i := 5) rfl (fun K hK => ?_) AllReadyH.nil))
        · have := c.size
          rw [if_pos (by rfl)]
          simp only [List.getElem_toArray, List.getElem_cons_zero, List.getElem_cons_succ]
          go_simp
          refine (IMP.out um _ (show Hid (MtP y2 m um) from pm)).mono ?_
          rintro e y3 ⟨uq, rfl, oq, b⟩
          have zq : w12.heap.size ≤ y2.heap.size := c.size
          have c : Below w12.heap.size w12 y3 := bl_next c b
          refine hK.out _ _ (c) (fun hHeld => ?_)
          clear hK K
          try simp only [Act.put, List.getElem_toArray, List.getElem_cons_zero, List.getElem_cons_succ, List.setIfInBounds_toArray, List.set_cons_zero, List.set_cons_succ]
          clear b
          refine wpAnyH_ready (rs := [5]) (by kernel_rfl) (by simp) ?_
          refine AllReadyH.cons (i := 5) rfl (fun K hK => ?_) AllReadyH.nil
          rw [if_pos (by rfl)]
          simp only [List.getElem_toArray, List.getElem_cons_zero, List.getElem_cons_succ]
          go_simp
          have b : Below y3.heap.size y3 (y3.alloc (.cells #[.int .i64 0, .int .i64 0, .slice none 0 0, .slice none 0 0, .slice none 0 0, .slice none 0 0, .int .i64 0, .int .i64 0, .int .i64 0, .int .i64 0, .int .i64 0, .int .i64 0, .int .i64 0, .int .i64 0, .int .i64 0, .slice none 0 0] 32)) := (Below.refl _ _).alloc (Nat.le_refl _) _
          have ba : Bx (y3.alloc (.cells #[.int .i64 0, .int .i64 0, .slice none 0 0, .slice none 0 0, .slice none 0 0, .slice none 0 0, .int .i64 0, .int .i64 0, .int .i64 0, .int .i64 0, .int .i64 0, .int .i64 0, .int .i64 0, .int .i64 0, .int .i64 0, .slice none 0 0] 32)) y3.heap.size 32 [.int .i64 0, .int .i64 0, .slice none 0 0, .slice none 0 0, .slice none 0 0, .slice none 0 0, .int .i64 0, .int .i64 0, .int .i64 0, .int .i64 0, .int .i64 0, .int .i64 0, .int .i64 0, .int .i64 0, .int .i64 0, .slice none 0 0] := Bx.new y3 32 _
          have za : w12.heap.size ≤ y3.heap.size := c.size
          have oq := oq.later b
          have c : Below w12.heap.size w12 (y3.alloc (.cells #[.int .i64 0, .int .i64 0, .slice none 0 0, .slice none 0 0, .slice none 0 0, .slice none 0 0, .int .i64 0, .int .i64 0, .int .i64 0, .int .i64 0, .int .i64 0, .int .i64 0, .int .i64 0, .int .i64 0, .int .i64 0, .slice none 0 0] 32)) := bl_next c b
          refine hK.out _ _ (c) (fun hHeld => ?_)
          clear hK K
          try simp only [Act.put, List.getElem_toArray, List.getElem_cons_zero, List.getElem_cons_succ, List.setIfInBounds_toArray, List.set_cons_zero, List.set_cons_succ]
          clear b
          refine wpAnyH_take (i := 6) (v := ?v6) rfl (by kernel_rfl) (by kernel_rfl) (by kernel_rfl) (fun _ _ _ h => h) (Or.inl ⟨by rfl, ?hy6⟩) (by assumption) ?_
          case hy6 => (intro w hSw; (try dsimp only at hSw); simp only [List.getElem_toArray, List.getElem_cons_zero, List.getElem_cons_succ]; go_simp; try with_reducible rfl)
          try simp only [Act.put, List.getElem_toArray, List.getElem_cons_zero, List.getElem_cons_succ, List.setIfInBounds_toArray, List.set_cons_zero, List.set_cons_succ]
          refine wpAnyH_done (by kernel_rfl) ?_ _
          refine lastQ_of rfl rfl ?_
          refine wp_stB 32 _ _ rfl y3.heap.size 0 rfl 32 _ ba [.int .i64 R.id, .int .i64 R.rid, .slice uq.ms.a uq.ms.n uq.ms.c, .slice uq.its.a uq.its.n uq.its.c, .slice uq.lv.a uq.lv.n uq.lv.c, .slice uq.tx.a uq.tx.n uq.tx.c, .int .i64 R.rd, .int .i64 R.se, .int .i64 R.li, .int .i64 R.he, .int .i64 R.la.c, .int .i64 R.la.r, .int .i64 R.la.q, .int .i64 R.la.a, .int .i64 R.la.b, .slice uq.ws.a uq.ws.n uq.ws.c] rfl (by simp) Try.sizeM rfl [.int .i64 R.id, .int .i64 R.rid, .slice uq.ms.a uq.ms.n uq.ms.c, .slice uq.its.a uq.its.n uq.its.c, .slice uq.lv.a uq.lv.n uq.lv.c, .slice uq.tx.a uq.tx.n uq.tx.c, .int .i64 R.rd, .int .i64 R.se, .int .i64 R.li, .int .i64 R.he, .int .i64 R.la.c, .int .i64 R.la.r, .int .i64 R.la.q, .int .i64 R.la.a, .int .i64 R.la.b, .slice uq.ws.a uq.ws.n uq.ws.c] rfl ?_
          intro we OB TB
          try go_wp2_with fail
          go_meet
          exact ⟨_, uq, rfl, OB, (oq.past ba TB (by decide) (by decide) (by decide)).down (by omega), by omega, c.trans (TB.below (by omega))⟩
        · have := c.size
          rw [if_pos (by rfl)]
          simp only [List.getElem_toArray, List.getElem_cons_zero, List.getElem_cons_succ]
          go_simp
          have b : Below y2.heap.size y2 (y2.alloc (.cells #[.int .i64 0, .int .i64 0, .slice none 0 0, .slice none 0 0, .slice none 0 0, .slice none 0 0, .int .i64 0, .int .i64 0, .int .i64 0, .int .i64 0, .int .i64 0, .int .i64 0, .int .i64 0, .int .i64 0, .int .i64 0, .slice none 0 0] 32)) := (Below.refl _ _).alloc (Nat.le_refl _) _
          have ba : Bx (y2.alloc (.cells #[.int .i64 0, .int .i64 0, .slice none 0 0, .slice none 0 0, .slice none 0 0, .slice none 0 0, .int .i64 0, .int .i64 0, .int .i64 0, .int .i64 0, .int .i64 0, .int .i64 0, .int .i64 0, .int .i64 0, .int .i64 0, .slice none 0 0] 32)) y2.heap.size 32 [.int .i64 0, .int .i64 0, .slice none 0 0, .slice none 0 0, .slice none 0 0, .slice none 0 0, .int .i64 0, .int .i64 0, .int .i64 0, .int .i64 0, .int .i64 0, .int .i64 0, .int .i64 0, .int .i64 0, .int .i64 0, .slice none 0 0] := Bx.new y2 32 _
          have za : w12.heap.size ≤ y2.heap.size := c.size
          have pm := pm.later b
          have c : Below w12.heap.size w12 (y2.alloc (.cells #[.int .i64 0, .int .i64 0, .slice none 0 0, .slice none 0 0, .slice none 0 0, .slice none 0 0, .int .i64 0, .int .i64 0, .int .i64 0, .int .i64 0, .int .i64 0, .int .i64 0, .int .i64 0, .int .i64 0, .int .i64 0, .slice none 0 0] 32)) := bl_next c b
          refine hK.out _ _ (c) (fun hHeld => ?_)
          clear hK K
          try simp only [Act.put, List.getElem_toArray, List.getElem_cons_zero, List.getElem_cons_succ, List.setIfInBounds_toArray, List.set_cons_zero, List.set_cons_succ]
          clear b
          refine wpAnyH_ready (rs := [4]) (by kernel_rfl) (by simp) ?_
          refine AllReadyH.cons (i := 4) rfl (fun K hK => ?_) AllReadyH.nil
          rw [if_pos (by rfl)]
          simp only [List.getElem_toArray, List.getElem_cons_zero, List.getElem_cons_succ]
          go_simp
          refine (IMP.out um _ (show Hid (MtP (y2.alloc (.cells #[.int .i64 0, .int .i64 0, .slice none 0 0, .slice none 0 0, .slice none 0 0, .slice none 0 0, .int .i64 0, .int .i64 0, .int .i64 0, .int .i64 0, .int .i64 0, .int .i64 0, .int .i64 0, .int .i64 0, .int .i64 0, .slice none 0 0] 32)) m um) from pm)).mono ?_
          rintro e y6 ⟨uq, rfl, oq, b⟩
          have zq : w12.heap.size ≤ (y2.alloc (.cells #[.int .i64 0, .int .i64 0, .slice none 0 0, .slice none 0 0, .slice none 0 0, .slice none 0 0, .int .i64 0, .int .i64 0, .int .i64 0, .int .i64 0, .int .i64 0, .int .i64 0, .int .i64 0, .int .i64 0, .int .i64 0, .slice none 0 0] 32)).heap.size := c.size
          have ba := ba.later b
          have c : Below w12.heap.size w12 y6 := bl_next c b
          refine hK.out _ _ (c) (fun hHeld => ?_)
          clear hK K
          try simp only [Act.put, List.getElem_toArray, List.getElem_cons_zero, List.getElem_cons_succ, List.setIfInBounds_toArray, List.set_cons_zero, List.set_cons_succ]
          clear b
          refine wpAnyH_take (i := 6) (v := ?v6) rfl (by kernel_rfl) (by kernel_rfl) (by kernel_rfl) (fun _ _ _ h => h) (Or.inl ⟨by rfl, ?hy6⟩) (by assumption) ?_
          case hy6 => (intro w hSw; (try dsimp only at hSw); simp only [List.getElem_toArray, List.getElem_cons_zero, List.getElem_cons_succ]; go_simp; try with_reducible rfl)
          try simp only [Act.put, List.getElem_toArray, List.getElem_cons_zero, List.getElem_cons_succ, List.setIfInBounds_toArray, List.set_cons_zero, List.set_cons_succ]
          refine wpAnyH_done (by kernel_rfl) ?_ _
          refine lastQ_of rfl rfl ?_
          refine wp_stB 32 _ _ rfl y2.heap.size 0 rfl 32 _ ba [.int .i64 R.id, .int .i64 R.rid, .slice uq.ms.a uq.ms.n uq.ms.c, .slice uq.its.a uq.its.n uq.its.c, .slice uq.lv.a uq.lv.n uq.lv.c, .slice uq.tx.a uq.tx.n uq.tx.c, .int .i64 R.rd, .int .i64 R.se, .int .i64 R.li, .int .i64 R.he, .int .i64 R.la.c, .int .i64 R.la.r, .int .i64 R.la.q, .int .i64 R.la.a, .int .i64 R.la.b, .slice uq.ws.a uq.ws.n uq.ws.c] rfl (by simp) Try.sizeM rfl [.int .i64 R.id, .int .i64 R.rid, .slice uq.ms.a uq.ms.n uq.ms.c, .slice uq.its.a uq.its.n uq.its.c, .slice uq.lv.a uq.lv.n uq.lv.c, .slice uq.tx.a uq.tx.n uq.tx.c, .int .i64 R.rd, .int .i64 R.se, .int .i64 R.li, .int .i64 R.he, .int .i64 R.la.c, .int .i64 R.la.r, .int .i64 R.la.q, .int .i64 R.la.a, .int .i64 R.la.b, .slice uq.ws.a uq.ws.n uq.ws.c] rfl ?_
          intro we OB TB
          try go_wp2_with fail
          go_meet
          exact ⟨_, uq, rfl, OB, (oq.past ba TB (by decide) (by decide) (by decide)).down (by omega), by omega, c.trans (TB.below (by omega))⟩
      · have := c.size
        rw [if_pos (by rfl)]
        simp only [List.getElem_toArray, List.getElem_cons_zero, List.getElem_cons_succ]
        go_simp
        have b : Below y1.heap.size y1 (y1.alloc (.cells #[.int .i64 0, .int .i64 0, .slice none 0 0, .slice none 0 0, .slice none 0 0, .slice none 0 0, .int .i64 0, .int .i64 0, .int .i64 0, .int .i64 0, .int .i64 0, .int .i64 0, .int .i64 0, .int .i64 0, .int .i64 0, .slice none 0 0] 32)) := (Below.refl _ _).alloc (Nat.le_refl _) _
        have ba : Bx (y1.alloc (.cells #[.int .i64 0, .int .i64 0, .slice none 0 0, .slice none 0 0, .slice none 0 0, .slice none 0 0, .int .i64 0, .int .i64 0, .int .i64 0, .int .i64 0, .int .i64 0, .int .i64 0, .int .i64 0, .int .i64 0, .int .i64 0, .slice none 0 0] 32)) y1.heap.size 32 [.int .i64 0, .int .i64 0, .slice none 0 0, .slice none 0 0, .slice none 0 0, .slice none 0 0, .int .i64 0, .int .i64 0, .int .i64 0, .int .i64 0, .int .i64 0, .int .i64 0, .int .i64 0, .int .i64 0, .int .i64 0, .slice none 0 0] := Bx.new y1 32 _
        have za : w12.heap.size ≤ y1.heap.size := c.size
        have pm := pm.later b
        have c : Below w12.heap.size w12 (y1.alloc (.cells #[.int .i64 0, .int .i64 0, .slice none 0 0, .slice none 0 0, .slice none 0 0, .slice none 0 0, .int .i64 0, .int .i64 0, .int .i64 0, .int .i64 0, .int .i64 0, .int .i64 0, .int .i64 0, .int .i64 0, .int .i64 0, .slice none 0 0] 32)) := bl_next c b
        refine hK.out _ _ (c) (fun hHeld => ?_)
        clear hK K
        try simp only [Act.put, List.getElem_toArray, List.getElem_cons_zero, List.getElem_cons_succ, List.setIfInBounds_toArray, List.set_cons_zero, List.set_cons_succ]
        clear b
        refine wpAnyH_ready (rs := [3]) (by kernel_rfl) (by simp) ?_
        refine AllReadyH.cons (i := 3) rfl (fun K hK => ?_) AllReadyH.nil
        rw [if_pos (by rfl)]
        simp only [List.getElem_toArray, List.getElem_cons_zero, List.getElem_cons_succ]
        go_simp
        refine (toItem_any q f l t _).mono ?_
        rintro e y8 ⟨rfl, b⟩
        have ba := ba.later b
        have pm := pm.later b
        have c : Below w12.heap.size w12 y8 := bl_next c b
        refine hK.out _ _ (c) (fun hHeld => ?_)
        clear hK K
        try simp only [Act.put, List.getElem_toArray, List.getElem_cons_zero, List.getElem_cons_succ, List.setIfInBounds_toArray, List.set_cons_zero, List.set_cons_succ]
        clear b
        refine wpAnyH_ready (rs := [4]) (by kernel_rfl) (by simp) ?_
        refine AllReadyH.cons (i := 4) rfl (fun K hK => ?_) AllReadyH.nil
        rw [if_pos (by rfl)]
        simp only [List.getElem_toArray, List.getElem_cons_zero, List.getElem_cons_succ]
        go_simp
        refine (IMP.out um _ (show Hid (MtP y8 m um) from pm)).mono ?_
        rintro e y9 ⟨uq, rfl, oq, b⟩
        have zq : w12.heap.size ≤ y8.heap.size := c.size
        have ba := ba.later b
        have c : Below w12.heap.size w12 y9 := bl_next c b
        refine hK.out _ _ (c) (fun hHeld => ?_)
        clear hK K
        try simp only [Act.put, List.getElem_toArray, List.getElem_cons_zero, List.getElem_cons_succ, List.setIfInBounds_toArray, List.set_cons_zero, List.set_cons_succ]
        clear b
        refine wpAnyH_take (i := 6) (v := ?v6) rfl (by kernel_rfl) (by kernel_rfl) (by kernel_rfl) (fun _ _ _ h => h) (Or.inl ⟨by rfl, ?hy6⟩) (by assumption) ?_
        case hy6 => (intro w hSw; (try dsimp only at hSw); simp only [List.getElem_toArray, List.getElem_cons_zero, List.getElem_cons_succ]; go_simp; try with_reducible rfl)
        try simp only [Act.put, List.getElem_toArray, List.getElem_cons_zero, List.getElem_cons_succ, List.setIfInBounds_toArray, List.set_cons_zero, List.set_cons_succ]
        refine wpAnyH_done (by kernel_rfl) ?_ _
        refine lastQ_of rfl rfl ?_
        refine wp_stB 32 _ _ rfl y1.heap.size 0 rfl 32 _ ba [.int .i64 R.id, .int .i64 R.rid, .slice uq.ms.a uq.ms.n uq.ms.c, .slice uq.its.a uq.its.n uq.its.c, .slice uq.lv.a uq.lv.n uq.lv.c, .slice uq.tx.a uq.tx.n uq.tx.c, .int .i64 R.rd, .int .i64 R.se, .int .i64 R.li, .int .i64 R.he, .int .i64 R.la.c, .int .i64 R.la.r, .int .i64 R.la.q, .int .i64 R.la.a, .int .i64 R.la.b, .slice uq.ws.a uq.ws.n uq.ws.c] rfl (by simp) Try.sizeM rfl [.int .i64 R.id, .int .i64 R.rid, .slice uq.ms.a uq.ms.n uq.ms.c, .slice uq.its.a uq.its.n uq.its.c, .slice uq.lv.a uq.lv.n uq.lv.c, .slice uq.tx.a uq.tx.n uq.tx.c, .int .i64 R.rd, .int .i64 R.se, .int .i64 R.li, .int .i64 R.he, .int .i64 R.la.c, .int .i64 R.la.r, .int .i64 R.la.q, .int .i64 R.la.a, .int .i64 R.la.b, .slice uq.ws.a uq.ws.n uq.ws.c] rfl ?_
        intro we OB TB
        try go_wp2_with fail
        go_meet
        exact ⟨_, uq, rfl, OB, (oq.past ba TB (by decide) (by decide) (by decide)).down (by omega), by omega, c.trans (TB.below (by omega))⟩
    · have := c.size
      rw [if_pos (by rfl)]
      simp only [List.getElem_toArray, List.getElem_cons_zero, List.getElem_cons_succ]
      go_simp
      have b : Below w12.drew.heap.size w12.drew (w12.drew.alloc (.cells #[.int .i64 0, .int .i64 0, .slice none 0 0, .slice none 0 0, .slice none 0 0, .slice none 0 0, .int .i64 0, .int .i64 0, .int .i64 0, .int .i64 0, .int .i64 0, .int .i64 0, .int .i64 0, .int .i64 0, .int .i64 0, .slice none 0 0] 32)) := (Below.refl _ _).alloc (Nat.le_refl _) _
      have ba : Bx (w12.drew.alloc (.cells #[.int .i64 0, .int .i64 0, .slice none 0 0, .slice none 0 0, .slice none 0 0, .slice none 0 0, .int .i64 0, .int .i64 0, .int .i64 0, .int .i64 0, .int .i64 0, .int .i64 0, .int .i64 0, .int .i64 0, .int .i64 0, .slice none 0 0] 32)) w12.drew.heap.size 32 [.int .i64 0, .int .i64 0, .slice none 0 0, .slice none 0 0, .slice none 0 0, .slice none 0 0, .int .i64 0, .int .i64 0, .int .i64 0, .int .i64 0, .int .i64 0, .int .i64 0, .int .i64 0, .int .i64 0, .int .i64 0, .slice none 0 0] := Bx.new w12.drew 32 _
      have za : w12.heap.size ≤ w12.drew.heap.size := c.size
      have c : Below w12.heap.size w12 (w12.drew.alloc (.cells #[.int .i64 0, .int .i64 0, .slice none 0 0, .slice none 0 0, .slice none 0 0, .slice none 0 0, .int .i64 0, .int .i64 0, .int .i64 0, .int .i64 0, .int .i64 0, .int .i64 0, .int .i64 0, .int .i64 0, .int .i64 0, .slice none 0 0] 32)) := bl_next c b
      refine hK.out _ _ (c) (fun hHeld => ?_)
      clear hK K
      try simp only [Act.put, List.getElem_toArray, List.getElem_cons_zero, List.getElem_cons_succ, List.setIfInBounds_toArray, List.set_cons_zero, List.set_cons_succ]
      clear b
      refine wpAnyH_ready (rs := [1]) (by kernel_rfl) (by simp) ?_
      refine AllReadyH.cons (i := 1) rfl (fun K hK => ?_) AllReadyH.nil
      rw [if_pos (by rfl)]
      simp only [List.getElem_toArray, List.getElem_cons_zero, List.getElem_cons_succ]
      go_simp
      refine (toMate_any m v _ (show Hid (MtR (w12.drew.alloc (.cells #[.int .i64 0, .int .i64 0, .slice none 0 0, .slice none 0 0, .slice none 0 0, .slice none 0 0, .int .i64 0, .int .i64 0, .int .i64 0, .int .i64 0, .int .i64 0, .int .i64 0, .int .i64 0, .int .i64 0, .int .i64 0, .slice none 0 0] 32)) m v) from HR.out.stays c) hs).mono ?_
      rintro e y11 ⟨um, rfl, om, b⟩
      have pm := om.p
      have ba := ba.later b
      have c : Below w12.heap.size w12 y11 := bl_next c b
      refine hK.out _ _ (c) (fun hHeld => ?_)
      clear hK K
      try simp only [Act.put, List.getElem_toArray, List.getElem_cons_zero, List.getElem_cons_succ, List.setIfInBounds_toArray, List.set_cons_zero, List.set_cons_succ]
      clear b
      refine wpAnyH_ready (rs := [3]) (by kernel_rfl) (by simp) ?_
      refine AllReadyH.cons (i := 3) rfl (fun K hK => ?_) AllReadyH.nil
      rw [if_pos (by rfl)]
      simp only [List.getElem_toArray, List.getElem_cons_zero, List.getElem_cons_succ]
      go_simp
      refine (toItem_any q f l t _).mono ?_
      rintro e y12 ⟨rfl, b⟩
      have ba := ba.later b
      have pm := pm.later b
      have c : Below w12.heap.size w12 y12 := bl_next c b
      refine hK.out _ _ (c) (fun hHeld => ?_)
      clear hK K
      try simp only [Act.put, List.getElem_toArray, List.getElem_cons_zero, List.getElem_cons_succ, List.setIfInBounds_toArray, List.set_cons_zero, List.set_cons_succ]
      clear b
      refine wpAnyH_ready (rs := [4]) (by kernel_rfl) (by simp) ?_
      refine AllReadyH.cons (i := 4) rfl (fun K hK => ?_) AllReadyH.nil
      rw [if_pos (by rfl)]
      simp only [List.getElem_toArray, List.getElem_cons_zero, List.getElem_cons_succ]
      go_simp
      refine (IMP.out um _ (show Hid (MtP y12 m um) from pm)).mono ?_
      rintro e y13 ⟨uq, rfl, oq, b⟩
      have zq : w12.heap.size ≤ y12.heap.size := c.size
      have ba := ba.later b
      have c : Below w12.heap.size w12 y13 := bl_next c b
      refine hK.out _ _ (c) (fun hHeld => ?_)
      clear hK K
      try simp only [Act.put, List.getElem_toArray, List.getElem_cons_zero, List.getElem_cons_succ, List.setIfInBounds_toArray, List.set_cons_zero, List.set_cons_succ]
      clear b
      refine wpAnyH_take (i := 6) (v := ?v6) rfl (by kernel_rfl) (by kernel_rfl) (by kernel_rfl) (fun _ _ _ h => h) (Or.inl ⟨by rfl, ?hy6⟩) (by assumption) ?_
      case hy6 => (intro w hSw; (try dsimp only at hSw); simp only [List.getElem_toArray, List.getElem_cons_zero, List.getElem_cons_succ]; go_simp; try with_reducible rfl)
      try simp only [Act.put, List.getElem_toArray, List.getElem_cons_zero, List.getElem_cons_succ, List.setIfInBounds_toArray, List.set_cons_zero, List.set_cons_succ]
      refine wpAnyH_done (by kernel_rfl) ?_ _
      refine lastQ_of rfl rfl ?_
      refine wp_stB 32 _ _ rfl w12.drew.heap.size 0 rfl 32 _ ba [.int .i64 R.id, .int .i64 R.rid, .slice uq.ms.a uq.ms.n uq.ms.c, .slice uq.its.a uq.its.n uq.its.c, .slice uq.lv.a uq.lv.n uq.lv.c, .slice uq.tx.a uq.tx.n uq.tx.c, .int .i64 R.rd, .int .i64 R.se, .int .i64 R.li, .int .i64 R.he, .int .i64 R.la.c, .int .i64 R.la.r, .int .i64 R.la.q, .int .i64 R.la.a, .int .i64 R.la.b, .slice uq.ws.a uq.ws.n uq.ws.c] rfl (by simp) Try.sizeM rfl [.int .i64 R.id, .int .i64 R.rid, .slice uq.ms.a uq.ms.n uq.ms.c, .slice uq.its.a uq.its.n uq.its.c, .slice uq.lv.a uq.lv.n uq.lv.c, .slice uq.tx.a uq.tx.n uq.tx.c, .int .i64 R.rd, .int .i64 R.se, .int .i64 R.li, .int .i64 R.he, .int .i64 R.la.c, .int .i64 R.la.r, .int .i64 R.la.q, .int .i64 R.la.a, .int .i64 R.la.b, .slice uq.ws.a uq.ws.n uq.ws.c] rfl ?_
      intro we OB TB
      try go_wp2_with fail
      go_meet
      exact ⟨_, uq, rfl, OB, (oq.past ba TB (by decide) (by decide) (by decide)).down (by omega), by omega, c.trans (TB.below (by omega))⟩
  case rest =>
  obtain ⟨gE, uE, rfl, hbx, hmo, zz, b⟩ := hcut
  generalize wc = WE at *
  have HA : Hid (Bx WE w.heap.size 67 [.int .i64 m.id, .int .i64 m.rid, .slice v.ms.a v.ms.n v.ms.c, .slice v.its.a v.its.n v.its.c, .slice v.lv.a v.lv.n v.lv.c, .slice v.tx.a v.tx.n v.tx.c, .int .i64 m.rd, .int .i64 m.se, .int .i64 m.li, .int .i64 m.he, .int .i64 m.la.c, .int .i64 m.la.r, .int .i64 m.la.q, .int .i64 m.la.a, .int .i64 m.la.b, .slice v.ws.a v.ws.n v.ws.c]) := HA.out.later b
  have HX : Hid (Bx WE (w.heap.size + 1) 72 [.int .i64 q, .int .i64 f, .int .i64 l, .string t]) := HX.out.later b
  have HB0 : Hid (Below w.heap.size w WE) := bl_next HB0.out b
  have HR : Hid (MtR WE m v) := HR.out.stays b
  have hKO : Hid (MtO WE w1b.heap.size R uK) := hKO.out.later b
  have WKB : Hid (Bx WE gK 32 [.int .i64 R.id, .int .i64 R.rid, .slice uK.ms.a uK.ms.n uK.ms.c, .slice uK.its.a uK.its.n uK.its.c, .slice uK.lv.a uK.lv.n uK.lv.c, .slice uK.tx.a uK.tx.n uK.tx.c, .int .i64 R.rd, .int .i64 R.se, .int .i64 R.li, .int .i64 R.he, .int .i64 R.la.c, .int .i64 R.la.r, .int .i64 R.la.q, .int .i64 R.la.a, .int .i64 R.la.b, .slice uK.ws.a uK.ws.n uK.ws.c]) := WKB.out.later b
  have hGO : Hid (MtO WE WX.heap.size (markM 1 R) uG) := hGO.out.later b
  have WGB : Hid (Bx WE gG 32 [.int .i64 R.id, .int .i64 R.rid, .slice uG.ms.a uG.ms.n uG.ms.c, .slice uG.its.a uG.its.n uG.its.c, .slice uG.lv.a uG.lv.n uG.lv.c, .slice uG.tx.a uG.tx.n uG.tx.c, .int .i64 R.rd, .int .i64 R.se, .int .i64 R.li, .int .i64 R.he, .int .i64 R.la.c, .int .i64 R.la.r, .int .i64 R.la.q, .int .i64 R.la.a, .int .i64 R.la.b, .slice uG.ws.a uG.ws.n uG.ws.c]) := WGB.out.later b
  have WEB : Hid (Bx WE gE 32 [.int .i64 R.id, .int .i64 R.rid, .slice uE.ms.a uE.ms.n uE.ms.c, .slice uE.its.a uE.its.n uE.its.c, .slice uE.lv.a uE.lv.n uE.lv.c, .slice uE.tx.a uE.tx.n uE.tx.c, .int .i64 R.rd, .int .i64 R.se, .int .i64 R.li, .int .i64 R.he, .int .i64 R.la.c, .int .i64 R.la.r, .int .i64 R.la.q, .int .i64 R.la.a, .int .i64 R.la.b, .slice uE.ws.a uE.ws.n uE.ws.c]) := hbx
  have hEO : Hid (MtO WE w12.heap.size R uE) := hmo
  clear hbx hmo zz b
  go_wp2_with (first | (refine wpList_ldG rfl 32 _ rfl (gE) 0 rfl 32 _ WEB.out [.int .i64 R.id, .int .i64 R.rid, .slice uE.ms.a uE.ms.n uE.ms.c, .slice uE.its.a uE.its.n uE.its.c, .slice uE.lv.a uE.lv.n uE.lv.c, .slice uE.tx.a uE.tx.n uE.tx.c, .int .i64 R.rd, .int .i64 R.se, .int .i64 R.li, .int .i64 R.he, .int .i64 R.la.c, .int .i64 R.la.r, .int .i64 R.la.q, .int .i64 R.la.a, .int .i64 R.la.b, .slice uE.ws.a uE.ws.n uE.ws.c] rfl _ Try.underlying32 rfl Try.sizeM ?_) | (refine wpList_ldG rfl 32 _ rfl (gK) 0 rfl 32 _ WKB.out [.int .i64 R.id, .int .i64 R.rid, .slice uK.ms.a uK.ms.n uK.ms.c, .slice uK.its.a uK.its.n uK.its.c, .slice uK.lv.a uK.lv.n uK.lv.c, .slice uK.tx.a uK.tx.n uK.tx.c, .int .i64 R.rd, .int .i64 R.se, .int .i64 R.li, .int .i64 R.he, .int .i64 R.la.c, .int .i64 R.la.r, .int .i64 R.la.q, .int .i64 R.la.a, .int .i64 R.la.b, .slice uK.ws.a uK.ws.n uK.ws.c] rfl _ Try.underlying32 rfl Try.sizeM ?_))
  refine (eqMate_same R uE uK _ _ _ hEO hKO hsR).mono ?_
  rintro e w15 ⟨rfl, b⟩
  have HA : Hid (Bx w15 w.heap.size 67 [.int .i64 m.id, .int .i64 m.rid, .slice v.ms.a v.ms.n v.ms.c, .slice v.its.a v.its.n v.its.c, .slice v.lv.a v.lv.n v.lv.c, .slice v.tx.a v.tx.n v.tx.c, .int .i64 m.rd, .int .i64 m.se, .int .i64 m.li, .int .i64 m.he, .int .i64 m.la.c, .int .i64 m.la.r, .int .i64 m.la.q, .int .i64 m.la.a, .int .i64 m.la.b, .slice v.ws.a v.ws.n v.ws.c]) := HA.out.later b
  have HX : Hid (Bx w15 (w.heap.size + 1) 72 [.int .i64 q, .int .i64 f, .int .i64 l, .string t]) := HX.out.later b
  have HB0 : Hid (Below w.heap.size w w15) := bl_next HB0.out b
  have HR : Hid (MtR w15 m v) := HR.out.stays b
  have hKO : Hid (MtO w15 w1b.heap.size R uK) := hKO.out.later b
  have WKB : Hid (Bx w15 gK 32 [.int .i64 R.id, .int .i64 R.rid, .slice uK.ms.a uK.ms.n uK.ms.c, .slice uK.its.a uK.its.n uK.its.c, .slice uK.lv.a uK.lv.n uK.lv.c, .slice uK.tx.a uK.tx.n uK.tx.c, .int .i64 R.rd, .int .i64 R.se, .int .i64 R.li, .int .i64 R.he, .int .i64 R.la.c, .int .i64 R.la.r, .int .i64 R.la.q, .int .i64 R.la.a, .int .i64 R.la.b, .slice uK.ws.a uK.ws.n uK.ws.c]) := WKB.out.later b
  have hGO : Hid (MtO w15 WX.heap.size (markM 1 R) uG) := hGO.out.later b
  have WGB : Hid (Bx w15 gG 32 [.int .i64 R.id, .int .i64 R.rid, .slice uG.ms.a uG.ms.n uG.ms.c, .slice uG.its.a uG.its.n uG.its.c, .slice uG.lv.a uG.lv.n uG.lv.c, .slice uG.tx.a uG.tx.n uG.tx.c, .int .i64 R.rd, .int .i64 R.se, .int .i64 R.li, .int .i64 R.he, .int .i64 R.la.c, .int .i64 R.la.r, .int .i64 R.la.q, .int .i64 R.la.a, .int .i64 R.la.b, .slice uG.ws.a uG.ws.n uG.ws.c]) := WGB.out.later b
  have WEB : Hid (Bx w15 gE 32 [.int .i64 R.id, .int .i64 R.rid, .slice uE.ms.a uE.ms.n uE.ms.c, .slice uE.its.a uE.its.n uE.its.c, .slice uE.lv.a uE.lv.n uE.lv.c, .slice uE.tx.a uE.tx.n uE.tx.c, .int .i64 R.rd, .int .i64 R.se, .int .i64 R.li, .int .i64 R.he, .int .i64 R.la.c, .int .i64 R.la.r, .int .i64 R.la.q, .int .i64 R.la.a, .int .i64 R.la.b, .slice uE.ws.a uE.ws.n uE.ws.c]) := WEB.out.later b
  clear b hEO
  go_wp2_with (first | (refine wpList_ldG rfl 32 _ rfl (gG) 0 rfl 32 _ WGB.out [.int .i64 R.id, .int .i64 R.rid, .slice uG.ms.a uG.ms.n uG.ms.c, .slice uG.its.a uG.its.n uG.its.c, .slice uG.lv.a uG.lv.n uG.lv.c, .slice uG.tx.a uG.tx.n uG.tx.c, .int .i64 R.rd, .int .i64 R.se, .int .i64 R.li, .int .i64 R.he, .int .i64 R.la.c, .int .i64 R.la.r, .int .i64 R.la.q, .int .i64 R.la.a, .int .i64 R.la.b, .slice uG.ws.a uG.ws.n uG.ws.c] rfl _ Try.underlying32 rfl Try.sizeM ?_))
  refine (heldMate_any R uG WX.heap.size 1 _ hGO (endM_le hsR.out) (by omega)).mono ?_
  rintro e w16 ⟨rfl, b⟩
  rw [HM.out]
  have HA : Hid (Bx w16 w.heap.size 67 [.int .i64 m.id, .int .i64 m.rid, .slice v.ms.a v.ms.n v.ms.c, .slice v.its.a v.its.n v.its.c, .slice v.lv.a v.lv.n v.lv.c, .slice v.tx.a v.tx.n v.tx.c, .int .i64 m.rd, .int .i64 m.se, .int .i64 m.li, .int .i64 m.he, .int .i64 m.la.c, .int .i64 m.la.r, .int .i64 m.la.q, .int .i64 m.la.a, .int .i64 m.la.b, .slice v.ws.a v.ws.n v.ws.c]) := HA.out.later b
  have HX : Hid (Bx w16 (w.heap.size + 1) 72 [.int .i64 q, .int .i64 f, .int .i64 l, .string t]) := HX.out.later b
  have HB0 : Hid (Below w.heap.size w w16) := bl_next HB0.out b
  have HR : Hid (MtR w16 m v) := HR.out.stays b
  have hKO : Hid (MtO w16 w1b.heap.size R uK) := hKO.out.later b
  have WKB : Hid (Bx w16 gK 32 [.int .i64 R.id, .int .i64 R.rid, .slice uK.ms.a uK.ms.n uK.ms.c, .slice uK.its.a uK.its.n uK.its.c, .slice uK.lv.a uK.lv.n uK.lv.c, .slice uK.tx.a uK.tx.n uK.tx.c, .int .i64 R.rd, .int .i64 R.se, .int .i64 R.li, .int .i64 R.he, .int .i64 R.la.c, .int .i64 R.la.r, .int .i64 R.la.q, .int .i64 R.la.a, .int .i64 R.la.b, .slice uK.ws.a uK.ws.n uK.ws.c]) := WKB.out.later b
  have hGO : Hid (MtO w16 WX.heap.size (markM 1 R) uG) := hGO.out.later b
  have WGB : Hid (Bx w16 gG 32 [.int .i64 R.id, .int .i64 R.rid, .slice uG.ms.a uG.ms.n uG.ms.c, .slice uG.its.a uG.its.n uG.its.c, .slice uG.lv.a uG.lv.n uG.lv.c, .slice uG.tx.a uG.tx.n uG.tx.c, .int .i64 R.rd, .int .i64 R.se, .int .i64 R.li, .int .i64 R.he, .int .i64 R.la.c, .int .i64 R.la.r, .int .i64 R.la.q, .int .i64 R.la.a, .int .i64 R.la.b, .slice uG.ws.a uG.ws.n uG.ws.c]) := WGB.out.later b
  have WEB : Hid (Bx w16 gE 32 [.int .i64 R.id, .int .i64 R.rid, .slice uE.ms.a uE.ms.n uE.ms.c, .slice uE.its.a uE.its.n uE.its.c, .slice uE.lv.a uE.lv.n uE.lv.c, .slice uE.tx.a uE.tx.n uE.tx.c, .int .i64 R.rd, .int .i64 R.se, .int .i64 R.li, .int .i64 R.he, .int .i64 R.la.c, .int .i64 R.la.r, .int .i64 R.la.q, .int .i64 R.la.a, .int .i64 R.la.b, .slice uE.ws.a uE.ws.n uE.ws.c]) := WEB.out.later b
  clear b
  go_wp2_with fail
  go_ret
  exact ⟨rfl, HB0.out⟩
end Go.Proofs.Ytpbhcbgohgfkcaa

