/- The law on MateOk. Written by gen_lmo.py. -/
import Derived.Test.YtpbhcbgohgfkcaaMq1
import Derived.Test.YtpbhcbgohgfkcaaTm
import Derived.Test.YtpbhcbgohgfkcaaEm
namespace Go.Proofs.Ytpbhcbgohgfkcaa
open Go.RowKit Pl
set_option linter.unusedVariables false
set_option linter.unusedSimpArgs false

set_option maxRecDepth 100000 in
set_option maxHeartbeats 8000000 in
theorem lawMateOk (m : Mt) (v : Mv) (w : World) (h : Hid (MtR w m v)) (hl : Hid (MtL m)) :
    Calls Try.prog 7 #[.agg #[.int .i64 m.id, .int .i64 m.rid, .slice v.ms.a v.ms.n v.ms.c, .slice v.its.a v.its.n v.its.c, .slice v.lv.a v.lv.n v.lv.c, .slice v.tx.a v.tx.n v.tx.c, .int .i64 m.rd, .int .i64 m.se, .int .i64 m.li, .int .i64 m.he, .int .i64 m.la.c, .int .i64 m.la.r, .int .i64 m.la.q, .int .i64 m.la.a, .int .i64 m.la.b, .slice v.ws.a v.ws.n v.ws.c]] w fun e w' => e = .returned (.bool true) ∧ Below w.heap.size w w' := by
  have HA : Hid (Bx (w.alloc (.cells #[.int .i64 m.id, .int .i64 m.rid, .slice v.ms.a v.ms.n v.ms.c, .slice v.its.a v.its.n v.its.c, .slice v.lv.a v.lv.n v.lv.c, .slice v.tx.a v.tx.n v.tx.c, .int .i64 m.rd, .int .i64 m.se, .int .i64 m.li, .int .i64 m.he, .int .i64 m.la.c, .int .i64 m.la.r, .int .i64 m.la.q, .int .i64 m.la.a, .int .i64 m.la.b, .slice v.ws.a v.ws.n v.ws.c] 67)) w.heap.size 67 [.int .i64 m.id, .int .i64 m.rid, .slice v.ms.a v.ms.n v.ms.c, .slice v.its.a v.its.n v.its.c, .slice v.lv.a v.lv.n v.lv.c, .slice v.tx.a v.tx.n v.tx.c, .int .i64 m.rd, .int .i64 m.se, .int .i64 m.li, .int .i64 m.he, .int .i64 m.la.c, .int .i64 m.la.r, .int .i64 m.la.q, .int .i64 m.la.a, .int .i64 m.la.b, .slice v.ws.a v.ws.n v.ws.c]) := Bx.new w 67 _
  have HB0 : Hid (Below w.heap.size w (w.alloc (.cells #[.int .i64 m.id, .int .i64 m.rid, .slice v.ms.a v.ms.n v.ms.c, .slice v.its.a v.its.n v.its.c, .slice v.lv.a v.lv.n v.lv.c, .slice v.tx.a v.tx.n v.tx.c, .int .i64 m.rd, .int .i64 m.se, .int .i64 m.li, .int .i64 m.he, .int .i64 m.la.c, .int .i64 m.la.r, .int .i64 m.la.q, .int .i64 m.la.a, .int .i64 m.la.b, .slice v.ws.a v.ws.n v.ws.c] 67))) := (Below.refl _ _).alloc (Nat.le_refl _) _
  have HR : Hid (MtR (w.alloc (.cells #[.int .i64 m.id, .int .i64 m.rid, .slice v.ms.a v.ms.n v.ms.c, .slice v.its.a v.its.n v.its.c, .slice v.lv.a v.lv.n v.lv.c, .slice v.tx.a v.tx.n v.tx.c, .int .i64 m.rd, .int .i64 m.se, .int .i64 m.li, .int .i64 m.he, .int .i64 m.la.c, .int .i64 m.la.r, .int .i64 m.la.q, .int .i64 m.la.a, .int .i64 m.la.b, .slice v.ws.a v.ws.n v.ws.c] 67)) m v) := h.out.stays HB0.out
  clear h
  go_enter Try.func7, Try.ntmps7
  go_wp2_with (first | (refine wpList_ldG rfl 67 _ rfl w.heap.size 0 rfl 67 _ HA.out [.int .i64 m.id, .int .i64 m.rid, .slice v.ms.a v.ms.n v.ms.c, .slice v.its.a v.its.n v.its.c, .slice v.lv.a v.lv.n v.lv.c, .slice v.tx.a v.tx.n v.tx.c, .int .i64 m.rd, .int .i64 m.se, .int .i64 m.li, .int .i64 m.he, .int .i64 m.la.c, .int .i64 m.la.r, .int .i64 m.la.q, .int .i64 m.la.a, .int .i64 m.la.b, .slice v.ws.a v.ws.n v.ws.c] rfl _ Try.underlying67 rfl Try.sizeL ?_))
  generalize w.alloc (.cells #[.int .i64 m.id, .int .i64 m.rid, .slice v.ms.a v.ms.n v.ms.c, .slice v.its.a v.its.n v.its.c, .slice v.lv.a v.lv.n v.lv.c, .slice v.tx.a v.tx.n v.tx.c, .int .i64 m.rd, .int .i64 m.se, .int .i64 m.li, .int .i64 m.he, .int .i64 m.la.c, .int .i64 m.la.r, .int .i64 m.la.q, .int .i64 m.la.a, .int .i64 m.la.b, .slice v.ws.a v.ws.n v.ws.c] 67) = W0 at *
  refine (szMate_any m v _ HR hl).mono ?_
  rintro e w1 ⟨hz, b⟩
  have HA : Hid (Bx w1 w.heap.size 67 [.int .i64 m.id, .int .i64 m.rid, .slice v.ms.a v.ms.n v.ms.c, .slice v.its.a v.its.n v.its.c, .slice v.lv.a v.lv.n v.lv.c, .slice v.tx.a v.tx.n v.tx.c, .int .i64 m.rd, .int .i64 m.se, .int .i64 m.li, .int .i64 m.he, .int .i64 m.la.c, .int .i64 m.la.r, .int .i64 m.la.q, .int .i64 m.la.a, .int .i64 m.la.b, .slice v.ws.a v.ws.n v.ws.c]) := HA.out.later b
  have HB0 : Hid (Below w.heap.size w w1) := bl_next HB0.out b
  have HR : Hid (MtR w1 m v) := HR.out.stays b
  clear b
  rcases hz with rfl | ⟨z, rfl, hs, _⟩
  · go_wp2_with fail
    go_ret
    exact ⟨rfl, HB0.out⟩
  have hs : Hid (MtS m) := hs
  have hz : decide ((z : Int) < 0) = false := by simp
  go_wp2_with (first | (refine wpList_ldG rfl 67 _ rfl w.heap.size 0 rfl 67 _ HA.out [.int .i64 m.id, .int .i64 m.rid, .slice v.ms.a v.ms.n v.ms.c, .slice v.its.a v.its.n v.its.c, .slice v.lv.a v.lv.n v.lv.c, .slice v.tx.a v.tx.n v.tx.c, .int .i64 m.rd, .int .i64 m.se, .int .i64 m.li, .int .i64 m.he, .int .i64 m.la.c, .int .i64 m.la.r, .int .i64 m.la.q, .int .i64 m.la.a, .int .i64 m.la.b, .slice v.ws.a v.ws.n v.ws.c] rfl _ Try.underlying67 rfl Try.sizeL ?_))
  clear hz
  refine (toMate_any m v _ HR hs).mono ?_
  rintro e w2 ⟨u2, rfl, o, b⟩
  have HA : Hid (Bx w2 w.heap.size 67 [.int .i64 m.id, .int .i64 m.rid, .slice v.ms.a v.ms.n v.ms.c, .slice v.its.a v.its.n v.its.c, .slice v.lv.a v.lv.n v.lv.c, .slice v.tx.a v.tx.n v.tx.c, .int .i64 m.rd, .int .i64 m.se, .int .i64 m.li, .int .i64 m.he, .int .i64 m.la.c, .int .i64 m.la.r, .int .i64 m.la.q, .int .i64 m.la.a, .int .i64 m.la.b, .slice v.ws.a v.ws.n v.ws.c]) := HA.out.later b
  have HB0 : Hid (Below w.heap.size w w2) := bl_next HB0.out b
  have HR : Hid (MtR w2 m v) := HR.out.stays b
  clear b
  have R2 : Hid (MtR w2 m u2) := o.r
  clear o
  go_wp2_with fail
  refine (spMateOk_any m u2 _ R2 hs).mono ?_
  rintro e w3 ⟨rfl, b⟩
  have HA : Hid (Bx w3 w.heap.size 67 [.int .i64 m.id, .int .i64 m.rid, .slice v.ms.a v.ms.n v.ms.c, .slice v.its.a v.its.n v.its.c, .slice v.lv.a v.lv.n v.lv.c, .slice v.tx.a v.tx.n v.tx.c, .int .i64 m.rd, .int .i64 m.se, .int .i64 m.li, .int .i64 m.he, .int .i64 m.la.c, .int .i64 m.la.r, .int .i64 m.la.q, .int .i64 m.la.a, .int .i64 m.la.b, .slice v.ws.a v.ws.n v.ws.c]) := HA.out.later b
  have HB0 : Hid (Below w.heap.size w w3) := bl_next HB0.out b
  have HR : Hid (MtR w3 m v) := HR.out.stays b
  clear b R2
  go_wp2_with (first | (refine wpList_ldG rfl 67 _ rfl w.heap.size 0 rfl 67 _ HA.out [.int .i64 m.id, .int .i64 m.rid, .slice v.ms.a v.ms.n v.ms.c, .slice v.its.a v.its.n v.its.c, .slice v.lv.a v.lv.n v.lv.c, .slice v.tx.a v.tx.n v.tx.c, .int .i64 m.rd, .int .i64 m.se, .int .i64 m.li, .int .i64 m.he, .int .i64 m.la.c, .int .i64 m.la.r, .int .i64 m.la.q, .int .i64 m.la.a, .int .i64 m.la.b, .slice v.ws.a v.ws.n v.ws.c] rfl _ Try.underlying67 rfl Try.sizeL ?_))
  refine (toMate_any m v _ HR hs).mono ?_
  rintro e w4 ⟨uX, rfl, o, b⟩
  have HA : Hid (Bx w4 w.heap.size 67 [.int .i64 m.id, .int .i64 m.rid, .slice v.ms.a v.ms.n v.ms.c, .slice v.its.a v.its.n v.its.c, .slice v.lv.a v.lv.n v.lv.c, .slice v.tx.a v.tx.n v.tx.c, .int .i64 m.rd, .int .i64 m.se, .int .i64 m.li, .int .i64 m.he, .int .i64 m.la.c, .int .i64 m.la.r, .int .i64 m.la.q, .int .i64 m.la.a, .int .i64 m.la.b, .slice v.ws.a v.ws.n v.ws.c]) := HA.out.later b
  have HB0 : Hid (Below w.heap.size w w4) := bl_next HB0.out b
  have HR : Hid (MtR w4 m v) := HR.out.stays b
  clear b
  have XO : Hid (MtO w4 w3.heap.size m uX) := o
  clear o
  have hz_WX : Hid (Bx (w4.alloc (.cells #[.int .i64 0, .int .i64 0, .slice none 0 0, .slice none 0 0, .slice none 0 0, .slice none 0 0, .int .i64 0, .int .i64 0, .int .i64 0, .int .i64 0, .int .i64 0, .int .i64 0, .int .i64 0, .int .i64 0, .int .i64 0, .slice none 0 0] 32)) w4.heap.size 32 [.int .i64 0, .int .i64 0, .slice none 0 0, .slice none 0 0, .slice none 0 0, .slice none 0 0, .int .i64 0, .int .i64 0, .int .i64 0, .int .i64 0, .int .i64 0, .int .i64 0, .int .i64 0, .int .i64 0, .int .i64 0, .slice none 0 0]) := Bx.new w4 32 _
  go_wp2_with (first | (refine wpList_stB rfl 32 _ _ rfl w4.heap.size 0 rfl 32 _ hz_WX.out [.int .i64 m.id, .int .i64 m.rid, .slice uX.ms.a uX.ms.n uX.ms.c, .slice uX.its.a uX.its.n uX.its.c, .slice uX.lv.a uX.lv.n uX.lv.c, .slice uX.tx.a uX.tx.n uX.tx.c, .int .i64 m.rd, .int .i64 m.se, .int .i64 m.li, .int .i64 m.he, .int .i64 m.la.c, .int .i64 m.la.r, .int .i64 m.la.q, .int .i64 m.la.a, .int .i64 m.la.b, .slice uX.ws.a uX.ws.n uX.ws.c] rfl (by simp) Try.sizeM rfl [.int .i64 m.id, .int .i64 m.rid, .slice uX.ms.a uX.ms.n uX.ms.c, .slice uX.its.a uX.its.n uX.its.c, .slice uX.lv.a uX.lv.n uX.lv.c, .slice uX.tx.a uX.tx.n uX.tx.c, .int .i64 m.rd, .int .i64 m.se, .int .i64 m.li, .int .i64 m.he, .int .i64 m.la.c, .int .i64 m.la.r, .int .i64 m.la.q, .int .i64 m.la.a, .int .i64 m.la.b, .slice uX.ws.a uX.ws.n uX.ws.c] rfl ?_; intro WX kb kt; have bb : Below w4.heap.size w4 WX := ((Below.refl _ _).alloc (Nat.le_refl _) _).trans (kt.below (Nat.le_refl _)); have HA : Hid (Bx WX w.heap.size 67 [.int .i64 m.id, .int .i64 m.rid, .slice v.ms.a v.ms.n v.ms.c, .slice v.its.a v.its.n v.its.c, .slice v.lv.a v.lv.n v.lv.c, .slice v.tx.a v.tx.n v.tx.c, .int .i64 m.rd, .int .i64 m.se, .int .i64 m.li, .int .i64 m.he, .int .i64 m.la.c, .int .i64 m.la.r, .int .i64 m.la.q, .int .i64 m.la.a, .int .i64 m.la.b, .slice v.ws.a v.ws.n v.ws.c]) := HA.out.later bb; have HB0 : Hid (Below w.heap.size w WX) := bl_next HB0.out bb; have HR : Hid (MtR WX m v) := HR.out.stays bb; have XO : Hid (MtO WX w3.heap.size m uX) := XO.out.later bb; have WXB : Hid (Bx WX w4.heap.size 32 [.int .i64 m.id, .int .i64 m.rid, .slice uX.ms.a uX.ms.n uX.ms.c, .slice uX.its.a uX.its.n uX.its.c, .slice uX.lv.a uX.lv.n uX.lv.c, .slice uX.tx.a uX.tx.n uX.tx.c, .int .i64 m.rd, .int .i64 m.se, .int .i64 m.li, .int .i64 m.he, .int .i64 m.la.c, .int .i64 m.la.r, .int .i64 m.la.q, .int .i64 m.la.a, .int .i64 m.la.b, .slice uX.ws.a uX.ws.n uX.ws.c]) := kb; clear kb kt) | (refine wpList_ldG rfl 32 _ rfl w4.heap.size 0 rfl 32 _ WXB.out [.int .i64 m.id, .int .i64 m.rid, .slice uX.ms.a uX.ms.n uX.ms.c, .slice uX.its.a uX.its.n uX.its.c, .slice uX.lv.a uX.lv.n uX.lv.c, .slice uX.tx.a uX.tx.n uX.tx.c, .int .i64 m.rd, .int .i64 m.se, .int .i64 m.li, .int .i64 m.he, .int .i64 m.la.c, .int .i64 m.la.r, .int .i64 m.la.q, .int .i64 m.la.a, .int .i64 m.la.b, .slice uX.ws.a uX.ws.n uX.ws.c] rfl _ Try.underlying32 rfl Try.sizeM ?_))
  clear bb hz_WX
  generalize w4.heap.size = gX at *
  refine (mateOk_any m uX _ XO.out.r hs).mono ?_
  rintro e w5 ⟨rfl, b⟩
  have HA : Hid (Bx w5 w.heap.size 67 [.int .i64 m.id, .int .i64 m.rid, .slice v.ms.a v.ms.n v.ms.c, .slice v.its.a v.its.n v.its.c, .slice v.lv.a v.lv.n v.lv.c, .slice v.tx.a v.tx.n v.tx.c, .int .i64 m.rd, .int .i64 m.se, .int .i64 m.li, .int .i64 m.he, .int .i64 m.la.c, .int .i64 m.la.r, .int .i64 m.la.q, .int .i64 m.la.a, .int .i64 m.la.b, .slice v.ws.a v.ws.n v.ws.c]) := HA.out.later b
  have HB0 : Hid (Below w.heap.size w w5) := bl_next HB0.out b
  have HR : Hid (MtR w5 m v) := HR.out.stays b
  have XO : Hid (MtO w5 w3.heap.size m uX) := XO.out.later b
  have WXB : Hid (Bx w5 gX 32 [.int .i64 m.id, .int .i64 m.rid, .slice uX.ms.a uX.ms.n uX.ms.c, .slice uX.its.a uX.its.n uX.its.c, .slice uX.lv.a uX.lv.n uX.lv.c, .slice uX.tx.a uX.tx.n uX.tx.c, .int .i64 m.rd, .int .i64 m.se, .int .i64 m.li, .int .i64 m.he, .int .i64 m.la.c, .int .i64 m.la.r, .int .i64 m.la.q, .int .i64 m.la.a, .int .i64 m.la.b, .slice uX.ws.a uX.ws.n uX.ws.c]) := WXB.out.later b
  clear b
  obtain ⟨OK, hOK⟩ : ∃ OK, m.ok = OK := ⟨_, rfl⟩
  rw [hOK]
  clear hOK
  go_wp2_with fail
  refine wp_region_held_drew (S := fun w' => Below w5.heap.size w5 w') (by kernel_rfl) (Below.refl _ _).drew (fun hHeld => ?_)
  refine wpAnyH_take (i := 0) (v := _) rfl (by kernel_rfl) (by kernel_rfl) (by kernel_rfl) (fun _ _ _ h => h) (ld_yield (by rfl) 32 _ rfl gX 0 rfl 32 _ (fun w hS => WXB.out.later hS) [.int .i64 m.id, .int .i64 m.rid, .slice uX.ms.a uX.ms.n uX.ms.c, .slice uX.its.a uX.its.n uX.its.c, .slice uX.lv.a uX.lv.n uX.lv.c, .slice uX.tx.a uX.tx.n uX.tx.c, .int .i64 m.rd, .int .i64 m.se, .int .i64 m.li, .int .i64 m.he, .int .i64 m.la.c, .int .i64 m.la.r, .int .i64 m.la.q, .int .i64 m.la.a, .int .i64 m.la.b, .slice uX.ws.a uX.ws.n uX.ws.c] rfl _ Try.underlying32 rfl Try.sizeM) (by assumption) ?_
  try simp only [Act.put, List.getElem_toArray, List.getElem_cons_zero, List.getElem_cons_succ, List.setIfInBounds_toArray, List.set_cons_zero, List.set_cons_succ]
  refine wpAnyH_take (i := 1) (v := _) rfl (by kernel_rfl) (by kernel_rfl) (by kernel_rfl) (fun _ _ _ h => h) (ld_yield (by rfl) 67 _ rfl w.heap.size 0 rfl 67 _ (fun w hS => HA.out.later hS) [.int .i64 m.id, .int .i64 m.rid, .slice v.ms.a v.ms.n v.ms.c, .slice v.its.a v.its.n v.its.c, .slice v.lv.a v.lv.n v.lv.c, .slice v.tx.a v.tx.n v.tx.c, .int .i64 m.rd, .int .i64 m.se, .int .i64 m.li, .int .i64 m.he, .int .i64 m.la.c, .int .i64 m.la.r, .int .i64 m.la.q, .int .i64 m.la.a, .int .i64 m.la.b, .slice v.ws.a v.ws.n v.ws.c] rfl _ Try.underlying67 rfl Try.sizeL) (by assumption) ?_
  try simp only [Act.put, List.getElem_toArray, List.getElem_cons_zero, List.getElem_cons_succ, List.setIfInBounds_toArray, List.set_cons_zero, List.set_cons_succ]
  refine wpAnyH_ready (rs := [2]) (by kernel_rfl) (by simp) ?_
  refine AllReadyH.cons (i := 2) rfl (fun K hK => ?_) AllReadyH.nil
  rw [if_pos (by rfl)]
  simp only [List.getElem_toArray, List.getElem_cons_zero, List.getElem_cons_succ]
  go_simp
  refine (toMate_any m v _ (show Hid (MtR w5.drew m v) from HR.out.stays (Below.refl _ _).drew) hs).mono ?_
  rintro e w6 ⟨u6, rfl, o6, b6⟩
  have c6 : Below w5.heap.size w5 w6 := (Below.refl w5.heap.size w5).drew.trans b6
  refine hK.out _ _ (c6) (fun hHeld => ?_)
  clear hK K
  try simp only [Act.put, List.getElem_toArray, List.getElem_cons_zero, List.getElem_cons_succ, List.setIfInBounds_toArray, List.set_cons_zero, List.set_cons_succ]
  refine wpAnyH_ready (rs := [3]) (by kernel_rfl) (by simp) ?_
  refine AllReadyH.cons (i := 3) rfl (fun K hK => ?_) AllReadyH.nil
  rw [if_pos (by rfl)]
  simp only [List.getElem_toArray, List.getElem_cons_zero, List.getElem_cons_succ]
  go_simp
  refine (eqMate_same m uX u6 w3.heap.size _ _ (show Hid (MtO w6 _ m uX) from XO.out.later c6) (show Hid (MtO w6 _ m u6) from o6) hs).mono ?_
  rintro e w7 ⟨rfl, b7⟩
  have c7 : Below w5.heap.size w5 w7 := bl_next c6 b7
  refine hK.out _ _ (c7) (fun hHeld => ?_)
  clear hK K
  try simp only [Act.put, List.getElem_toArray, List.getElem_cons_zero, List.getElem_cons_succ, List.setIfInBounds_toArray, List.set_cons_zero, List.set_cons_succ]
  refine wpAnyH_take (i := 4) (v := ?v4) rfl (by kernel_rfl) (by kernel_rfl) (by kernel_rfl) (fun _ _ _ h => h) (Or.inl ⟨by rfl, ?hy4⟩) (by assumption) ?_
  case hy4 => (intro w hSw; (try dsimp only at hSw); simp only [List.getElem_toArray, List.getElem_cons_zero, List.getElem_cons_succ]; go_simp; try with_reducible rfl)
  try simp only [Act.put, List.getElem_toArray, List.getElem_cons_zero, List.getElem_cons_succ, List.setIfInBounds_toArray, List.set_cons_zero, List.set_cons_succ]
  refine wpAnyH_done (by kernel_rfl) ?_ _
  have BF : Below w.heap.size w w7 := bl_next HB0.out c7
  go_wp2_with fail
  go_ret
  exact ⟨rfl, BF⟩
end Go.Proofs.Ytpbhcbgohgfkcaa
