/- Joined texts: Lmn. -/
import Derived.Test.YtpbhcbgohgfkcaaJct1
import Derived.Test.YtpbhcbgohgfkcaaJct2
import Derived.Test.YtpbhcbgohgfkcaaJct3
import Derived.Test.YtpbhcbgohgfkcaaJct4
import Derived.Test.YtpbhcbgohgfkcaaJct5
import Derived.Test.YtpbhcbgohgfkcaaJct6
import Derived.Test.YtpbhcbgohgfkcaaJct7
import Derived.Test.YtpbhcbgohgfkcaaJct8
import Derived.Test.YtpbhcbgohgfkcaaJct9
import Derived.Test.YtpbhcbgohgfkcaaJct10
import Derived.Test.YtpbhcbgohgfkcaaJct11
import Derived.Test.YtpbhcbgohgfkcaaJct12
import Derived.Test.YtpbhcbgohgfkcaaJct13
import Derived.Test.YtpbhcbgohgfkcaaJct14
import Derived.Test.YtpbhcbgohgfkcaaJct15
import Derived.Test.YtpbhcbgohgfkcaaJct16
import Derived.Test.YtpbhcbgohgfkcaaJct17
/- The law on MateNew. Written by gen_lmn.py. -/
namespace Go.Proofs.Ytpbhcbgohgfkcaa
open Go.RowKit Pl
set_option linter.unusedVariables false
set_option linter.unusedSimpArgs false

theorem own_nilS (w : World) (B : Nat) : OwnS w B (.slice none 0 0) [] := ⟨by simp, .inl ⟨rfl, rfl⟩⟩
theorem own_nilIt (w : World) (B : Nat) : SlI w B (.slice none 0 0) [] := Sl.zero w 38 4 B
/-- a member that has nothing but a ring. -/
theorem mto_new {w : World} {B : Nat} (id i : Int) {ms : List Int} {u : Sv} (h : OwnI w B u.v ms) : MtO w B (newM id i ms) ⟨u, zSv, zSv, zSv, zSv⟩ :=
  ⟨h, own_nilIt w B, ownI_nil w B, own_nilS w B, ownI_nil w B, ap_none' _ 0 0, ap_none' _ 0 0, ap_none _ 0 0⟩
theorem mto_zero (w : World) (B : Nat) : MtO w B zMt zMv := ⟨ownI_nil w B, own_nilIt w B, ownI_nil w B, own_nilS w B, ownI_nil w B, ap_none _ 0 0, ap_none _ 0 0, ap_none _ 0 0⟩
theorem mts_zero : MtS zMt := ⟨by decide, by decide, by decide, by decide, by decide, (fun x h => by cases h), (fun x h => by cases h), by decide⟩
theorem mts_new (id i : Int) {ms : List Int} (h : ms.length ≤ 1048576) : MtS (newM id i ms) := ⟨h, by simp [newM], by simp [newM], by simp [newM], by simp [newM, zTok], (fun x h => by cases h), (fun x h => by cases h), (by simp [newM, zTok]; exact h)⟩
theorem endM_le {m : Mt} (h : MtS m) : endM 1 m ≤ 4999990 := by have := h.all; unfold endM; omega

/-- the plain answer. -/
def newP (id i : Int) (ms : List Int) : Mt := if (ringB i ms && inB ms id) = true then newM id i ms else zMt
theorem mateNew_any (id i : Int) (s : Sv) (ms : List Int) (w : World) (h : Hid (RI w s.v ms)) (hl : ms.length ≤ 1048576) :
    Calls Try.prog 18 #[.int .i64 id, .agg #[.int .i64 i, .slice s.a s.n s.c]] w fun e w' => ∃ u : Mv, e = .returned (.tuple #[.agg #[.int .i64 (newP id i ms).id, .int .i64 (newP id i ms).rid, .slice u.ms.a u.ms.n u.ms.c, .slice u.its.a u.its.n u.its.c, .slice u.lv.a u.lv.n u.lv.c, .slice u.tx.a u.tx.n u.tx.c, .int .i64 (newP id i ms).rd, .int .i64 (newP id i ms).se, .int .i64 (newP id i ms).li, .int .i64 (newP id i ms).he, .int .i64 (newP id i ms).la.c, .int .i64 (newP id i ms).la.r, .int .i64 (newP id i ms).la.q, .int .i64 (newP id i ms).la.a, .int .i64 (newP id i ms).la.b, .slice u.ws.a u.ws.n u.ws.c], .bool (ringB i ms && inB ms id)]) ∧ MtO w' w.heap.size (newP id i ms) u ∧ Below w.heap.size w w' := by
  unfold newP
  cases hr : (ringB i ms && inB ms id) with
  | true => exact (mateNew_yes id i s ms w h hl hr).mono fun e w' ⟨u, a, b, c⟩ => ⟨⟨u, zSv, zSv, zSv, zSv⟩, a, mto_new id i b, c⟩
  | false => exact (mateNew_no id i s ms w h hl hr).mono fun e w' ⟨a, c⟩ => ⟨zMv, a, mto_zero _ _, c⟩
theorem spMateNew_any (id i : Int) (s : Sv) (ms : List Int) (w : World) (h : Hid (RI w s.v ms)) (hl : ms.length ≤ 1048576) :
    Calls Try.prog 28 #[.int .i64 id, .agg #[.int .i64 i, .slice s.a s.n s.c]] w fun e w' => ∃ u : Mv, e = .returned (.tuple #[.agg #[.int .i64 (newP id i ms).id, .int .i64 (newP id i ms).rid, .slice u.ms.a u.ms.n u.ms.c, .slice u.its.a u.its.n u.its.c, .slice u.lv.a u.lv.n u.lv.c, .slice u.tx.a u.tx.n u.tx.c, .int .i64 (newP id i ms).rd, .int .i64 (newP id i ms).se, .int .i64 (newP id i ms).li, .int .i64 (newP id i ms).he, .int .i64 (newP id i ms).la.c, .int .i64 (newP id i ms).la.r, .int .i64 (newP id i ms).la.q, .int .i64 (newP id i ms).la.a, .int .i64 (newP id i ms).la.b, .slice u.ws.a u.ws.n u.ws.c], .bool (ringB i ms && inB ms id)]) ∧ MtO w' w.heap.size (newP id i ms) u ∧ Below w.heap.size w w' := by
  unfold newP
  cases hr : (ringB i ms && inB ms id) with
  | true =>
    have h1 : ringB i ms = true := by simp at hr; exact hr.1
    have h2 : inB ms id = true := by simp at hr; exact hr.2
    exact (spMateNew_yes id i s ms w h hl h1 h2).mono fun e w' ⟨u, a, b, c⟩ => ⟨⟨u, zSv, zSv, zSv, zSv⟩, a, mto_new id i b, c⟩
  | false => exact (spMateNew_no id i s ms w h hl hr).mono fun e w' ⟨a, c⟩ => ⟨zMv, a, mto_zero _ _, c⟩

set_option maxRecDepth 100000 in
set_option maxHeartbeats 8000000 in
theorem lawMateNew (id i : Int) (ao : Option Addr) (cap : Nat) (ws : List Int) (w : World) (hx : IntsAt w ao ws) (hl : ws.length ≤ maxLen) :
    Calls Try.prog 6 #[.int .i64 id, .agg #[.int .i64 i, .slice ao ws.length cap]] w fun e w' => e = .returned (.bool true) ∧ Below w.heap.size w w' := by
  unfold maxLen at hl
  by_cases hl1 : 1048576 < ws.length
  · go_enter Try.func6, Try.ntmps6
    go_wp2_with fail
    refine (szRing_long i ao ws.length cap _ hl1 (by omega)).mono ?_
    rintro e w1 ⟨rfl, hb1⟩
    go_wp2_with fail
    go_ret
    exact ⟨rfl, ((Below.refl _ _).alloc (Nat.le_refl _) _).trans (hb1.mono (by simp))⟩
  have hl2 : ws.length ≤ 1048576 := by omega
  clear hl hl1
  obtain ⟨R, hR⟩ : ∃ R : Mt, R = newP id i ws := ⟨_, rfl⟩
  obtain ⟨OK, hOK⟩ : ∃ OK : Bool, OK = (ringB i ws && inB ws id) := ⟨_, rfl⟩
  have SPC : Hid (∀ (s : Sv) (W : World), Hid (RI W s.v ws) → Calls Try.prog 28 #[.int .i64 id, .agg #[.int .i64 i, .slice s.a s.n s.c]] W fun e w' => ∃ u : Mv, e = .returned (.tuple #[.agg #[.int .i64 R.id, .int .i64 R.rid, .slice u.ms.a u.ms.n u.ms.c, .slice u.its.a u.its.n u.its.c, .slice u.lv.a u.lv.n u.lv.c, .slice u.tx.a u.tx.n u.tx.c, .int .i64 R.rd, .int .i64 R.se, .int .i64 R.li, .int .i64 R.he, .int .i64 R.la.c, .int .i64 R.la.r, .int .i64 R.la.q, .int .i64 R.la.a, .int .i64 R.la.b, .slice u.ws.a u.ws.n u.ws.c], .bool OK]) ∧ MtO w' W.heap.size R u ∧ Below W.heap.size W w') := fun s W h => by rw [hR, hOK]; exact spMateNew_any id i s ws W h hl2
  have IMP : Hid (∀ (s : Sv) (W : World), Hid (RI W s.v ws) → Calls Try.prog 18 #[.int .i64 id, .agg #[.int .i64 i, .slice s.a s.n s.c]] W fun e w' => ∃ u : Mv, e = .returned (.tuple #[.agg #[.int .i64 R.id, .int .i64 R.rid, .slice u.ms.a u.ms.n u.ms.c, .slice u.its.a u.its.n u.its.c, .slice u.lv.a u.lv.n u.lv.c, .slice u.tx.a u.tx.n u.tx.c, .int .i64 R.rd, .int .i64 R.se, .int .i64 R.li, .int .i64 R.he, .int .i64 R.la.c, .int .i64 R.la.r, .int .i64 R.la.q, .int .i64 R.la.a, .int .i64 R.la.b, .slice u.ws.a u.ws.n u.ws.c], .bool OK]) ∧ MtO w' W.heap.size R u ∧ Below W.heap.size W w') := fun s W h => by rw [hR, hOK]; exact mateNew_any id i s ws W h hl2
  have hsR : Hid (MtS R) := (by rw [hR]; unfold newP; split; exact mts_new id i hl2; exact mts_zero : MtS R)
  have hoK : Hid (OK = true ∨ OK = false) := by cases OK; exact .inr rfl; exact .inl rfl
  clear hR hOK
  obtain ⟨s, hs⟩ : ∃ s : Sv, s = ⟨ao, ws.length, cap⟩ := ⟨_, rfl⟩
  have hx0 : Hid (RI w s.v ws) := by rw [hs]; exact ⟨ao, cap, rfl, hx⟩
  have ea : ao = s.a := by rw [hs]
  have en : ws.length = s.n := by rw [hs]
  have ec : cap = s.c := by rw [hs]
  rw [ea, ec, en]
  have HN : Hid (ws.length = s.n) := en
  clear hs ea en ec hx
  have HL0 : Hid (Bx (w.alloc (.cells #[.int .i64 i, .slice s.a s.n s.c] 56)) w.heap.size 56 [.int .i64 i, .slice s.a s.n s.c]) := Bx.new w 56 _
  have HB0 : Hid (Below w.heap.size w (w.alloc (.cells #[.int .i64 i, .slice s.a s.n s.c] 56))) := (Below.refl _ _).alloc (Nat.le_refl _) _
  have HX0 : Hid (RI (w.alloc (.cells #[.int .i64 i, .slice s.a s.n s.c] 56)) s.v ws) := hx0.out.stays HB0.out
  go_enter Try.func6, Try.ntmps6
  go_wp2_with fail
  generalize w.alloc (.cells #[.int .i64 i, .slice s.a s.n s.c] 56) = W0 at *
  have hz0 : s.n ≤ 1048576 := by have := HN.out; omega
  refine (szRing_any i s.a s.n s.c _ hz0).mono ?_
  rintro e w1 ⟨rfl, b1⟩
  have HL0 : Hid (Bx w1 w.heap.size 56 [.int .i64 i, .slice s.a s.n s.c]) := HL0.out.later b1
  have HB0 : Hid (Below w.heap.size w w1) := bl_next HB0.out b1
  have HX0 : Hid (RI w1 s.v ws) := HX0.out.stays b1
  have hz : decide (((1048576 - s.n : Nat) : Int) < 0) = false := by simp
  have l0 := HL0.out.cell 0
  have l1 := HL0.out.cell 1
  clear b1
  go_wp2_with fail
  clear l0 l1
  clear hz hz0
  refine (toRing_r i s ws _ HX0 hl2).mono ?_
  rintro e w2 ⟨s2, rfl, o2, b2⟩
  have HL0 : Hid (Bx w2 w.heap.size 56 [.int .i64 i, .slice s.a s.n s.c]) := HL0.out.later b2
  have HB0 : Hid (Below w.heap.size w w2) := bl_next HB0.out b2
  have HX0 : Hid (RI w2 s.v ws) := HX0.out.stays b2
  have X2 : Hid (RI w2 s2.v ws) := o2.ri
  clear b2 o2
  go_wp2_with fail
  refine (SPC.out s2 _ X2).mono ?_
  rintro e w3 ⟨uK, rfl, o3, b3⟩
  have HL0 : Hid (Bx w3 w.heap.size 56 [.int .i64 i, .slice s.a s.n s.c]) := HL0.out.later b3
  have HB0 : Hid (Below w.heap.size w w3) := bl_next HB0.out b3
  have HX0 : Hid (RI w3 s.v ws) := HX0.out.stays b3
  clear b3 X2 SPC
  have HLX : Hid (w.heap.size < w3.heap.size) := HL0.out.lt
  have KL : Hid (∀ k, uK.own k → k < w3.heap.size) := fun k hk => (o3.lt hk).2
  have hz_WK : Hid (Bx (w3.alloc (.cells #[.int .i64 0, .int .i64 0, .slice none 0 0, .slice none 0 0, .slice none 0 0, .slice none 0 0, .int .i64 0, .int .i64 0, .int .i64 0, .int .i64 0, .int .i64 0, .int .i64 0, .int .i64 0, .int .i64 0, .int .i64 0, .slice none 0 0] 32)) w3.heap.size 32 [.int .i64 0, .int .i64 0, .slice none 0 0, .slice none 0 0, .slice none 0 0, .slice none 0 0, .int .i64 0, .int .i64 0, .int .i64 0, .int .i64 0, .int .i64 0, .int .i64 0, .int .i64 0, .int .i64 0, .int .i64 0, .slice none 0 0]) := Bx.new w3 32 _
  go_wp2_with (first | (refine wpList_stB rfl 32 _ _ rfl w3.heap.size 0 rfl 32 _ hz_WK.out [.int .i64 R.id, .int .i64 R.rid, .slice uK.ms.a uK.ms.n uK.ms.c, .slice uK.its.a uK.its.n uK.its.c, .slice uK.lv.a uK.lv.n uK.lv.c, .slice uK.tx.a uK.tx.n uK.tx.c, .int .i64 R.rd, .int .i64 R.se, .int .i64 R.li, .int .i64 R.he, .int .i64 R.la.c, .int .i64 R.la.r, .int .i64 R.la.q, .int .i64 R.la.a, .int .i64 R.la.b, .slice uK.ws.a uK.ws.n uK.ws.c] rfl (by simp) Try.sizeM rfl [.int .i64 R.id, .int .i64 R.rid, .slice uK.ms.a uK.ms.n uK.ms.c, .slice uK.its.a uK.its.n uK.its.c, .slice uK.lv.a uK.lv.n uK.lv.c, .slice uK.tx.a uK.tx.n uK.tx.c, .int .i64 R.rd, .int .i64 R.se, .int .i64 R.li, .int .i64 R.he, .int .i64 R.la.c, .int .i64 R.la.r, .int .i64 R.la.q, .int .i64 R.la.a, .int .i64 R.la.b, .slice uK.ws.a uK.ws.n uK.ws.c] rfl ?_; intro WK kb kt; have bb : Below w3.heap.size w3 WK := ((Below.refl _ _).alloc (Nat.le_refl _) _).trans (kt.below (Nat.le_refl _)); have HL0 : Hid (Bx WK w.heap.size 56 [.int .i64 i, .slice s.a s.n s.c]) := HL0.out.later bb; have HB0 : Hid (Below w.heap.size w WK) := bl_next HB0.out bb; have HX0 : Hid (RI WK s.v ws) := HX0.out.stays bb; have WKB : Hid (Bx WK w3.heap.size 32 [.int .i64 R.id, .int .i64 R.rid, .slice uK.ms.a uK.ms.n uK.ms.c, .slice uK.its.a uK.its.n uK.its.c, .slice uK.lv.a uK.lv.n uK.lv.c, .slice uK.tx.a uK.tx.n uK.tx.c, .int .i64 R.rd, .int .i64 R.se, .int .i64 R.li, .int .i64 R.he, .int .i64 R.la.c, .int .i64 R.la.r, .int .i64 R.la.q, .int .i64 R.la.a, .int .i64 R.la.b, .slice uK.ws.a uK.ws.n uK.ws.c]) := kb; have hKO : Hid (MtO WK w2.heap.size R uK) := o3.later bb; have l0 := HL0.out.cell 0; have l1 := HL0.out.cell 1; clear kb kt))
  clear o3 bb hz_WK
  clear l0 l1
  have zK : w3.heap.size < WK.heap.size := WKB.out.lt
  have zL : w.heap.size < WK.heap.size := HL0.out.lt
  have zL3 : w.heap.size < w3.heap.size := by have := HLX.out; exact this
  clear HLX
  generalize w3.heap.size = gK at *
  refine (toRing_r i s ws _ HX0 hl2).mono ?_
  rintro e w4 ⟨sX, rfl, o4, b4⟩
  have HL0 : Hid (Bx w4 w.heap.size 56 [.int .i64 i, .slice s.a s.n s.c]) := HL0.out.later b4
  have HB0 : Hid (Below w.heap.size w w4) := bl_next HB0.out b4
  have HX0 : Hid (RI w4 s.v ws) := HX0.out.stays b4
  have WKB : Hid (Bx w4 gK 32 [.int .i64 R.id, .int .i64 R.rid, .slice uK.ms.a uK.ms.n uK.ms.c, .slice uK.its.a uK.its.n uK.its.c, .slice uK.lv.a uK.lv.n uK.lv.c, .slice uK.tx.a uK.tx.n uK.tx.c, .int .i64 R.rd, .int .i64 R.se, .int .i64 R.li, .int .i64 R.he, .int .i64 R.la.c, .int .i64 R.la.r, .int .i64 R.la.q, .int .i64 R.la.a, .int .i64 R.la.b, .slice uK.ws.a uK.ws.n uK.ws.c]) := WKB.out.later b4
  have hKO : Hid (MtO w4 w2.heap.size R uK) := hKO.out.later b4
  have XL : Hid (∀ k, sX.v.ownBlock = some k → WK.heap.size ≤ k ∧ k < w4.heap.size) := o4.lt
  have zWX : WK.heap.size ≤ w4.heap.size := b4.size
  clear b4
  have hz_WX : Hid (Bx (w4.alloc (.cells #[.int .i64 0, .slice none 0 0] 26)) w4.heap.size 26 [.int .i64 0, .slice none 0 0]) := Bx.new w4 26 _
  go_wp2_with (first | (refine wpList_stB rfl 26 _ _ rfl w4.heap.size 0 rfl 26 _ hz_WX.out [.int .i64 i, .slice sX.a sX.n sX.c] rfl (by simp) Try.sizeR rfl [.int .i64 i, .slice sX.a sX.n sX.c] rfl ?_; intro WX kb kt; have bb : Below w4.heap.size w4 WX := ((Below.refl _ _).alloc (Nat.le_refl _) _).trans (kt.below (Nat.le_refl _)); have HL0 : Hid (Bx WX w.heap.size 56 [.int .i64 i, .slice s.a s.n s.c]) := HL0.out.later bb; have HB0 : Hid (Below w.heap.size w WX) := bl_next HB0.out bb; have HX0 : Hid (RI WX s.v ws) := HX0.out.stays bb; have WKB : Hid (Bx WX gK 32 [.int .i64 R.id, .int .i64 R.rid, .slice uK.ms.a uK.ms.n uK.ms.c, .slice uK.its.a uK.its.n uK.its.c, .slice uK.lv.a uK.lv.n uK.lv.c, .slice uK.tx.a uK.tx.n uK.tx.c, .int .i64 R.rd, .int .i64 R.se, .int .i64 R.li, .int .i64 R.he, .int .i64 R.la.c, .int .i64 R.la.r, .int .i64 R.la.q, .int .i64 R.la.a, .int .i64 R.la.b, .slice uK.ws.a uK.ws.n uK.ws.c]) := WKB.out.later bb; have hKO : Hid (MtO WX w2.heap.size R uK) := hKO.out.later bb; have WXB : Hid (Bx WX w4.heap.size 26 [.int .i64 i, .slice sX.a sX.n sX.c]) := kb; have hXO : Hid (OwnI WX WK.heap.size sX.v ws) := o4.under bb; have x0 := WXB.out.cell 0; have x1 := WXB.out.cell 1; clear kb kt))
  clear o4 bb hz_WX x0 x1
  have zX : w4.heap.size < WX.heap.size := WXB.out.lt
  generalize w4.heap.size = gX at *
  refine (IMP.out sX _ (show Hid (RI WX sX.v ws) from hXO.out.ri)).mono ?_
  rintro e w5 ⟨uG, rfl, o5, b5⟩
  have HL0 : Hid (Bx w5 w.heap.size 56 [.int .i64 i, .slice s.a s.n s.c]) := HL0.out.later b5
  have HB0 : Hid (Below w.heap.size w w5) := bl_next HB0.out b5
  have HX0 : Hid (RI w5 s.v ws) := HX0.out.stays b5
  have WKB : Hid (Bx w5 gK 32 [.int .i64 R.id, .int .i64 R.rid, .slice uK.ms.a uK.ms.n uK.ms.c, .slice uK.its.a uK.its.n uK.its.c, .slice uK.lv.a uK.lv.n uK.lv.c, .slice uK.tx.a uK.tx.n uK.tx.c, .int .i64 R.rd, .int .i64 R.se, .int .i64 R.li, .int .i64 R.he, .int .i64 R.la.c, .int .i64 R.la.r, .int .i64 R.la.q, .int .i64 R.la.a, .int .i64 R.la.b, .slice uK.ws.a uK.ws.n uK.ws.c]) := WKB.out.later b5
  have hKO : Hid (MtO w5 w2.heap.size R uK) := hKO.out.later b5
  have WXB : Hid (Bx w5 gX 26 [.int .i64 i, .slice sX.a sX.n sX.c]) := WXB.out.later b5
  have hXO : Hid (OwnI w5 WK.heap.size sX.v ws) := hXO.out.under b5
  have GL : Hid (∀ k, uG.own k → WX.heap.size ≤ k ∧ k < w5.heap.size) := fun k hk => o5.lt hk
  have zG0 : WX.heap.size ≤ w5.heap.size := b5.size
  clear b5
  have hz_WG : Hid (Bx (w5.alloc (.cells #[.int .i64 0, .int .i64 0, .slice none 0 0, .slice none 0 0, .slice none 0 0, .slice none 0 0, .int .i64 0, .int .i64 0, .int .i64 0, .int .i64 0, .int .i64 0, .int .i64 0, .int .i64 0, .int .i64 0, .int .i64 0, .slice none 0 0] 32)) w5.heap.size 32 [.int .i64 0, .int .i64 0, .slice none 0 0, .slice none 0 0, .slice none 0 0, .slice none 0 0, .int .i64 0, .int .i64 0, .int .i64 0, .int .i64 0, .int .i64 0, .int .i64 0, .int .i64 0, .int .i64 0, .int .i64 0, .slice none 0 0]) := Bx.new w5 32 _
  go_wp2_with (first | (refine wpList_stB rfl 32 _ _ rfl w5.heap.size 0 rfl 32 _ hz_WG.out [.int .i64 R.id, .int .i64 R.rid, .slice uG.ms.a uG.ms.n uG.ms.c, .slice uG.its.a uG.its.n uG.its.c, .slice uG.lv.a uG.lv.n uG.lv.c, .slice uG.tx.a uG.tx.n uG.tx.c, .int .i64 R.rd, .int .i64 R.se, .int .i64 R.li, .int .i64 R.he, .int .i64 R.la.c, .int .i64 R.la.r, .int .i64 R.la.q, .int .i64 R.la.a, .int .i64 R.la.b, .slice uG.ws.a uG.ws.n uG.ws.c] rfl (by simp) Try.sizeM rfl [.int .i64 R.id, .int .i64 R.rid, .slice uG.ms.a uG.ms.n uG.ms.c, .slice uG.its.a uG.its.n uG.its.c, .slice uG.lv.a uG.lv.n uG.lv.c, .slice uG.tx.a uG.tx.n uG.tx.c, .int .i64 R.rd, .int .i64 R.se, .int .i64 R.li, .int .i64 R.he, .int .i64 R.la.c, .int .i64 R.la.r, .int .i64 R.la.q, .int .i64 R.la.a, .int .i64 R.la.b, .slice uG.ws.a uG.ws.n uG.ws.c] rfl ?_; intro WG kb kt; have bb : Below w5.heap.size w5 WG := ((Below.refl _ _).alloc (Nat.le_refl _) _).trans (kt.below (Nat.le_refl _)); have HL0 : Hid (Bx WG w.heap.size 56 [.int .i64 i, .slice s.a s.n s.c]) := HL0.out.later bb; have HB0 : Hid (Below w.heap.size w WG) := bl_next HB0.out bb; have HX0 : Hid (RI WG s.v ws) := HX0.out.stays bb; have WKB : Hid (Bx WG gK 32 [.int .i64 R.id, .int .i64 R.rid, .slice uK.ms.a uK.ms.n uK.ms.c, .slice uK.its.a uK.its.n uK.its.c, .slice uK.lv.a uK.lv.n uK.lv.c, .slice uK.tx.a uK.tx.n uK.tx.c, .int .i64 R.rd, .int .i64 R.se, .int .i64 R.li, .int .i64 R.he, .int .i64 R.la.c, .int .i64 R.la.r, .int .i64 R.la.q, .int .i64 R.la.a, .int .i64 R.la.b, .slice uK.ws.a uK.ws.n uK.ws.c]) := WKB.out.later bb; have hKO : Hid (MtO WG w2.heap.size R uK) := hKO.out.later bb; have WXB : Hid (Bx WG gX 26 [.int .i64 i, .slice sX.a sX.n sX.c]) := WXB.out.later bb; have hXO : Hid (OwnI WG WK.heap.size sX.v ws) := hXO.out.under bb; have WGB : Hid (Bx WG w5.heap.size 32 [.int .i64 R.id, .int .i64 R.rid, .slice uG.ms.a uG.ms.n uG.ms.c, .slice uG.its.a uG.its.n uG.its.c, .slice uG.lv.a uG.lv.n uG.lv.c, .slice uG.tx.a uG.tx.n uG.tx.c, .int .i64 R.rd, .int .i64 R.se, .int .i64 R.li, .int .i64 R.he, .int .i64 R.la.c, .int .i64 R.la.r, .int .i64 R.la.q, .int .i64 R.la.a, .int .i64 R.la.b, .slice uG.ws.a uG.ws.n uG.ws.c]) := kb; have hGO : Hid (MtO WG WX.heap.size R uG) := o5.later bb; clear kb kt) | (refine wpList_ldG rfl 32 _ rfl (w5.heap.size) 0 rfl 32 _ WGB.out [.int .i64 R.id, .int .i64 R.rid, .slice uG.ms.a uG.ms.n uG.ms.c, .slice uG.its.a uG.its.n uG.its.c, .slice uG.lv.a uG.lv.n uG.lv.c, .slice uG.tx.a uG.tx.n uG.tx.c, .int .i64 R.rd, .int .i64 R.se, .int .i64 R.li, .int .i64 R.he, .int .i64 R.la.c, .int .i64 R.la.r, .int .i64 R.la.q, .int .i64 R.la.a, .int .i64 R.la.b, .slice uG.ws.a uG.ws.n uG.ws.c] rfl _ Try.underlying32 rfl Try.sizeM ?_) | (refine wpList_ldG rfl 32 _ rfl (gK) 0 rfl 32 _ WKB.out [.int .i64 R.id, .int .i64 R.rid, .slice uK.ms.a uK.ms.n uK.ms.c, .slice uK.its.a uK.its.n uK.its.c, .slice uK.lv.a uK.lv.n uK.lv.c, .slice uK.tx.a uK.tx.n uK.tx.c, .int .i64 R.rd, .int .i64 R.se, .int .i64 R.li, .int .i64 R.he, .int .i64 R.la.c, .int .i64 R.la.r, .int .i64 R.la.q, .int .i64 R.la.a, .int .i64 R.la.b, .slice uK.ws.a uK.ws.n uK.ws.c] rfl _ Try.underlying32 rfl Try.sizeM ?_))
  clear o5 bb hz_WG
  have zG : w5.heap.size < WG.heap.size := WGB.out.lt
  generalize w5.heap.size = gG at *
  refine (eqMate_same R uG uK WX.heap.size w2.heap.size _ hGO hKO hsR).mono ?_
  rintro e w6 ⟨rfl, b⟩
  have HL0 : Hid (Bx w6 w.heap.size 56 [.int .i64 i, .slice s.a s.n s.c]) := HL0.out.later b
  have HB0 : Hid (Below w.heap.size w w6) := bl_next HB0.out b
  have HX0 : Hid (RI w6 s.v ws) := HX0.out.stays b
  have WKB : Hid (Bx w6 gK 32 [.int .i64 R.id, .int .i64 R.rid, .slice uK.ms.a uK.ms.n uK.ms.c, .slice uK.its.a uK.its.n uK.its.c, .slice uK.lv.a uK.lv.n uK.lv.c, .slice uK.tx.a uK.tx.n uK.tx.c, .int .i64 R.rd, .int .i64 R.se, .int .i64 R.li, .int .i64 R.he, .int .i64 R.la.c, .int .i64 R.la.r, .int .i64 R.la.q, .int .i64 R.la.a, .int .i64 R.la.b, .slice uK.ws.a uK.ws.n uK.ws.c]) := WKB.out.later b
  have hKO : Hid (MtO w6 w2.heap.size R uK) := hKO.out.later b
  have WXB : Hid (Bx w6 gX 26 [.int .i64 i, .slice sX.a sX.n sX.c]) := WXB.out.later b
  have hXO : Hid (OwnI w6 WK.heap.size sX.v ws) := hXO.out.under b
  have WGB : Hid (Bx w6 gG 32 [.int .i64 R.id, .int .i64 R.rid, .slice uG.ms.a uG.ms.n uG.ms.c, .slice uG.its.a uG.its.n uG.its.c, .slice uG.lv.a uG.lv.n uG.lv.c, .slice uG.tx.a uG.tx.n uG.tx.c, .int .i64 R.rd, .int .i64 R.se, .int .i64 R.li, .int .i64 R.he, .int .i64 R.la.c, .int .i64 R.la.r, .int .i64 R.la.q, .int .i64 R.la.a, .int .i64 R.la.b, .slice uG.ws.a uG.ws.n uG.ws.c]) := WGB.out.later b
  have hGO : Hid (MtO w6 WX.heap.size R uG) := hGO.out.later b
  clear b
  have HH : Hid (∀ w', Below w6.heap.size w6 w' → ((w'.cell? ⟨gX, 0, none⟩ = some (.int .i64 i) ∧ w'.cell? ⟨gX, 1, none⟩ = some (.slice sX.a sX.n sX.c)) ∧ (w'.cell? ⟨w.heap.size, 0, none⟩ = some (.int .i64 i) ∧ w'.cell? ⟨w.heap.size, 1, none⟩ = some (.slice s.a s.n s.c))) ∧ Hid (Below w6.heap.size w6 w')) := fun w' hb => ⟨⟨⟨(WXB.out.later hb).cell 0, (WXB.out.later hb).cell 1⟩, (HL0.out.later hb).cell 0, (HL0.out.later hb).cell 1⟩, hb⟩
  have HI := HH.out w6.drew (Below.refl _ _).drew
  have X6d : Hid (RI w6.drew s.v ws) := HX0.out.stays (Below.refl _ _).drew
  go_wp2_with fail
  go_region_held3 (fun w' => ((w'.cell? ⟨gX, 0, none⟩ = some (.int .i64 i) ∧ w'.cell? ⟨gX, 1, none⟩ = some (.slice sX.a sX.n sX.c)) ∧ (w'.cell? ⟨w.heap.size, 0, none⟩ = some (.int .i64 i) ∧ w'.cell? ⟨w.heap.size, 1, none⟩ = some (.slice s.a s.n s.c))) ∧ Hid (Below w6.heap.size w6 w')) (first | exact HI | assumption) (first | (go_at_call 29; refine (toRing_r i s ws _ X6d hl2).mono ?_; rintro e w7 ⟨s7, rfl, o7, b7⟩; have hk7 := HH.out w7 ((Below.refl w6.heap.size w6).drew.trans b7)) | (go_at_call 31; refine (eqRing_same i sX.v s7.v ws _ _ _ (show Hid (OwnI _ _ _ ws) from hXO.out.under hk7.2.out) (show Hid (OwnI _ _ _ ws) from o7) hl2).mono ?_; rintro e w8 ⟨rfl, b8⟩; have hk8 := HH.out w8 (hk7.2.out.trans (b8.mono hk7.2.out.size))))
  have b : Below w6.heap.size w6 w8 := hk8.2.out
  have HL0 : Hid (Bx w8 w.heap.size 56 [.int .i64 i, .slice s.a s.n s.c]) := HL0.out.later b
  have HB0 : Hid (Below w.heap.size w w8) := bl_next HB0.out b
  have HX0 : Hid (RI w8 s.v ws) := HX0.out.stays b
  have WKB : Hid (Bx w8 gK 32 [.int .i64 R.id, .int .i64 R.rid, .slice uK.ms.a uK.ms.n uK.ms.c, .slice uK.its.a uK.its.n uK.its.c, .slice uK.lv.a uK.lv.n uK.lv.c, .slice uK.tx.a uK.tx.n uK.tx.c, .int .i64 R.rd, .int .i64 R.se, .int .i64 R.li, .int .i64 R.he, .int .i64 R.la.c, .int .i64 R.la.r, .int .i64 R.la.q, .int .i64 R.la.a, .int .i64 R.la.b, .slice uK.ws.a uK.ws.n uK.ws.c]) := WKB.out.later b
  have hKO : Hid (MtO w8 w2.heap.size R uK) := hKO.out.later b
  have WXB : Hid (Bx w8 gX 26 [.int .i64 i, .slice sX.a sX.n sX.c]) := WXB.out.later b
  have hXO : Hid (OwnI w8 WK.heap.size sX.v ws) := hXO.out.under b
  have WGB : Hid (Bx w8 gG 32 [.int .i64 R.id, .int .i64 R.rid, .slice uG.ms.a uG.ms.n uG.ms.c, .slice uG.its.a uG.its.n uG.its.c, .slice uG.lv.a uG.lv.n uG.lv.c, .slice uG.tx.a uG.tx.n uG.tx.c, .int .i64 R.rd, .int .i64 R.se, .int .i64 R.li, .int .i64 R.he, .int .i64 R.la.c, .int .i64 R.la.r, .int .i64 R.la.q, .int .i64 R.la.a, .int .i64 R.la.b, .slice uG.ws.a uG.ws.n uG.ws.c]) := WGB.out.later b
  have hGO : Hid (MtO w8 WX.heap.size R uG) := hGO.out.later b
  clear b hk8 b8 hk7 o7 b7 HH HI X6d
  have x0 := WXB.out.cell 0
  have x1 := WXB.out.cell 1
  go_wp2_with fail
  clear x0 x1
  refine (markRing_any i sX.v ws WK.heap.size 1 _ hXO (by omega) (by omega)).mono ?_
  rintro e w9 ⟨rfl, _, G9⟩
  have HB0 : Hid (Below w.heap.size w w9) := HB0.out.grown G9 HB0.out.size (fun k hk => by have := (XL.out k hk).1; omega)
  have HL0 : Hid (Bx w9 w.heap.size 56 [.int .i64 i, .slice s.a s.n s.c]) := HL0.out.grown G9 (fun e => by have := (XL.out _ e.symm).1; omega)
  have HX0 : Hid (RI w9 s.v ws) := hx0.out.stays HB0.out
  have WKB : Hid (Bx w9 gK 32 [.int .i64 R.id, .int .i64 R.rid, .slice uK.ms.a uK.ms.n uK.ms.c, .slice uK.its.a uK.its.n uK.its.c, .slice uK.lv.a uK.lv.n uK.lv.c, .slice uK.tx.a uK.tx.n uK.tx.c, .int .i64 R.rd, .int .i64 R.se, .int .i64 R.li, .int .i64 R.he, .int .i64 R.la.c, .int .i64 R.la.r, .int .i64 R.la.q, .int .i64 R.la.a, .int .i64 R.la.b, .slice uK.ws.a uK.ws.n uK.ws.c]) := WKB.out.grown G9 (fun e => by have := (XL.out _ e.symm).1; omega)
  have hKO : Hid (MtO w9 w2.heap.size R uK) := hKO.out.keep (fun k hk hlt => G9.block k hlt (fun e => by have := (XL.out _ e.symm).1; have := KL.out k hk; omega))
  have WGB : Hid (Bx w9 gG 32 [.int .i64 R.id, .int .i64 R.rid, .slice uG.ms.a uG.ms.n uG.ms.c, .slice uG.its.a uG.its.n uG.its.c, .slice uG.lv.a uG.lv.n uG.lv.c, .slice uG.tx.a uG.tx.n uG.tx.c, .int .i64 R.rd, .int .i64 R.se, .int .i64 R.li, .int .i64 R.he, .int .i64 R.la.c, .int .i64 R.la.r, .int .i64 R.la.q, .int .i64 R.la.a, .int .i64 R.la.b, .slice uG.ws.a uG.ws.n uG.ws.c]) := WGB.out.grown G9 (fun e => by have := (XL.out _ e.symm).2; omega)
  have hGO : Hid (MtO w9 WX.heap.size R uG) := hGO.out.keep (fun k hk hlt => G9.block k hlt (fun e => by have := (XL.out _ e.symm).2; have := (GL.out k hk).1; omega))
  obtain ⟨z9, hz9⟩ : ∃ z9 : Nat, 1 + ws.length = z9 := ⟨_, rfl⟩
  rw [hz9]
  have hz9 : decide ((z9 : Int) < 0) = false := by simp
  clear WXB hXO G9
  go_wp2_with (first | (refine wpList_ldG rfl 32 _ rfl (gG) 0 rfl 32 _ WGB.out [.int .i64 R.id, .int .i64 R.rid, .slice uG.ms.a uG.ms.n uG.ms.c, .slice uG.its.a uG.its.n uG.its.c, .slice uG.lv.a uG.lv.n uG.lv.c, .slice uG.tx.a uG.tx.n uG.tx.c, .int .i64 R.rd, .int .i64 R.se, .int .i64 R.li, .int .i64 R.he, .int .i64 R.la.c, .int .i64 R.la.r, .int .i64 R.la.q, .int .i64 R.la.a, .int .i64 R.la.b, .slice uG.ws.a uG.ws.n uG.ws.c] rfl _ Try.underlying32 rfl Try.sizeM ?_) | (refine wpList_ldG rfl 32 _ rfl (gK) 0 rfl 32 _ WKB.out [.int .i64 R.id, .int .i64 R.rid, .slice uK.ms.a uK.ms.n uK.ms.c, .slice uK.its.a uK.its.n uK.its.c, .slice uK.lv.a uK.lv.n uK.lv.c, .slice uK.tx.a uK.tx.n uK.tx.c, .int .i64 R.rd, .int .i64 R.se, .int .i64 R.li, .int .i64 R.he, .int .i64 R.la.c, .int .i64 R.la.r, .int .i64 R.la.q, .int .i64 R.la.a, .int .i64 R.la.b, .slice uK.ws.a uK.ws.n uK.ws.c] rfl _ Try.underlying32 rfl Try.sizeM ?_))
  refine (eqMate_same R uG uK WX.heap.size w2.heap.size _ hGO hKO hsR).mono ?_
  rintro e w10 ⟨rfl, b⟩
  have HL0 : Hid (Bx w10 w.heap.size 56 [.int .i64 i, .slice s.a s.n s.c]) := HL0.out.later b
  have HB0 : Hid (Below w.heap.size w w10) := bl_next HB0.out b
  have HX0 : Hid (RI w10 s.v ws) := HX0.out.stays b
  have WKB : Hid (Bx w10 gK 32 [.int .i64 R.id, .int .i64 R.rid, .slice uK.ms.a uK.ms.n uK.ms.c, .slice uK.its.a uK.its.n uK.its.c, .slice uK.lv.a uK.lv.n uK.lv.c, .slice uK.tx.a uK.tx.n uK.tx.c, .int .i64 R.rd, .int .i64 R.se, .int .i64 R.li, .int .i64 R.he, .int .i64 R.la.c, .int .i64 R.la.r, .int .i64 R.la.q, .int .i64 R.la.a, .int .i64 R.la.b, .slice uK.ws.a uK.ws.n uK.ws.c]) := WKB.out.later b
  have hKO : Hid (MtO w10 w2.heap.size R uK) := hKO.out.later b
  have WGB : Hid (Bx w10 gG 32 [.int .i64 R.id, .int .i64 R.rid, .slice uG.ms.a uG.ms.n uG.ms.c, .slice uG.its.a uG.its.n uG.its.c, .slice uG.lv.a uG.lv.n uG.lv.c, .slice uG.tx.a uG.tx.n uG.tx.c, .int .i64 R.rd, .int .i64 R.se, .int .i64 R.li, .int .i64 R.he, .int .i64 R.la.c, .int .i64 R.la.r, .int .i64 R.la.q, .int .i64 R.la.a, .int .i64 R.la.b, .slice uG.ws.a uG.ws.n uG.ws.c]) := WGB.out.later b
  have hGO : Hid (MtO w10 WX.heap.size R uG) := hGO.out.later b
  clear b
  clear hz9
  go_wp2_with (first | (refine wpList_ldG rfl 32 _ rfl (gG) 0 rfl 32 _ WGB.out [.int .i64 R.id, .int .i64 R.rid, .slice uG.ms.a uG.ms.n uG.ms.c, .slice uG.its.a uG.its.n uG.its.c, .slice uG.lv.a uG.lv.n uG.lv.c, .slice uG.tx.a uG.tx.n uG.tx.c, .int .i64 R.rd, .int .i64 R.se, .int .i64 R.li, .int .i64 R.he, .int .i64 R.la.c, .int .i64 R.la.r, .int .i64 R.la.q, .int .i64 R.la.a, .int .i64 R.la.b, .slice uG.ws.a uG.ws.n uG.ws.c] rfl _ Try.underlying32 rfl Try.sizeM ?_))
  refine (markMate_any R uG WX.heap.size 1 _ hGO (endM_le hsR.out) (by omega)).mono ?_
  rintro e w11 ⟨rfl, hv, G⟩
  have HB0 : Hid (Below w.heap.size w w11) := HB0.out.trans (G.below (fun k hk => by have := (GL.out k hk).1; omega) HB0.out.size)
  have HL0 : Hid (Bx w11 w.heap.size 56 [.int .i64 i, .slice s.a s.n s.c]) := (G.block _ HL0.out.lt (fun hk => by have := (GL.out _ hk).1; omega)).trans HL0.out
  have HX0 : Hid (RI w11 s.v ws) := hx0.out.stays HB0.out
  have WKB : Hid (Bx w11 gK 32 [.int .i64 R.id, .int .i64 R.rid, .slice uK.ms.a uK.ms.n uK.ms.c, .slice uK.its.a uK.its.n uK.its.c, .slice uK.lv.a uK.lv.n uK.lv.c, .slice uK.tx.a uK.tx.n uK.tx.c, .int .i64 R.rd, .int .i64 R.se, .int .i64 R.li, .int .i64 R.he, .int .i64 R.la.c, .int .i64 R.la.r, .int .i64 R.la.q, .int .i64 R.la.a, .int .i64 R.la.b, .slice uK.ws.a uK.ws.n uK.ws.c]) := (G.block _ WKB.out.lt (fun hk => by have := (GL.out _ hk).1; omega)).trans WKB.out
  have hKO : Hid (MtO w11 w2.heap.size R uK) := hKO.out.keep (fun k hk hlt => G.block k hlt (fun h2 => by have := (GL.out _ h2).1; have := KL.out k hk; omega))
  have WGB : Hid (Bx w11 gG 32 [.int .i64 R.id, .int .i64 R.rid, .slice uG.ms.a uG.ms.n uG.ms.c, .slice uG.its.a uG.its.n uG.its.c, .slice uG.lv.a uG.lv.n uG.lv.c, .slice uG.tx.a uG.tx.n uG.tx.c, .int .i64 R.rd, .int .i64 R.se, .int .i64 R.li, .int .i64 R.he, .int .i64 R.la.c, .int .i64 R.la.r, .int .i64 R.la.q, .int .i64 R.la.a, .int .i64 R.la.b, .slice uG.ws.a uG.ws.n uG.ws.c]) := (G.block _ WGB.out.lt (fun hk => by have := (GL.out _ hk).2; omega)).trans WGB.out
  have hGO : Hid (MtO w11 WX.heap.size (markM 1 R) uG) := hv
  clear hv G
  obtain ⟨M, hM⟩ : ∃ M : Nat, endM 1 R = M := ⟨_, rfl⟩
  rw [hM]
  have HM : Hid (endM 1 R = M) := hM
  have hM0 : decide ((M : Int) < 0) = false := by simp
  clear hM
  go_wp2_with (first | (refine wpList_ldG rfl 32 _ rfl (gG) 0 rfl 32 _ WGB.out [.int .i64 R.id, .int .i64 R.rid, .slice uG.ms.a uG.ms.n uG.ms.c, .slice uG.its.a uG.its.n uG.its.c, .slice uG.lv.a uG.lv.n uG.lv.c, .slice uG.tx.a uG.tx.n uG.tx.c, .int .i64 R.rd, .int .i64 R.se, .int .i64 R.li, .int .i64 R.he, .int .i64 R.la.c, .int .i64 R.la.r, .int .i64 R.la.q, .int .i64 R.la.a, .int .i64 R.la.b, .slice uG.ws.a uG.ws.n uG.ws.c] rfl _ Try.underlying32 rfl Try.sizeM ?_))
  refine (heldMate_any R uG WX.heap.size 1 _ hGO (endM_le hsR.out) (by omega)).mono ?_
  rintro e w12 ⟨rfl, b⟩
  rw [HM.out]
  have HL0 : Hid (Bx w12 w.heap.size 56 [.int .i64 i, .slice s.a s.n s.c]) := HL0.out.later b
  have HB0 : Hid (Below w.heap.size w w12) := bl_next HB0.out b
  have HX0 : Hid (RI w12 s.v ws) := HX0.out.stays b
  have WKB : Hid (Bx w12 gK 32 [.int .i64 R.id, .int .i64 R.rid, .slice uK.ms.a uK.ms.n uK.ms.c, .slice uK.its.a uK.its.n uK.its.c, .slice uK.lv.a uK.lv.n uK.lv.c, .slice uK.tx.a uK.tx.n uK.tx.c, .int .i64 R.rd, .int .i64 R.se, .int .i64 R.li, .int .i64 R.he, .int .i64 R.la.c, .int .i64 R.la.r, .int .i64 R.la.q, .int .i64 R.la.a, .int .i64 R.la.b, .slice uK.ws.a uK.ws.n uK.ws.c]) := WKB.out.later b
  have hKO : Hid (MtO w12 w2.heap.size R uK) := hKO.out.later b
  have WGB : Hid (Bx w12 gG 32 [.int .i64 R.id, .int .i64 R.rid, .slice uG.ms.a uG.ms.n uG.ms.c, .slice uG.its.a uG.its.n uG.its.c, .slice uG.lv.a uG.lv.n uG.lv.c, .slice uG.tx.a uG.tx.n uG.tx.c, .int .i64 R.rd, .int .i64 R.se, .int .i64 R.li, .int .i64 R.he, .int .i64 R.la.c, .int .i64 R.la.r, .int .i64 R.la.q, .int .i64 R.la.a, .int .i64 R.la.b, .slice uG.ws.a uG.ws.n uG.ws.c]) := WGB.out.later b
  have hGO : Hid (MtO w12 WX.heap.size (markM 1 R) uG) := hGO.out.later b
  clear b
  have l0 := HL0.out.cell 0
  have l1 := HL0.out.cell 1
  go_wp2_with fail
  clear l0 l1
  refine (toRing_r i s ws _ HX0 hl2).mono ?_
  rintro e w13 ⟨s13, rfl, o13, b13⟩
  have HL0 : Hid (Bx w13 w.heap.size 56 [.int .i64 i, .slice s.a s.n s.c]) := HL0.out.later b13
  have HB0 : Hid (Below w.heap.size w w13) := bl_next HB0.out b13
  have HX0 : Hid (RI w13 s.v ws) := HX0.out.stays b13
  have WKB : Hid (Bx w13 gK 32 [.int .i64 R.id, .int .i64 R.rid, .slice uK.ms.a uK.ms.n uK.ms.c, .slice uK.its.a uK.its.n uK.its.c, .slice uK.lv.a uK.lv.n uK.lv.c, .slice uK.tx.a uK.tx.n uK.tx.c, .int .i64 R.rd, .int .i64 R.se, .int .i64 R.li, .int .i64 R.he, .int .i64 R.la.c, .int .i64 R.la.r, .int .i64 R.la.q, .int .i64 R.la.a, .int .i64 R.la.b, .slice uK.ws.a uK.ws.n uK.ws.c]) := WKB.out.later b13
  have hKO : Hid (MtO w13 w2.heap.size R uK) := hKO.out.later b13
  have WGB : Hid (Bx w13 gG 32 [.int .i64 R.id, .int .i64 R.rid, .slice uG.ms.a uG.ms.n uG.ms.c, .slice uG.its.a uG.its.n uG.its.c, .slice uG.lv.a uG.lv.n uG.lv.c, .slice uG.tx.a uG.tx.n uG.tx.c, .int .i64 R.rd, .int .i64 R.se, .int .i64 R.li, .int .i64 R.he, .int .i64 R.la.c, .int .i64 R.la.r, .int .i64 R.la.q, .int .i64 R.la.a, .int .i64 R.la.b, .slice uG.ws.a uG.ws.n uG.ws.c]) := WGB.out.later b13
  have hGO : Hid (MtO w13 WX.heap.size (markM 1 R) uG) := hGO.out.later b13
  have X13 : Hid (RI w13 s13.v ws) := o13.ri
  clear o13 b13
  go_wp2_with fail
  refine (IMP.out s13 _ X13).mono ?_
  rintro e w14 ⟨uE, rfl, o14, b14⟩
  have HL0 : Hid (Bx w14 w.heap.size 56 [.int .i64 i, .slice s.a s.n s.c]) := HL0.out.later b14
  have HB0 : Hid (Below w.heap.size w w14) := bl_next HB0.out b14
  have HX0 : Hid (RI w14 s.v ws) := HX0.out.stays b14
  have WKB : Hid (Bx w14 gK 32 [.int .i64 R.id, .int .i64 R.rid, .slice uK.ms.a uK.ms.n uK.ms.c, .slice uK.its.a uK.its.n uK.its.c, .slice uK.lv.a uK.lv.n uK.lv.c, .slice uK.tx.a uK.tx.n uK.tx.c, .int .i64 R.rd, .int .i64 R.se, .int .i64 R.li, .int .i64 R.he, .int .i64 R.la.c, .int .i64 R.la.r, .int .i64 R.la.q, .int .i64 R.la.a, .int .i64 R.la.b, .slice uK.ws.a uK.ws.n uK.ws.c]) := WKB.out.later b14
  have hKO : Hid (MtO w14 w2.heap.size R uK) := hKO.out.later b14
  have WGB : Hid (Bx w14 gG 32 [.int .i64 R.id, .int .i64 R.rid, .slice uG.ms.a uG.ms.n uG.ms.c, .slice uG.its.a uG.its.n uG.its.c, .slice uG.lv.a uG.lv.n uG.lv.c, .slice uG.tx.a uG.tx.n uG.tx.c, .int .i64 R.rd, .int .i64 R.se, .int .i64 R.li, .int .i64 R.he, .int .i64 R.la.c, .int .i64 R.la.r, .int .i64 R.la.q, .int .i64 R.la.a, .int .i64 R.la.b, .slice uG.ws.a uG.ws.n uG.ws.c]) := WGB.out.later b14
  have hGO : Hid (MtO w14 WX.heap.size (markM 1 R) uG) := hGO.out.later b14
  clear b14 X13
  have hz_WE : Hid (Bx (w14.alloc (.cells #[.int .i64 0, .int .i64 0, .slice none 0 0, .slice none 0 0, .slice none 0 0, .slice none 0 0, .int .i64 0, .int .i64 0, .int .i64 0, .int .i64 0, .int .i64 0, .int .i64 0, .int .i64 0, .int .i64 0, .int .i64 0, .slice none 0 0] 32)) w14.heap.size 32 [.int .i64 0, .int .i64 0, .slice none 0 0, .slice none 0 0, .slice none 0 0, .slice none 0 0, .int .i64 0, .int .i64 0, .int .i64 0, .int .i64 0, .int .i64 0, .int .i64 0, .int .i64 0, .int .i64 0, .int .i64 0, .slice none 0 0]) := Bx.new w14 32 _
  go_wp2_with (first | (refine wpList_stB rfl 32 _ _ rfl w14.heap.size 0 rfl 32 _ hz_WE.out [.int .i64 R.id, .int .i64 R.rid, .slice uE.ms.a uE.ms.n uE.ms.c, .slice uE.its.a uE.its.n uE.its.c, .slice uE.lv.a uE.lv.n uE.lv.c, .slice uE.tx.a uE.tx.n uE.tx.c, .int .i64 R.rd, .int .i64 R.se, .int .i64 R.li, .int .i64 R.he, .int .i64 R.la.c, .int .i64 R.la.r, .int .i64 R.la.q, .int .i64 R.la.a, .int .i64 R.la.b, .slice uE.ws.a uE.ws.n uE.ws.c] rfl (by simp) Try.sizeM rfl [.int .i64 R.id, .int .i64 R.rid, .slice uE.ms.a uE.ms.n uE.ms.c, .slice uE.its.a uE.its.n uE.its.c, .slice uE.lv.a uE.lv.n uE.lv.c, .slice uE.tx.a uE.tx.n uE.tx.c, .int .i64 R.rd, .int .i64 R.se, .int .i64 R.li, .int .i64 R.he, .int .i64 R.la.c, .int .i64 R.la.r, .int .i64 R.la.q, .int .i64 R.la.a, .int .i64 R.la.b, .slice uE.ws.a uE.ws.n uE.ws.c] rfl ?_; intro WE kb kt; have bb : Below w14.heap.size w14 WE := ((Below.refl _ _).alloc (Nat.le_refl _) _).trans (kt.below (Nat.le_refl _)); have HL0 : Hid (Bx WE w.heap.size 56 [.int .i64 i, .slice s.a s.n s.c]) := HL0.out.later bb; have HB0 : Hid (Below w.heap.size w WE) := bl_next HB0.out bb; have HX0 : Hid (RI WE s.v ws) := HX0.out.stays bb; have WKB : Hid (Bx WE gK 32 [.int .i64 R.id, .int .i64 R.rid, .slice uK.ms.a uK.ms.n uK.ms.c, .slice uK.its.a uK.its.n uK.its.c, .slice uK.lv.a uK.lv.n uK.lv.c, .slice uK.tx.a uK.tx.n uK.tx.c, .int .i64 R.rd, .int .i64 R.se, .int .i64 R.li, .int .i64 R.he, .int .i64 R.la.c, .int .i64 R.la.r, .int .i64 R.la.q, .int .i64 R.la.a, .int .i64 R.la.b, .slice uK.ws.a uK.ws.n uK.ws.c]) := WKB.out.later bb; have hKO : Hid (MtO WE w2.heap.size R uK) := hKO.out.later bb; have WGB : Hid (Bx WE gG 32 [.int .i64 R.id, .int .i64 R.rid, .slice uG.ms.a uG.ms.n uG.ms.c, .slice uG.its.a uG.its.n uG.its.c, .slice uG.lv.a uG.lv.n uG.lv.c, .slice uG.tx.a uG.tx.n uG.tx.c, .int .i64 R.rd, .int .i64 R.se, .int .i64 R.li, .int .i64 R.he, .int .i64 R.la.c, .int .i64 R.la.r, .int .i64 R.la.q, .int .i64 R.la.a, .int .i64 R.la.b, .slice uG.ws.a uG.ws.n uG.ws.c]) := WGB.out.later bb; have hGO : Hid (MtO WE WX.heap.size (markM 1 R) uG) := hGO.out.later bb; have WEB : Hid (Bx WE w14.heap.size 32 [.int .i64 R.id, .int .i64 R.rid, .slice uE.ms.a uE.ms.n uE.ms.c, .slice uE.its.a uE.its.n uE.its.c, .slice uE.lv.a uE.lv.n uE.lv.c, .slice uE.tx.a uE.tx.n uE.tx.c, .int .i64 R.rd, .int .i64 R.se, .int .i64 R.li, .int .i64 R.he, .int .i64 R.la.c, .int .i64 R.la.r, .int .i64 R.la.q, .int .i64 R.la.a, .int .i64 R.la.b, .slice uE.ws.a uE.ws.n uE.ws.c]) := kb; have hEO : Hid (MtO WE w13.heap.size R uE) := o14.later bb; clear kb kt) | (refine wpList_ldG rfl 32 _ rfl (w14.heap.size) 0 rfl 32 _ WEB.out [.int .i64 R.id, .int .i64 R.rid, .slice uE.ms.a uE.ms.n uE.ms.c, .slice uE.its.a uE.its.n uE.its.c, .slice uE.lv.a uE.lv.n uE.lv.c, .slice uE.tx.a uE.tx.n uE.tx.c, .int .i64 R.rd, .int .i64 R.se, .int .i64 R.li, .int .i64 R.he, .int .i64 R.la.c, .int .i64 R.la.r, .int .i64 R.la.q, .int .i64 R.la.a, .int .i64 R.la.b, .slice uE.ws.a uE.ws.n uE.ws.c] rfl _ Try.underlying32 rfl Try.sizeM ?_) | (refine wpList_ldG rfl 32 _ rfl (gK) 0 rfl 32 _ WKB.out [.int .i64 R.id, .int .i64 R.rid, .slice uK.ms.a uK.ms.n uK.ms.c, .slice uK.its.a uK.its.n uK.its.c, .slice uK.lv.a uK.lv.n uK.lv.c, .slice uK.tx.a uK.tx.n uK.tx.c, .int .i64 R.rd, .int .i64 R.se, .int .i64 R.li, .int .i64 R.he, .int .i64 R.la.c, .int .i64 R.la.r, .int .i64 R.la.q, .int .i64 R.la.a, .int .i64 R.la.b, .slice uK.ws.a uK.ws.n uK.ws.c] rfl _ Try.underlying32 rfl Try.sizeM ?_))
  refine (eqMate_same R uE uK _ _ _ hEO hKO hsR).mono ?_
  rintro e w15 ⟨rfl, b⟩
  have HL0 : Hid (Bx w15 w.heap.size 56 [.int .i64 i, .slice s.a s.n s.c]) := HL0.out.later b
  have HB0 : Hid (Below w.heap.size w w15) := bl_next HB0.out b
  have HX0 : Hid (RI w15 s.v ws) := HX0.out.stays b
  have WKB : Hid (Bx w15 gK 32 [.int .i64 R.id, .int .i64 R.rid, .slice uK.ms.a uK.ms.n uK.ms.c, .slice uK.its.a uK.its.n uK.its.c, .slice uK.lv.a uK.lv.n uK.lv.c, .slice uK.tx.a uK.tx.n uK.tx.c, .int .i64 R.rd, .int .i64 R.se, .int .i64 R.li, .int .i64 R.he, .int .i64 R.la.c, .int .i64 R.la.r, .int .i64 R.la.q, .int .i64 R.la.a, .int .i64 R.la.b, .slice uK.ws.a uK.ws.n uK.ws.c]) := WKB.out.later b
  have hKO : Hid (MtO w15 w2.heap.size R uK) := hKO.out.later b
  have WGB : Hid (Bx w15 gG 32 [.int .i64 R.id, .int .i64 R.rid, .slice uG.ms.a uG.ms.n uG.ms.c, .slice uG.its.a uG.its.n uG.its.c, .slice uG.lv.a uG.lv.n uG.lv.c, .slice uG.tx.a uG.tx.n uG.tx.c, .int .i64 R.rd, .int .i64 R.se, .int .i64 R.li, .int .i64 R.he, .int .i64 R.la.c, .int .i64 R.la.r, .int .i64 R.la.q, .int .i64 R.la.a, .int .i64 R.la.b, .slice uG.ws.a uG.ws.n uG.ws.c]) := WGB.out.later b
  have hGO : Hid (MtO w15 WX.heap.size (markM 1 R) uG) := hGO.out.later b
  have WEB : Hid (Bx w15 w14.heap.size 32 [.int .i64 R.id, .int .i64 R.rid, .slice uE.ms.a uE.ms.n uE.ms.c, .slice uE.its.a uE.its.n uE.its.c, .slice uE.lv.a uE.lv.n uE.lv.c, .slice uE.tx.a uE.tx.n uE.tx.c, .int .i64 R.rd, .int .i64 R.se, .int .i64 R.li, .int .i64 R.he, .int .i64 R.la.c, .int .i64 R.la.r, .int .i64 R.la.q, .int .i64 R.la.a, .int .i64 R.la.b, .slice uE.ws.a uE.ws.n uE.ws.c]) := WEB.out.later b
  clear b bb o14 hz_WE hEO
  go_wp2_with (first | (refine wpList_ldG rfl 32 _ rfl (gG) 0 rfl 32 _ WGB.out [.int .i64 R.id, .int .i64 R.rid, .slice uG.ms.a uG.ms.n uG.ms.c, .slice uG.its.a uG.its.n uG.its.c, .slice uG.lv.a uG.lv.n uG.lv.c, .slice uG.tx.a uG.tx.n uG.tx.c, .int .i64 R.rd, .int .i64 R.se, .int .i64 R.li, .int .i64 R.he, .int .i64 R.la.c, .int .i64 R.la.r, .int .i64 R.la.q, .int .i64 R.la.a, .int .i64 R.la.b, .slice uG.ws.a uG.ws.n uG.ws.c] rfl _ Try.underlying32 rfl Try.sizeM ?_))
  refine (heldMate_any R uG WX.heap.size 1 _ hGO (endM_le hsR.out) (by omega)).mono ?_
  rintro e w16 ⟨rfl, b⟩
  rw [HM.out]
  have HL0 : Hid (Bx w16 w.heap.size 56 [.int .i64 i, .slice s.a s.n s.c]) := HL0.out.later b
  have HB0 : Hid (Below w.heap.size w w16) := bl_next HB0.out b
  have HX0 : Hid (RI w16 s.v ws) := HX0.out.stays b
  have WKB : Hid (Bx w16 gK 32 [.int .i64 R.id, .int .i64 R.rid, .slice uK.ms.a uK.ms.n uK.ms.c, .slice uK.its.a uK.its.n uK.its.c, .slice uK.lv.a uK.lv.n uK.lv.c, .slice uK.tx.a uK.tx.n uK.tx.c, .int .i64 R.rd, .int .i64 R.se, .int .i64 R.li, .int .i64 R.he, .int .i64 R.la.c, .int .i64 R.la.r, .int .i64 R.la.q, .int .i64 R.la.a, .int .i64 R.la.b, .slice uK.ws.a uK.ws.n uK.ws.c]) := WKB.out.later b
  have hKO : Hid (MtO w16 w2.heap.size R uK) := hKO.out.later b
  have WGB : Hid (Bx w16 gG 32 [.int .i64 R.id, .int .i64 R.rid, .slice uG.ms.a uG.ms.n uG.ms.c, .slice uG.its.a uG.its.n uG.its.c, .slice uG.lv.a uG.lv.n uG.lv.c, .slice uG.tx.a uG.tx.n uG.tx.c, .int .i64 R.rd, .int .i64 R.se, .int .i64 R.li, .int .i64 R.he, .int .i64 R.la.c, .int .i64 R.la.r, .int .i64 R.la.q, .int .i64 R.la.a, .int .i64 R.la.b, .slice uG.ws.a uG.ws.n uG.ws.c]) := WGB.out.later b
  have hGO : Hid (MtO w16 WX.heap.size (markM 1 R) uG) := hGO.out.later b
  have WEB : Hid (Bx w16 w14.heap.size 32 [.int .i64 R.id, .int .i64 R.rid, .slice uE.ms.a uE.ms.n uE.ms.c, .slice uE.its.a uE.its.n uE.its.c, .slice uE.lv.a uE.lv.n uE.lv.c, .slice uE.tx.a uE.tx.n uE.tx.c, .int .i64 R.rd, .int .i64 R.se, .int .i64 R.li, .int .i64 R.he, .int .i64 R.la.c, .int .i64 R.la.r, .int .i64 R.la.q, .int .i64 R.la.a, .int .i64 R.la.b, .slice uE.ws.a uE.ws.n uE.ws.c]) := WEB.out.later b
  clear b
  go_wp2_with fail
  go_ret
  exact ⟨rfl, HB0.out⟩
end Go.Proofs.Ytpbhcbgohgfkcaa

