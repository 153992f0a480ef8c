/- Joined texts: Ctc Pb. -/
import Derived.Test.YtpbhcbgohgfkcaaJct1
import Derived.Test.YtpbhcbgohgfkcaaJct2
import Derived.Test.YtpbhcbgohgfkcaaJct3
import Derived.Test.YtpbhcbgohgfkcaaJct4
import Derived.Test.YtpbhcbgohgfkcaaJct5
import Derived.Test.YtpbhcbgohgfkcaaJct6
import Derived.Test.YtpbhcbgohgfkcaaJct7
import Derived.Test.YtpbhcbgohgfkcaaJct8
import Derived.Test.YtpbhcbgohgfkcaaJct9
import Derived.Test.YtpbhcbgohgfkcaaJct10
import Derived.Test.YtpbhcbgohgfkcaaJct11
import Derived.Test.YtpbhcbgohgfkcaaJct12
/- A member catches an item: the walks over both Catch. Written by gen_ct.py. -/
namespace Go.Proofs.Ytpbhcbgohgfkcaa
open Go.RowKit Pl
set_option linter.unusedVariables false
set_option linter.unusedSimpArgs false

theorem MtO.past {w w' : World} {B g T : Nat} {m : Mt} {v : Mv} {cs : List Value} (h : MtO w B m v) (hB : Bx w g T cs) (ht : TurnAt g w w') (h3 : T ≠ 3) (h9 : T ≠ 9) (hI : T ≠ 38) : MtO w' B m v :=
  ⟨h.ms.past hB ht h3, h.its.past hB ht hI, h.lv.past hB ht h3, h.tx.past hB ht h9, h.ws.past hB ht h3, h.a1, h.a2, h.a3⟩
theorem MtO.keepb {w w' : World} {B g T : Nat} {m : Mt} {v : Mv} {cs : List Value} (h : MtO w B m v) (hB : Bx w g T cs) (ht : KeepBut g w w') (h3 : T ≠ 3) (h9 : T ≠ 9) (hI : T ≠ 38) : MtO w' B m v :=
  ⟨h.ms.keepb hB ht h3, h.its.keepb hB ht hI, h.lv.keepb hB ht h3, h.tx.keepb hB ht h9, h.ws.keepb hB ht h3, h.a1, h.a2, h.a3⟩
/-- a slice of one item. -/
theorem one_item {w : World} {g : Nat} {q f l : Int} {t : ByteArray} (h : ItAt w g q f l t) (hg : g < w.heap.size) : RIt w (Sv.mk (some ⟨g, 0, none⟩) 1 1).v [(q, f, l, t)] := by
  refine ⟨_, _, rfl, ?_⟩
  intro i hi
  obtain ⟨c0, c1, c2, c3⟩ := h.cells
  have : i = 0 := by simp at hi; omega
  subst this
  exact ⟨g, 0, rfl, hg, c0, c1, c2, c3⟩
/-- the member behind it. -/
def Mt.setIt (m : Mt) (ts : List It) : Mt := ⟨m.id, m.rid, m.ms, ts, m.lv, m.tx, m.rd, m.se, m.li, m.he, m.la⟩
def Mt.cat (m : Mt) (y : It) : Mt := m.setIt (if m.ok = true then putP m.its y else m.its)
theorem ok_its {m : Mt} (h : m.ok = true) : iGo 0 m.its = true := by
  unfold Mt.ok at h
  simp only [Bool.and_eq_true] at h
  exact h.2.2.1
theorem cat_no {m : Mt} {y : It} (h : m.ok = false) : m.cat y = m := by unfold Mt.cat; rw [if_neg (by rw [h]; simp)]; rfl
theorem cat_yes {m : Mt} {y : It} (h : m.ok = true) : m.cat y = m.setIt (putP m.its y) := by unfold Mt.cat; rw [if_pos h]
theorem cat_bad {m : Mt} {y : It} (h : m.ok = true) (hy : itB y.1 y.2.1 y.2.2.1 y.2.2.2 = false) : m.cat y = m := by rw [cat_yes h]; unfold putP; rw [if_neg (by rw [hy]; simp)]; rfl
theorem cat_put {m : Mt} {y : It} (h : m.ok = true) (hy : itB y.1 y.2.1 y.2.2.1 y.2.2.2 = true) : m.cat y = m.putX [y] := by rw [cat_yes h]; unfold putP; rw [if_pos ⟨ok_its h, hy⟩]; rfl

theorem spPutItem_s (s : Sv) (ts : List It) (q f l : Int) (t : ByteArray) (w : World) (h : Hid (RIt w s.v ts)) (hl : ts.length ≤ 1048576) :
    Calls Try.prog 104 #[.slice s.a s.n s.c, .agg #[.int .i64 q, .int .i64 f, .int .i64 l, .string t]] w fun e w' => ∃ u : Sv, e = .returned (.slice u.a u.n u.c) ∧ SlI w' w.heap.size u.v (putP ts (q, f, l, t)) ∧ Below w.heap.size w w' := by
  obtain ⟨ao, cap, h1, h2⟩ := h.out; unfold Sv.v at h1; rw [h1]
  exact (spPutItem_any ao cap ts q f l t w h2 hl).mono fun e w' ⟨v, a, b, c⟩ => by obtain ⟨u, rfl⟩ := b.sv; exact ⟨u, a, b, c⟩
set_option maxRecDepth 100000 in
set_option maxHeartbeats 4000000 in
theorem spCatch_any (m : Mt) (v : Mv) (q f l : Int) (t : ByteArray) (w : World) (h : Hid (MtP w m v)) (hs : Hid (MtS m)) (ht : t.size ≤ 1048576) :
    Calls Try.prog 40 #[.agg #[.int .i64 m.id, .int .i64 m.rid, .slice v.ms.a v.ms.n v.ms.c, .slice v.its.a v.its.n v.its.c, .slice v.lv.a v.lv.n v.lv.c, .slice v.tx.a v.tx.n v.tx.c, .int .i64 m.rd, .int .i64 m.se, .int .i64 m.li, .int .i64 m.he, .int .i64 m.la.c, .int .i64 m.la.r, .int .i64 m.la.q, .int .i64 m.la.a, .int .i64 m.la.b, .slice v.ws.a v.ws.n v.ws.c], .agg #[.int .i64 q, .int .i64 f, .int .i64 l, .string t]] w fun e w' => ∃ u : Mv, e = .returned (.agg #[.int .i64 m.id, .int .i64 m.rid, .slice u.ms.a u.ms.n u.ms.c, .slice u.its.a u.its.n u.its.c, .slice u.lv.a u.lv.n u.lv.c, .slice u.tx.a u.tx.n u.tx.c, .int .i64 m.rd, .int .i64 m.se, .int .i64 m.li, .int .i64 m.he, .int .i64 m.la.c, .int .i64 m.la.r, .int .i64 m.la.q, .int .i64 m.la.a, .int .i64 m.la.b, .slice u.ws.a u.ws.n u.ws.c]) ∧ MtO w' w.heap.size (m.cat (q, f, l, t)) u ∧ Below w.heap.size w w' := by
  have hn1 : (w.alloc (.cells #[.int .i64 m.id, .int .i64 m.rid, .slice v.ms.a v.ms.n v.ms.c, .slice v.its.a v.its.n v.its.c, .slice v.lv.a v.lv.n v.lv.c, .slice v.tx.a v.tx.n v.tx.c, .int .i64 m.rd, .int .i64 m.se, .int .i64 m.li, .int .i64 m.he, .int .i64 m.la.c, .int .i64 m.la.r, .int .i64 m.la.q, .int .i64 m.la.a, .int .i64 m.la.b, .slice v.ws.a v.ws.n v.ws.c] 32)).heap.size = w.heap.size + 1 := by simp
  have hn2 : ((w.alloc (.cells #[.int .i64 m.id, .int .i64 m.rid, .slice v.ms.a v.ms.n v.ms.c, .slice v.its.a v.its.n v.its.c, .slice v.lv.a v.lv.n v.lv.c, .slice v.tx.a v.tx.n v.tx.c, .int .i64 m.rd, .int .i64 m.se, .int .i64 m.li, .int .i64 m.he, .int .i64 m.la.c, .int .i64 m.la.r, .int .i64 m.la.q, .int .i64 m.la.a, .int .i64 m.la.b, .slice v.ws.a v.ws.n v.ws.c] 32)).alloc (.cells #[.int .i64 q, .int .i64 f, .int .i64 l, .string t] 38)).heap.size = w.heap.size + 2 := by simp
  have HA : Hid (Bx (((w.alloc (.cells #[.int .i64 m.id, .int .i64 m.rid, .slice v.ms.a v.ms.n v.ms.c, .slice v.its.a v.its.n v.its.c, .slice v.lv.a v.lv.n v.lv.c, .slice v.tx.a v.tx.n v.tx.c, .int .i64 m.rd, .int .i64 m.se, .int .i64 m.li, .int .i64 m.he, .int .i64 m.la.c, .int .i64 m.la.r, .int .i64 m.la.q, .int .i64 m.la.a, .int .i64 m.la.b, .slice v.ws.a v.ws.n v.ws.c] 32)).alloc (.cells #[.int .i64 q, .int .i64 f, .int .i64 l, .string t] 38)).alloc (.cells #[.int .i64 0, .int .i64 0, .slice none 0 0, .slice none 0 0, .slice none 0 0, .slice none 0 0, .int .i64 0, .int .i64 0, .int .i64 0, .int .i64 0, .int .i64 0, .int .i64 0, .int .i64 0, .int .i64 0, .int .i64 0, .slice none 0 0] 32)) w.heap.size 32 [.int .i64 m.id, .int .i64 m.rid, .slice v.ms.a v.ms.n v.ms.c, .slice v.its.a v.its.n v.its.c, .slice v.lv.a v.lv.n v.lv.c, .slice v.tx.a v.tx.n v.tx.c, .int .i64 m.rd, .int .i64 m.se, .int .i64 m.li, .int .i64 m.he, .int .i64 m.la.c, .int .i64 m.la.r, .int .i64 m.la.q, .int .i64 m.la.a, .int .i64 m.la.b, .slice v.ws.a v.ws.n v.ws.c]) := by
    have h := Bx.new w 32 [.int .i64 m.id, .int .i64 m.rid, .slice v.ms.a v.ms.n v.ms.c, .slice v.its.a v.its.n v.its.c, .slice v.lv.a v.lv.n v.lv.c, .slice v.tx.a v.tx.n v.tx.c, .int .i64 m.rd, .int .i64 m.se, .int .i64 m.li, .int .i64 m.he, .int .i64 m.la.c, .int .i64 m.la.r, .int .i64 m.la.q, .int .i64 m.la.a, .int .i64 m.la.b, .slice v.ws.a v.ws.n v.ws.c]
    exact h.stays (B := w.heap.size + 1) (((Below.refl _ _).alloc (by rw [hn1]; exact Nat.le_refl _) _).alloc (by rw [hn2]; omega) _) (by omega)
  have HX : Hid (Bx (((w.alloc (.cells #[.int .i64 m.id, .int .i64 m.rid, .slice v.ms.a v.ms.n v.ms.c, .slice v.its.a v.its.n v.its.c, .slice v.lv.a v.lv.n v.lv.c, .slice v.tx.a v.tx.n v.tx.c, .int .i64 m.rd, .int .i64 m.se, .int .i64 m.li, .int .i64 m.he, .int .i64 m.la.c, .int .i64 m.la.r, .int .i64 m.la.q, .int .i64 m.la.a, .int .i64 m.la.b, .slice v.ws.a v.ws.n v.ws.c] 32)).alloc (.cells #[.int .i64 q, .int .i64 f, .int .i64 l, .string t] 38)).alloc (.cells #[.int .i64 0, .int .i64 0, .slice none 0 0, .slice none 0 0, .slice none 0 0, .slice none 0 0, .int .i64 0, .int .i64 0, .int .i64 0, .int .i64 0, .int .i64 0, .int .i64 0, .int .i64 0, .int .i64 0, .int .i64 0, .slice none 0 0] 32)) (w.heap.size + 1) 38 [.int .i64 q, .int .i64 f, .int .i64 l, .string t]) := by
    have h := Bx.new (w.alloc (.cells #[.int .i64 m.id, .int .i64 m.rid, .slice v.ms.a v.ms.n v.ms.c, .slice v.its.a v.its.n v.its.c, .slice v.lv.a v.lv.n v.lv.c, .slice v.tx.a v.tx.n v.tx.c, .int .i64 m.rd, .int .i64 m.se, .int .i64 m.li, .int .i64 m.he, .int .i64 m.la.c, .int .i64 m.la.r, .int .i64 m.la.q, .int .i64 m.la.a, .int .i64 m.la.b, .slice v.ws.a v.ws.n v.ws.c] 32)) 38 [.int .i64 q, .int .i64 f, .int .i64 l, .string t]
    rw [hn1] at h
    exact h.stays (B := w.heap.size + 2) ((Below.refl _ _).alloc (by rw [hn2]; exact Nat.le_refl _) _) (by omega)
  have HR : Hid (Bx (((w.alloc (.cells #[.int .i64 m.id, .int .i64 m.rid, .slice v.ms.a v.ms.n v.ms.c, .slice v.its.a v.its.n v.its.c, .slice v.lv.a v.lv.n v.lv.c, .slice v.tx.a v.tx.n v.tx.c, .int .i64 m.rd, .int .i64 m.se, .int .i64 m.li, .int .i64 m.he, .int .i64 m.la.c, .int .i64 m.la.r, .int .i64 m.la.q, .int .i64 m.la.a, .int .i64 m.la.b, .slice v.ws.a v.ws.n v.ws.c] 32)).alloc (.cells #[.int .i64 q, .int .i64 f, .int .i64 l, .string t] 38)).alloc (.cells #[.int .i64 0, .int .i64 0, .slice none 0 0, .slice none 0 0, .slice none 0 0, .slice none 0 0, .int .i64 0, .int .i64 0, .int .i64 0, .int .i64 0, .int .i64 0, .int .i64 0, .int .i64 0, .int .i64 0, .int .i64 0, .slice none 0 0] 32)) (w.heap.size + 2) 32 [.int .i64 0, .int .i64 0, .slice none 0 0, .slice none 0 0, .slice none 0 0, .slice none 0 0, .int .i64 0, .int .i64 0, .int .i64 0, .int .i64 0, .int .i64 0, .int .i64 0, .int .i64 0, .int .i64 0, .int .i64 0, .slice none 0 0]) := by
    have h := Bx.new ((w.alloc (.cells #[.int .i64 m.id, .int .i64 m.rid, .slice v.ms.a v.ms.n v.ms.c, .slice v.its.a v.its.n v.its.c, .slice v.lv.a v.lv.n v.lv.c, .slice v.tx.a v.tx.n v.tx.c, .int .i64 m.rd, .int .i64 m.se, .int .i64 m.li, .int .i64 m.he, .int .i64 m.la.c, .int .i64 m.la.r, .int .i64 m.la.q, .int .i64 m.la.a, .int .i64 m.la.b, .slice v.ws.a v.ws.n v.ws.c] 32)).alloc (.cells #[.int .i64 q, .int .i64 f, .int .i64 l, .string t] 38)) 32 [.int .i64 0, .int .i64 0, .slice none 0 0, .slice none 0 0, .slice none 0 0, .slice none 0 0, .int .i64 0, .int .i64 0, .int .i64 0, .int .i64 0, .int .i64 0, .int .i64 0, .int .i64 0, .int .i64 0, .int .i64 0, .slice none 0 0]
    rw [hn2] at h
    exact h
  have HB : Hid (Below w.heap.size w (((w.alloc (.cells #[.int .i64 m.id, .int .i64 m.rid, .slice v.ms.a v.ms.n v.ms.c, .slice v.its.a v.its.n v.its.c, .slice v.lv.a v.lv.n v.lv.c, .slice v.tx.a v.tx.n v.tx.c, .int .i64 m.rd, .int .i64 m.se, .int .i64 m.li, .int .i64 m.he, .int .i64 m.la.c, .int .i64 m.la.r, .int .i64 m.la.q, .int .i64 m.la.a, .int .i64 m.la.b, .slice v.ws.a v.ws.n v.ws.c] 32)).alloc (.cells #[.int .i64 q, .int .i64 f, .int .i64 l, .string t] 38)).alloc (.cells #[.int .i64 0, .int .i64 0, .slice none 0 0, .slice none 0 0, .slice none 0 0, .slice none 0 0, .int .i64 0, .int .i64 0, .int .i64 0, .int .i64 0, .int .i64 0, .int .i64 0, .int .i64 0, .int .i64 0, .int .i64 0, .slice none 0 0] 32))) := (((Below.refl _ _).alloc (Nat.le_refl _) _).alloc (by simp) _).alloc (by rw [hn2]; omega) _
  have HP : Hid (MtP (((w.alloc (.cells #[.int .i64 m.id, .int .i64 m.rid, .slice v.ms.a v.ms.n v.ms.c, .slice v.its.a v.its.n v.its.c, .slice v.lv.a v.lv.n v.lv.c, .slice v.tx.a v.tx.n v.tx.c, .int .i64 m.rd, .int .i64 m.se, .int .i64 m.li, .int .i64 m.he, .int .i64 m.la.c, .int .i64 m.la.r, .int .i64 m.la.q, .int .i64 m.la.a, .int .i64 m.la.b, .slice v.ws.a v.ws.n v.ws.c] 32)).alloc (.cells #[.int .i64 q, .int .i64 f, .int .i64 l, .string t] 38)).alloc (.cells #[.int .i64 0, .int .i64 0, .slice none 0 0, .slice none 0 0, .slice none 0 0, .slice none 0 0, .int .i64 0, .int .i64 0, .int .i64 0, .int .i64 0, .int .i64 0, .int .i64 0, .int .i64 0, .int .i64 0, .int .i64 0, .slice none 0 0] 32)) m v) := h.out.later HB.out
  clear hn1 hn2 h
  go_enter Try.func40, Try.ntmps40
  go_wp2_with (first | (refine wpList_ldG rfl 32 _ rfl w.heap.size 0 rfl 32 _ HA.out [.int .i64 m.id, .int .i64 m.rid, .slice v.ms.a v.ms.n v.ms.c, .slice v.its.a v.its.n v.its.c, .slice v.lv.a v.lv.n v.lv.c, .slice v.tx.a v.tx.n v.tx.c, .int .i64 m.rd, .int .i64 m.se, .int .i64 m.li, .int .i64 m.he, .int .i64 m.la.c, .int .i64 m.la.r, .int .i64 m.la.q, .int .i64 m.la.a, .int .i64 m.la.b, .slice v.ws.a v.ws.n v.ws.c] rfl _ Try.underlying32 rfl Try.sizeM ?_))
  generalize (((w.alloc (.cells #[.int .i64 m.id, .int .i64 m.rid, .slice v.ms.a v.ms.n v.ms.c, .slice v.its.a v.its.n v.its.c, .slice v.lv.a v.lv.n v.lv.c, .slice v.tx.a v.tx.n v.tx.c, .int .i64 m.rd, .int .i64 m.se, .int .i64 m.li, .int .i64 m.he, .int .i64 m.la.c, .int .i64 m.la.r, .int .i64 m.la.q, .int .i64 m.la.a, .int .i64 m.la.b, .slice v.ws.a v.ws.n v.ws.c] 32)).alloc (.cells #[.int .i64 q, .int .i64 f, .int .i64 l, .string t] 38)).alloc (.cells #[.int .i64 0, .int .i64 0, .slice none 0 0, .slice none 0 0, .slice none 0 0, .slice none 0 0, .int .i64 0, .int .i64 0, .int .i64 0, .int .i64 0, .int .i64 0, .int .i64 0, .int .i64 0, .int .i64 0, .int .i64 0, .slice none 0 0] 32)) = W at *
  have zw : w.heap.size ≤ W.heap.size := HB.out.size
  have zr : w.heap.size + 2 < W.heap.size := HR.out.lt
  refine (tenCopy_any m v _ HP hs).mono ?_
  rintro e w1 ⟨u, rfl, o3, b⟩
  have HO : Hid (MtO w1 W.heap.size m u) := o3
  have z1 : W.heap.size ≤ w1.heap.size := b.size
  clear o3
  have HA : Hid (Bx w1 w.heap.size 32 [.int .i64 m.id, .int .i64 m.rid, .slice v.ms.a v.ms.n v.ms.c, .slice v.its.a v.its.n v.its.c, .slice v.lv.a v.lv.n v.lv.c, .slice v.tx.a v.tx.n v.tx.c, .int .i64 m.rd, .int .i64 m.se, .int .i64 m.li, .int .i64 m.he, .int .i64 m.la.c, .int .i64 m.la.r, .int .i64 m.la.q, .int .i64 m.la.a, .int .i64 m.la.b, .slice v.ws.a v.ws.n v.ws.c]) := HA.out.later b
  have HX : Hid (Bx w1 (w.heap.size + 1) 38 [.int .i64 q, .int .i64 f, .int .i64 l, .string t]) := HX.out.later b
  have HR : Hid (Bx w1 (w.heap.size + 2) 32 [.int .i64 0, .int .i64 0, .slice none 0 0, .slice none 0 0, .slice none 0 0, .slice none 0 0, .int .i64 0, .int .i64 0, .int .i64 0, .int .i64 0, .int .i64 0, .int .i64 0, .int .i64 0, .int .i64 0, .int .i64 0, .slice none 0 0]) := HR.out.later b
  have HP : Hid (MtP w1 m v) := HP.out.later b
  have HB : Hid (Below w.heap.size w w1) := bl_next HB.out b
  clear b
  have hz : Hid (Bx (w1.alloc (.cells #[.int .i64 0, .int .i64 0, .slice none 0 0, .slice none 0 0, .slice none 0 0, .slice none 0 0, .int .i64 0, .int .i64 0, .int .i64 0, .int .i64 0, .int .i64 0, .int .i64 0, .int .i64 0, .int .i64 0, .int .i64 0, .slice none 0 0] 32)) w1.heap.size 32 [.int .i64 0, .int .i64 0, .slice none 0 0, .slice none 0 0, .slice none 0 0, .slice none 0 0, .int .i64 0, .int .i64 0, .int .i64 0, .int .i64 0, .int .i64 0, .int .i64 0, .int .i64 0, .int .i64 0, .int .i64 0, .slice none 0 0]) := Bx.new w1 32 _
  go_wp2_with (first | (refine wpList_stB rfl 32 _ _ rfl w1.heap.size 0 rfl 32 _ hz.out [.int .i64 m.id, .int .i64 m.rid, .slice u.ms.a u.ms.n u.ms.c, .slice u.its.a u.its.n u.its.c, .slice u.lv.a u.lv.n u.lv.c, .slice u.tx.a u.tx.n u.tx.c, .int .i64 m.rd, .int .i64 m.se, .int .i64 m.li, .int .i64 m.he, .int .i64 m.la.c, .int .i64 m.la.r, .int .i64 m.la.q, .int .i64 m.la.a, .int .i64 m.la.b, .slice u.ws.a u.ws.n u.ws.c] rfl (by simp) Try.sizeM rfl [.int .i64 m.id, .int .i64 m.rid, .slice u.ms.a u.ms.n u.ms.c, .slice u.its.a u.its.n u.its.c, .slice u.lv.a u.lv.n u.lv.c, .slice u.tx.a u.tx.n u.tx.c, .int .i64 m.rd, .int .i64 m.se, .int .i64 m.li, .int .i64 m.he, .int .i64 m.la.c, .int .i64 m.la.r, .int .i64 m.la.q, .int .i64 m.la.a, .int .i64 m.la.b, .slice u.ws.a u.ws.n u.ws.c] rfl ?_; intro w4 OB TB; have b : Below w1.heap.size w1 w4 := ((Below.refl _ _).alloc (Nat.le_refl _) _).trans (TB.below (Nat.le_refl _)); have HG : Hid (Bx w4 w1.heap.size 32 [.int .i64 m.id, .int .i64 m.rid, .slice u.ms.a u.ms.n u.ms.c, .slice u.its.a u.its.n u.its.c, .slice u.lv.a u.lv.n u.lv.c, .slice u.tx.a u.tx.n u.tx.c, .int .i64 m.rd, .int .i64 m.se, .int .i64 m.li, .int .i64 m.he, .int .i64 m.la.c, .int .i64 m.la.r, .int .i64 m.la.q, .int .i64 m.la.a, .int .i64 m.la.b, .slice u.ws.a u.ws.n u.ws.c]) := OB; have HO : Hid (MtO w4 W.heap.size m u) := HO.out.later b; have z4 : w1.heap.size ≤ w4.heap.size := b.size; clear OB TB; refine Stp.here ?_))
  refine Stp.go ?_
  generalize hgg : w1.heap.size = g at *
  clear hz
  have HA : Hid (Bx w4 w.heap.size 32 [.int .i64 m.id, .int .i64 m.rid, .slice v.ms.a v.ms.n v.ms.c, .slice v.its.a v.its.n v.its.c, .slice v.lv.a v.lv.n v.lv.c, .slice v.tx.a v.tx.n v.tx.c, .int .i64 m.rd, .int .i64 m.se, .int .i64 m.li, .int .i64 m.he, .int .i64 m.la.c, .int .i64 m.la.r, .int .i64 m.la.q, .int .i64 m.la.a, .int .i64 m.la.b, .slice v.ws.a v.ws.n v.ws.c]) := HA.out.later (hgg ▸ b)
  have HX : Hid (Bx w4 (w.heap.size + 1) 38 [.int .i64 q, .int .i64 f, .int .i64 l, .string t]) := HX.out.later (hgg ▸ b)
  have HR : Hid (Bx w4 (w.heap.size + 2) 32 [.int .i64 0, .int .i64 0, .slice none 0 0, .slice none 0 0, .slice none 0 0, .slice none 0 0, .int .i64 0, .int .i64 0, .int .i64 0, .int .i64 0, .int .i64 0, .int .i64 0, .int .i64 0, .int .i64 0, .int .i64 0, .slice none 0 0]) := HR.out.later (hgg ▸ b)
  have HP : Hid (MtP w4 m v) := HP.out.later (hgg ▸ b)
  have HB : Hid (Below w.heap.size w w4) := bl_next HB.out (hgg ▸ b)
  clear b
  clear hgg
  go_wp2_with (first | (refine wpList_ldG rfl 32 _ rfl w.heap.size 0 rfl 32 _ HA.out [.int .i64 m.id, .int .i64 m.rid, .slice v.ms.a v.ms.n v.ms.c, .slice v.its.a v.its.n v.its.c, .slice v.lv.a v.lv.n v.lv.c, .slice v.tx.a v.tx.n v.tx.c, .int .i64 m.rd, .int .i64 m.se, .int .i64 m.li, .int .i64 m.he, .int .i64 m.la.c, .int .i64 m.la.r, .int .i64 m.la.q, .int .i64 m.la.a, .int .i64 m.la.b, .slice v.ws.a v.ws.n v.ws.c] rfl _ Try.underlying32 rfl Try.sizeM ?_))
  refine (spMateOk_any m v _ HP.out.r hs).mono ?_
  rintro e w5 ⟨rfl, b⟩
  have HG : Hid (Bx w5 g 32 [.int .i64 m.id, .int .i64 m.rid, .slice u.ms.a u.ms.n u.ms.c, .slice u.its.a u.its.n u.its.c, .slice u.lv.a u.lv.n u.lv.c, .slice u.tx.a u.tx.n u.tx.c, .int .i64 m.rd, .int .i64 m.se, .int .i64 m.li, .int .i64 m.he, .int .i64 m.la.c, .int .i64 m.la.r, .int .i64 m.la.q, .int .i64 m.la.a, .int .i64 m.la.b, .slice u.ws.a u.ws.n u.ws.c]) := HG.out.later b
  have HO : Hid (MtO w5 W.heap.size m u) := HO.out.later b
  have HA : Hid (Bx w5 w.heap.size 32 [.int .i64 m.id, .int .i64 m.rid, .slice v.ms.a v.ms.n v.ms.c, .slice v.its.a v.its.n v.its.c, .slice v.lv.a v.lv.n v.lv.c, .slice v.tx.a v.tx.n v.tx.c, .int .i64 m.rd, .int .i64 m.se, .int .i64 m.li, .int .i64 m.he, .int .i64 m.la.c, .int .i64 m.la.r, .int .i64 m.la.q, .int .i64 m.la.a, .int .i64 m.la.b, .slice v.ws.a v.ws.n v.ws.c]) := HA.out.later b
  have HX : Hid (Bx w5 (w.heap.size + 1) 38 [.int .i64 q, .int .i64 f, .int .i64 l, .string t]) := HX.out.later b
  have HR : Hid (Bx w5 (w.heap.size + 2) 32 [.int .i64 0, .int .i64 0, .slice none 0 0, .slice none 0 0, .slice none 0 0, .slice none 0 0, .int .i64 0, .int .i64 0, .int .i64 0, .int .i64 0, .int .i64 0, .int .i64 0, .int .i64 0, .int .i64 0, .int .i64 0, .slice none 0 0]) := HR.out.later b
  have HP : Hid (MtP w5 m v) := HP.out.later b
  have HB : Hid (Below w.heap.size w w5) := bl_next HB.out b
  clear b
  cases hk : m.ok with
  | false =>
    go_wp2_with (first | (refine wpList_ldG rfl 32 _ rfl g 0 rfl 32 _ HG.out [.int .i64 m.id, .int .i64 m.rid, .slice u.ms.a u.ms.n u.ms.c, .slice u.its.a u.its.n u.its.c, .slice u.lv.a u.lv.n u.lv.c, .slice u.tx.a u.tx.n u.tx.c, .int .i64 m.rd, .int .i64 m.se, .int .i64 m.li, .int .i64 m.he, .int .i64 m.la.c, .int .i64 m.la.r, .int .i64 m.la.q, .int .i64 m.la.a, .int .i64 m.la.b, .slice u.ws.a u.ws.n u.ws.c] rfl _ Try.underlying32 rfl Try.sizeM ?_) | (refine wpList_stB rfl 32 _ _ rfl (w.heap.size + 2) 0 rfl 32 _ HR.out [.int .i64 m.id, .int .i64 m.rid, .slice u.ms.a u.ms.n u.ms.c, .slice u.its.a u.its.n u.its.c, .slice u.lv.a u.lv.n u.lv.c, .slice u.tx.a u.tx.n u.tx.c, .int .i64 m.rd, .int .i64 m.se, .int .i64 m.li, .int .i64 m.he, .int .i64 m.la.c, .int .i64 m.la.r, .int .i64 m.la.q, .int .i64 m.la.a, .int .i64 m.la.b, .slice u.ws.a u.ws.n u.ws.c] rfl (by simp) Try.sizeM rfl [.int .i64 m.id, .int .i64 m.rid, .slice u.ms.a u.ms.n u.ms.c, .slice u.its.a u.its.n u.its.c, .slice u.lv.a u.lv.n u.lv.c, .slice u.tx.a u.tx.n u.tx.c, .int .i64 m.rd, .int .i64 m.se, .int .i64 m.li, .int .i64 m.he, .int .i64 m.la.c, .int .i64 m.la.r, .int .i64 m.la.q, .int .i64 m.la.a, .int .i64 m.la.b, .slice u.ws.a u.ws.n u.ws.c] rfl ?_; intro wz RZ TZ))
    refine bodyPost_ret (results_b Try.results40 (w.heap.size + 2) 32 [.int .i64 m.id, .int .i64 m.rid, .slice u.ms.a u.ms.n u.ms.c, .slice u.its.a u.its.n u.its.c, .slice u.lv.a u.lv.n u.lv.c, .slice u.tx.a u.tx.n u.tx.c, .int .i64 m.rd, .int .i64 m.se, .int .i64 m.li, .int .i64 m.he, .int .i64 m.la.c, .int .i64 m.la.r, .int .i64 m.la.q, .int .i64 m.la.a, .int .i64 m.la.b, .slice u.ws.a u.ws.n u.ws.c] _ rfl RZ Try.underlying32 rfl Try.sizeM) rfl ?_
    rw [cat_no hk]
    exact ⟨u, rfl, (HO.out.past HR.out TZ (by decide) (by decide) (by decide)).down zw, HB.out.trans (TZ.below (by omega))⟩
  | true =>
    have KR : Hid (m.ok = true) := hk
    clear hk
    go_wp2_with (first | (refine wpList_ld1 rfl 27 _ rfl g 3 rfl 32 _ HG.out (.slice u.its.a u.its.n u.its.c) rfl _ Try.underlying27 rfl ?_) | (refine wpList_ldG rfl 38 _ rfl (w.heap.size + 1) 0 rfl 38 _ HX.out [.int .i64 q, .int .i64 f, .int .i64 l, .string t] rfl _ Try.underlying38 rfl Try.sizeI ?_))
    refine (spPutItem_s u.its m.its q f l t _ HO.out.its.rit (by have := hs.out.its; omega)).mono ?_
    rintro e w6 ⟨n, rfl, sn, b⟩
    have SN : Hid (SlI w6 w5.heap.size n.v (putP m.its (q, f, l, t))) := sn
    have z5 : W.heap.size ≤ w5.heap.size := by have := HG.out.lt; omega
    have HG : Hid (Bx w6 g 32 [.int .i64 m.id, .int .i64 m.rid, .slice u.ms.a u.ms.n u.ms.c, .slice u.its.a u.its.n u.its.c, .slice u.lv.a u.lv.n u.lv.c, .slice u.tx.a u.tx.n u.tx.c, .int .i64 m.rd, .int .i64 m.se, .int .i64 m.li, .int .i64 m.he, .int .i64 m.la.c, .int .i64 m.la.r, .int .i64 m.la.q, .int .i64 m.la.a, .int .i64 m.la.b, .slice u.ws.a u.ws.n u.ws.c]) := HG.out.later b
    have HO : Hid (MtO w6 W.heap.size m u) := HO.out.later b
    clear sn
    have HA : Hid (Bx w6 w.heap.size 32 [.int .i64 m.id, .int .i64 m.rid, .slice v.ms.a v.ms.n v.ms.c, .slice v.its.a v.its.n v.its.c, .slice v.lv.a v.lv.n v.lv.c, .slice v.tx.a v.tx.n v.tx.c, .int .i64 m.rd, .int .i64 m.se, .int .i64 m.li, .int .i64 m.he, .int .i64 m.la.c, .int .i64 m.la.r, .int .i64 m.la.q, .int .i64 m.la.a, .int .i64 m.la.b, .slice v.ws.a v.ws.n v.ws.c]) := HA.out.later b
    have HX : Hid (Bx w6 (w.heap.size + 1) 38 [.int .i64 q, .int .i64 f, .int .i64 l, .string t]) := HX.out.later b
    have HR : Hid (Bx w6 (w.heap.size + 2) 32 [.int .i64 0, .int .i64 0, .slice none 0 0, .slice none 0 0, .slice none 0 0, .slice none 0 0, .int .i64 0, .int .i64 0, .int .i64 0, .int .i64 0, .int .i64 0, .int .i64 0, .int .i64 0, .int .i64 0, .int .i64 0, .slice none 0 0]) := HR.out.later b
    have HP : Hid (MtP w6 m v) := HP.out.later b
    have HB : Hid (Below w.heap.size w w6) := bl_next HB.out b
    clear b
    go_wp2_with (first | (refine wpList_st1 rfl 27 _ _ rfl g 3 rfl 32 _ HG.out (.slice n.a n.n n.c) rfl (by simp) rfl Try.sizeIs [.int .i64 m.id, .int .i64 m.rid, .slice u.ms.a u.ms.n u.ms.c, .slice n.a n.n n.c, .slice u.lv.a u.lv.n u.lv.c, .slice u.tx.a u.tx.n u.tx.c, .int .i64 m.rd, .int .i64 m.se, .int .i64 m.li, .int .i64 m.he, .int .i64 m.la.c, .int .i64 m.la.r, .int .i64 m.la.q, .int .i64 m.la.a, .int .i64 m.la.b, .slice u.ws.a u.ws.n u.ws.c] rfl ?_; intro w7 OB TB; refine Stp.here ?_))
    refine Stp.go ?_
    have HO : Hid (MtO w7 W.heap.size m u) := HO.out.past HG.out TB (by decide) (by decide) (by decide)
    have SN : Hid (SlI w7 w5.heap.size n.v (putP m.its (q, f, l, t))) := SN.out.past HG.out TB (by decide)
    have HR : Hid (Bx w7 (w.heap.size + 2) 32 [.int .i64 0, .int .i64 0, .slice none 0 0, .slice none 0 0, .slice none 0 0, .slice none 0 0, .int .i64 0, .int .i64 0, .int .i64 0, .int .i64 0, .int .i64 0, .int .i64 0, .int .i64 0, .int .i64 0, .int .i64 0, .slice none 0 0]) := HR.out.turn TB (by omega)
    have HB : Hid (Below w.heap.size w w7) := HB.out.trans (TB.below (by omega))
    have HG : Hid (Bx w7 g 32 [.int .i64 m.id, .int .i64 m.rid, .slice u.ms.a u.ms.n u.ms.c, .slice n.a n.n n.c, .slice u.lv.a u.lv.n u.lv.c, .slice u.tx.a u.tx.n u.tx.c, .int .i64 m.rd, .int .i64 m.se, .int .i64 m.li, .int .i64 m.he, .int .i64 m.la.c, .int .i64 m.la.r, .int .i64 m.la.q, .int .i64 m.la.a, .int .i64 m.la.b, .slice u.ws.a u.ws.n u.ws.c]) := OB
    clear OB TB
    go_wp2_with (first | (refine wpList_ldG rfl 32 _ rfl g 0 rfl 32 _ HG.out [.int .i64 m.id, .int .i64 m.rid, .slice u.ms.a u.ms.n u.ms.c, .slice n.a n.n n.c, .slice u.lv.a u.lv.n u.lv.c, .slice u.tx.a u.tx.n u.tx.c, .int .i64 m.rd, .int .i64 m.se, .int .i64 m.li, .int .i64 m.he, .int .i64 m.la.c, .int .i64 m.la.r, .int .i64 m.la.q, .int .i64 m.la.a, .int .i64 m.la.b, .slice u.ws.a u.ws.n u.ws.c] rfl _ Try.underlying32 rfl Try.sizeM ?_) | (refine wpList_stB rfl 32 _ _ rfl (w.heap.size + 2) 0 rfl 32 _ HR.out [.int .i64 m.id, .int .i64 m.rid, .slice u.ms.a u.ms.n u.ms.c, .slice n.a n.n n.c, .slice u.lv.a u.lv.n u.lv.c, .slice u.tx.a u.tx.n u.tx.c, .int .i64 m.rd, .int .i64 m.se, .int .i64 m.li, .int .i64 m.he, .int .i64 m.la.c, .int .i64 m.la.r, .int .i64 m.la.q, .int .i64 m.la.a, .int .i64 m.la.b, .slice u.ws.a u.ws.n u.ws.c] rfl (by simp) Try.sizeM rfl [.int .i64 m.id, .int .i64 m.rid, .slice u.ms.a u.ms.n u.ms.c, .slice n.a n.n n.c, .slice u.lv.a u.lv.n u.lv.c, .slice u.tx.a u.tx.n u.tx.c, .int .i64 m.rd, .int .i64 m.se, .int .i64 m.li, .int .i64 m.he, .int .i64 m.la.c, .int .i64 m.la.r, .int .i64 m.la.q, .int .i64 m.la.a, .int .i64 m.la.b, .slice u.ws.a u.ws.n u.ws.c] rfl ?_; intro wz RZ TZ))
    refine bodyPost_ret (results_b Try.results40 (w.heap.size + 2) 32 [.int .i64 m.id, .int .i64 m.rid, .slice u.ms.a u.ms.n u.ms.c, .slice n.a n.n n.c, .slice u.lv.a u.lv.n u.lv.c, .slice u.tx.a u.tx.n u.tx.c, .int .i64 m.rd, .int .i64 m.se, .int .i64 m.li, .int .i64 m.he, .int .i64 m.la.c, .int .i64 m.la.r, .int .i64 m.la.q, .int .i64 m.la.a, .int .i64 m.la.b, .slice u.ws.a u.ws.n u.ws.c] _ rfl RZ Try.underlying32 rfl Try.sizeM) rfl ?_
    rw [cat_yes KR.out]
    refine ⟨⟨u.ms, n, u.lv, u.tx, u.ws⟩, rfl, ?_, HB.out.trans (TZ.below (by omega))⟩
    have h := (HO.out.past HR.out TZ (by decide) (by decide) (by decide)).down zw
    exact ⟨h.ms, (SN.out.past HR.out TZ (by decide)).down (by omega), h.lv, h.tx, h.ws, h.a1, h.a2, h.a3⟩

set_option maxRecDepth 100000 in
set_option maxHeartbeats 4000000 in
theorem catch_any (m : Mt) (v : Mv) (q f l : Int) (t : ByteArray) (w : World) (h : Hid (MtP w m v)) (hs : Hid (MtS m)) (ht : t.size ≤ 1048576) :
    Calls Try.prog 24 #[.agg #[.int .i64 m.id, .int .i64 m.rid, .slice v.ms.a v.ms.n v.ms.c, .slice v.its.a v.its.n v.its.c, .slice v.lv.a v.lv.n v.lv.c, .slice v.tx.a v.tx.n v.tx.c, .int .i64 m.rd, .int .i64 m.se, .int .i64 m.li, .int .i64 m.he, .int .i64 m.la.c, .int .i64 m.la.r, .int .i64 m.la.q, .int .i64 m.la.a, .int .i64 m.la.b, .slice v.ws.a v.ws.n v.ws.c], .agg #[.int .i64 q, .int .i64 f, .int .i64 l, .string t]] w fun e w' => ∃ u : Mv, e = .returned (.agg #[.int .i64 m.id, .int .i64 m.rid, .slice u.ms.a u.ms.n u.ms.c, .slice u.its.a u.its.n u.its.c, .slice u.lv.a u.lv.n u.lv.c, .slice u.tx.a u.tx.n u.tx.c, .int .i64 m.rd, .int .i64 m.se, .int .i64 m.li, .int .i64 m.he, .int .i64 m.la.c, .int .i64 m.la.r, .int .i64 m.la.q, .int .i64 m.la.a, .int .i64 m.la.b, .slice u.ws.a u.ws.n u.ws.c]) ∧ MtO w' w.heap.size (m.cat (q, f, l, t)) u ∧ Below w.heap.size w w' := by
  have hn1 : (w.alloc (.cells #[.int .i64 m.id, .int .i64 m.rid, .slice v.ms.a v.ms.n v.ms.c, .slice v.its.a v.its.n v.its.c, .slice v.lv.a v.lv.n v.lv.c, .slice v.tx.a v.tx.n v.tx.c, .int .i64 m.rd, .int .i64 m.se, .int .i64 m.li, .int .i64 m.he, .int .i64 m.la.c, .int .i64 m.la.r, .int .i64 m.la.q, .int .i64 m.la.a, .int .i64 m.la.b, .slice v.ws.a v.ws.n v.ws.c] 32)).heap.size = w.heap.size + 1 := by simp
  have hn2 : ((w.alloc (.cells #[.int .i64 m.id, .int .i64 m.rid, .slice v.ms.a v.ms.n v.ms.c, .slice v.its.a v.its.n v.its.c, .slice v.lv.a v.lv.n v.lv.c, .slice v.tx.a v.tx.n v.tx.c, .int .i64 m.rd, .int .i64 m.se, .int .i64 m.li, .int .i64 m.he, .int .i64 m.la.c, .int .i64 m.la.r, .int .i64 m.la.q, .int .i64 m.la.a, .int .i64 m.la.b, .slice v.ws.a v.ws.n v.ws.c] 32)).alloc (.cells #[.int .i64 q, .int .i64 f, .int .i64 l, .string t] 38)).heap.size = w.heap.size + 2 := by simp
  have HA : Hid (Bx (((w.alloc (.cells #[.int .i64 m.id, .int .i64 m.rid, .slice v.ms.a v.ms.n v.ms.c, .slice v.its.a v.its.n v.its.c, .slice v.lv.a v.lv.n v.lv.c, .slice v.tx.a v.tx.n v.tx.c, .int .i64 m.rd, .int .i64 m.se, .int .i64 m.li, .int .i64 m.he, .int .i64 m.la.c, .int .i64 m.la.r, .int .i64 m.la.q, .int .i64 m.la.a, .int .i64 m.la.b, .slice v.ws.a v.ws.n v.ws.c] 32)).alloc (.cells #[.int .i64 q, .int .i64 f, .int .i64 l, .string t] 38)).alloc (.cells #[.int .i64 0, .int .i64 0, .slice none 0 0, .slice none 0 0, .slice none 0 0, .slice none 0 0, .int .i64 0, .int .i64 0, .int .i64 0, .int .i64 0, .int .i64 0, .int .i64 0, .int .i64 0, .int .i64 0, .int .i64 0, .slice none 0 0] 32)) w.heap.size 32 [.int .i64 m.id, .int .i64 m.rid, .slice v.ms.a v.ms.n v.ms.c, .slice v.its.a v.its.n v.its.c, .slice v.lv.a v.lv.n v.lv.c, .slice v.tx.a v.tx.n v.tx.c, .int .i64 m.rd, .int .i64 m.se, .int .i64 m.li, .int .i64 m.he, .int .i64 m.la.c, .int .i64 m.la.r, .int .i64 m.la.q, .int .i64 m.la.a, .int .i64 m.la.b, .slice v.ws.a v.ws.n v.ws.c]) := by
    have h := Bx.new w 32 [.int .i64 m.id, .int .i64 m.rid, .slice v.ms.a v.ms.n v.ms.c, .slice v.its.a v.its.n v.its.c, .slice v.lv.a v.lv.n v.lv.c, .slice v.tx.a v.tx.n v.tx.c, .int .i64 m.rd, .int .i64 m.se, .int .i64 m.li, .int .i64 m.he, .int .i64 m.la.c, .int .i64 m.la.r, .int .i64 m.la.q, .int .i64 m.la.a, .int .i64 m.la.b, .slice v.ws.a v.ws.n v.ws.c]
    exact h.stays (B := w.heap.size + 1) (((Below.refl _ _).alloc (by rw [hn1]; exact Nat.le_refl _) _).alloc (by rw [hn2]; omega) _) (by omega)
  have HX : Hid (Bx (((w.alloc (.cells #[.int .i64 m.id, .int .i64 m.rid, .slice v.ms.a v.ms.n v.ms.c, .slice v.its.a v.its.n v.its.c, .slice v.lv.a v.lv.n v.lv.c, .slice v.tx.a v.tx.n v.tx.c, .int .i64 m.rd, .int .i64 m.se, .int .i64 m.li, .int .i64 m.he, .int .i64 m.la.c, .int .i64 m.la.r, .int .i64 m.la.q, .int .i64 m.la.a, .int .i64 m.la.b, .slice v.ws.a v.ws.n v.ws.c] 32)).alloc (.cells #[.int .i64 q, .int .i64 f, .int .i64 l, .string t] 38)).alloc (.cells #[.int .i64 0, .int .i64 0, .slice none 0 0, .slice none 0 0, .slice none 0 0, .slice none 0 0, .int .i64 0, .int .i64 0, .int .i64 0, .int .i64 0, .int .i64 0, .int .i64 0, .int .i64 0, .int .i64 0, .int .i64 0, .slice none 0 0] 32)) (w.heap.size + 1) 38 [.int .i64 q, .int .i64 f, .int .i64 l, .string t]) := by
    have h := Bx.new (w.alloc (.cells #[.int .i64 m.id, .int .i64 m.rid, .slice v.ms.a v.ms.n v.ms.c, .slice v.its.a v.its.n v.its.c, .slice v.lv.a v.lv.n v.lv.c, .slice v.tx.a v.tx.n v.tx.c, .int .i64 m.rd, .int .i64 m.se, .int .i64 m.li, .int .i64 m.he, .int .i64 m.la.c, .int .i64 m.la.r, .int .i64 m.la.q, .int .i64 m.la.a, .int .i64 m.la.b, .slice v.ws.a v.ws.n v.ws.c] 32)) 38 [.int .i64 q, .int .i64 f, .int .i64 l, .string t]
    rw [hn1] at h
    exact h.stays (B := w.heap.size + 2) ((Below.refl _ _).alloc (by rw [hn2]; exact Nat.le_refl _) _) (by omega)
  have HR : Hid (Bx (((w.alloc (.cells #[.int .i64 m.id, .int .i64 m.rid, .slice v.ms.a v.ms.n v.ms.c, .slice v.its.a v.its.n v.its.c, .slice v.lv.a v.lv.n v.lv.c, .slice v.tx.a v.tx.n v.tx.c, .int .i64 m.rd, .int .i64 m.se, .int .i64 m.li, .int .i64 m.he, .int .i64 m.la.c, .int .i64 m.la.r, .int .i64 m.la.q, .int .i64 m.la.a, .int .i64 m.la.b, .slice v.ws.a v.ws.n v.ws.c] 32)).alloc (.cells #[.int .i64 q, .int .i64 f, .int .i64 l, .string t] 38)).alloc (.cells #[.int .i64 0, .int .i64 0, .slice none 0 0, .slice none 0 0, .slice none 0 0, .slice none 0 0, .int .i64 0, .int .i64 0, .int .i64 0, .int .i64 0, .int .i64 0, .int .i64 0, .int .i64 0, .int .i64 0, .int .i64 0, .slice none 0 0] 32)) (w.heap.size + 2) 32 [.int .i64 0, .int .i64 0, .slice none 0 0, .slice none 0 0, .slice none 0 0, .slice none 0 0, .int .i64 0, .int .i64 0, .int .i64 0, .int .i64 0, .int .i64 0, .int .i64 0, .int .i64 0, .int .i64 0, .int .i64 0, .slice none 0 0]) := by
    have h := Bx.new ((w.alloc (.cells #[.int .i64 m.id, .int .i64 m.rid, .slice v.ms.a v.ms.n v.ms.c, .slice v.its.a v.its.n v.its.c, .slice v.lv.a v.lv.n v.lv.c, .slice v.tx.a v.tx.n v.tx.c, .int .i64 m.rd, .int .i64 m.se, .int .i64 m.li, .int .i64 m.he, .int .i64 m.la.c, .int .i64 m.la.r, .int .i64 m.la.q, .int .i64 m.la.a, .int .i64 m.la.b, .slice v.ws.a v.ws.n v.ws.c] 32)).alloc (.cells #[.int .i64 q, .int .i64 f, .int .i64 l, .string t] 38)) 32 [.int .i64 0, .int .i64 0, .slice none 0 0, .slice none 0 0, .slice none 0 0, .slice none 0 0, .int .i64 0, .int .i64 0, .int .i64 0, .int .i64 0, .int .i64 0, .int .i64 0, .int .i64 0, .int .i64 0, .int .i64 0, .slice none 0 0]
    rw [hn2] at h
    exact h
  have HB : Hid (Below w.heap.size w (((w.alloc (.cells #[.int .i64 m.id, .int .i64 m.rid, .slice v.ms.a v.ms.n v.ms.c, .slice v.its.a v.its.n v.its.c, .slice v.lv.a v.lv.n v.lv.c, .slice v.tx.a v.tx.n v.tx.c, .int .i64 m.rd, .int .i64 m.se, .int .i64 m.li, .int .i64 m.he, .int .i64 m.la.c, .int .i64 m.la.r, .int .i64 m.la.q, .int .i64 m.la.a, .int .i64 m.la.b, .slice v.ws.a v.ws.n v.ws.c] 32)).alloc (.cells #[.int .i64 q, .int .i64 f, .int .i64 l, .string t] 38)).alloc (.cells #[.int .i64 0, .int .i64 0, .slice none 0 0, .slice none 0 0, .slice none 0 0, .slice none 0 0, .int .i64 0, .int .i64 0, .int .i64 0, .int .i64 0, .int .i64 0, .int .i64 0, .int .i64 0, .int .i64 0, .int .i64 0, .slice none 0 0] 32))) := (((Below.refl _ _).alloc (Nat.le_refl _) _).alloc (by simp) _).alloc (by rw [hn2]; omega) _
  have HP : Hid (MtP (((w.alloc (.cells #[.int .i64 m.id, .int .i64 m.rid, .slice v.ms.a v.ms.n v.ms.c, .slice v.its.a v.its.n v.its.c, .slice v.lv.a v.lv.n v.lv.c, .slice v.tx.a v.tx.n v.tx.c, .int .i64 m.rd, .int .i64 m.se, .int .i64 m.li, .int .i64 m.he, .int .i64 m.la.c, .int .i64 m.la.r, .int .i64 m.la.q, .int .i64 m.la.a, .int .i64 m.la.b, .slice v.ws.a v.ws.n v.ws.c] 32)).alloc (.cells #[.int .i64 q, .int .i64 f, .int .i64 l, .string t] 38)).alloc (.cells #[.int .i64 0, .int .i64 0, .slice none 0 0, .slice none 0 0, .slice none 0 0, .slice none 0 0, .int .i64 0, .int .i64 0, .int .i64 0, .int .i64 0, .int .i64 0, .int .i64 0, .int .i64 0, .int .i64 0, .int .i64 0, .slice none 0 0] 32)) m v) := h.out.later HB.out
  clear hn1 hn2 h
  go_enter Try.func24, Try.ntmps24
  go_wp2_with (first | (refine wpList_ldG rfl 32 _ rfl w.heap.size 0 rfl 32 _ HA.out [.int .i64 m.id, .int .i64 m.rid, .slice v.ms.a v.ms.n v.ms.c, .slice v.its.a v.its.n v.its.c, .slice v.lv.a v.lv.n v.lv.c, .slice v.tx.a v.tx.n v.tx.c, .int .i64 m.rd, .int .i64 m.se, .int .i64 m.li, .int .i64 m.he, .int .i64 m.la.c, .int .i64 m.la.r, .int .i64 m.la.q, .int .i64 m.la.a, .int .i64 m.la.b, .slice v.ws.a v.ws.n v.ws.c] rfl _ Try.underlying32 rfl Try.sizeM ?_))
  generalize (((w.alloc (.cells #[.int .i64 m.id, .int .i64 m.rid, .slice v.ms.a v.ms.n v.ms.c, .slice v.its.a v.its.n v.its.c, .slice v.lv.a v.lv.n v.lv.c, .slice v.tx.a v.tx.n v.tx.c, .int .i64 m.rd, .int .i64 m.se, .int .i64 m.li, .int .i64 m.he, .int .i64 m.la.c, .int .i64 m.la.r, .int .i64 m.la.q, .int .i64 m.la.a, .int .i64 m.la.b, .slice v.ws.a v.ws.n v.ws.c] 32)).alloc (.cells #[.int .i64 q, .int .i64 f, .int .i64 l, .string t] 38)).alloc (.cells #[.int .i64 0, .int .i64 0, .slice none 0 0, .slice none 0 0, .slice none 0 0, .slice none 0 0, .int .i64 0, .int .i64 0, .int .i64 0, .int .i64 0, .int .i64 0, .int .i64 0, .int .i64 0, .int .i64 0, .int .i64 0, .slice none 0 0] 32)) = W at *
  have zw : w.heap.size ≤ W.heap.size := HB.out.size
  have zr : w.heap.size + 2 < W.heap.size := HR.out.lt
  refine (memberOf_any m v _ HP hs).mono ?_
  rintro e w1 ⟨g, u, rfl, hg, o3, zgg, b⟩
  have HG : Hid (MbB w1 g m u zSv) := hg
  have HO : Hid (MtO w1 W.heap.size m u) := o3
  have z1 : W.heap.size ≤ w1.heap.size := b.size
  clear o3 hg
  have HA : Hid (Bx w1 w.heap.size 32 [.int .i64 m.id, .int .i64 m.rid, .slice v.ms.a v.ms.n v.ms.c, .slice v.its.a v.its.n v.its.c, .slice v.lv.a v.lv.n v.lv.c, .slice v.tx.a v.tx.n v.tx.c, .int .i64 m.rd, .int .i64 m.se, .int .i64 m.li, .int .i64 m.he, .int .i64 m.la.c, .int .i64 m.la.r, .int .i64 m.la.q, .int .i64 m.la.a, .int .i64 m.la.b, .slice v.ws.a v.ws.n v.ws.c]) := HA.out.later b
  have HX : Hid (Bx w1 (w.heap.size + 1) 38 [.int .i64 q, .int .i64 f, .int .i64 l, .string t]) := HX.out.later b
  have HR : Hid (Bx w1 (w.heap.size + 2) 32 [.int .i64 0, .int .i64 0, .slice none 0 0, .slice none 0 0, .slice none 0 0, .slice none 0 0, .int .i64 0, .int .i64 0, .int .i64 0, .int .i64 0, .int .i64 0, .int .i64 0, .int .i64 0, .int .i64 0, .int .i64 0, .slice none 0 0]) := HR.out.later b
  have HP : Hid (MtP w1 m v) := HP.out.later b
  have HB : Hid (Below w.heap.size w w1) := bl_next HB.out b
  clear b
  go_wp2_with (first | (refine wpList_ldG rfl 32 _ rfl w.heap.size 0 rfl 32 _ HA.out [.int .i64 m.id, .int .i64 m.rid, .slice v.ms.a v.ms.n v.ms.c, .slice v.its.a v.its.n v.its.c, .slice v.lv.a v.lv.n v.lv.c, .slice v.tx.a v.tx.n v.tx.c, .int .i64 m.rd, .int .i64 m.se, .int .i64 m.li, .int .i64 m.he, .int .i64 m.la.c, .int .i64 m.la.r, .int .i64 m.la.q, .int .i64 m.la.a, .int .i64 m.la.b, .slice v.ws.a v.ws.n v.ws.c] rfl _ Try.underlying32 rfl Try.sizeM ?_))
  refine (mateOk_any m v _ HP.out.r hs).mono ?_
  rintro e w2 ⟨rfl, b⟩
  have HG : Hid (MbB w2 g m u zSv) := Bx.later HG.out b
  have HO : Hid (MtO w2 W.heap.size m u) := HO.out.later b
  have HA : Hid (Bx w2 w.heap.size 32 [.int .i64 m.id, .int .i64 m.rid, .slice v.ms.a v.ms.n v.ms.c, .slice v.its.a v.its.n v.its.c, .slice v.lv.a v.lv.n v.lv.c, .slice v.tx.a v.tx.n v.tx.c, .int .i64 m.rd, .int .i64 m.se, .int .i64 m.li, .int .i64 m.he, .int .i64 m.la.c, .int .i64 m.la.r, .int .i64 m.la.q, .int .i64 m.la.a, .int .i64 m.la.b, .slice v.ws.a v.ws.n v.ws.c]) := HA.out.later b
  have HX : Hid (Bx w2 (w.heap.size + 1) 38 [.int .i64 q, .int .i64 f, .int .i64 l, .string t]) := HX.out.later b
  have HR : Hid (Bx w2 (w.heap.size + 2) 32 [.int .i64 0, .int .i64 0, .slice none 0 0, .slice none 0 0, .slice none 0 0, .slice none 0 0, .int .i64 0, .int .i64 0, .int .i64 0, .int .i64 0, .int .i64 0, .int .i64 0, .int .i64 0, .int .i64 0, .int .i64 0, .slice none 0 0]) := HR.out.later b
  have HP : Hid (MtP w2 m v) := HP.out.later b
  have HB : Hid (Below w.heap.size w w2) := bl_next HB.out b
  clear b
  cases hk : m.ok with
  | false =>
    have KC : Hid (m.cat (q, f, l, t) = m) := cat_no hk
    clear hk
    go_wp2_with fail
    refine (mate_any m u zSv g _ HG).mono ?_
    rintro e wa ⟨rfl, hga, ka⟩
    have HR : Hid (Bx wa (w.heap.size + 2) 32 [.int .i64 0, .int .i64 0, .slice none 0 0, .slice none 0 0, .slice none 0 0, .slice none 0 0, .int .i64 0, .int .i64 0, .int .i64 0, .int .i64 0, .int .i64 0, .int .i64 0, .int .i64 0, .int .i64 0, .int .i64 0, .slice none 0 0]) := HR.out.keepb ka (by omega)
    have HO := HO.out.keepb HG.out ka (by decide) (by decide) (by decide)
    have HB : Hid (Below w.heap.size w wa) := HB.out.trans (ka.below (by omega) HB.out.size)
    clear hga ka HG
    go_wp2_with (first | (refine wpList_stB rfl 32 _ _ rfl (w.heap.size + 2) 0 rfl 32 _ HR.out [.int .i64 m.id, .int .i64 m.rid, .slice u.ms.a u.ms.n u.ms.c, .slice u.its.a u.its.n u.its.c, .slice u.lv.a u.lv.n u.lv.c, .slice u.tx.a u.tx.n u.tx.c, .int .i64 m.rd, .int .i64 m.se, .int .i64 m.li, .int .i64 m.he, .int .i64 m.la.c, .int .i64 m.la.r, .int .i64 m.la.q, .int .i64 m.la.a, .int .i64 m.la.b, .slice u.ws.a u.ws.n u.ws.c] rfl (by simp) Try.sizeM rfl [.int .i64 m.id, .int .i64 m.rid, .slice u.ms.a u.ms.n u.ms.c, .slice u.its.a u.its.n u.its.c, .slice u.lv.a u.lv.n u.lv.c, .slice u.tx.a u.tx.n u.tx.c, .int .i64 m.rd, .int .i64 m.se, .int .i64 m.li, .int .i64 m.he, .int .i64 m.la.c, .int .i64 m.la.r, .int .i64 m.la.q, .int .i64 m.la.a, .int .i64 m.la.b, .slice u.ws.a u.ws.n u.ws.c] rfl ?_; intro wz RZ TZ))
    refine bodyPost_ret (results_b Try.results24 (w.heap.size + 2) 32 [.int .i64 m.id, .int .i64 m.rid, .slice u.ms.a u.ms.n u.ms.c, .slice u.its.a u.its.n u.its.c, .slice u.lv.a u.lv.n u.lv.c, .slice u.tx.a u.tx.n u.tx.c, .int .i64 m.rd, .int .i64 m.se, .int .i64 m.li, .int .i64 m.he, .int .i64 m.la.c, .int .i64 m.la.r, .int .i64 m.la.q, .int .i64 m.la.a, .int .i64 m.la.b, .slice u.ws.a u.ws.n u.ws.c] _ rfl RZ Try.underlying32 rfl Try.sizeM) rfl ?_
    rw [KC.out]
    exact ⟨u, rfl, (HO.past HR.out TZ (by decide) (by decide) (by decide)).down zw, HB.out.trans (TZ.below (by omega))⟩
  | true =>
    have KR : Hid (m.ok = true) := hk
    clear hk
    go_wp2_with (first | (refine wpList_ldG rfl 38 _ rfl (w.heap.size + 1) 0 rfl 38 _ HX.out [.int .i64 q, .int .i64 f, .int .i64 l, .string t] rfl _ Try.underlying38 rfl Try.sizeI ?_))
    refine (itemOk_any q f l t _).mono ?_
    rintro e w3 ⟨rfl, b⟩
    have HG : Hid (MbB w3 g m u zSv) := Bx.later HG.out b
    have HO : Hid (MtO w3 W.heap.size m u) := HO.out.later b
    have HA : Hid (Bx w3 w.heap.size 32 [.int .i64 m.id, .int .i64 m.rid, .slice v.ms.a v.ms.n v.ms.c, .slice v.its.a v.its.n v.its.c, .slice v.lv.a v.lv.n v.lv.c, .slice v.tx.a v.tx.n v.tx.c, .int .i64 m.rd, .int .i64 m.se, .int .i64 m.li, .int .i64 m.he, .int .i64 m.la.c, .int .i64 m.la.r, .int .i64 m.la.q, .int .i64 m.la.a, .int .i64 m.la.b, .slice v.ws.a v.ws.n v.ws.c]) := HA.out.later b
    have HX : Hid (Bx w3 (w.heap.size + 1) 38 [.int .i64 q, .int .i64 f, .int .i64 l, .string t]) := HX.out.later b
    have HR : Hid (Bx w3 (w.heap.size + 2) 32 [.int .i64 0, .int .i64 0, .slice none 0 0, .slice none 0 0, .slice none 0 0, .slice none 0 0, .int .i64 0, .int .i64 0, .int .i64 0, .int .i64 0, .int .i64 0, .int .i64 0, .int .i64 0, .int .i64 0, .int .i64 0, .slice none 0 0]) := HR.out.later b
    have HP : Hid (MtP w3 m v) := HP.out.later b
    have HB : Hid (Below w.heap.size w w3) := bl_next HB.out b
    clear b
    cases hi : itB q f l t with
    | false =>
      have KC : Hid (m.cat (q, f, l, t) = m) := cat_bad KR.out hi
      clear hi
      go_wp2_with fail
      refine (mate_any m u zSv g _ HG).mono ?_
      rintro e wa ⟨rfl, hga, ka⟩
      have HR : Hid (Bx wa (w.heap.size + 2) 32 [.int .i64 0, .int .i64 0, .slice none 0 0, .slice none 0 0, .slice none 0 0, .slice none 0 0, .int .i64 0, .int .i64 0, .int .i64 0, .int .i64 0, .int .i64 0, .int .i64 0, .int .i64 0, .int .i64 0, .int .i64 0, .slice none 0 0]) := HR.out.keepb ka (by omega)
      have HO := HO.out.keepb HG.out ka (by decide) (by decide) (by decide)
      have HB : Hid (Below w.heap.size w wa) := HB.out.trans (ka.below (by omega) HB.out.size)
      clear hga ka HG
      go_wp2_with (first | (refine wpList_stB rfl 32 _ _ rfl (w.heap.size + 2) 0 rfl 32 _ HR.out [.int .i64 m.id, .int .i64 m.rid, .slice u.ms.a u.ms.n u.ms.c, .slice u.its.a u.its.n u.its.c, .slice u.lv.a u.lv.n u.lv.c, .slice u.tx.a u.tx.n u.tx.c, .int .i64 m.rd, .int .i64 m.se, .int .i64 m.li, .int .i64 m.he, .int .i64 m.la.c, .int .i64 m.la.r, .int .i64 m.la.q, .int .i64 m.la.a, .int .i64 m.la.b, .slice u.ws.a u.ws.n u.ws.c] rfl (by simp) Try.sizeM rfl [.int .i64 m.id, .int .i64 m.rid, .slice u.ms.a u.ms.n u.ms.c, .slice u.its.a u.its.n u.its.c, .slice u.lv.a u.lv.n u.lv.c, .slice u.tx.a u.tx.n u.tx.c, .int .i64 m.rd, .int .i64 m.se, .int .i64 m.li, .int .i64 m.he, .int .i64 m.la.c, .int .i64 m.la.r, .int .i64 m.la.q, .int .i64 m.la.a, .int .i64 m.la.b, .slice u.ws.a u.ws.n u.ws.c] rfl ?_; intro wz RZ TZ))
      refine bodyPost_ret (results_b Try.results24 (w.heap.size + 2) 32 [.int .i64 m.id, .int .i64 m.rid, .slice u.ms.a u.ms.n u.ms.c, .slice u.its.a u.its.n u.its.c, .slice u.lv.a u.lv.n u.lv.c, .slice u.tx.a u.tx.n u.tx.c, .int .i64 m.rd, .int .i64 m.se, .int .i64 m.li, .int .i64 m.he, .int .i64 m.la.c, .int .i64 m.la.r, .int .i64 m.la.q, .int .i64 m.la.a, .int .i64 m.la.b, .slice u.ws.a u.ws.n u.ws.c] _ rfl RZ Try.underlying32 rfl Try.sizeM) rfl ?_
      rw [KC.out]
      exact ⟨u, rfl, (HO.past HR.out TZ (by decide) (by decide) (by decide)).down zw, HB.out.trans (TZ.below (by omega))⟩
    | true =>
      have KC : Hid (m.cat (q, f, l, t) = m.putX [(q, f, l, t)]) := cat_put KR.out hi
      clear hi
      go_wp2_with (first | (refine wpList_ldG rfl 38 _ rfl (w.heap.size + 1) 0 rfl 38 _ HX.out [.int .i64 q, .int .i64 f, .int .i64 l, .string t] rfl _ Try.underlying38 rfl Try.sizeI ?_))
      have b : Below w3.heap.size w3 (w3.alloc (.cells #[.int .i64 q, .int .i64 f, .int .i64 l, .string t] 38)) := (Below.refl _ _).alloc (Nat.le_refl _) _
      have HG : Hid (MbB (w3.alloc (.cells #[.int .i64 q, .int .i64 f, .int .i64 l, .string t] 38)) g m u zSv) := Bx.later HG.out b
      have HO : Hid (MtO (w3.alloc (.cells #[.int .i64 q, .int .i64 f, .int .i64 l, .string t] 38)) W.heap.size m u) := HO.out.later b
      have z4 : (w3.alloc (.cells #[.int .i64 q, .int .i64 f, .int .i64 l, .string t] 38)).heap.size = w3.heap.size + 1 := by simp
      have I4 : Hid (RIt (w3.alloc (.cells #[.int .i64 q, .int .i64 f, .int .i64 l, .string t] 38)) (Sv.mk (some ⟨w3.heap.size, 0, none⟩) 1 1).v [(q, f, l, t)]) := one_item (heap_alloc_new w3 _) (by omega)
      have HR : Hid (Bx (w3.alloc (.cells #[.int .i64 q, .int .i64 f, .int .i64 l, .string t] 38)) (w.heap.size + 2) 32 [.int .i64 0, .int .i64 0, .slice none 0 0, .slice none 0 0, .slice none 0 0, .slice none 0 0, .int .i64 0, .int .i64 0, .int .i64 0, .int .i64 0, .int .i64 0, .int .i64 0, .int .i64 0, .int .i64 0, .int .i64 0, .slice none 0 0]) := HR.out.later b
      have HB : Hid (Below w.heap.size w (w3.alloc (.cells #[.int .i64 q, .int .i64 f, .int .i64 l, .string t] 38))) := bl_next HB.out b
      clear b z4
      generalize w3.alloc (.cells #[.int .i64 q, .int .i64 f, .int .i64 l, .string t] 38) = w4 at *
      refine (take_any m u zSv g W.heap.size (Sv.mk (some ⟨w3.heap.size, 0, none⟩) 1 1) [(q, f, l, t)] _ HG HO (iGo_asc _ 0 (ok_its KR.out)).1 I4 zgg (by have := iGo_short (ok_its KR.out); simp; omega) (fun y hy => by simp at hy; subst hy; exact ht)).mono ?_
      rintro e w5 ⟨rfl, n, hg5, ho5, tk5, b5⟩
      have HG : Hid (MbB w5 g (m.putX [(q, f, l, t)]) (u.setI n) zSv) := hg5
      have HO : Hid (MtO w5 W.heap.size (m.putX [(q, f, l, t)]) (u.setI n)) := ho5
      generalize u.setI n = u5 at *
      have HR : Hid (Bx w5 (w.heap.size + 2) 32 [.int .i64 0, .int .i64 0, .slice none 0 0, .slice none 0 0, .slice none 0 0, .slice none 0 0, .int .i64 0, .int .i64 0, .int .i64 0, .int .i64 0, .int .i64 0, .int .i64 0, .int .i64 0, .int .i64 0, .int .i64 0, .slice none 0 0]) := Bx.stays HR.out b5 (by omega)
      have HB : Hid (Below w.heap.size w w5) := HB.out.trans (b5.mono zw)
      clear hg5 ho5 tk5 b5 I4 HP HA HX
      go_wp2_with fail
      refine (mate_any (m.putX [(q, f, l, t)]) u5 zSv g _ HG).mono ?_
      rintro e wa ⟨rfl, hga, ka⟩
      have HR : Hid (Bx wa (w.heap.size + 2) 32 [.int .i64 0, .int .i64 0, .slice none 0 0, .slice none 0 0, .slice none 0 0, .slice none 0 0, .int .i64 0, .int .i64 0, .int .i64 0, .int .i64 0, .int .i64 0, .int .i64 0, .int .i64 0, .int .i64 0, .int .i64 0, .slice none 0 0]) := HR.out.keepb ka (by omega)
      have HO := HO.out.keepb HG.out ka (by decide) (by decide) (by decide)
      have HB : Hid (Below w.heap.size w wa) := HB.out.trans (ka.below (by omega) HB.out.size)
      clear hga ka HG
      go_wp2_with (first | (refine wpList_stB rfl 32 _ _ rfl (w.heap.size + 2) 0 rfl 32 _ HR.out [.int .i64 m.id, .int .i64 m.rid, .slice u5.ms.a u5.ms.n u5.ms.c, .slice u5.its.a u5.its.n u5.its.c, .slice u5.lv.a u5.lv.n u5.lv.c, .slice u5.tx.a u5.tx.n u5.tx.c, .int .i64 m.rd, .int .i64 m.se, .int .i64 m.li, .int .i64 m.he, .int .i64 m.la.c, .int .i64 m.la.r, .int .i64 m.la.q, .int .i64 m.la.a, .int .i64 m.la.b, .slice u5.ws.a u5.ws.n u5.ws.c] rfl (by simp) Try.sizeM rfl [.int .i64 m.id, .int .i64 m.rid, .slice u5.ms.a u5.ms.n u5.ms.c, .slice u5.its.a u5.its.n u5.its.c, .slice u5.lv.a u5.lv.n u5.lv.c, .slice u5.tx.a u5.tx.n u5.tx.c, .int .i64 m.rd, .int .i64 m.se, .int .i64 m.li, .int .i64 m.he, .int .i64 m.la.c, .int .i64 m.la.r, .int .i64 m.la.q, .int .i64 m.la.a, .int .i64 m.la.b, .slice u5.ws.a u5.ws.n u5.ws.c] rfl ?_; intro wz RZ TZ))
      refine bodyPost_ret (results_b Try.results24 (w.heap.size + 2) 32 [.int .i64 m.id, .int .i64 m.rid, .slice u5.ms.a u5.ms.n u5.ms.c, .slice u5.its.a u5.its.n u5.its.c, .slice u5.lv.a u5.lv.n u5.lv.c, .slice u5.tx.a u5.tx.n u5.tx.c, .int .i64 m.rd, .int .i64 m.se, .int .i64 m.li, .int .i64 m.he, .int .i64 m.la.c, .int .i64 m.la.r, .int .i64 m.la.q, .int .i64 m.la.a, .int .i64 m.la.b, .slice u5.ws.a u5.ws.n u5.ws.c] _ rfl RZ Try.underlying32 rfl Try.sizeM) rfl ?_
      rw [KC.out]
      exact ⟨u5, rfl, (HO.past HR.out TZ (by decide) (by decide) (by decide)).down zw, HB.out.trans (TZ.below (by omega))⟩
end Go.Proofs.Ytpbhcbgohgfkcaa

/- One element put behind a slice of the call's own, and which block it lies in then. No function of the program is named here. -/
namespace Go.Proofs.Ytpbhcbgohgfkcaa
open Go.RowKit Pl
set_option linter.unusedVariables false

section
variable {P : Program} {w : World}
theorem run_append_blk (base : Nat) (t ty e : TypeId) (i : TypeInfo) (z : Value) (size bytes : Nat) (ht : P.underlying t = some (.slice e)) (hi : P.info? e = some i) (hz : i.zero = some z)
    (hsize : i.size = size) (hby : i.bytes = bytes) (hzs : z.cells.size = size) (hsz : 0 < size)
    (v : Value) (n : Nat) (xs : List Value) (hown : w.ownsRow base e size v n xs)
    (a : Addr) (m c : Nat) (news : List Value) (hl : news.length = m * size) (hnews : ∀ j u, news[j]? = some u → w.cell? (a.add j) = some u) (h1 : ∀ u ∈ news, u.oneCell' = true)
    (h63 : n + m ≤ maxLen) (hbytes : (n + m) * bytes ≤ 140737488355328) (hbase : base ≤ w.heap.size) :
    ∃ v' w', (Builtin.append_ #[t, t] ty #[v, .slice (some a) m c]).run P w = .ok v' w' ∧ w'.ownsRow base e size v' (n + m) (xs ++ news) ∧ w.grownBy w' v.ownBlock ∧ (v'.ownBlock = v.ownBlock ∨ v'.ownBlock = some w.heap.size) := by
  obtain ⟨v', w', hr, h2, h3, _⟩ := run_append_own (P := P) w base t ty e i z size bytes ht hi hz hsize hby hzs hsz v n xs hown a m c news hl hnews h1 h63 hbytes hbase
  obtain ⟨v2, w2, hr2, _, _, h4⟩ := run_appendS (P := P) t t ty i z bytes ht hi hz hsize hby hzs (Sl.ofOwn hown) (.slice (some a) m c) m news (Src.ofSlice _ ht a m c news hl hnews h1) h63 hbytes hbase
  rw [hr] at hr2
  cases hr2
  exact ⟨v', w', hr, h2, h3, h4⟩
end

section
variable {P : Program} {w : World} {ops : Array Oper} {rest : List Oper} {o : Oper} {a : Act} {Q : Exit → Act → World → Prop} {K : Act → World → Prop}
theorem wp_pushIb (s x : Operand) (t : TypeId) (ho : o.op = .call { callee := .builtin .append, args := #[s, x], argTypes := #[t, t] })
    (ht : P.underlying t = some (.slice 3)) (hinfo : (P.info? 3).map (fun i => (i.zero, i.size, i.bytes)) = some (some (.int .i64 0), 1, 8))
    (B : Nat) (v : Value) (xs : List Int) (hs : a.eval s = v) (hown : OwnI w B v xs) (b : Int)
    (hx : a.eval x = .slice (some ⟨w.heap.size, 0, none⟩) 1 1) (hn : xs.length < 4000000) (hB : B ≤ w.heap.size)
    (h : ∀ v' w', OwnI w' B v' (xs ++ [b]) → (w.alloc (.cells #[.int .i64 b] 3)).grownBy w' v.ownBlock → (v'.ownBlock = v.ownBlock ∨ v'.ownBlock = some (w.heap.size + 1)) → K (a.put o.dst v') w') :
    o.wp P a (w.alloc (.cells #[.int .i64 b] 3)) K Q := by
  obtain ⟨i0, hi, hz0, hz1, hz2⟩ := info_parts hinfo
  obtain ⟨v', w', hr, h2, h3, h4⟩ := run_append_blk (P := P) B t o.type 3 i0 (.int .i64 0) 1 8 ht hi hz0 hz1 hz2 rfl (by decide) v xs.length (xs.map (Value.int .i64)) (World.ownsRow.alloc hown (.cells #[.int .i64 b] 3)) ⟨w.heap.size, 0, none⟩ 1 1 [.int .i64 b] rfl (by
    intro j u hj
    match j, hj with
    | 0, hj => simp at hj; subst hj; simp [Addr.add]) (by intro u hu; simp at hu; subst hu; rfl) (by unfold maxLen; omega) (by omega) (by simp; omega)
  unfold Oper.wp execOp
  simp only [ho, resolve, invoke, builtin, Sem.run_bind, Sem.run_pure, Result.andThen_ok, List.map_toArray, List.map_cons, List.map_nil, hs, hx, hr]
  exact h v' w' (by simpa [OwnI] using h2) h3 (by simpa using h4)
theorem wpList_pushIb (hgd : o.guard = none) (s x : Operand) (t : TypeId) (ho : o.op = .call { callee := .builtin .append, args := #[s, x], argTypes := #[t, t] })
    (ht : P.underlying t = some (.slice 3)) (hinfo : (P.info? 3).map (fun i => (i.zero, i.size, i.bytes)) = some (some (.int .i64 0), 1, 8))
    (B : Nat) (v : Value) (xs : List Int) (hs : a.eval s = v) (hown : OwnI w B v xs) (b : Int)
    (hx : a.eval x = .slice (some ⟨w.heap.size, 0, none⟩) 1 1) (hn : xs.length < 4000000) (hB : B ≤ w.heap.size)
    (h : ∀ v' w', OwnI w' B v' (xs ++ [b]) → (w.alloc (.cells #[.int .i64 b] 3)).grownBy w' v.ownBlock → (v'.ownBlock = v.ownBlock ∨ v'.ownBlock = some (w.heap.size + 1)) → wpList P ops Q rest (a.put o.dst v') w') :
    wpList P ops Q (o :: rest) a (w.alloc (.cells #[.int .i64 b] 3)) :=
  wpList_plain hgd fun _ hK => wp_pushIb s x t ho ht hinfo B v xs hs hown b hx hn hB fun v' w' h1 h2 h3 => hK _ _ (h v' w' h1 h2 h3)
theorem wp_pushSb (s x : Operand) (t : TypeId) (ho : o.op = .call { callee := .builtin .append, args := #[s, x], argTypes := #[t, t] })
    (ht : P.underlying t = some (.slice 9)) (hinfo : (P.info? 9).map (fun i => (i.zero, i.size, i.bytes)) = some (some (.string ⟨#[]⟩), 1, 16))
    (B : Nat) (v : Value) (xs : List ByteArray) (hs : a.eval s = v) (hown : OwnS w B v xs) (b : ByteArray)
    (hx : a.eval x = .slice (some ⟨w.heap.size, 0, none⟩) 1 1) (hn : xs.length < 4000000) (hB : B ≤ w.heap.size)
    (h : ∀ v' w', OwnS w' B v' (xs ++ [b]) → (w.alloc (.cells #[.string b] 9)).grownBy w' v.ownBlock → (v'.ownBlock = v.ownBlock ∨ v'.ownBlock = some (w.heap.size + 1)) → K (a.put o.dst v') w') :
    o.wp P a (w.alloc (.cells #[.string b] 9)) K Q := by
  obtain ⟨i0, hi, hz0, hz1, hz2⟩ := info_parts hinfo
  obtain ⟨v', w', hr, h2, h3, h4⟩ := run_append_blk (P := P) B t o.type 9 i0 (.string ⟨#[]⟩) 1 16 ht hi hz0 hz1 hz2 rfl (by decide) v xs.length (xs.map Value.string) (World.ownsRow.alloc hown (.cells #[.string b] 9)) ⟨w.heap.size, 0, none⟩ 1 1 [.string b] rfl (by
    intro j u hj
    match j, hj with
    | 0, hj => simp at hj; subst hj; simp [Addr.add]) (by intro u hu; simp at hu; subst hu; rfl) (by unfold maxLen; omega) (by omega) (by simp; omega)
  unfold Oper.wp execOp
  simp only [ho, resolve, invoke, builtin, Sem.run_bind, Sem.run_pure, Result.andThen_ok, List.map_toArray, List.map_cons, List.map_nil, hs, hx, hr]
  exact h v' w' (by simpa [OwnS] using h2) h3 (by simpa using h4)
theorem wpList_pushSb (hgd : o.guard = none) (s x : Operand) (t : TypeId) (ho : o.op = .call { callee := .builtin .append, args := #[s, x], argTypes := #[t, t] })
    (ht : P.underlying t = some (.slice 9)) (hinfo : (P.info? 9).map (fun i => (i.zero, i.size, i.bytes)) = some (some (.string ⟨#[]⟩), 1, 16))
    (B : Nat) (v : Value) (xs : List ByteArray) (hs : a.eval s = v) (hown : OwnS w B v xs) (b : ByteArray)
    (hx : a.eval x = .slice (some ⟨w.heap.size, 0, none⟩) 1 1) (hn : xs.length < 4000000) (hB : B ≤ w.heap.size)
    (h : ∀ v' w', OwnS w' B v' (xs ++ [b]) → (w.alloc (.cells #[.string b] 9)).grownBy w' v.ownBlock → (v'.ownBlock = v.ownBlock ∨ v'.ownBlock = some (w.heap.size + 1)) → wpList P ops Q rest (a.put o.dst v') w') :
    wpList P ops Q (o :: rest) a (w.alloc (.cells #[.string b] 9)) :=
  wpList_plain hgd fun _ hK => wp_pushSb s x t ho ht hinfo B v xs hs hown b hx hn hB fun v' w' h1 h2 h3 => hK _ _ (h v' w' h1 h2 h3)
end
end Go.Proofs.Ytpbhcbgohgfkcaa

