/- Joined texts: Lsy. -/
import Derived.Test.YtpbhcbgohgfkcaaJct1
import Derived.Test.YtpbhcbgohgfkcaaJct2
import Derived.Test.YtpbhcbgohgfkcaaJct3
import Derived.Test.YtpbhcbgohgfkcaaJct4
import Derived.Test.YtpbhcbgohgfkcaaJct5
import Derived.Test.YtpbhcbgohgfkcaaJct6
import Derived.Test.YtpbhcbgohgfkcaaJct7
import Derived.Test.YtpbhcbgohgfkcaaJct8
import Derived.Test.YtpbhcbgohgfkcaaJct9
import Derived.Test.YtpbhcbgohgfkcaaJct10
import Derived.Test.YtpbhcbgohgfkcaaJct11
import Derived.Test.YtpbhcbgohgfkcaaJct12
import Derived.Test.YtpbhcbgohgfkcaaJct13
import Derived.Test.YtpbhcbgohgfkcaaJct14
import Derived.Test.YtpbhcbgohgfkcaaJct15
import Derived.Test.YtpbhcbgohgfkcaaJct16
import Derived.Test.YtpbhcbgohgfkcaaJct17
import Derived.Test.YtpbhcbgohgfkcaaJct18
/- The law on Say. Written by gen_lsy.py. -/
namespace Go.Proofs.Ytpbhcbgohgfkcaa
open Go.RowKit Pl
set_option linter.unusedVariables false
set_option linter.unusedSimpArgs false

/-- the plain answer. -/
def sayP (m : Mt) (l : Int) (x : ByteArray) : Mt := if sayOk m l x = true then sayM m l x else zMt
theorem say_any (m : Mt) (v : Mv) (l : Int) (x : ByteArray) (w : World) (h : Hid (MtP w m v)) (hs : Hid (MtS m)) (hx : x.size ≤ 1048576) :
    Calls Try.prog 19 #[.agg #[.int .i64 m.id, .int .i64 m.rid, .slice v.ms.a v.ms.n v.ms.c, .slice v.its.a v.its.n v.its.c, .slice v.lv.a v.lv.n v.lv.c, .slice v.tx.a v.tx.n v.tx.c, .int .i64 m.rd, .int .i64 m.se, .int .i64 m.li, .int .i64 m.he, .int .i64 m.la.c, .int .i64 m.la.r, .int .i64 m.la.q, .int .i64 m.la.a, .int .i64 m.la.b, .slice v.ws.a v.ws.n v.ws.c], .int .i64 l, .string x] w fun e w' => ∃ u : Mv, e = .returned (.tuple #[.agg #[.int .i64 (sayP m l x).id, .int .i64 (sayP m l x).rid, .slice u.ms.a u.ms.n u.ms.c, .slice u.its.a u.its.n u.its.c, .slice u.lv.a u.lv.n u.lv.c, .slice u.tx.a u.tx.n u.tx.c, .int .i64 (sayP m l x).rd, .int .i64 (sayP m l x).se, .int .i64 (sayP m l x).li, .int .i64 (sayP m l x).he, .int .i64 (sayP m l x).la.c, .int .i64 (sayP m l x).la.r, .int .i64 (sayP m l x).la.q, .int .i64 (sayP m l x).la.a, .int .i64 (sayP m l x).la.b, .slice u.ws.a u.ws.n u.ws.c], .bool (sayOk m l x)]) ∧ MtO w' w.heap.size (sayP m l x) u ∧ Below w.heap.size w w' := by
  unfold sayP
  cases hr : sayOk m l x with
  | true => exact (say_yes m v l x w h hs hx hr).mono fun e w' ⟨u, a, b, c⟩ => ⟨u, a, b, c⟩
  | false => exact (say_no m v l x w h hs hx hr).mono fun e w' ⟨a, c⟩ => ⟨zMv, a, mto_zero _ _, c⟩
theorem spSay_any (m : Mt) (v : Mv) (l : Int) (x : ByteArray) (w : World) (h : Hid (MtP w m v)) (hs : Hid (MtS m)) (hx : x.size ≤ 1048576) :
    Calls Try.prog 38 #[.agg #[.int .i64 m.id, .int .i64 m.rid, .slice v.ms.a v.ms.n v.ms.c, .slice v.its.a v.its.n v.its.c, .slice v.lv.a v.lv.n v.lv.c, .slice v.tx.a v.tx.n v.tx.c, .int .i64 m.rd, .int .i64 m.se, .int .i64 m.li, .int .i64 m.he, .int .i64 m.la.c, .int .i64 m.la.r, .int .i64 m.la.q, .int .i64 m.la.a, .int .i64 m.la.b, .slice v.ws.a v.ws.n v.ws.c], .int .i64 l, .string x] w fun e w' => ∃ u : Mv, e = .returned (.tuple #[.agg #[.int .i64 (sayP m l x).id, .int .i64 (sayP m l x).rid, .slice u.ms.a u.ms.n u.ms.c, .slice u.its.a u.its.n u.its.c, .slice u.lv.a u.lv.n u.lv.c, .slice u.tx.a u.tx.n u.tx.c, .int .i64 (sayP m l x).rd, .int .i64 (sayP m l x).se, .int .i64 (sayP m l x).li, .int .i64 (sayP m l x).he, .int .i64 (sayP m l x).la.c, .int .i64 (sayP m l x).la.r, .int .i64 (sayP m l x).la.q, .int .i64 (sayP m l x).la.a, .int .i64 (sayP m l x).la.b, .slice u.ws.a u.ws.n u.ws.c], .bool (sayOk m l x)]) ∧ MtO w' w.heap.size (sayP m l x) u ∧ Below w.heap.size w w' := by
  unfold sayP
  cases hr : sayOk m l x with
  | true => exact (spSay_yes m v l x w h hs hx hr).mono fun e w' ⟨u, a, b, c⟩ => ⟨u, a, b, c⟩
  | false => exact (spSay_no m v l x w h hs hx hr).mono fun e w' ⟨a, c⟩ => ⟨zMv, a, mto_zero _ _, c⟩
theorem ok_short {m : Mt} (h : m.ok = true) : m.ms.length ≤ 5 ∧ m.its.length ≤ 60 ∧ m.lv.length ≤ 20 ∧ m.tx.length ≤ 20 ∧ m.la.ws.length ≤ 20 ∧ (∀ y ∈ m.its, y.2.2.2.size ≤ 60) ∧ ∀ y ∈ m.tx, y.size ≤ 60 := by
  unfold Mt.ok sayB at h
  simp only [Bool.and_eq_true, decide_eq_true_eq, Bool.or_eq_true] at h
  obtain ⟨h1, _, h3, ⟨h4, h5, _, h7⟩, _, _, _, _, h8⟩ := h
  have a1 : m.ms.length ≤ 5 := by
    unfold ringB at h1
    simp only [Bool.and_eq_true, decide_eq_true_eq] at h1
    have := wGo_len m.ms 0 h1.2.2 (by omega)
    omega
  have a2 := iGo_short h3
  have a3 : m.la.ws.length ≤ 20 := by
    rcases h8 with h8 | h8
    · unfold ntB at h8; simp at h8; rw [h8.2.2.2.2.2]; simp
    · unfold tkB wB at h8; simp only [Bool.and_eq_true, decide_eq_true_eq] at h8; omega
  exact ⟨a1, a2, by omega, h4, a3, fun y hy => (itB_true.1 ((iGo_asc _ 0 h3).2 y hy).2).2.2.2, fitB_true.1 h7⟩
theorem mts_say {m : Mt} (h : m.ok = true) {l : Int} {x : ByteArray} (hx : x.size ≤ 1048576) : MtS (sayM m l x) := by
  obtain ⟨h1, h2, h3, h4, h5, h6, h7⟩ := ok_short h
  refine ⟨by simp [sayM]; omega, by simp [sayM]; omega, by simp [sayM]; omega, by simp [sayM]; omega, by simp [sayM]; omega, (fun y hy => by have := h6 y hy; omega), (fun y hy => ?_), by simp [sayM]; omega⟩
  simp [sayM] at hy
  rcases hy with hy | rfl
  · have := h7 y hy; omega
  · exact hx
theorem mts_sayP {m : Mt} {l : Int} {x : ByteArray} (hx : x.size ≤ 1048576) : MtS (sayP m l x) := by
  unfold sayP
  split
  · rename_i h
    unfold sayOk at h
    simp only [Bool.and_eq_true] at h
    exact mts_say h.1 hx
  · exact mts_zero

set_option maxRecDepth 100000 in
set_option maxHeartbeats 8000000 in
theorem lawSay (m : Mt) (v : Mv) (l : Int) (x : ByteArray) (w : World) (h : Hid (MtR w m v)) (hl : Hid (MtL m)) (hx : x.size ≤ maxLen) :
    Calls Try.prog 8 #[.agg #[.int .i64 m.id, .int .i64 m.rid, .slice v.ms.a v.ms.n v.ms.c, .slice v.its.a v.its.n v.its.c, .slice v.lv.a v.lv.n v.lv.c, .slice v.tx.a v.tx.n v.tx.c, .int .i64 m.rd, .int .i64 m.se, .int .i64 m.li, .int .i64 m.he, .int .i64 m.la.c, .int .i64 m.la.r, .int .i64 m.la.q, .int .i64 m.la.a, .int .i64 m.la.b, .slice v.ws.a v.ws.n v.ws.c], .int .i64 l, .string x] w fun e w' => e = .returned (.bool true) ∧ Below w.heap.size w w' := by
  unfold maxLen at hx
  by_cases hx1 : 1048576 < x.size
  · have hd : decide (1048576 < (x.size : Int)) = true := by simp; omega
    go_enter Try.func8, Try.ntmps8
    go_wp2_with fail
    go_ret
    exact ⟨rfl, (Below.refl _ _).alloc (Nat.le_refl _) _⟩
  have hx2 : x.size ≤ 1048576 := by omega
  have hdx : decide (1048576 < (x.size : Int)) = false := by simp; omega
  clear hx hx1
  have HA : Hid (Bx (w.alloc (.cells #[.int .i64 m.id, .int .i64 m.rid, .slice v.ms.a v.ms.n v.ms.c, .slice v.its.a v.its.n v.its.c, .slice v.lv.a v.lv.n v.lv.c, .slice v.tx.a v.tx.n v.tx.c, .int .i64 m.rd, .int .i64 m.se, .int .i64 m.li, .int .i64 m.he, .int .i64 m.la.c, .int .i64 m.la.r, .int .i64 m.la.q, .int .i64 m.la.a, .int .i64 m.la.b, .slice v.ws.a v.ws.n v.ws.c] 67)) w.heap.size 67 [.int .i64 m.id, .int .i64 m.rid, .slice v.ms.a v.ms.n v.ms.c, .slice v.its.a v.its.n v.its.c, .slice v.lv.a v.lv.n v.lv.c, .slice v.tx.a v.tx.n v.tx.c, .int .i64 m.rd, .int .i64 m.se, .int .i64 m.li, .int .i64 m.he, .int .i64 m.la.c, .int .i64 m.la.r, .int .i64 m.la.q, .int .i64 m.la.a, .int .i64 m.la.b, .slice v.ws.a v.ws.n v.ws.c]) := Bx.new w 67 _
  have HB0 : Hid (Below w.heap.size w (w.alloc (.cells #[.int .i64 m.id, .int .i64 m.rid, .slice v.ms.a v.ms.n v.ms.c, .slice v.its.a v.its.n v.its.c, .slice v.lv.a v.lv.n v.lv.c, .slice v.tx.a v.tx.n v.tx.c, .int .i64 m.rd, .int .i64 m.se, .int .i64 m.li, .int .i64 m.he, .int .i64 m.la.c, .int .i64 m.la.r, .int .i64 m.la.q, .int .i64 m.la.a, .int .i64 m.la.b, .slice v.ws.a v.ws.n v.ws.c] 67))) := (Below.refl _ _).alloc (Nat.le_refl _) _
  have HR : Hid (MtR (w.alloc (.cells #[.int .i64 m.id, .int .i64 m.rid, .slice v.ms.a v.ms.n v.ms.c, .slice v.its.a v.its.n v.its.c, .slice v.lv.a v.lv.n v.lv.c, .slice v.tx.a v.tx.n v.tx.c, .int .i64 m.rd, .int .i64 m.se, .int .i64 m.li, .int .i64 m.he, .int .i64 m.la.c, .int .i64 m.la.r, .int .i64 m.la.q, .int .i64 m.la.a, .int .i64 m.la.b, .slice v.ws.a v.ws.n v.ws.c] 67)) m v) := h.out.stays HB0.out
  go_enter Try.func8, Try.ntmps8
  go_wp2_with (first | (refine wpList_ldG rfl 67 _ rfl w.heap.size 0 rfl 67 _ HA.out [.int .i64 m.id, .int .i64 m.rid, .slice v.ms.a v.ms.n v.ms.c, .slice v.its.a v.its.n v.its.c, .slice v.lv.a v.lv.n v.lv.c, .slice v.tx.a v.tx.n v.tx.c, .int .i64 m.rd, .int .i64 m.se, .int .i64 m.li, .int .i64 m.he, .int .i64 m.la.c, .int .i64 m.la.r, .int .i64 m.la.q, .int .i64 m.la.a, .int .i64 m.la.b, .slice v.ws.a v.ws.n v.ws.c] rfl _ Try.underlying67 rfl Try.sizeL ?_))
  clear hdx
  generalize w.alloc (.cells #[.int .i64 m.id, .int .i64 m.rid, .slice v.ms.a v.ms.n v.ms.c, .slice v.its.a v.its.n v.its.c, .slice v.lv.a v.lv.n v.lv.c, .slice v.tx.a v.tx.n v.tx.c, .int .i64 m.rd, .int .i64 m.se, .int .i64 m.li, .int .i64 m.he, .int .i64 m.la.c, .int .i64 m.la.r, .int .i64 m.la.q, .int .i64 m.la.a, .int .i64 m.la.b, .slice v.ws.a v.ws.n v.ws.c] 67) = W0 at *
  refine (szMate_any m v _ HR hl).mono ?_
  rintro e w1 ⟨hz, b⟩
  have HA : Hid (Bx w1 w.heap.size 67 [.int .i64 m.id, .int .i64 m.rid, .slice v.ms.a v.ms.n v.ms.c, .slice v.its.a v.its.n v.its.c, .slice v.lv.a v.lv.n v.lv.c, .slice v.tx.a v.tx.n v.tx.c, .int .i64 m.rd, .int .i64 m.se, .int .i64 m.li, .int .i64 m.he, .int .i64 m.la.c, .int .i64 m.la.r, .int .i64 m.la.q, .int .i64 m.la.a, .int .i64 m.la.b, .slice v.ws.a v.ws.n v.ws.c]) := HA.out.later b
  have HB0 : Hid (Below w.heap.size w w1) := bl_next HB0.out b
  have HR : Hid (MtR w1 m v) := HR.out.stays b
  clear b
  rcases hz with rfl | ⟨z, rfl, hs, _⟩
  · go_wp2_with fail
    go_ret
    exact ⟨rfl, HB0.out⟩
  have hs : Hid (MtS m) := hs
  have hz : decide ((z : Int) < 0) = false := by simp
  obtain ⟨R, hR⟩ : ∃ R : Mt, R = sayP m l x := ⟨_, rfl⟩
  obtain ⟨OK, hOK⟩ : ∃ OK : Bool, OK = sayOk m l x := ⟨_, rfl⟩
  have SPC : Hid (∀ (s : Mv) (W : World), Hid (MtP W m s) → Calls Try.prog 38 #[.agg #[.int .i64 m.id, .int .i64 m.rid, .slice s.ms.a s.ms.n s.ms.c, .slice s.its.a s.its.n s.its.c, .slice s.lv.a s.lv.n s.lv.c, .slice s.tx.a s.tx.n s.tx.c, .int .i64 m.rd, .int .i64 m.se, .int .i64 m.li, .int .i64 m.he, .int .i64 m.la.c, .int .i64 m.la.r, .int .i64 m.la.q, .int .i64 m.la.a, .int .i64 m.la.b, .slice s.ws.a s.ws.n s.ws.c], .int .i64 l, .string x] W fun e w' => ∃ u : Mv, e = .returned (.tuple #[.agg #[.int .i64 R.id, .int .i64 R.rid, .slice u.ms.a u.ms.n u.ms.c, .slice u.its.a u.its.n u.its.c, .slice u.lv.a u.lv.n u.lv.c, .slice u.tx.a u.tx.n u.tx.c, .int .i64 R.rd, .int .i64 R.se, .int .i64 R.li, .int .i64 R.he, .int .i64 R.la.c, .int .i64 R.la.r, .int .i64 R.la.q, .int .i64 R.la.a, .int .i64 R.la.b, .slice u.ws.a u.ws.n u.ws.c], .bool OK]) ∧ MtO w' W.heap.size R u ∧ Below W.heap.size W w') := fun s W h => by rw [hR, hOK]; exact spSay_any m s l x W h hs hx2
  have IMP : Hid (∀ (s : Mv) (W : World), Hid (MtP W m s) → Calls Try.prog 19 #[.agg #[.int .i64 m.id, .int .i64 m.rid, .slice s.ms.a s.ms.n s.ms.c, .slice s.its.a s.its.n s.its.c, .slice s.lv.a s.lv.n s.lv.c, .slice s.tx.a s.tx.n s.tx.c, .int .i64 m.rd, .int .i64 m.se, .int .i64 m.li, .int .i64 m.he, .int .i64 m.la.c, .int .i64 m.la.r, .int .i64 m.la.q, .int .i64 m.la.a, .int .i64 m.la.b, .slice s.ws.a s.ws.n s.ws.c], .int .i64 l, .string x] W fun e w' => ∃ u : Mv, e = .returned (.tuple #[.agg #[.int .i64 R.id, .int .i64 R.rid, .slice u.ms.a u.ms.n u.ms.c, .slice u.its.a u.its.n u.its.c, .slice u.lv.a u.lv.n u.lv.c, .slice u.tx.a u.tx.n u.tx.c, .int .i64 R.rd, .int .i64 R.se, .int .i64 R.li, .int .i64 R.he, .int .i64 R.la.c, .int .i64 R.la.r, .int .i64 R.la.q, .int .i64 R.la.a, .int .i64 R.la.b, .slice u.ws.a u.ws.n u.ws.c], .bool OK]) ∧ MtO w' W.heap.size R u ∧ Below W.heap.size W w') := fun s W h => by rw [hR, hOK]; exact say_any m s l x W h hs hx2
  have hsR : Hid (MtS R) := (by rw [hR]; exact mts_sayP hx2 : MtS R)
  clear hR hOK
  go_wp2_with (first | (refine wpList_ldG rfl 67 _ rfl w.heap.size 0 rfl 67 _ HA.out [.int .i64 m.id, .int .i64 m.rid, .slice v.ms.a v.ms.n v.ms.c, .slice v.its.a v.its.n v.its.c, .slice v.lv.a v.lv.n v.lv.c, .slice v.tx.a v.tx.n v.tx.c, .int .i64 m.rd, .int .i64 m.se, .int .i64 m.li, .int .i64 m.he, .int .i64 m.la.c, .int .i64 m.la.r, .int .i64 m.la.q, .int .i64 m.la.a, .int .i64 m.la.b, .slice v.ws.a v.ws.n v.ws.c] rfl _ Try.underlying67 rfl Try.sizeL ?_))
  clear hz
  refine (toMate_any m v _ HR hs).mono ?_
  rintro e w2 ⟨u2, rfl, o, b⟩
  have HA : Hid (Bx w2 w.heap.size 67 [.int .i64 m.id, .int .i64 m.rid, .slice v.ms.a v.ms.n v.ms.c, .slice v.its.a v.its.n v.its.c, .slice v.lv.a v.lv.n v.lv.c, .slice v.tx.a v.tx.n v.tx.c, .int .i64 m.rd, .int .i64 m.se, .int .i64 m.li, .int .i64 m.he, .int .i64 m.la.c, .int .i64 m.la.r, .int .i64 m.la.q, .int .i64 m.la.a, .int .i64 m.la.b, .slice v.ws.a v.ws.n v.ws.c]) := HA.out.later b
  have HB0 : Hid (Below w.heap.size w w2) := bl_next HB0.out b
  have HR : Hid (MtR w2 m v) := HR.out.stays b
  have R2 : Hid (MtP w2 m u2) := o.p
  clear o b
  go_wp2_with fail
  refine (SPC.out u2 _ R2).mono ?_
  rintro e w3 ⟨uK, rfl, o3, b3⟩
  have HA : Hid (Bx w3 w.heap.size 67 [.int .i64 m.id, .int .i64 m.rid, .slice v.ms.a v.ms.n v.ms.c, .slice v.its.a v.its.n v.its.c, .slice v.lv.a v.lv.n v.lv.c, .slice v.tx.a v.tx.n v.tx.c, .int .i64 m.rd, .int .i64 m.se, .int .i64 m.li, .int .i64 m.he, .int .i64 m.la.c, .int .i64 m.la.r, .int .i64 m.la.q, .int .i64 m.la.a, .int .i64 m.la.b, .slice v.ws.a v.ws.n v.ws.c]) := HA.out.later b3
  have HB0 : Hid (Below w.heap.size w w3) := bl_next HB0.out b3
  have HR : Hid (MtR w3 m v) := HR.out.stays b3
  have HLX : Hid (w.heap.size < w3.heap.size) := HA.out.lt
  have KL : Hid (∀ k, uK.own k → k < w3.heap.size) := fun k hk => (o3.lt hk).2
  clear b3 R2 SPC
  have hz_WK : Hid (Bx (w3.alloc (.cells #[.int .i64 0, .int .i64 0, .slice none 0 0, .slice none 0 0, .slice none 0 0, .slice none 0 0, .int .i64 0, .int .i64 0, .int .i64 0, .int .i64 0, .int .i64 0, .int .i64 0, .int .i64 0, .int .i64 0, .int .i64 0, .slice none 0 0] 32)) w3.heap.size 32 [.int .i64 0, .int .i64 0, .slice none 0 0, .slice none 0 0, .slice none 0 0, .slice none 0 0, .int .i64 0, .int .i64 0, .int .i64 0, .int .i64 0, .int .i64 0, .int .i64 0, .int .i64 0, .int .i64 0, .int .i64 0, .slice none 0 0]) := Bx.new w3 32 _
  go_wp2_with (first | (refine wpList_stB rfl 32 _ _ rfl w3.heap.size 0 rfl 32 _ hz_WK.out [.int .i64 R.id, .int .i64 R.rid, .slice uK.ms.a uK.ms.n uK.ms.c, .slice uK.its.a uK.its.n uK.its.c, .slice uK.lv.a uK.lv.n uK.lv.c, .slice uK.tx.a uK.tx.n uK.tx.c, .int .i64 R.rd, .int .i64 R.se, .int .i64 R.li, .int .i64 R.he, .int .i64 R.la.c, .int .i64 R.la.r, .int .i64 R.la.q, .int .i64 R.la.a, .int .i64 R.la.b, .slice uK.ws.a uK.ws.n uK.ws.c] rfl (by simp) Try.sizeM rfl [.int .i64 R.id, .int .i64 R.rid, .slice uK.ms.a uK.ms.n uK.ms.c, .slice uK.its.a uK.its.n uK.its.c, .slice uK.lv.a uK.lv.n uK.lv.c, .slice uK.tx.a uK.tx.n uK.tx.c, .int .i64 R.rd, .int .i64 R.se, .int .i64 R.li, .int .i64 R.he, .int .i64 R.la.c, .int .i64 R.la.r, .int .i64 R.la.q, .int .i64 R.la.a, .int .i64 R.la.b, .slice uK.ws.a uK.ws.n uK.ws.c] rfl ?_; intro WK kb kt; have bb : Below w3.heap.size w3 WK := ((Below.refl _ _).alloc (Nat.le_refl _) _).trans (kt.below (Nat.le_refl _)); have HA : Hid (Bx WK w.heap.size 67 [.int .i64 m.id, .int .i64 m.rid, .slice v.ms.a v.ms.n v.ms.c, .slice v.its.a v.its.n v.its.c, .slice v.lv.a v.lv.n v.lv.c, .slice v.tx.a v.tx.n v.tx.c, .int .i64 m.rd, .int .i64 m.se, .int .i64 m.li, .int .i64 m.he, .int .i64 m.la.c, .int .i64 m.la.r, .int .i64 m.la.q, .int .i64 m.la.a, .int .i64 m.la.b, .slice v.ws.a v.ws.n v.ws.c]) := HA.out.later bb; have HB0 : Hid (Below w.heap.size w WK) := bl_next HB0.out bb; have HR : Hid (MtR WK m v) := HR.out.stays bb; have WKB : Hid (Bx WK w3.heap.size 32 [.int .i64 R.id, .int .i64 R.rid, .slice uK.ms.a uK.ms.n uK.ms.c, .slice uK.its.a uK.its.n uK.its.c, .slice uK.lv.a uK.lv.n uK.lv.c, .slice uK.tx.a uK.tx.n uK.tx.c, .int .i64 R.rd, .int .i64 R.se, .int .i64 R.li, .int .i64 R.he, .int .i64 R.la.c, .int .i64 R.la.r, .int .i64 R.la.q, .int .i64 R.la.a, .int .i64 R.la.b, .slice uK.ws.a uK.ws.n uK.ws.c]) := kb; have hKO : Hid (MtO WK w2.heap.size R uK) := o3.later bb; clear kb kt) | (refine wpList_ldG rfl 67 _ rfl w.heap.size 0 rfl 67 _ HA.out [.int .i64 m.id, .int .i64 m.rid, .slice v.ms.a v.ms.n v.ms.c, .slice v.its.a v.its.n v.its.c, .slice v.lv.a v.lv.n v.lv.c, .slice v.tx.a v.tx.n v.tx.c, .int .i64 m.rd, .int .i64 m.se, .int .i64 m.li, .int .i64 m.he, .int .i64 m.la.c, .int .i64 m.la.r, .int .i64 m.la.q, .int .i64 m.la.a, .int .i64 m.la.b, .slice v.ws.a v.ws.n v.ws.c] rfl _ Try.underlying67 rfl Try.sizeL ?_))
  clear o3 bb hz_WK
  have zK : w3.heap.size < WK.heap.size := WKB.out.lt
  have zL : w.heap.size < WK.heap.size := HA.out.lt
  have zL3 : w.heap.size < w3.heap.size := by have := HLX.out; exact this
  clear HLX
  generalize w3.heap.size = gK at *
  refine (toMate_any m v _ HR hs).mono ?_
  rintro e w4 ⟨uX, rfl, o, b⟩
  have HA : Hid (Bx w4 w.heap.size 67 [.int .i64 m.id, .int .i64 m.rid, .slice v.ms.a v.ms.n v.ms.c, .slice v.its.a v.its.n v.its.c, .slice v.lv.a v.lv.n v.lv.c, .slice v.tx.a v.tx.n v.tx.c, .int .i64 m.rd, .int .i64 m.se, .int .i64 m.li, .int .i64 m.he, .int .i64 m.la.c, .int .i64 m.la.r, .int .i64 m.la.q, .int .i64 m.la.a, .int .i64 m.la.b, .slice v.ws.a v.ws.n v.ws.c]) := HA.out.later b
  have HB0 : Hid (Below w.heap.size w w4) := bl_next HB0.out b
  have HR : Hid (MtR w4 m v) := HR.out.stays b
  have WKB : Hid (Bx w4 gK 32 [.int .i64 R.id, .int .i64 R.rid, .slice uK.ms.a uK.ms.n uK.ms.c, .slice uK.its.a uK.its.n uK.its.c, .slice uK.lv.a uK.lv.n uK.lv.c, .slice uK.tx.a uK.tx.n uK.tx.c, .int .i64 R.rd, .int .i64 R.se, .int .i64 R.li, .int .i64 R.he, .int .i64 R.la.c, .int .i64 R.la.r, .int .i64 R.la.q, .int .i64 R.la.a, .int .i64 R.la.b, .slice uK.ws.a uK.ws.n uK.ws.c]) := WKB.out.later b
  have hKO : Hid (MtO w4 w2.heap.size R uK) := hKO.out.later b
  have XL : Hid (∀ k, uX.own k → WK.heap.size ≤ k ∧ k < w4.heap.size) := fun k hk => o.lt hk
  have zWX : WK.heap.size ≤ w4.heap.size := b.size
  clear b
  have hz_WX : Hid (Bx (w4.alloc (.cells #[.int .i64 0, .int .i64 0, .slice none 0 0, .slice none 0 0, .slice none 0 0, .slice none 0 0, .int .i64 0, .int .i64 0, .int .i64 0, .int .i64 0, .int .i64 0, .int .i64 0, .int .i64 0, .int .i64 0, .int .i64 0, .slice none 0 0] 32)) w4.heap.size 32 [.int .i64 0, .int .i64 0, .slice none 0 0, .slice none 0 0, .slice none 0 0, .slice none 0 0, .int .i64 0, .int .i64 0, .int .i64 0, .int .i64 0, .int .i64 0, .int .i64 0, .int .i64 0, .int .i64 0, .int .i64 0, .slice none 0 0]) := Bx.new w4 32 _
  go_wp2_with (first | (refine wpList_stB rfl 32 _ _ rfl w4.heap.size 0 rfl 32 _ hz_WX.out [.int .i64 m.id, .int .i64 m.rid, .slice uX.ms.a uX.ms.n uX.ms.c, .slice uX.its.a uX.its.n uX.its.c, .slice uX.lv.a uX.lv.n uX.lv.c, .slice uX.tx.a uX.tx.n uX.tx.c, .int .i64 m.rd, .int .i64 m.se, .int .i64 m.li, .int .i64 m.he, .int .i64 m.la.c, .int .i64 m.la.r, .int .i64 m.la.q, .int .i64 m.la.a, .int .i64 m.la.b, .slice uX.ws.a uX.ws.n uX.ws.c] rfl (by simp) Try.sizeM rfl [.int .i64 m.id, .int .i64 m.rid, .slice uX.ms.a uX.ms.n uX.ms.c, .slice uX.its.a uX.its.n uX.its.c, .slice uX.lv.a uX.lv.n uX.lv.c, .slice uX.tx.a uX.tx.n uX.tx.c, .int .i64 m.rd, .int .i64 m.se, .int .i64 m.li, .int .i64 m.he, .int .i64 m.la.c, .int .i64 m.la.r, .int .i64 m.la.q, .int .i64 m.la.a, .int .i64 m.la.b, .slice uX.ws.a uX.ws.n uX.ws.c] rfl ?_; intro WX kb kt; have bb : Below w4.heap.size w4 WX := ((Below.refl _ _).alloc (Nat.le_refl _) _).trans (kt.below (Nat.le_refl _)); have HA : Hid (Bx WX w.heap.size 67 [.int .i64 m.id, .int .i64 m.rid, .slice v.ms.a v.ms.n v.ms.c, .slice v.its.a v.its.n v.its.c, .slice v.lv.a v.lv.n v.lv.c, .slice v.tx.a v.tx.n v.tx.c, .int .i64 m.rd, .int .i64 m.se, .int .i64 m.li, .int .i64 m.he, .int .i64 m.la.c, .int .i64 m.la.r, .int .i64 m.la.q, .int .i64 m.la.a, .int .i64 m.la.b, .slice v.ws.a v.ws.n v.ws.c]) := HA.out.later bb; have HB0 : Hid (Below w.heap.size w WX) := bl_next HB0.out bb; have HR : Hid (MtR WX m v) := HR.out.stays bb; have WKB : Hid (Bx WX gK 32 [.int .i64 R.id, .int .i64 R.rid, .slice uK.ms.a uK.ms.n uK.ms.c, .slice uK.its.a uK.its.n uK.its.c, .slice uK.lv.a uK.lv.n uK.lv.c, .slice uK.tx.a uK.tx.n uK.tx.c, .int .i64 R.rd, .int .i64 R.se, .int .i64 R.li, .int .i64 R.he, .int .i64 R.la.c, .int .i64 R.la.r, .int .i64 R.la.q, .int .i64 R.la.a, .int .i64 R.la.b, .slice uK.ws.a uK.ws.n uK.ws.c]) := WKB.out.later bb; have hKO : Hid (MtO WX w2.heap.size R uK) := hKO.out.later bb; have WXB : Hid (Bx WX w4.heap.size 32 [.int .i64 m.id, .int .i64 m.rid, .slice uX.ms.a uX.ms.n uX.ms.c, .slice uX.its.a uX.its.n uX.its.c, .slice uX.lv.a uX.lv.n uX.lv.c, .slice uX.tx.a uX.tx.n uX.tx.c, .int .i64 m.rd, .int .i64 m.se, .int .i64 m.li, .int .i64 m.he, .int .i64 m.la.c, .int .i64 m.la.r, .int .i64 m.la.q, .int .i64 m.la.a, .int .i64 m.la.b, .slice uX.ws.a uX.ws.n uX.ws.c]) := kb; have hXO : Hid (MtO WX WK.heap.size m uX) := o.later bb; clear kb kt) | (refine wpList_ldG rfl 32 _ rfl (w4.heap.size) 0 rfl 32 _ WXB.out [.int .i64 m.id, .int .i64 m.rid, .slice uX.ms.a uX.ms.n uX.ms.c, .slice uX.its.a uX.its.n uX.its.c, .slice uX.lv.a uX.lv.n uX.lv.c, .slice uX.tx.a uX.tx.n uX.tx.c, .int .i64 m.rd, .int .i64 m.se, .int .i64 m.li, .int .i64 m.he, .int .i64 m.la.c, .int .i64 m.la.r, .int .i64 m.la.q, .int .i64 m.la.a, .int .i64 m.la.b, .slice uX.ws.a uX.ws.n uX.ws.c] rfl _ Try.underlying32 rfl Try.sizeM ?_))
  clear o bb hz_WX
  have zX : w4.heap.size < WX.heap.size := WXB.out.lt
  generalize w4.heap.size = gX at *
  refine (IMP.out uX _ (show Hid (MtP WX m uX) from hXO.out.p)).mono ?_
  rintro e w5 ⟨uG, rfl, o5, b5⟩
  have HA : Hid (Bx w5 w.heap.size 67 [.int .i64 m.id, .int .i64 m.rid, .slice v.ms.a v.ms.n v.ms.c, .slice v.its.a v.its.n v.its.c, .slice v.lv.a v.lv.n v.lv.c, .slice v.tx.a v.tx.n v.tx.c, .int .i64 m.rd, .int .i64 m.se, .int .i64 m.li, .int .i64 m.he, .int .i64 m.la.c, .int .i64 m.la.r, .int .i64 m.la.q, .int .i64 m.la.a, .int .i64 m.la.b, .slice v.ws.a v.ws.n v.ws.c]) := HA.out.later b5
  have HB0 : Hid (Below w.heap.size w w5) := bl_next HB0.out b5
  have HR : Hid (MtR w5 m v) := HR.out.stays b5
  have WKB : Hid (Bx w5 gK 32 [.int .i64 R.id, .int .i64 R.rid, .slice uK.ms.a uK.ms.n uK.ms.c, .slice uK.its.a uK.its.n uK.its.c, .slice uK.lv.a uK.lv.n uK.lv.c, .slice uK.tx.a uK.tx.n uK.tx.c, .int .i64 R.rd, .int .i64 R.se, .int .i64 R.li, .int .i64 R.he, .int .i64 R.la.c, .int .i64 R.la.r, .int .i64 R.la.q, .int .i64 R.la.a, .int .i64 R.la.b, .slice uK.ws.a uK.ws.n uK.ws.c]) := WKB.out.later b5
  have hKO : Hid (MtO w5 w2.heap.size R uK) := hKO.out.later b5
  have WXB : Hid (Bx w5 gX 32 [.int .i64 m.id, .int .i64 m.rid, .slice uX.ms.a uX.ms.n uX.ms.c, .slice uX.its.a uX.its.n uX.its.c, .slice uX.lv.a uX.lv.n uX.lv.c, .slice uX.tx.a uX.tx.n uX.tx.c, .int .i64 m.rd, .int .i64 m.se, .int .i64 m.li, .int .i64 m.he, .int .i64 m.la.c, .int .i64 m.la.r, .int .i64 m.la.q, .int .i64 m.la.a, .int .i64 m.la.b, .slice uX.ws.a uX.ws.n uX.ws.c]) := WXB.out.later b5
  have hXO : Hid (MtO w5 WK.heap.size m uX) := hXO.out.later b5
  have GL : Hid (∀ k, uG.own k → WX.heap.size ≤ k ∧ k < w5.heap.size) := fun k hk => o5.lt hk
  have zG0 : WX.heap.size ≤ w5.heap.size := b5.size
  clear b5
  have hz_WG : Hid (Bx (w5.alloc (.cells #[.int .i64 0, .int .i64 0, .slice none 0 0, .slice none 0 0, .slice none 0 0, .slice none 0 0, .int .i64 0, .int .i64 0, .int .i64 0, .int .i64 0, .int .i64 0, .int .i64 0, .int .i64 0, .int .i64 0, .int .i64 0, .slice none 0 0] 32)) w5.heap.size 32 [.int .i64 0, .int .i64 0, .slice none 0 0, .slice none 0 0, .slice none 0 0, .slice none 0 0, .int .i64 0, .int .i64 0, .int .i64 0, .int .i64 0, .int .i64 0, .int .i64 0, .int .i64 0, .int .i64 0, .int .i64 0, .slice none 0 0]) := Bx.new w5 32 _
  go_wp2_with (first | (refine wpList_stB rfl 32 _ _ rfl w5.heap.size 0 rfl 32 _ hz_WG.out [.int .i64 R.id, .int .i64 R.rid, .slice uG.ms.a uG.ms.n uG.ms.c, .slice uG.its.a uG.its.n uG.its.c, .slice uG.lv.a uG.lv.n uG.lv.c, .slice uG.tx.a uG.tx.n uG.tx.c, .int .i64 R.rd, .int .i64 R.se, .int .i64 R.li, .int .i64 R.he, .int .i64 R.la.c, .int .i64 R.la.r, .int .i64 R.la.q, .int .i64 R.la.a, .int .i64 R.la.b, .slice uG.ws.a uG.ws.n uG.ws.c] rfl (by simp) Try.sizeM rfl [.int .i64 R.id, .int .i64 R.rid, .slice uG.ms.a uG.ms.n uG.ms.c, .slice uG.its.a uG.its.n uG.its.c, .slice uG.lv.a uG.lv.n uG.lv.c, .slice uG.tx.a uG.tx.n uG.tx.c, .int .i64 R.rd, .int .i64 R.se, .int .i64 R.li, .int .i64 R.he, .int .i64 R.la.c, .int .i64 R.la.r, .int .i64 R.la.q, .int .i64 R.la.a, .int .i64 R.la.b, .slice uG.ws.a uG.ws.n uG.ws.c] rfl ?_; intro WG kb kt; have bb : Below w5.heap.size w5 WG := ((Below.refl _ _).alloc (Nat.le_refl _) _).trans (kt.below (Nat.le_refl _)); have HA : Hid (Bx WG w.heap.size 67 [.int .i64 m.id, .int .i64 m.rid, .slice v.ms.a v.ms.n v.ms.c, .slice v.its.a v.its.n v.its.c, .slice v.lv.a v.lv.n v.lv.c, .slice v.tx.a v.tx.n v.tx.c, .int .i64 m.rd, .int .i64 m.se, .int .i64 m.li, .int .i64 m.he, .int .i64 m.la.c, .int .i64 m.la.r, .int .i64 m.la.q, .int .i64 m.la.a, .int .i64 m.la.b, .slice v.ws.a v.ws.n v.ws.c]) := HA.out.later bb; have HB0 : Hid (Below w.heap.size w WG) := bl_next HB0.out bb; have HR : Hid (MtR WG m v) := HR.out.stays bb; have WKB : Hid (Bx WG gK 32 [.int .i64 R.id, .int .i64 R.rid, .slice uK.ms.a uK.ms.n uK.ms.c, .slice uK.its.a uK.its.n uK.its.c, .slice uK.lv.a uK.lv.n uK.lv.c, .slice uK.tx.a uK.tx.n uK.tx.c, .int .i64 R.rd, .int .i64 R.se, .int .i64 R.li, .int .i64 R.he, .int .i64 R.la.c, .int .i64 R.la.r, .int .i64 R.la.q, .int .i64 R.la.a, .int .i64 R.la.b, .slice uK.ws.a uK.ws.n uK.ws.c]) := WKB.out.later bb; have hKO : Hid (MtO WG w2.heap.size R uK) := hKO.out.later bb; have WXB : Hid (Bx WG gX 32 [.int .i64 m.id, .int .i64 m.rid, .slice uX.ms.a uX.ms.n uX.ms.c, .slice uX.its.a uX.its.n uX.its.c, .slice uX.lv.a uX.lv.n uX.lv.c, .slice uX.tx.a uX.tx.n uX.tx.c, .int .i64 m.rd, .int .i64 m.se, .int .i64 m.li, .int .i64 m.he, .int .i64 m.la.c, .int .i64 m.la.r, .int .i64 m.la.q, .int .i64 m.la.a, .int .i64 m.la.b, .slice uX.ws.a uX.ws.n uX.ws.c]) := WXB.out.later bb; have hXO : Hid (MtO WG WK.heap.size m uX) := hXO.out.later bb; have WGB : Hid (Bx WG w5.heap.size 32 [.int .i64 R.id, .int .i64 R.rid, .slice uG.ms.a uG.ms.n uG.ms.c, .slice uG.its.a uG.its.n uG.its.c, .slice uG.lv.a uG.lv.n uG.lv.c, .slice uG.tx.a uG.tx.n uG.tx.c, .int .i64 R.rd, .int .i64 R.se, .int .i64 R.li, .int .i64 R.he, .int .i64 R.la.c, .int .i64 R.la.r, .int .i64 R.la.q, .int .i64 R.la.a, .int .i64 R.la.b, .slice uG.ws.a uG.ws.n uG.ws.c]) := kb; have hGO : Hid (MtO WG WX.heap.size R uG) := o5.later bb; clear kb kt) | (refine wpList_ldG rfl 32 _ rfl (w5.heap.size) 0 rfl 32 _ WGB.out [.int .i64 R.id, .int .i64 R.rid, .slice uG.ms.a uG.ms.n uG.ms.c, .slice uG.its.a uG.its.n uG.its.c, .slice uG.lv.a uG.lv.n uG.lv.c, .slice uG.tx.a uG.tx.n uG.tx.c, .int .i64 R.rd, .int .i64 R.se, .int .i64 R.li, .int .i64 R.he, .int .i64 R.la.c, .int .i64 R.la.r, .int .i64 R.la.q, .int .i64 R.la.a, .int .i64 R.la.b, .slice uG.ws.a uG.ws.n uG.ws.c] rfl _ Try.underlying32 rfl Try.sizeM ?_) | (refine wpList_ldG rfl 32 _ rfl (gK) 0 rfl 32 _ WKB.out [.int .i64 R.id, .int .i64 R.rid, .slice uK.ms.a uK.ms.n uK.ms.c, .slice uK.its.a uK.its.n uK.its.c, .slice uK.lv.a uK.lv.n uK.lv.c, .slice uK.tx.a uK.tx.n uK.tx.c, .int .i64 R.rd, .int .i64 R.se, .int .i64 R.li, .int .i64 R.he, .int .i64 R.la.c, .int .i64 R.la.r, .int .i64 R.la.q, .int .i64 R.la.a, .int .i64 R.la.b, .slice uK.ws.a uK.ws.n uK.ws.c] rfl _ Try.underlying32 rfl Try.sizeM ?_))
  clear o5 bb hz_WG
  have zG : w5.heap.size < WG.heap.size := WGB.out.lt
  generalize w5.heap.size = gG at *
  refine (eqMate_same R uG uK WX.heap.size w2.heap.size _ hGO hKO hsR).mono ?_
  rintro e w6 ⟨rfl, b⟩
  have HA : Hid (Bx w6 w.heap.size 67 [.int .i64 m.id, .int .i64 m.rid, .slice v.ms.a v.ms.n v.ms.c, .slice v.its.a v.its.n v.its.c, .slice v.lv.a v.lv.n v.lv.c, .slice v.tx.a v.tx.n v.tx.c, .int .i64 m.rd, .int .i64 m.se, .int .i64 m.li, .int .i64 m.he, .int .i64 m.la.c, .int .i64 m.la.r, .int .i64 m.la.q, .int .i64 m.la.a, .int .i64 m.la.b, .slice v.ws.a v.ws.n v.ws.c]) := HA.out.later b
  have HB0 : Hid (Below w.heap.size w w6) := bl_next HB0.out b
  have HR : Hid (MtR w6 m v) := HR.out.stays b
  have WKB : Hid (Bx w6 gK 32 [.int .i64 R.id, .int .i64 R.rid, .slice uK.ms.a uK.ms.n uK.ms.c, .slice uK.its.a uK.its.n uK.its.c, .slice uK.lv.a uK.lv.n uK.lv.c, .slice uK.tx.a uK.tx.n uK.tx.c, .int .i64 R.rd, .int .i64 R.se, .int .i64 R.li, .int .i64 R.he, .int .i64 R.la.c, .int .i64 R.la.r, .int .i64 R.la.q, .int .i64 R.la.a, .int .i64 R.la.b, .slice uK.ws.a uK.ws.n uK.ws.c]) := WKB.out.later b
  have hKO : Hid (MtO w6 w2.heap.size R uK) := hKO.out.later b
  have WXB : Hid (Bx w6 gX 32 [.int .i64 m.id, .int .i64 m.rid, .slice uX.ms.a uX.ms.n uX.ms.c, .slice uX.its.a uX.its.n uX.its.c, .slice uX.lv.a uX.lv.n uX.lv.c, .slice uX.tx.a uX.tx.n uX.tx.c, .int .i64 m.rd, .int .i64 m.se, .int .i64 m.li, .int .i64 m.he, .int .i64 m.la.c, .int .i64 m.la.r, .int .i64 m.la.q, .int .i64 m.la.a, .int .i64 m.la.b, .slice uX.ws.a uX.ws.n uX.ws.c]) := WXB.out.later b
  have hXO : Hid (MtO w6 WK.heap.size m uX) := hXO.out.later b
  have WGB : Hid (Bx w6 gG 32 [.int .i64 R.id, .int .i64 R.rid, .slice uG.ms.a uG.ms.n uG.ms.c, .slice uG.its.a uG.its.n uG.its.c, .slice uG.lv.a uG.lv.n uG.lv.c, .slice uG.tx.a uG.tx.n uG.tx.c, .int .i64 R.rd, .int .i64 R.se, .int .i64 R.li, .int .i64 R.he, .int .i64 R.la.c, .int .i64 R.la.r, .int .i64 R.la.q, .int .i64 R.la.a, .int .i64 R.la.b, .slice uG.ws.a uG.ws.n uG.ws.c]) := WGB.out.later b
  have hGO : Hid (MtO w6 WX.heap.size R uG) := hGO.out.later b
  clear b
  go_wp2_with fail
  refine wp_region_held_drew (S := fun w' => Below w6.heap.size w6 w') (by kernel_rfl) (Below.refl _ _).drew (fun hHeld => ?_)
  refine wpAnyH_take (i := 0) (v := _) rfl (by kernel_rfl) (by kernel_rfl) (by kernel_rfl) (fun _ _ _ h => h) (ld_yield (by rfl) 32 _ rfl gX 0 rfl 32 _ (fun w hS => WXB.out.later hS) [.int .i64 m.id, .int .i64 m.rid, .slice uX.ms.a uX.ms.n uX.ms.c, .slice uX.its.a uX.its.n uX.its.c, .slice uX.lv.a uX.lv.n uX.lv.c, .slice uX.tx.a uX.tx.n uX.tx.c, .int .i64 m.rd, .int .i64 m.se, .int .i64 m.li, .int .i64 m.he, .int .i64 m.la.c, .int .i64 m.la.r, .int .i64 m.la.q, .int .i64 m.la.a, .int .i64 m.la.b, .slice uX.ws.a uX.ws.n uX.ws.c] rfl _ Try.underlying32 rfl Try.sizeM) (by assumption) ?_
  try simp only [Act.put, List.getElem_toArray, List.getElem_cons_zero, List.getElem_cons_succ, List.setIfInBounds_toArray, List.set_cons_zero, List.set_cons_succ]
  refine wpAnyH_take (i := 1) (v := _) rfl (by kernel_rfl) (by kernel_rfl) (by kernel_rfl) (fun _ _ _ h => h) (ld_yield (by rfl) 67 _ rfl w.heap.size 0 rfl 67 _ (fun w hS => HA.out.later hS) [.int .i64 m.id, .int .i64 m.rid, .slice v.ms.a v.ms.n v.ms.c, .slice v.its.a v.its.n v.its.c, .slice v.lv.a v.lv.n v.lv.c, .slice v.tx.a v.tx.n v.tx.c, .int .i64 m.rd, .int .i64 m.se, .int .i64 m.li, .int .i64 m.he, .int .i64 m.la.c, .int .i64 m.la.r, .int .i64 m.la.q, .int .i64 m.la.a, .int .i64 m.la.b, .slice v.ws.a v.ws.n v.ws.c] rfl _ Try.underlying67 rfl Try.sizeL) (by assumption) ?_
  try simp only [Act.put, List.getElem_toArray, List.getElem_cons_zero, List.getElem_cons_succ, List.setIfInBounds_toArray, List.set_cons_zero, List.set_cons_succ]
  refine wpAnyH_ready (rs := [2]) (by kernel_rfl) (by simp) ?_
  refine AllReadyH.cons (i := 2) rfl (fun K hK => ?_) AllReadyH.nil
  rw [if_pos (by rfl)]
  simp only [List.getElem_toArray, List.getElem_cons_zero, List.getElem_cons_succ]
  go_simp
  refine (toMate_any m v _ (show Hid (MtR w6.drew m v) from HR.out.stays (Below.refl _ _).drew) hs).mono ?_
  rintro e w7 ⟨u7, rfl, o7, b7⟩
  have c7 : Below w6.heap.size w6 w7 := (Below.refl w6.heap.size w6).drew.trans b7
  refine hK.out _ _ (c7) (fun hHeld => ?_)
  clear hK K
  try simp only [Act.put, List.getElem_toArray, List.getElem_cons_zero, List.getElem_cons_succ, List.setIfInBounds_toArray, List.set_cons_zero, List.set_cons_succ]
  refine wpAnyH_ready (rs := [3]) (by kernel_rfl) (by simp) ?_
  refine AllReadyH.cons (i := 3) rfl (fun K hK => ?_) AllReadyH.nil
  rw [if_pos (by rfl)]
  simp only [List.getElem_toArray, List.getElem_cons_zero, List.getElem_cons_succ]
  go_simp
  refine (eqMate_same m uX u7 WK.heap.size _ _ (show Hid (MtO w7 _ m uX) from hXO.out.later c7) (show Hid (MtO w7 _ m u7) from o7) hs).mono ?_
  rintro e w8 ⟨rfl, b8⟩
  have c8 : Below w6.heap.size w6 w8 := bl_next c7 b8
  refine hK.out _ _ (c8) (fun hHeld => ?_)
  clear hK K
  try simp only [Act.put, List.getElem_toArray, List.getElem_cons_zero, List.getElem_cons_succ, List.setIfInBounds_toArray, List.set_cons_zero, List.set_cons_succ]
  refine wpAnyH_take (i := 4) (v := ?v4) rfl (by kernel_rfl) (by kernel_rfl) (by kernel_rfl) (fun _ _ _ h => h) (Or.inl ⟨by rfl, ?hy4⟩) (by assumption) ?_
  case hy4 => (intro w hSw; (try dsimp only at hSw); simp only [List.getElem_toArray, List.getElem_cons_zero, List.getElem_cons_succ]; go_simp; try with_reducible rfl)
  try simp only [Act.put, List.getElem_toArray, List.getElem_cons_zero, List.getElem_cons_succ, List.setIfInBounds_toArray, List.set_cons_zero, List.set_cons_succ]
  refine wpAnyH_done (by kernel_rfl) ?_ _
  have HA : Hid (Bx w8 w.heap.size 67 [.int .i64 m.id, .int .i64 m.rid, .slice v.ms.a v.ms.n v.ms.c, .slice v.its.a v.its.n v.its.c, .slice v.lv.a v.lv.n v.lv.c, .slice v.tx.a v.tx.n v.tx.c, .int .i64 m.rd, .int .i64 m.se, .int .i64 m.li, .int .i64 m.he, .int .i64 m.la.c, .int .i64 m.la.r, .int .i64 m.la.q, .int .i64 m.la.a, .int .i64 m.la.b, .slice v.ws.a v.ws.n v.ws.c]) := HA.out.later c8
  have HB0 : Hid (Below w.heap.size w w8) := bl_next HB0.out c8
  have HR : Hid (MtR w8 m v) := HR.out.stays c8
  have WKB : Hid (Bx w8 gK 32 [.int .i64 R.id, .int .i64 R.rid, .slice uK.ms.a uK.ms.n uK.ms.c, .slice uK.its.a uK.its.n uK.its.c, .slice uK.lv.a uK.lv.n uK.lv.c, .slice uK.tx.a uK.tx.n uK.tx.c, .int .i64 R.rd, .int .i64 R.se, .int .i64 R.li, .int .i64 R.he, .int .i64 R.la.c, .int .i64 R.la.r, .int .i64 R.la.q, .int .i64 R.la.a, .int .i64 R.la.b, .slice uK.ws.a uK.ws.n uK.ws.c]) := WKB.out.later c8
  have hKO : Hid (MtO w8 w2.heap.size R uK) := hKO.out.later c8
  have WXB : Hid (Bx w8 gX 32 [.int .i64 m.id, .int .i64 m.rid, .slice uX.ms.a uX.ms.n uX.ms.c, .slice uX.its.a uX.its.n uX.its.c, .slice uX.lv.a uX.lv.n uX.lv.c, .slice uX.tx.a uX.tx.n uX.tx.c, .int .i64 m.rd, .int .i64 m.se, .int .i64 m.li, .int .i64 m.he, .int .i64 m.la.c, .int .i64 m.la.r, .int .i64 m.la.q, .int .i64 m.la.a, .int .i64 m.la.b, .slice uX.ws.a uX.ws.n uX.ws.c]) := WXB.out.later c8
  have hXO : Hid (MtO w8 WK.heap.size m uX) := hXO.out.later c8
  have WGB : Hid (Bx w8 gG 32 [.int .i64 R.id, .int .i64 R.rid, .slice uG.ms.a uG.ms.n uG.ms.c, .slice uG.its.a uG.its.n uG.its.c, .slice uG.lv.a uG.lv.n uG.lv.c, .slice uG.tx.a uG.tx.n uG.tx.c, .int .i64 R.rd, .int .i64 R.se, .int .i64 R.li, .int .i64 R.he, .int .i64 R.la.c, .int .i64 R.la.r, .int .i64 R.la.q, .int .i64 R.la.a, .int .i64 R.la.b, .slice uG.ws.a uG.ws.n uG.ws.c]) := WGB.out.later c8
  have hGO : Hid (MtO w8 WX.heap.size R uG) := hGO.out.later c8
  clear c8 b8 c7 o7 b7 hHeld
  go_wp2_with (first | (refine wpList_ldG rfl 32 _ rfl (gX) 0 rfl 32 _ WXB.out [.int .i64 m.id, .int .i64 m.rid, .slice uX.ms.a uX.ms.n uX.ms.c, .slice uX.its.a uX.its.n uX.its.c, .slice uX.lv.a uX.lv.n uX.lv.c, .slice uX.tx.a uX.tx.n uX.tx.c, .int .i64 m.rd, .int .i64 m.se, .int .i64 m.li, .int .i64 m.he, .int .i64 m.la.c, .int .i64 m.la.r, .int .i64 m.la.q, .int .i64 m.la.a, .int .i64 m.la.b, .slice uX.ws.a uX.ws.n uX.ws.c] rfl _ Try.underlying32 rfl Try.sizeM ?_))
  refine (markMate_any m uX WK.heap.size 1 _ hXO (endM_le hs.out) (by omega)).mono ?_
  rintro e w9 ⟨rfl, _, G9⟩
  have HB0 : Hid (Below w.heap.size w w9) := HB0.out.trans (G9.below (fun k hk => by have := (XL.out k hk).1; omega) HB0.out.size)
  have HA : Hid (Bx w9 w.heap.size 67 [.int .i64 m.id, .int .i64 m.rid, .slice v.ms.a v.ms.n v.ms.c, .slice v.its.a v.its.n v.its.c, .slice v.lv.a v.lv.n v.lv.c, .slice v.tx.a v.tx.n v.tx.c, .int .i64 m.rd, .int .i64 m.se, .int .i64 m.li, .int .i64 m.he, .int .i64 m.la.c, .int .i64 m.la.r, .int .i64 m.la.q, .int .i64 m.la.a, .int .i64 m.la.b, .slice v.ws.a v.ws.n v.ws.c]) := (G9.block _ HA.out.lt (fun hk => by have := (XL.out _ hk).1; omega)).trans HA.out
  have HR : Hid (MtR w9 m v) := h.out.stays HB0.out
  have WKB : Hid (Bx w9 gK 32 [.int .i64 R.id, .int .i64 R.rid, .slice uK.ms.a uK.ms.n uK.ms.c, .slice uK.its.a uK.its.n uK.its.c, .slice uK.lv.a uK.lv.n uK.lv.c, .slice uK.tx.a uK.tx.n uK.tx.c, .int .i64 R.rd, .int .i64 R.se, .int .i64 R.li, .int .i64 R.he, .int .i64 R.la.c, .int .i64 R.la.r, .int .i64 R.la.q, .int .i64 R.la.a, .int .i64 R.la.b, .slice uK.ws.a uK.ws.n uK.ws.c]) := (G9.block _ WKB.out.lt (fun hk => by have := (XL.out _ hk).1; omega)).trans WKB.out
  have hKO : Hid (MtO w9 w2.heap.size R uK) := hKO.out.keep (fun k hk hlt => G9.block k hlt (fun h2 => by have := (XL.out _ h2).1; have := KL.out k hk; omega))
  have WGB : Hid (Bx w9 gG 32 [.int .i64 R.id, .int .i64 R.rid, .slice uG.ms.a uG.ms.n uG.ms.c, .slice uG.its.a uG.its.n uG.its.c, .slice uG.lv.a uG.lv.n uG.lv.c, .slice uG.tx.a uG.tx.n uG.tx.c, .int .i64 R.rd, .int .i64 R.se, .int .i64 R.li, .int .i64 R.he, .int .i64 R.la.c, .int .i64 R.la.r, .int .i64 R.la.q, .int .i64 R.la.a, .int .i64 R.la.b, .slice uG.ws.a uG.ws.n uG.ws.c]) := (G9.block _ WGB.out.lt (fun hk => by have := (XL.out _ hk).2; omega)).trans WGB.out
  have hGO : Hid (MtO w9 WX.heap.size R uG) := hGO.out.keep (fun k hk hlt => G9.block k hlt (fun h2 => by have := (XL.out _ h2).2; have := (GL.out k hk).1; omega))
  obtain ⟨z9, hz9⟩ : ∃ z9 : Nat, endM 1 m = z9 := ⟨_, rfl⟩
  rw [hz9]
  have hz9 : decide ((z9 : Int) < 0) = false := by simp
  clear WXB hXO G9
  go_wp2_with (first | (refine wpList_ldG rfl 32 _ rfl (gG) 0 rfl 32 _ WGB.out [.int .i64 R.id, .int .i64 R.rid, .slice uG.ms.a uG.ms.n uG.ms.c, .slice uG.its.a uG.its.n uG.its.c, .slice uG.lv.a uG.lv.n uG.lv.c, .slice uG.tx.a uG.tx.n uG.tx.c, .int .i64 R.rd, .int .i64 R.se, .int .i64 R.li, .int .i64 R.he, .int .i64 R.la.c, .int .i64 R.la.r, .int .i64 R.la.q, .int .i64 R.la.a, .int .i64 R.la.b, .slice uG.ws.a uG.ws.n uG.ws.c] rfl _ Try.underlying32 rfl Try.sizeM ?_) | (refine wpList_ldG rfl 32 _ rfl (gK) 0 rfl 32 _ WKB.out [.int .i64 R.id, .int .i64 R.rid, .slice uK.ms.a uK.ms.n uK.ms.c, .slice uK.its.a uK.its.n uK.its.c, .slice uK.lv.a uK.lv.n uK.lv.c, .slice uK.tx.a uK.tx.n uK.tx.c, .int .i64 R.rd, .int .i64 R.se, .int .i64 R.li, .int .i64 R.he, .int .i64 R.la.c, .int .i64 R.la.r, .int .i64 R.la.q, .int .i64 R.la.a, .int .i64 R.la.b, .slice uK.ws.a uK.ws.n uK.ws.c] rfl _ Try.underlying32 rfl Try.sizeM ?_))
  refine (eqMate_same R uG uK WX.heap.size w2.heap.size _ hGO hKO hsR).mono ?_
  rintro e w10 ⟨rfl, b⟩
  have HA : Hid (Bx w10 w.heap.size 67 [.int .i64 m.id, .int .i64 m.rid, .slice v.ms.a v.ms.n v.ms.c, .slice v.its.a v.its.n v.its.c, .slice v.lv.a v.lv.n v.lv.c, .slice v.tx.a v.tx.n v.tx.c, .int .i64 m.rd, .int .i64 m.se, .int .i64 m.li, .int .i64 m.he, .int .i64 m.la.c, .int .i64 m.la.r, .int .i64 m.la.q, .int .i64 m.la.a, .int .i64 m.la.b, .slice v.ws.a v.ws.n v.ws.c]) := HA.out.later b
  have HB0 : Hid (Below w.heap.size w w10) := bl_next HB0.out b
  have HR : Hid (MtR w10 m v) := HR.out.stays b
  have WKB : Hid (Bx w10 gK 32 [.int .i64 R.id, .int .i64 R.rid, .slice uK.ms.a uK.ms.n uK.ms.c, .slice uK.its.a uK.its.n uK.its.c, .slice uK.lv.a uK.lv.n uK.lv.c, .slice uK.tx.a uK.tx.n uK.tx.c, .int .i64 R.rd, .int .i64 R.se, .int .i64 R.li, .int .i64 R.he, .int .i64 R.la.c, .int .i64 R.la.r, .int .i64 R.la.q, .int .i64 R.la.a, .int .i64 R.la.b, .slice uK.ws.a uK.ws.n uK.ws.c]) := WKB.out.later b
  have hKO : Hid (MtO w10 w2.heap.size R uK) := hKO.out.later b
  have WGB : Hid (Bx w10 gG 32 [.int .i64 R.id, .int .i64 R.rid, .slice uG.ms.a uG.ms.n uG.ms.c, .slice uG.its.a uG.its.n uG.its.c, .slice uG.lv.a uG.lv.n uG.lv.c, .slice uG.tx.a uG.tx.n uG.tx.c, .int .i64 R.rd, .int .i64 R.se, .int .i64 R.li, .int .i64 R.he, .int .i64 R.la.c, .int .i64 R.la.r, .int .i64 R.la.q, .int .i64 R.la.a, .int .i64 R.la.b, .slice uG.ws.a uG.ws.n uG.ws.c]) := WGB.out.later b
  have hGO : Hid (MtO w10 WX.heap.size R uG) := hGO.out.later b
  clear b
  clear hz9
  go_wp2_with (first | (refine wpList_ldG rfl 32 _ rfl (gG) 0 rfl 32 _ WGB.out [.int .i64 R.id, .int .i64 R.rid, .slice uG.ms.a uG.ms.n uG.ms.c, .slice uG.its.a uG.its.n uG.its.c, .slice uG.lv.a uG.lv.n uG.lv.c, .slice uG.tx.a uG.tx.n uG.tx.c, .int .i64 R.rd, .int .i64 R.se, .int .i64 R.li, .int .i64 R.he, .int .i64 R.la.c, .int .i64 R.la.r, .int .i64 R.la.q, .int .i64 R.la.a, .int .i64 R.la.b, .slice uG.ws.a uG.ws.n uG.ws.c] rfl _ Try.underlying32 rfl Try.sizeM ?_))
  refine (markMate_any R uG WX.heap.size 1 _ hGO (endM_le hsR.out) (by omega)).mono ?_
  rintro e w11 ⟨rfl, hv, G⟩
  have HB0 : Hid (Below w.heap.size w w11) := HB0.out.trans (G.below (fun k hk => by have := (GL.out k hk).1; omega) HB0.out.size)
  have HA : Hid (Bx w11 w.heap.size 67 [.int .i64 m.id, .int .i64 m.rid, .slice v.ms.a v.ms.n v.ms.c, .slice v.its.a v.its.n v.its.c, .slice v.lv.a v.lv.n v.lv.c, .slice v.tx.a v.tx.n v.tx.c, .int .i64 m.rd, .int .i64 m.se, .int .i64 m.li, .int .i64 m.he, .int .i64 m.la.c, .int .i64 m.la.r, .int .i64 m.la.q, .int .i64 m.la.a, .int .i64 m.la.b, .slice v.ws.a v.ws.n v.ws.c]) := (G.block _ HA.out.lt (fun hk => by have := (GL.out _ hk).1; omega)).trans HA.out
  have HR : Hid (MtR w11 m v) := h.out.stays HB0.out
  have WKB : Hid (Bx w11 gK 32 [.int .i64 R.id, .int .i64 R.rid, .slice uK.ms.a uK.ms.n uK.ms.c, .slice uK.its.a uK.its.n uK.its.c, .slice uK.lv.a uK.lv.n uK.lv.c, .slice uK.tx.a uK.tx.n uK.tx.c, .int .i64 R.rd, .int .i64 R.se, .int .i64 R.li, .int .i64 R.he, .int .i64 R.la.c, .int .i64 R.la.r, .int .i64 R.la.q, .int .i64 R.la.a, .int .i64 R.la.b, .slice uK.ws.a uK.ws.n uK.ws.c]) := (G.block _ WKB.out.lt (fun hk => by have := (GL.out _ hk).1; omega)).trans WKB.out
  have hKO : Hid (MtO w11 w2.heap.size R uK) := hKO.out.keep (fun k hk hlt => G.block k hlt (fun h2 => by have := (GL.out _ h2).1; have := KL.out k hk; omega))
  have WGB : Hid (Bx w11 gG 32 [.int .i64 R.id, .int .i64 R.rid, .slice uG.ms.a uG.ms.n uG.ms.c, .slice uG.its.a uG.its.n uG.its.c, .slice uG.lv.a uG.lv.n uG.lv.c, .slice uG.tx.a uG.tx.n uG.tx.c, .int .i64 R.rd, .int .i64 R.se, .int .i64 R.li, .int .i64 R.he, .int .i64 R.la.c, .int .i64 R.la.r, .int .i64 R.la.q, .int .i64 R.la.a, .int .i64 R.la.b, .slice uG.ws.a uG.ws.n uG.ws.c]) := (G.block _ WGB.out.lt (fun hk => by have := (GL.out _ hk).2; omega)).trans WGB.out
  have hGO : Hid (MtO w11 WX.heap.size (markM 1 R) uG) := hv
  clear hv G
  obtain ⟨M, hM⟩ : ∃ M : Nat, endM 1 R = M := ⟨_, rfl⟩
  rw [hM]
  have HM : Hid (endM 1 R = M) := hM
  have hM0 : decide ((M : Int) < 0) = false := by simp
  clear hM
  go_wp2_with (first | (refine wpList_ldG rfl 32 _ rfl (gG) 0 rfl 32 _ WGB.out [.int .i64 R.id, .int .i64 R.rid, .slice uG.ms.a uG.ms.n uG.ms.c, .slice uG.its.a uG.its.n uG.its.c, .slice uG.lv.a uG.lv.n uG.lv.c, .slice uG.tx.a uG.tx.n uG.tx.c, .int .i64 R.rd, .int .i64 R.se, .int .i64 R.li, .int .i64 R.he, .int .i64 R.la.c, .int .i64 R.la.r, .int .i64 R.la.q, .int .i64 R.la.a, .int .i64 R.la.b, .slice uG.ws.a uG.ws.n uG.ws.c] rfl _ Try.underlying32 rfl Try.sizeM ?_))
  refine (heldMate_any R uG WX.heap.size 1 _ hGO (endM_le hsR.out) (by omega)).mono ?_
  rintro e w12 ⟨rfl, b⟩
  rw [HM.out]
  have HA : Hid (Bx w12 w.heap.size 67 [.int .i64 m.id, .int .i64 m.rid, .slice v.ms.a v.ms.n v.ms.c, .slice v.its.a v.its.n v.its.c, .slice v.lv.a v.lv.n v.lv.c, .slice v.tx.a v.tx.n v.tx.c, .int .i64 m.rd, .int .i64 m.se, .int .i64 m.li, .int .i64 m.he, .int .i64 m.la.c, .int .i64 m.la.r, .int .i64 m.la.q, .int .i64 m.la.a, .int .i64 m.la.b, .slice v.ws.a v.ws.n v.ws.c]) := HA.out.later b
  have HB0 : Hid (Below w.heap.size w w12) := bl_next HB0.out b
  have HR : Hid (MtR w12 m v) := HR.out.stays b
  have WKB : Hid (Bx w12 gK 32 [.int .i64 R.id, .int .i64 R.rid, .slice uK.ms.a uK.ms.n uK.ms.c, .slice uK.its.a uK.its.n uK.its.c, .slice uK.lv.a uK.lv.n uK.lv.c, .slice uK.tx.a uK.tx.n uK.tx.c, .int .i64 R.rd, .int .i64 R.se, .int .i64 R.li, .int .i64 R.he, .int .i64 R.la.c, .int .i64 R.la.r, .int .i64 R.la.q, .int .i64 R.la.a, .int .i64 R.la.b, .slice uK.ws.a uK.ws.n uK.ws.c]) := WKB.out.later b
  have hKO : Hid (MtO w12 w2.heap.size R uK) := hKO.out.later b
  have WGB : Hid (Bx w12 gG 32 [.int .i64 R.id, .int .i64 R.rid, .slice uG.ms.a uG.ms.n uG.ms.c, .slice uG.its.a uG.its.n uG.its.c, .slice uG.lv.a uG.lv.n uG.lv.c, .slice uG.tx.a uG.tx.n uG.tx.c, .int .i64 R.rd, .int .i64 R.se, .int .i64 R.li, .int .i64 R.he, .int .i64 R.la.c, .int .i64 R.la.r, .int .i64 R.la.q, .int .i64 R.la.a, .int .i64 R.la.b, .slice uG.ws.a uG.ws.n uG.ws.c]) := WGB.out.later b
  have hGO : Hid (MtO w12 WX.heap.size (markM 1 R) uG) := hGO.out.later b
  clear b
  go_wp2_with (first | (refine wpList_ldG rfl 67 _ rfl w.heap.size 0 rfl 67 _ HA.out [.int .i64 m.id, .int .i64 m.rid, .slice v.ms.a v.ms.n v.ms.c, .slice v.its.a v.its.n v.its.c, .slice v.lv.a v.lv.n v.lv.c, .slice v.tx.a v.tx.n v.tx.c, .int .i64 m.rd, .int .i64 m.se, .int .i64 m.li, .int .i64 m.he, .int .i64 m.la.c, .int .i64 m.la.r, .int .i64 m.la.q, .int .i64 m.la.a, .int .i64 m.la.b, .slice v.ws.a v.ws.n v.ws.c] rfl _ Try.underlying67 rfl Try.sizeL ?_))
  refine (toMate_any m v _ HR hs).mono ?_
  rintro e w13 ⟨u13, rfl, o, b⟩
  have HA : Hid (Bx w13 w.heap.size 67 [.int .i64 m.id, .int .i64 m.rid, .slice v.ms.a v.ms.n v.ms.c, .slice v.its.a v.its.n v.its.c, .slice v.lv.a v.lv.n v.lv.c, .slice v.tx.a v.tx.n v.tx.c, .int .i64 m.rd, .int .i64 m.se, .int .i64 m.li, .int .i64 m.he, .int .i64 m.la.c, .int .i64 m.la.r, .int .i64 m.la.q, .int .i64 m.la.a, .int .i64 m.la.b, .slice v.ws.a v.ws.n v.ws.c]) := HA.out.later b
  have HB0 : Hid (Below w.heap.size w w13) := bl_next HB0.out b
  have HR : Hid (MtR w13 m v) := HR.out.stays b
  have WKB : Hid (Bx w13 gK 32 [.int .i64 R.id, .int .i64 R.rid, .slice uK.ms.a uK.ms.n uK.ms.c, .slice uK.its.a uK.its.n uK.its.c, .slice uK.lv.a uK.lv.n uK.lv.c, .slice uK.tx.a uK.tx.n uK.tx.c, .int .i64 R.rd, .int .i64 R.se, .int .i64 R.li, .int .i64 R.he, .int .i64 R.la.c, .int .i64 R.la.r, .int .i64 R.la.q, .int .i64 R.la.a, .int .i64 R.la.b, .slice uK.ws.a uK.ws.n uK.ws.c]) := WKB.out.later b
  have hKO : Hid (MtO w13 w2.heap.size R uK) := hKO.out.later b
  have WGB : Hid (Bx w13 gG 32 [.int .i64 R.id, .int .i64 R.rid, .slice uG.ms.a uG.ms.n uG.ms.c, .slice uG.its.a uG.its.n uG.its.c, .slice uG.lv.a uG.lv.n uG.lv.c, .slice uG.tx.a uG.tx.n uG.tx.c, .int .i64 R.rd, .int .i64 R.se, .int .i64 R.li, .int .i64 R.he, .int .i64 R.la.c, .int .i64 R.la.r, .int .i64 R.la.q, .int .i64 R.la.a, .int .i64 R.la.b, .slice uG.ws.a uG.ws.n uG.ws.c]) := WGB.out.later b
  have hGO : Hid (MtO w13 WX.heap.size (markM 1 R) uG) := hGO.out.later b
  have X13 : Hid (MtP w13 m u13) := o.p
  clear o b
  go_wp2_with fail
  refine (IMP.out u13 _ X13).mono ?_
  rintro e w14 ⟨uE, rfl, o14, b14⟩
  have HA : Hid (Bx w14 w.heap.size 67 [.int .i64 m.id, .int .i64 m.rid, .slice v.ms.a v.ms.n v.ms.c, .slice v.its.a v.its.n v.its.c, .slice v.lv.a v.lv.n v.lv.c, .slice v.tx.a v.tx.n v.tx.c, .int .i64 m.rd, .int .i64 m.se, .int .i64 m.li, .int .i64 m.he, .int .i64 m.la.c, .int .i64 m.la.r, .int .i64 m.la.q, .int .i64 m.la.a, .int .i64 m.la.b, .slice v.ws.a v.ws.n v.ws.c]) := HA.out.later b14
  have HB0 : Hid (Below w.heap.size w w14) := bl_next HB0.out b14
  have HR : Hid (MtR w14 m v) := HR.out.stays b14
  have WKB : Hid (Bx w14 gK 32 [.int .i64 R.id, .int .i64 R.rid, .slice uK.ms.a uK.ms.n uK.ms.c, .slice uK.its.a uK.its.n uK.its.c, .slice uK.lv.a uK.lv.n uK.lv.c, .slice uK.tx.a uK.tx.n uK.tx.c, .int .i64 R.rd, .int .i64 R.se, .int .i64 R.li, .int .i64 R.he, .int .i64 R.la.c, .int .i64 R.la.r, .int .i64 R.la.q, .int .i64 R.la.a, .int .i64 R.la.b, .slice uK.ws.a uK.ws.n uK.ws.c]) := WKB.out.later b14
  have hKO : Hid (MtO w14 w2.heap.size R uK) := hKO.out.later b14
  have WGB : Hid (Bx w14 gG 32 [.int .i64 R.id, .int .i64 R.rid, .slice uG.ms.a uG.ms.n uG.ms.c, .slice uG.its.a uG.its.n uG.its.c, .slice uG.lv.a uG.lv.n uG.lv.c, .slice uG.tx.a uG.tx.n uG.tx.c, .int .i64 R.rd, .int .i64 R.se, .int .i64 R.li, .int .i64 R.he, .int .i64 R.la.c, .int .i64 R.la.r, .int .i64 R.la.q, .int .i64 R.la.a, .int .i64 R.la.b, .slice uG.ws.a uG.ws.n uG.ws.c]) := WGB.out.later b14
  have hGO : Hid (MtO w14 WX.heap.size (markM 1 R) uG) := hGO.out.later b14
  clear b14 X13
  have hz_WE : Hid (Bx (w14.alloc (.cells #[.int .i64 0, .int .i64 0, .slice none 0 0, .slice none 0 0, .slice none 0 0, .slice none 0 0, .int .i64 0, .int .i64 0, .int .i64 0, .int .i64 0, .int .i64 0, .int .i64 0, .int .i64 0, .int .i64 0, .int .i64 0, .slice none 0 0] 32)) w14.heap.size 32 [.int .i64 0, .int .i64 0, .slice none 0 0, .slice none 0 0, .slice none 0 0, .slice none 0 0, .int .i64 0, .int .i64 0, .int .i64 0, .int .i64 0, .int .i64 0, .int .i64 0, .int .i64 0, .int .i64 0, .int .i64 0, .slice none 0 0]) := Bx.new w14 32 _
  go_wp2_with (first | (refine wpList_stB rfl 32 _ _ rfl w14.heap.size 0 rfl 32 _ hz_WE.out [.int .i64 R.id, .int .i64 R.rid, .slice uE.ms.a uE.ms.n uE.ms.c, .slice uE.its.a uE.its.n uE.its.c, .slice uE.lv.a uE.lv.n uE.lv.c, .slice uE.tx.a uE.tx.n uE.tx.c, .int .i64 R.rd, .int .i64 R.se, .int .i64 R.li, .int .i64 R.he, .int .i64 R.la.c, .int .i64 R.la.r, .int .i64 R.la.q, .int .i64 R.la.a, .int .i64 R.la.b, .slice uE.ws.a uE.ws.n uE.ws.c] rfl (by simp) Try.sizeM rfl [.int .i64 R.id, .int .i64 R.rid, .slice uE.ms.a uE.ms.n uE.ms.c, .slice uE.its.a uE.its.n uE.its.c, .slice uE.lv.a uE.lv.n uE.lv.c, .slice uE.tx.a uE.tx.n uE.tx.c, .int .i64 R.rd, .int .i64 R.se, .int .i64 R.li, .int .i64 R.he, .int .i64 R.la.c, .int .i64 R.la.r, .int .i64 R.la.q, .int .i64 R.la.a, .int .i64 R.la.b, .slice uE.ws.a uE.ws.n uE.ws.c] rfl ?_; intro WE kb kt; have bb : Below w14.heap.size w14 WE := ((Below.refl _ _).alloc (Nat.le_refl _) _).trans (kt.below (Nat.le_refl _)); have HA : Hid (Bx WE w.heap.size 67 [.int .i64 m.id, .int .i64 m.rid, .slice v.ms.a v.ms.n v.ms.c, .slice v.its.a v.its.n v.its.c, .slice v.lv.a v.lv.n v.lv.c, .slice v.tx.a v.tx.n v.tx.c, .int .i64 m.rd, .int .i64 m.se, .int .i64 m.li, .int .i64 m.he, .int .i64 m.la.c, .int .i64 m.la.r, .int .i64 m.la.q, .int .i64 m.la.a, .int .i64 m.la.b, .slice v.ws.a v.ws.n v.ws.c]) := HA.out.later bb; have HB0 : Hid (Below w.heap.size w WE) := bl_next HB0.out bb; have HR : Hid (MtR WE m v) := HR.out.stays bb; have WKB : Hid (Bx WE gK 32 [.int .i64 R.id, .int .i64 R.rid, .slice uK.ms.a uK.ms.n uK.ms.c, .slice uK.its.a uK.its.n uK.its.c, .slice uK.lv.a uK.lv.n uK.lv.c, .slice uK.tx.a uK.tx.n uK.tx.c, .int .i64 R.rd, .int .i64 R.se, .int .i64 R.li, .int .i64 R.he, .int .i64 R.la.c, .int .i64 R.la.r, .int .i64 R.la.q, .int .i64 R.la.a, .int .i64 R.la.b, .slice uK.ws.a uK.ws.n uK.ws.c]) := WKB.out.later bb; have hKO : Hid (MtO WE w2.heap.size R uK) := hKO.out.later bb; have WGB : Hid (Bx WE gG 32 [.int .i64 R.id, .int .i64 R.rid, .slice uG.ms.a uG.ms.n uG.ms.c, .slice uG.its.a uG.its.n uG.its.c, .slice uG.lv.a uG.lv.n uG.lv.c, .slice uG.tx.a uG.tx.n uG.tx.c, .int .i64 R.rd, .int .i64 R.se, .int .i64 R.li, .int .i64 R.he, .int .i64 R.la.c, .int .i64 R.la.r, .int .i64 R.la.q, .int .i64 R.la.a, .int .i64 R.la.b, .slice uG.ws.a uG.ws.n uG.ws.c]) := WGB.out.later bb; have hGO : Hid (MtO WE WX.heap.size (markM 1 R) uG) := hGO.out.later bb; have WEB : Hid (Bx WE w14.heap.size 32 [.int .i64 R.id, .int .i64 R.rid, .slice uE.ms.a uE.ms.n uE.ms.c, .slice uE.its.a uE.its.n uE.its.c, .slice uE.lv.a uE.lv.n uE.lv.c, .slice uE.tx.a uE.tx.n uE.tx.c, .int .i64 R.rd, .int .i64 R.se, .int .i64 R.li, .int .i64 R.he, .int .i64 R.la.c, .int .i64 R.la.r, .int .i64 R.la.q, .int .i64 R.la.a, .int .i64 R.la.b, .slice uE.ws.a uE.ws.n uE.ws.c]) := kb; have hEO : Hid (MtO WE w13.heap.size R uE) := o14.later bb; clear kb kt) | (refine wpList_ldG rfl 32 _ rfl (w14.heap.size) 0 rfl 32 _ WEB.out [.int .i64 R.id, .int .i64 R.rid, .slice uE.ms.a uE.ms.n uE.ms.c, .slice uE.its.a uE.its.n uE.its.c, .slice uE.lv.a uE.lv.n uE.lv.c, .slice uE.tx.a uE.tx.n uE.tx.c, .int .i64 R.rd, .int .i64 R.se, .int .i64 R.li, .int .i64 R.he, .int .i64 R.la.c, .int .i64 R.la.r, .int .i64 R.la.q, .int .i64 R.la.a, .int .i64 R.la.b, .slice uE.ws.a uE.ws.n uE.ws.c] rfl _ Try.underlying32 rfl Try.sizeM ?_) | (refine wpList_ldG rfl 32 _ rfl (gK) 0 rfl 32 _ WKB.out [.int .i64 R.id, .int .i64 R.rid, .slice uK.ms.a uK.ms.n uK.ms.c, .slice uK.its.a uK.its.n uK.its.c, .slice uK.lv.a uK.lv.n uK.lv.c, .slice uK.tx.a uK.tx.n uK.tx.c, .int .i64 R.rd, .int .i64 R.se, .int .i64 R.li, .int .i64 R.he, .int .i64 R.la.c, .int .i64 R.la.r, .int .i64 R.la.q, .int .i64 R.la.a, .int .i64 R.la.b, .slice uK.ws.a uK.ws.n uK.ws.c] rfl _ Try.underlying32 rfl Try.sizeM ?_))
  refine (eqMate_same R uE uK _ _ _ hEO hKO hsR).mono ?_
  rintro e w15 ⟨rfl, b⟩
  have HA : Hid (Bx w15 w.heap.size 67 [.int .i64 m.id, .int .i64 m.rid, .slice v.ms.a v.ms.n v.ms.c, .slice v.its.a v.its.n v.its.c, .slice v.lv.a v.lv.n v.lv.c, .slice v.tx.a v.tx.n v.tx.c, .int .i64 m.rd, .int .i64 m.se, .int .i64 m.li, .int .i64 m.he, .int .i64 m.la.c, .int .i64 m.la.r, .int .i64 m.la.q, .int .i64 m.la.a, .int .i64 m.la.b, .slice v.ws.a v.ws.n v.ws.c]) := HA.out.later b
  have HB0 : Hid (Below w.heap.size w w15) := bl_next HB0.out b
  have HR : Hid (MtR w15 m v) := HR.out.stays b
  have WKB : Hid (Bx w15 gK 32 [.int .i64 R.id, .int .i64 R.rid, .slice uK.ms.a uK.ms.n uK.ms.c, .slice uK.its.a uK.its.n uK.its.c, .slice uK.lv.a uK.lv.n uK.lv.c, .slice uK.tx.a uK.tx.n uK.tx.c, .int .i64 R.rd, .int .i64 R.se, .int .i64 R.li, .int .i64 R.he, .int .i64 R.la.c, .int .i64 R.la.r, .int .i64 R.la.q, .int .i64 R.la.a, .int .i64 R.la.b, .slice uK.ws.a uK.ws.n uK.ws.c]) := WKB.out.later b
  have hKO : Hid (MtO w15 w2.heap.size R uK) := hKO.out.later b
  have WGB : Hid (Bx w15 gG 32 [.int .i64 R.id, .int .i64 R.rid, .slice uG.ms.a uG.ms.n uG.ms.c, .slice uG.its.a uG.its.n uG.its.c, .slice uG.lv.a uG.lv.n uG.lv.c, .slice uG.tx.a uG.tx.n uG.tx.c, .int .i64 R.rd, .int .i64 R.se, .int .i64 R.li, .int .i64 R.he, .int .i64 R.la.c, .int .i64 R.la.r, .int .i64 R.la.q, .int .i64 R.la.a, .int .i64 R.la.b, .slice uG.ws.a uG.ws.n uG.ws.c]) := WGB.out.later b
  have hGO : Hid (MtO w15 WX.heap.size (markM 1 R) uG) := hGO.out.later b
  have WEB : Hid (Bx w15 w14.heap.size 32 [.int .i64 R.id, .int .i64 R.rid, .slice uE.ms.a uE.ms.n uE.ms.c, .slice uE.its.a uE.its.n uE.its.c, .slice uE.lv.a uE.lv.n uE.lv.c, .slice uE.tx.a uE.tx.n uE.tx.c, .int .i64 R.rd, .int .i64 R.se, .int .i64 R.li, .int .i64 R.he, .int .i64 R.la.c, .int .i64 R.la.r, .int .i64 R.la.q, .int .i64 R.la.a, .int .i64 R.la.b, .slice uE.ws.a uE.ws.n uE.ws.c]) := WEB.out.later b
  clear b bb o14 hz_WE hEO
  go_wp2_with (first | (refine wpList_ldG rfl 32 _ rfl (gG) 0 rfl 32 _ WGB.out [.int .i64 R.id, .int .i64 R.rid, .slice uG.ms.a uG.ms.n uG.ms.c, .slice uG.its.a uG.its.n uG.its.c, .slice uG.lv.a uG.lv.n uG.lv.c, .slice uG.tx.a uG.tx.n uG.tx.c, .int .i64 R.rd, .int .i64 R.se, .int .i64 R.li, .int .i64 R.he, .int .i64 R.la.c, .int .i64 R.la.r, .int .i64 R.la.q, .int .i64 R.la.a, .int .i64 R.la.b, .slice uG.ws.a uG.ws.n uG.ws.c] rfl _ Try.underlying32 rfl Try.sizeM ?_))
  refine (heldMate_any R uG WX.heap.size 1 _ hGO (endM_le hsR.out) (by omega)).mono ?_
  rintro e w16 ⟨rfl, b⟩
  rw [HM.out]
  have HA : Hid (Bx w16 w.heap.size 67 [.int .i64 m.id, .int .i64 m.rid, .slice v.ms.a v.ms.n v.ms.c, .slice v.its.a v.its.n v.its.c, .slice v.lv.a v.lv.n v.lv.c, .slice v.tx.a v.tx.n v.tx.c, .int .i64 m.rd, .int .i64 m.se, .int .i64 m.li, .int .i64 m.he, .int .i64 m.la.c, .int .i64 m.la.r, .int .i64 m.la.q, .int .i64 m.la.a, .int .i64 m.la.b, .slice v.ws.a v.ws.n v.ws.c]) := HA.out.later b
  have HB0 : Hid (Below w.heap.size w w16) := bl_next HB0.out b
  have HR : Hid (MtR w16 m v) := HR.out.stays b
  have WKB : Hid (Bx w16 gK 32 [.int .i64 R.id, .int .i64 R.rid, .slice uK.ms.a uK.ms.n uK.ms.c, .slice uK.its.a uK.its.n uK.its.c, .slice uK.lv.a uK.lv.n uK.lv.c, .slice uK.tx.a uK.tx.n uK.tx.c, .int .i64 R.rd, .int .i64 R.se, .int .i64 R.li, .int .i64 R.he, .int .i64 R.la.c, .int .i64 R.la.r, .int .i64 R.la.q, .int .i64 R.la.a, .int .i64 R.la.b, .slice uK.ws.a uK.ws.n uK.ws.c]) := WKB.out.later b
  have hKO : Hid (MtO w16 w2.heap.size R uK) := hKO.out.later b
  have WGB : Hid (Bx w16 gG 32 [.int .i64 R.id, .int .i64 R.rid, .slice uG.ms.a uG.ms.n uG.ms.c, .slice uG.its.a uG.its.n uG.its.c, .slice uG.lv.a uG.lv.n uG.lv.c, .slice uG.tx.a uG.tx.n uG.tx.c, .int .i64 R.rd, .int .i64 R.se, .int .i64 R.li, .int .i64 R.he, .int .i64 R.la.c, .int .i64 R.la.r, .int .i64 R.la.q, .int .i64 R.la.a, .int .i64 R.la.b, .slice uG.ws.a uG.ws.n uG.ws.c]) := WGB.out.later b
  have hGO : Hid (MtO w16 WX.heap.size (markM 1 R) uG) := hGO.out.later b
  have WEB : Hid (Bx w16 w14.heap.size 32 [.int .i64 R.id, .int .i64 R.rid, .slice uE.ms.a uE.ms.n uE.ms.c, .slice uE.its.a uE.its.n uE.its.c, .slice uE.lv.a uE.lv.n uE.lv.c, .slice uE.tx.a uE.tx.n uE.tx.c, .int .i64 R.rd, .int .i64 R.se, .int .i64 R.li, .int .i64 R.he, .int .i64 R.la.c, .int .i64 R.la.r, .int .i64 R.la.q, .int .i64 R.la.a, .int .i64 R.la.b, .slice uE.ws.a uE.ws.n uE.ws.c]) := WEB.out.later b
  clear b
  go_wp2_with fail
  go_ret
  exact ⟨rfl, HB0.out⟩
end Go.Proofs.Ytpbhcbgohgfkcaa

