/- Joined texts: CMk CTx CXm CDT CSpo CMt CBw CQb CRl1 CGm CGi CGh. -/
import Derived.Test.YtmbjflhhffcjdaaDoorWsq8
import Derived.Test.YtmbjflhhffcjdaaDoorWsq9
import Derived.Deep.RegionHeld3
import Derived.Deep.QuietTactic
import Derived.BigQuiet
import Derived.Test.YtmbjflhhffcjdaaDoorWsq2
import Derived.Test.YtmbjflhhffcjdaaDoorWsq5
import Derived.Test.YtmbjflhhffcjdaaDoorWsq10
import Derived.Deep.MidRow
/- What a law writes over items, and looks at again. -/
namespace Go.Proofs.YtmbjflhhffcjdaaDoor
open Go.RowKit Pl
set_option linter.unusedVariables false

/-- what markText writes. -/
def markS (k : Nat) : ByteArray := strOfNums (109 :: decR k)

/-- the n items that are written from K on. -/
def mkI (K n : Nat) : List It := (List.range n).map fun j => (((K + 4 * j : Nat) : Int), ((K + 4 * j + 1 : Nat) : Int), ((K + 4 * j + 2 : Nat) : Int), markS (K + 4 * j + 3))
end Go.Proofs.YtmbjflhhffcjdaaDoor


/- Lists of texts that a law sizes, copies, compares and writes over. -/
namespace Go.Proofs.YtmbjflhhffcjdaaDoor
open Go.RowKit Pl
set_option linter.unusedVariables false

theorem Tryd.info9 : (Tryd.prog.info? 9).map (fun i => (i.zero, i.size, i.bytes)) = some (some (.string ⟨#[]⟩), 1, 16) := by kernel_rfl

end Go.Proofs.YtmbjflhhffcjdaaDoor


/- Lists of texts that are marked, and looked at again. -/
namespace Go.Proofs.YtmbjflhhffcjdaaDoor
open Go.RowKit Pl
set_option linter.unusedVariables false

/-- the texts that marks are. -/
def mkT (K n : Nat) : List ByteArray := (List.range n).map fun j => markS (K + j)
end Go.Proofs.YtmbjflhhffcjdaaDoor


/- The walk over drawn texts. -/
namespace Go.Proofs.YtmbjflhhffcjdaaDoor
open Go.RowKit Pl
set_option linter.unusedVariables false
set_option maxRecDepth 100000 in
set_option maxHeartbeats 1000000 in
theorem text_drw (w0 w : World) (B g n cap N : Nat) (ao : Option Addr) (hn : n ≤ 1048576) (hB : B ≤ g) (hN : N ≤ 5000) (hd : Hid (Drw w0 w B g ao n cap)) :
    Calls Tryd.prog 93 #[.pointer (some ⟨g, 0, none⟩), .int .i64 N] w fun e w' => (∃ t : ByteArray, t.size = N ∧ e = .returned (.string t)) ∧ Hid (Drw w0 w' B g ao n cap) := by
  have hg := hd.out.lt
  suffices hh : Calls Tryd.prog 93 #[.pointer (some ⟨g, 0, none⟩), .int .i64 N] w fun e w' => (∃ t : ByteArray, t.size = N ∧ e = .returned (.string t)) ∧ CurAt w' 102 g ao n cap ∧ KeepBut g w w' from
    hh.mono fun e w' h => ⟨h.1, (show Drw _ _ _ _ _ _ _ from ⟨h.2.1, hd.out.2.1.stays (h.2.2.below (Nat.le_refl g) (Nat.le_of_lt hg)) hB, hd.out.2.2.trans h.2.2⟩)⟩
  have hc : Hid (CurAt w 102 g ao n cap) := hd.out.1
  have hk : Hid (CodeAt w B ao n) := hd.out.2.1
  clear hd
  go_enter Tryd.func93, Tryd.ntmps93
  go_wp2
  go_loopw [5, 6] (fun v i wr => ∃ (k : Nat) (xs : List Int), i = .int .i64 k ∧ k ≤ N ∧ xs.length = k ∧ Hid (OwnB wr w.heap.size 5 v xs) ∧ Hid (CurAt wr 102 g ao n cap) ∧ Hid (CodeAt wr B ao n) ∧ Hid (KeepBut g w wr)) (fun _ i _ => N - (intOf i).toNat)
  case atStart =>
    have hb : Below w.heap.size w (w.alloc (.cells #[] 5)) := (Below.refl _ _).alloc (Nat.le_refl _) _
    exact ⟨0, [], rfl, by omega, rfl, OwnB.made w _ 5 #[] 0 (Nat.le_refl _) (by decide) rfl, CurAt.stays hc.out hb hg, hk.out.stays hb (by omega), keep_of_below hb⟩
  case round =>
    obtain ⟨k, xs, rfl, hkN, hxl, hown, hcr, hkr, hbr⟩ := hrel
    have hsz := hbr.out.size
    by_cases h1 : k < N
    · have hd := Drw.start hcr.out hkr.out
      go_wp2_with (first | (go_at_call 109; refine (byte_any wr _ B g n cap ao hn hB (by assumption)).mono ?_; rintro e w1 ⟨⟨x, hx, rfl⟩, hd1⟩; have hs1 : w.heap.size ≤ w1.heap.size := Nat.le_trans hsz hd1.out.2.2.size; have hown1 := OwnB_keep hown.out hd1.out.2.2 hg) | (at_builtin; refine wpList_push rfl _ _ 22 5 rfl Tryd.underlying22 Tryd.info5' w.heap.size _ xs rfl hown1 _ rfl (by omega) (by omega) ?_; intro v2 w2 hown2 hb2))
      go_roundw
      case rel => exact ⟨k + 1, _, by go_num, by omega, by simp [hxl], hown2, CurAt.stays hd1.out.1 hb2 hg, hd1.out.2.1.stays hb2 (by omega), (show KeepBut g w w2 from keep_then (hbr.out.trans hd1.out.2.2) hb2)⟩
      case measure => simp [intOf]; omega
    · have hkk : k = N := by omega
      have hcv := conv_own Tryd.underlying22 Tryd.underlying5 Tryd.underlying9 hown.out
      go_wp2
      go_ret
      exact ⟨⟨_, by rw [strOfNums_size]; omega, rfl⟩, hcr.out, hbr.out⟩

/-- short texts. -/
def Short (ts : List ByteArray) : Prop := ∀ t ∈ ts, t.size < 12

end Go.Proofs.YtmbjflhhffcjdaaDoor


/- Draws below any number, long texts spoilt. -/
namespace Go.Proofs.YtmbjflhhffcjdaaDoor
open Go.RowKit Pl
set_option linter.unusedVariables false

theorem below_le (w0 w : World) (B g n cap m : Nat) (ao : Option Addr) (hn : n ≤ 1048576) (hB : B ≤ g) (hm0 : 0 < m) (hm : m ≤ 4294967296) (hd : Hid (Drw w0 w B g ao n cap)) :
    Calls Tryd.prog 82 #[.pointer (some ⟨g, 0, none⟩), .int .i64 m] w fun e w' => (∃ x : Nat, x < m ∧ e = .returned (.int .i64 x)) ∧ Hid (Drw w0 w' B g ao n cap) := by
  by_cases h : m ≤ 256
  · exact below_small w0 w B g n cap m ao hn hB hm0 h hd
  · exact below_big w0 w B g n cap m ao hn hB (by omega) hm hd
set_option maxRecDepth 100000 in
set_option maxHeartbeats 2000000 in
theorem spoilt_big (w0 w : World) (B g n cap : Nat) (ao : Option Addr) (s : ByteArray) (hn : n ≤ 1048576) (hB : B ≤ g) (hs : s.size ≤ 8000) (hd : Hid (Drw w0 w B g ao n cap)) :
    Calls Tryd.prog 53 #[.pointer (some ⟨g, 0, none⟩), .string s] w fun e w' => (∃ t : ByteArray, t.size ≤ 8002 ∧ e = .returned (.string t)) ∧ Hid (Drw w0 w' B g ao n cap) := by
  go_enter Tryd.func53, Tryd.ntmps53
  go_wp2_with fail
  refine (below_small w0 _ B g n cap 12 ao hn hB (by omega) (by omega) hd).mono ?_
  rintro e w1 ⟨⟨x, hx, rfl⟩, hd1⟩
  clear hd
  by_cases h0 : x = 0
  · subst h0
    go_wp2_with fail
    refine (text_drw w0 _ B g n cap 1 ao hn hB (by omega) hd1).mono ?_
    rintro e w2 ⟨⟨t, ht, rfl⟩, hd2⟩
    clear hd1
    go_wp2_with fail
    go_ret
    exact ⟨⟨_, by rw [ByteArray.size_append]; omega, rfl⟩, hd2⟩
  by_cases h1 : x = 1
  · subst h1
    go_wp2_with fail
    refine (below_le w0 _ B g n cap (s.size + 1) ao hn hB (by omega) (by omega) hd1).mono ?_
    rintro e w2 ⟨⟨y, hy, rfl⟩, hd2⟩
    clear hd1
    have i0 : (0 : Int) ≤ (y : Int) := by omega
    have i1 : (y : Int) ≤ (s.size : Int) := by omega
    go_wp2_with fail
    go_ret
    exact ⟨⟨_, by rw [ByteArray.size_extract]; omega, rfl⟩, hd2⟩
  by_cases h2 : (x = 2 ∨ x = 3) ∧ 0 < s.size
  · obtain ⟨h2, hs0⟩ := h2
    rcases h2 with rfl | rfl
    all_goals
      go_wp2_with fail
      refine (below_le w0 _ B g n cap s.size ao hn hB (by omega) (by omega) hd1).mono ?_
      rintro e w2 ⟨⟨y, hy, rfl⟩, hd2⟩
      have hdd : Hid (Drw w0 w2.drew B g ao n cap) := ⟨hd2.out.1, hd2.out.2.1, hd2.out.2.2.trans ⟨rfl, rfl, rfl, Nat.le_refl _, fun _ _ _ => rfl⟩⟩
      clear hd1
      have i0 : (0 : Int) ≤ (y : Int) := by omega
      have i1 : (y : Int) ≤ (s.size : Int) := by omega
      have i2 : (y : Int) + 1 ≤ (s.size : Int) := by omega
      have i3 : (0 : Int) ≤ (y : Int) + 1 := by omega
      have hw1 : IntKind.i64.wrap ((y : Int) + 1) = (y : Int) + 1 := by rw [IntKind.wrap_i64]; omega
      go_wp2_with fail
      go_region_held3 (fun _ => True) (trivial) (first | (go_at_call 93; refine (text_drw w0 _ B g n cap 1 ao hn hB (by omega) hdd).mono ?_; rintro e w3 ⟨⟨t, ht, rfl⟩, hd3⟩; have z1 : ¬9223372036854775807 < min y s.size + 1 := (by omega); have z2 : ¬9223372036854775807 < min y s.size + 1 + (s.size - (y + 1)) := (by omega)))
      go_wp2_with fail
      go_ret
      exact ⟨⟨_, by rw [ByteArray.size_append, ByteArray.size_append, ByteArray.size_extract, ByteArray.size_extract]; omega, rfl⟩, hd3⟩
  by_cases h3 : x = 2 ∨ x = 3
  · have hs0 : s.size = 0 := by omega
    clear h2
    rcases h3 with rfl | rfl
    all_goals
      go_wp2_with fail
      go_ret
      exact ⟨⟨s, by omega, rfl⟩, hd1⟩
  · have n2 : ¬ x = 2 := by omega
    have n3 : ¬ x = 3 := by omega
    clear h2 h3
    go_wp2_with fail
    go_ret
    exact ⟨⟨s, by omega, rfl⟩, hd1⟩
end Go.Proofs.YtmbjflhhffcjdaaDoor


/- Members of a ring in plain words, and where they lie. -/
namespace Go.Proofs.YtmbjflhhffcjdaaDoor
open Go.RowKit Pl
set_option linter.unusedVariables false

/-- a token, plain. -/
structure Tok where
  c : Int
  r : Int
  q : Int
  a : Int
  b : Int
  ws : List Int
/-- a member, plain. -/
structure Mt where
  id : Int
  rid : Int
  ms : List Int
  its : List It
  lv : List Int
  tx : List ByteArray
  rd : Int
  se : Int
  li : Int
  he : Int
  la : Tok
/-- a slice. -/
structure Sv where
  a : Option Addr
  n : Nat
  c : Nat
def Sv.v (s : Sv) : Value := .slice s.a s.n s.c
/-- a member's lists, as slices. -/
structure Mv where
  ms : Sv
  its : Sv
  lv : Sv
  tx : Sv
  ws : Sv
def zTok : Tok := ⟨0, 0, 0, 0, 0, []⟩
def zMt : Mt := ⟨0, 0, [], [], [], [], 0, 0, 0, 0, zTok⟩
def zSv : Sv := ⟨none, 0, 0⟩
def zMv : Mv := ⟨zSv, zSv, zSv, zSv, zSv⟩

/-- the block g holds these cells. -/
def Bx (w : World) (g : Nat) (T : TypeId) (cs : List Value) : Prop := w.heap[g]? = some (.cells cs.toArray T (0, 0))
section
variable {w w' : World} {g T : Nat} {cs : List Value}
theorem Bx.new (w : World) (T : TypeId) (cs : List Value) : Bx (w.alloc (.cells cs.toArray T)) w.heap.size T cs := heap_alloc_new w _
theorem Bx.cell (h : Bx w g T cs) (k : Nat) : w.cell? ⟨g, k, none⟩ = cs[k]? := by
  rw [cell_of_row w g k _ T (0, 0) h]; simp
theorem Bx.frozen (h : Bx w g T cs) (k : Nat) : w.frozen? ⟨g, k, none⟩ = false := frozen_of_row w g k _ T h
theorem Bx.lt (h : Bx w g T cs) : g < w.heap.size := (Array.getElem?_eq_some_iff.1 h).1
theorem Bx.stays {B : Nat} (h : Bx w g T cs) (hb : Below B w w') (hg : g < B) : Bx w' g T cs := (hb.block g hg).trans h
theorem Bx.later (h : Bx w g T cs) (hb : Below w.heap.size w w') : Bx w' g T cs := h.stays hb h.lt
theorem Bx.set (h : Bx w g T cs) (k : Nat) (u : Value) : Bx (w.setCell ⟨g, k, none⟩ u) g T (cs.set k u) := by
  have := heap_setCell_same w g k _ T u h
  simpa [Bx] using this
theorem Bx.turn {k : Nat} (h : Bx w g T cs) (ht : TurnAt k w w') (hne : g ≠ k) : Bx w' g T cs := (ht.block g hne).trans h
theorem Bx.other {k j : Nat} {u : Value} (h : Bx w g T cs) (hne : g ≠ k) : Bx (w.setCell ⟨k, j, none⟩ u) g T cs := (Below.heap_setCell w ⟨k, j, none⟩ u g hne).trans h
theorem Bx.grown {row : Option Nat} (h : Bx w g T cs) (hg : w.grownBy w' row) (hne : some g ≠ row) : Bx w' g T cs := (hg.block g h.lt hne).trans h
end

/-- lists that are read. -/
def RI (w : World) (v : Value) (xs : List Int) : Prop := ∃ ao cap, v = .slice ao xs.length cap ∧ IntsAt w ao xs
def RT (w : World) (v : Value) (xs : List ByteArray) : Prop := ∃ ao cap, v = .slice ao xs.length cap ∧ TextsAt w ao xs
def RIt (w : World) (v : Value) (xs : List It) : Prop := ∃ ao cap, v = .slice ao xs.length cap ∧ ItemsAt w ao xs
section
variable {w w' : World} {v : Value}
theorem RI.stays {xs : List Int} (h : RI w v xs) (hb : Below w.heap.size w w') : RI w' v xs := by obtain ⟨a, c, h1, h2⟩ := h; exact ⟨a, c, h1, h2.stays hb⟩
theorem RT.stays {xs : List ByteArray} (h : RT w v xs) (hb : Below w.heap.size w w') : RT w' v xs := by obtain ⟨a, c, h1, h2⟩ := h; exact ⟨a, c, h1, h2.stays hb⟩
theorem RIt.stays {xs : List It} (h : RIt w v xs) (hb : Below w.heap.size w w') : RIt w' v xs := by obtain ⟨a, c, h1, h2⟩ := h; exact ⟨a, c, h1, h2.stays hb⟩
end
/-- a member's lists are read. -/
structure MtR (w : World) (m : Mt) (v : Mv) : Prop where
  ms : RI w v.ms.v m.ms
  its : RIt w v.its.v m.its
  lv : RI w v.lv.v m.lv
  tx : RT w v.tx.v m.tx
  ws : RI w v.ws.v m.la.ws
theorem MtR.stays {w w' : World} {m : Mt} {v : Mv} (h : MtR w m v) (hb : Below w.heap.size w w') : MtR w' m v := ⟨h.ms.stays hb, h.its.stays hb, h.lv.stays hb, h.tx.stays hb, h.ws.stays hb⟩
/-- .. and are not too long. -/
structure MtS (m : Mt) : Prop where
  ms : m.ms.length ≤ 1048576
  its : m.its.length ≤ 1048576
  lv : m.lv.length ≤ 1048576
  tx : m.tx.length ≤ 1048576
  ws : m.la.ws.length ≤ 1048576
  it : ∀ x ∈ m.its, x.2.2.2.size ≤ 1048576
  te : ∀ x ∈ m.tx, x.size ≤ 1048576
  all : m.ms.length + m.its.length + m.lv.length + m.tx.length + m.la.ws.length ≤ 1048576

/-- two values that don't share a block. -/
def Ap (a b : Value) : Prop := ∀ k, a.ownBlock = some k → b.ownBlock ≠ some k
theorem Ap.symm {a b : Value} (h : Ap a b) : Ap b a := fun k hb ha => h k ha hb
theorem own_is_i {w : World} {B : Nat} {v : Value} {xs : List Int} (h : OwnI w B v xs) {k : Nat} (hk : v.ownBlock = some k) : ∃ cs, w.heap[k]? = some (.cells cs 3 (0, 0)) := by
  rcases h.2 with ⟨rfl, _⟩ | ⟨g, cap, cur, rfl, _, hg, _⟩
  · cases hk
  · cases hk; exact ⟨_, hg⟩
theorem own_is_s {w : World} {B : Nat} {v : Value} {xs : List ByteArray} (h : OwnS w B v xs) {k : Nat} (hk : v.ownBlock = some k) : ∃ cs, w.heap[k]? = some (.cells cs 9 (0, 0)) := by
  rcases h.2 with ⟨rfl, _⟩ | ⟨g, cap, cur, rfl, _, hg, _⟩
  · cases hk
  · cases hk; exact ⟨_, hg⟩
theorem bx_i_ne {w : World} {B g T : Nat} {a : Value} {xs : List Int} {cs : List Value} (h : OwnI w B a xs) (k : Bx w g T cs) (hT : T ≠ 3) : a.ownBlock ≠ some g := fun h1 => by
  obtain ⟨_, e1⟩ := own_is_i h h1; unfold Bx at k; rw [e1] at k; simp at k; exact hT k.2.symm
theorem bx_s_ne {w : World} {B g T : Nat} {a : Value} {xs : List ByteArray} {cs : List Value} (h : OwnS w B a xs) (k : Bx w g T cs) (hT : T ≠ 9) : a.ownBlock ≠ some g := fun h1 => by
  obtain ⟨_, e1⟩ := own_is_s h h1; unfold Bx at k; rw [e1] at k; simp at k; exact hT k.2.symm
/-- the blocks of a member's lists. -/
def Mv.own (v : Mv) (k : Nat) : Prop := v.ms.v.ownBlock = some k ∨ v.its.v.ownBlock = some k ∨ v.lv.v.ownBlock = some k ∨ v.tx.v.ownBlock = some k ∨ v.ws.v.ownBlock = some k
section
variable {w w' : World} {B : Nat} {m : Mt} {v : Mv}
theorem Pl.OwnS.keep' {w w' : World} {B : Nat} {v : Value} {ss : List ByteArray} (h : OwnS w B v ss) (hk : ∀ k, v.ownBlock = Option.some k → k < w.heap.size → w'.heap[k]? = w.heap[k]?) : OwnS w' B v ss := by
  refine ⟨h.1, ?_⟩
  rcases h.2 with hn | ⟨g, cap, cur, rfl, hbg, hg, rest⟩
  · exact .inl hn
  · exact .inr ⟨g, cap, cur, rfl, hbg, (hk g rfl (Array.getElem?_eq_some_iff.1 hg).1).trans hg, rest⟩
end

/-- the block g is a member. -/
def MtB (w : World) (g T : Nat) (m : Mt) (v : Mv) : Prop := Bx w g T [.int .i64 m.id, .int .i64 m.rid, .slice v.ms.a v.ms.n v.ms.c, .slice v.its.a v.its.n v.its.c, .slice v.lv.a v.lv.n v.lv.c, .slice v.tx.a v.tx.n v.tx.c, .int .i64 m.rd, .int .i64 m.se, .int .i64 m.li, .int .i64 m.he, .int .i64 m.la.c, .int .i64 m.la.r, .int .i64 m.la.q, .int .i64 m.la.a, .int .i64 m.la.b, .slice v.ws.a v.ws.n v.ws.c]
theorem MtB.cells {w : World} {g T : Nat} {m : Mt} {v : Mv} (h : MtB w g T m v) :
    (w.cell? ⟨g, 0, none⟩ = some (.int .i64 m.id) ∧ w.cell? ⟨g, 1, none⟩ = some (.int .i64 m.rid) ∧ w.cell? ⟨g, 2, none⟩ = some (.slice v.ms.a v.ms.n v.ms.c) ∧ w.cell? ⟨g, 3, none⟩ = some (.slice v.its.a v.its.n v.its.c) ∧ w.cell? ⟨g, 4, none⟩ = some (.slice v.lv.a v.lv.n v.lv.c) ∧ w.cell? ⟨g, 5, none⟩ = some (.slice v.tx.a v.tx.n v.tx.c)) ∧
    (w.cell? ⟨g, 6, none⟩ = some (.int .i64 m.rd) ∧ w.cell? ⟨g, 7, none⟩ = some (.int .i64 m.se) ∧ w.cell? ⟨g, 8, none⟩ = some (.int .i64 m.li) ∧ w.cell? ⟨g, 9, none⟩ = some (.int .i64 m.he)) ∧
    (w.cell? ⟨g, 10, none⟩ = some (.int .i64 m.la.c) ∧ w.cell? ⟨g, 11, none⟩ = some (.int .i64 m.la.r) ∧ w.cell? ⟨g, 12, none⟩ = some (.int .i64 m.la.q) ∧ w.cell? ⟨g, 13, none⟩ = some (.int .i64 m.la.a) ∧ w.cell? ⟨g, 14, none⟩ = some (.int .i64 m.la.b) ∧ w.cell? ⟨g, 15, none⟩ = some (.slice v.ws.a v.ws.n v.ws.c)) :=
  ⟨⟨Bx.cell h 0, Bx.cell h 1, Bx.cell h 2, Bx.cell h 3, Bx.cell h 4, Bx.cell h 5⟩, ⟨Bx.cell h 6, Bx.cell h 7, Bx.cell h 8, Bx.cell h 9⟩, Bx.cell h 10, Bx.cell h 11, Bx.cell h 12, Bx.cell h 13, Bx.cell h 14, Bx.cell h 15⟩
end Go.Proofs.YtmbjflhhffcjdaaDoor


/- Boxes that are loaded and stored as a whole, or in a part, in a walk. No function of the program is named here. -/
namespace Go.Proofs.YtmbjflhhffcjdaaDoor
open Go.RowKit Pl
set_option linter.unusedVariables false

section
variable {P : Program} {ops : Array Oper} {rest : List Oper} {o : Oper} {a : Act} {w : World} {Q : Exit → Act → World → Prop}
theorem Bx.range {g T : Nat} {all : List Value} (h : Bx w g T all) (off : Nat) (cs : List Value) (hp : (all.drop off).take cs.length = cs) : w.rangeAt g off cs := by
  intro j v hv
  rw [h.cell]
  have hj : j < cs.length := (List.getElem?_eq_some_iff.1 hv).1
  rw [← hp, List.getElem?_take, if_pos hj, List.getElem?_drop] at hv
  exact hv
theorem Bx.there {g T : Nat} {all : List Value} (h : Bx w g T all) (off n : Nat) (hn : off + n ≤ all.length) : w.there g off n := fun j hj => by
  refine ⟨?_, h.frozen _⟩
  rw [h.cell, List.getElem?_eq_getElem (by omega)]
  rfl
theorem setCells_list : ∀ (vs : List Value) (w : World) (g o T : Nat) (all : List Value), Bx w g T all → o + vs.length ≤ all.length → Bx (w.setCells g o vs) g T (all.take o ++ vs ++ all.drop (o + vs.length)) := by
  intro vs
  induction vs with
  | nil => intro w g o T all h _; simpa [World.setCells] using h
  | cons x vs ih =>
    intro w g o T all h hl
    simp only [List.length_cons] at hl
    have h1 := h.set o x
    have h2 := ih _ g (o + 1) T _ h1 (by simp; omega)
    rw [World.setCells]
    have e : (all.set o x).take (o + 1) ++ vs ++ (all.set o x).drop (o + 1 + vs.length) = all.take o ++ x :: vs ++ all.drop (o + (x :: vs).length) := by
      rw [List.drop_set, if_pos (by omega), List.take_set]
      have e1 : (all.take (o + 1)).set o x = all.take o ++ [x] := by
        rw [List.take_succ_eq_append_getElem (by omega), List.set_append, if_neg (by rw [List.length_take]; omega)]
        simp [List.length_take, Nat.min_eq_left (show o ≤ all.length by omega)]
      rw [e1]
      simp [Nat.add_assoc, Nat.add_comm 1 vs.length]
    rw [e] at h2
    exact h2
theorem setCells_turn : ∀ (vs : List Value) (w : World) (g o : Nat), TurnAt g w (w.setCells g o vs) := by
  intro vs
  induction vs with
  | nil => intro w g o; exact TurnAt.refl _ _
  | cons x vs ih =>
    intro w g o
    rw [World.setCells]
    exact ((TurnAt.refl g w).setCell o x).trans (ih _ g (o + 1))

/-- one cell of a box is loaded. -/
theorem run_ld1 {P : Program} {w : World} {g T : Nat} {all : List Value} (hB : Bx w g T all) (off : Nat) (u : Value) (hu : all[off]? = some u) (ty : TypeId) (d : TypeDesc) (ht : P.underlying ty = some d) (hd : d.isRow = false) : (Instr.loadAt ty (.pointer (some ⟨g, off, none⟩))).run P w = .ok u w := by
  have hc : w.cell? ⟨g, off, none⟩ = some u := by rw [hB.cell, hu]
  have hagg : (isAgg ty).run P w = .ok false w := by
    unfold isAgg
    rw [Sem.run_bind, run_underlying ht w]
    cases d <;> simp_all
  simp [Instr.loadAt, Instr.sureAddr, loadVar, Sem.run_bind, hagg, hc]
/-- one cell of a box is stored. -/
theorem run_st1 {P : Program} {w : World} {g T : Nat} {all : List Value} (hB : Bx w g T all) (off : Nat) (u : Value) (hl : off < all.length) (h1 : u.oneCell' = true) (ty : TypeId) (hi : (P.info? ty).map (·.size) = some 1) : (Instr.storeAt ty (.pointer (some ⟨g, off, none⟩)) u).run P w = .ok () (w.setCell ⟨g, off, none⟩ u) := by
  have hc : w.cell? ⟨g, off, none⟩ = some all[off] := by rw [hB.cell, List.getElem?_eq_getElem hl]
  have hf := hB.frozen off
  have hcs : u.cells = #[u] := by cases u <;> first | rfl | (simp [Value.oneCell'] at h1)
  cases hq : P.info? ty with
  | none => simp [hq] at hi
  | some i =>
    have hs : i.size = 1 := by simpa [hq] using hi
    have ha : (⟨g, off, none⟩ : Addr).add 0 = ⟨g, off, none⟩ := by unfold Addr.add; split <;> simp_all
    have hst := run_store P w ⟨g, off, none⟩ u .plain h1
    rw [hc, hf] at hst
    simp [Instr.storeAt, Instr.sureAddr, storeVar, sizeOf, typeInfo, hq, hs, hcs, storeCells, ha]
    simpa using hst
theorem wp_st1 {K : Act → World → Prop} (ty : TypeId) (x y : Operand) (ho : o.op = .store ty x y) (g off : Nat) (hx : a.eval x = .pointer (some ⟨g, off, none⟩)) (T : Nat) (all : List Value) (hB : Bx w g T all) (u : Value) (hy : a.eval y = u) (hl : off < all.length) (h1 : u.oneCell' = true)
    (hi : (P.info? ty).map (·.size) = some 1) (all' : List Value) (he : all.set off u = all') (h : ∀ w', Bx w' g T all' → TurnAt g w w' → K (a.put o.dst undef) w') : o.wp P a w K Q := by
  unfold Oper.wp execOp
  simp only [ho, hx, hy, Sem.run_bind, run_st1 hB off u hl h1 ty hi, Result.andThen_ok, Sem.run_pure]
  subst he
  exact h _ (hB.set off u) ((TurnAt.refl g w).setCell off u)
theorem ld1_yield {S : World → Prop} (hw : Region.wanted o (yielded ops a.tmps) = true) (ty : TypeId) (x : Operand) (ho : o.op = .load ty x) (g off : Nat) (hx : a.eval x = .pointer (some ⟨g, off, none⟩)) (T : Nat) (all : List Value) (hS : ∀ w, S w → Bx w g T all) (u : Value) (hu : all[off]? = some u)
    (d : TypeDesc) (ht : P.underlying ty = some d) (hd : d.isRow = false) : YieldsIf P ops S o u a :=
  .inl ⟨hw, fun w hw' => by
    unfold execOp
    simp only [ho, hx, Sem.run_bind, run_ld1 (hS w hw') off u hu ty d ht hd, Result.andThen_ok, Sem.run_pure]⟩
/-- what a store into a box leaves. -/
theorem Bx.store {g T : Nat} {all : List Value} (hB : Bx w g T all) (P : Program) (ty : TypeId) (off : Nat) (cs : List Value) (hl : off + cs.length ≤ all.length) (hi : (P.info? ty).map (·.size) = some cs.length) (h1 : cs.all (·.oneCell') = true) (all' : List Value) (he : all.take off ++ cs ++ all.drop (off + cs.length) = all') :
    ∃ w', (storeVar ty ⟨g, off, none⟩ (.agg cs.toArray)).run P w = .ok () w' ∧ Bx w' g T all' ∧ TurnAt g w w' := by
  subst he
  exact ⟨_, run_storeVar_mid w g off ty cs.toArray (by simpa using hB.there off cs.length hl) (by simpa using hi) (all_oneCell_toArray (List.all_eq_true.1 h1)), by simpa using setCells_list cs w g off T all hB hl, by simpa using setCells_turn cs w g off⟩
/-- .. in an operation that is guarded, and wanted. -/
theorem wpList_ldG (hw : Region.wanted o (yielded ops a.tmps) = true) (ty : TypeId) (x : Operand) (ho : o.op = .load ty x) (g off : Nat) (hx : a.eval x = .pointer (some ⟨g, off, none⟩)) (T : Nat) (all : List Value) (hB : Bx w g T all) (cs : List Value) (hp : (all.drop off).take cs.length = cs)
    (d : TypeDesc) (hu : P.underlying ty = some d) (hd : d.isRow = true) (hi : (P.info? ty).map (·.size) = some cs.length)
    (h : wpList P ops Q rest (a.put o.dst (.agg cs.toArray)) w) : wpList P ops Q (o :: rest) a w :=
  wpList_step fun K hK => by
    rw [if_pos hw]
    exact wp_load_mid ty x ho g off hx cs d (hB.range off cs hp) hu hd hi (hK _ _ h)
/-- a struct is stored into a box, or into a part of it. -/
theorem wpList_stB (hgd : o.guard = none) (ty : TypeId) (x y : Operand) (ho : o.op = .store ty x y) (g off : Nat) (hx : a.eval x = .pointer (some ⟨g, off, none⟩)) (T : Nat) (all : List Value) (hB : Bx w g T all) (cs : List Value) (hy : a.eval y = .agg cs.toArray)
    (hl : off + cs.length ≤ all.length) (hi : (P.info? ty).map (·.size) = some cs.length) (h1 : cs.all (·.oneCell') = true) (all' : List Value) (he : all.take off ++ cs ++ all.drop (off + cs.length) = all')
    (h : ∀ w', Bx w' g T all' → TurnAt g w w' → wpList P ops Q rest (a.put o.dst undef) w') : wpList P ops Q (o :: rest) a w := by
  refine wpList_store_mid hgd ty x y ho g off cs.toArray hx hy (by simpa using hB.there off cs.length hl) (by simpa using hi) (all_oneCell_toArray (List.all_eq_true.1 h1)) ?_
  subst he
  exact h _ (by simpa using setCells_list cs w g off T all hB hl) (by simpa using setCells_turn cs w g off)
end

/-- .. where a box alone may have turned, and new blocks may have come. -/
theorem Pl.OwnI.keepb {w w' : World} {B g T : Nat} {v : Value} {xs : List Int} {cs : List Value} (h : OwnI w B v xs) (hB : Bx w g T cs) (ht : KeepBut g w w') (hT : T ≠ 3) : OwnI w' B v xs := h.keep fun k hk hl => ht.block k hl (fun e => bx_i_ne h hB hT (e ▸ hk))
theorem Pl.OwnS.keepb {w w' : World} {B g T : Nat} {v : Value} {xs : List ByteArray} {cs : List Value} (h : OwnS w B v xs) (hB : Bx w g T cs) (ht : KeepBut g w w') (hT : T ≠ 9) : OwnS w' B v xs := h.keep' fun k hk hl => ht.block k hl (fun e => bx_s_ne h hB hT (e ▸ hk))
theorem Bx.keepb {w w' : World} {g g' T : Nat} {cs : List Value} (h : Bx w g T cs) (k : KeepBut g' w w') (hne : g ≠ g') : Bx w' g T cs := (k.block g h.lt hne).trans h
section
variable {P : Program} {w : World} {fn : Func} {tmps : Array Value}
/-- what a call hands back: a box, and a slot. -/
theorem results_bt {p q : Tmp} {ty : TypeId} (h : fn.results = #[.cell p ty, .tmp q]) (g T : Nat) (cs : List Value) (d : TypeDesc) (hp : tmps.getD p undef = .pointer (some ⟨g, 0, none⟩)) (hB : Bx w g T cs)
    (hu : P.underlying ty = some d) (hd : d.isRow = true) (hi : (P.info? ty).map (·.size) = some cs.length) : (results fn tmps).run P w = .ok (.tuple #[.agg cs.toArray, tmps.getD q undef]) w := by
  have hl := run_loadVar_mid (P := P) w g 0 ty cs d (hB.range 0 cs (by simp)) hu hd hi
  have hp' : tmps[p]?.getD undef = .pointer (some ⟨g, 0, none⟩) := by simpa using hp
  simp [results, h, hp', asAddr, hl]
theorem results_b {p : Tmp} {ty : TypeId} (h : fn.results = #[.cell p ty]) (g T : Nat) (cs : List Value) (d : TypeDesc) (hp : tmps.getD p undef = .pointer (some ⟨g, 0, none⟩)) (hB : Bx w g T cs)
    (hu : P.underlying ty = some d) (hd : d.isRow = true) (hi : (P.info? ty).map (·.size) = some cs.length) : (results fn tmps).run P w = .ok (.agg cs.toArray) w := by
  have hl := run_loadVar_mid (P := P) w g 0 ty cs d (hB.range 0 cs (by simp)) hu hd hi
  have hp' : tmps[p]?.getD undef = .pointer (some ⟨g, 0, none⟩) := by simpa using hp
  simp [results, h, hp', asAddr, hl]
end
end Go.Proofs.YtmbjflhhffcjdaaDoor


/- A drawn region that only reads and calls, walked operation by operation: a callee that leaves what was there. -/
namespace Go.Proofs.YtmbjflhhffcjdaaDoor
open Go.RowKit Pl
set_option linter.unusedVariables false

theorem q_callB {P : Program} {W : World} {o : Oper} {a : Act} {K : Act → Prop} (v : Value) (f : FuncId) (args : Array Value) (h : ∀ w, Below W.heap.size W w → (execOp a.eval o).run P w = .ok (.enter f args) w)
    (hc : ∀ w, Below W.heap.size W w → Calls P f args w fun e w' => e = .returned v ∧ Below w.heap.size w w') (hk : K (a.put o.dst v)) : o.quiet P a (fun w' => Below W.heap.size W w') K :=
  q_call v f args h (fun w hw => (hc w hw).mono fun e w' ⟨he, hb⟩ => ⟨he, hw.trans (hb.mono hw.size)⟩) hk
end Go.Proofs.YtmbjflhhffcjdaaDoor


/- A statement that leaves its order open, walked with a condition on the worlds that it passes through, its last operation apart: that one waits for all others, and the condition need not hold behind it. -/
namespace Go.Proofs.YtmbjflhhffcjdaaDoor.Pl
open Go Go.RowKit
set_option linter.unusedVariables false

section
variable {P : Program} {ops : Array Oper} {Q : Exit → Act → World → Prop} {a : Act} {w : World}
/-! ### a statement that leaves its order open, its last operation apart -/
/-- i comes, by edges, ahead of j. -/
def reachB (ops : Array Oper) : Nat → Nat → Nat → Bool
  | 0, _, _ => false
  | f + 1, j, i => ((ops[j]?).map (fun o => o.after.any fun e => Region.binds .any e && (e.on == i || reachB ops f e.on i))).getD false
/-- every edge goes back. -/
def backB (ops : Array Oper) : Bool := (List.range ops.size).all fun i => ((ops[i]?).map (fun o => o.after.all fun e => !Region.binds .any e || decide (e.on < i))).getD true

def DownL (ops : Array Oper) (listed : Array Bool) : Prop := ∀ i o, ops[i]? = some o → listed.getD i false = true → ∀ e ∈ o.after, Region.binds .any e = true → listed.getD e.on false = true

theorem reach_listed {listed : Array Bool} (hd : DownL ops listed) : ∀ (f j i : Nat), reachB ops f j i = true → (∀ o, ops[j]? = some o → ∀ e ∈ o.after, Region.binds .any e = true → listed.getD e.on false = true) → listed.getD i false = true
  | 0, j, i, h, _ => by simp [reachB] at h
  | f + 1, j, i, h, hj => by
    unfold reachB at h
    cases ho : ops[j]? with
    | none => simp [ho] at h
    | some o =>
      simp only [ho, Option.map_some, Option.getD_some] at h
      obtain ⟨e, he, hb⟩ := Array.any_eq_true'.1 h
      simp only [Bool.and_eq_true, Bool.or_eq_true, beq_iff_eq] at hb
      have hl := hj o ho e he hb.1
      rcases hb.2 with rfl | hr
      · exact hl
      · exact reach_listed hd f e.on i hr (fun o' ho' e' he' hb' => hd e.on o' ho' hl e' he' hb')

theorem ready_some {listed : Array Bool} (hs : listed.size = ops.size) (hb : backB ops = true) {j : Nat} (hj : j < ops.size) (hu : listed.getD j false = false) : Region.ready .any ops listed ≠ [] := by
  have key : ∀ n j, j ≤ n → j < ops.size → listed.getD j false = false → ∃ i, i ∈ Region.ready .any ops listed := by
    intro n
    induction n with
    | zero =>
      intro j hj0 hj hu
      obtain rfl : j = 0 := by omega
      refine ⟨0, mem_ready.2 ⟨?_, ops[0], Array.getElem?_eq_getElem hj, fun e he hbe => ?_⟩⟩
      · have : 0 < listed.size := by omega
        simpa [this] using hu
      · have := List.all_eq_true.1 hb 0 (List.mem_range.2 hj)
        rw [Array.getElem?_eq_getElem hj] at this
        simp only [Option.map_some, Option.getD_some] at this
        have := Array.all_eq_true_iff_forall_mem.1 this e he
        simp [hbe] at this
    | succ n ih =>
      intro j hjn hj hu
      by_cases hall : ∀ e ∈ ops[j].after, Region.binds .any e = true → listed.getD e.on false = true
      · refine ⟨j, mem_ready.2 ⟨?_, ops[j], Array.getElem?_eq_getElem hj, hall⟩⟩
        have : j < listed.size := by omega
        simpa [this] using hu
      · simp only [Classical.not_forall] at hall
        obtain ⟨e, he, hbe, hne⟩ := hall
        have h1 := List.all_eq_true.1 hb j (List.mem_range.2 hj)
        rw [Array.getElem?_eq_getElem hj] at h1
        simp only [Option.map_some, Option.getD_some] at h1
        have h2 := Array.all_eq_true_iff_forall_mem.1 h1 e he
        simp [hbe] at h2
        exact ih e.on (by omega) (by omega) (by simpa using hne)
  obtain ⟨i, hi⟩ := key j j (Nat.le_refl _) hj hu
  intro h0
  rw [h0] at hi
  cases hi

theorem down_set {listed : Array Bool} (hd : DownL ops listed) {i : Nat} (hi : i ∈ Region.ready .any ops listed) : DownL ops (listed.setIfInBounds i true) := by
  obtain ⟨_, oi, hoi, hall⟩ := mem_ready.1 hi
  intro k o ho hk e he hb
  by_cases hki : k = i
  · subst hki
    rw [hoi] at ho
    cases ho
    exact getD_set_true (hall e he hb)
  · rw [getD_set_ne false (Ne.symm hki)] at hk
    exact getD_set_true (hd k o ho hk e he hb)

theorem ready_like {ops' : Array Oper} (hsz : ops'.size = ops.size) (ha : ∀ i : Nat, (ops'[i]?).map Oper.after = (ops[i]?).map Oper.after) (listed : Array Bool) : Region.ready .any ops' listed = Region.ready .any ops listed := by
  unfold Region.ready
  rw [hsz]
  refine congrArg (fun f => List.filter f (List.range ops.size)) (funext fun i => ?_)
  have h := ha i
  have e1 : ∀ x : Option Oper, (x.map (fun o => o.after.all fun e => !Region.binds .any e || listed.getD e.on false)) = (x.map Oper.after).map (fun s => s.all fun e => !Region.binds .any e || listed.getD e.on false) := fun x => by cases x <;> rfl
  rw [e1, e1, h]

theorem all_listed {listed : Array Bool} (hs : listed.size = ops.size) (h : ∀ j, j < ops.size → listed.getD j false = true) : Region.ready .any ops listed = [] := by
  cases hr : Region.ready .any ops listed with
  | nil => rfl
  | cons x xs =>
    have hx : x ∈ Region.ready .any ops listed := by rw [hr]; exact List.mem_cons_self ..
    obtain ⟨h0, o, ho, _⟩ := mem_ready.1 hx
    have hlt : x < ops.size := (Array.getElem?_eq_some_iff.1 ho).1
    have h1 := h x hlt
    have : x < listed.size := by omega
    simp [this] at h0 h1
    rw [h0] at h1
    cases h1

end
section
variable {P : Program} {Q : Exit → Act → World → Prop} {S : World → Prop}
/-- Q, but behind all the others: the last operation. -/
def LastQ (P : Program) (ops : Array Oper) (Q : Exit → Act → World → Prop) (m : Nat) : Exit → Act → World → Prop
  | .normal, a, w => wpOp P ops Q m (fun a' w' => Q .normal a' w') a w
  | e, a, w => Q e a w

theorem letsOut_last {ops : Array Oper} {m : Nat} : LetsOut (LastQ P ops Q m) = LetsOut Q := rfl
theorem upon_last {ops : Array Oper} {m : Nat} {o : Oper} {a : Act} {K : Act → World → Prop} (r : Result Next) : o.upon P a K (LastQ P ops Q m) r = o.upon P a K Q r := by
  cases r with
  | ok n w' => cases n <;> rfl
  | _ => rfl
theorem wpOp_last {ops ops' : Array Oper} {m i : Nat} {K : Act → World → Prop} {a : Act} {w : World} (hs : ops'[i]? = ops[i]?) (hy : ∀ tmps, yielded ops' tmps = yielded ops tmps) (h : wpOp P ops' (LastQ P ops Q m) i K a w) : wpOp P ops Q i K a w := by
  unfold wpOp at h ⊢
  rw [hs] at h
  cases ho : ops[i]? with
  | none => simpa [ho] using h
  | some o =>
    simp only [ho, hy] at h ⊢
    unfold Oper.wp at h ⊢
    rw [upon_last, letsOut_last] at h
    exact h

theorem any_last {ops ops' : Array Oper} {m : Nat} (hm : ops.size = m + 1) (hsz : ops'.size = ops.size) (hsame : ∀ i : Nat, i ≠ m → ops'[i]? = ops[i]?) {o' : Oper} (ho' : ops'[m]? = some o') (ha : ∀ i : Nat, (ops'[i]?).map Oper.after = (ops[i]?).map Oper.after)
    (hop : o'.op = .move (.const undef)) (hdst : o'.dst = none) (hgd : o'.guard = none) (hy : ∀ tmps, yielded ops' tmps = yielded ops tmps) (hback : backB ops = true) (hreach : (List.range m).all (fun i => reachB ops (m + 1) m i) = true) :
    ∀ (fuel : Nat) (listed : Array Bool) (a : Act) (w : World), listed.size = ops.size → DownL ops listed → listed.getD m false = false → wpAnyH P .any ops' (LastQ P ops Q m) S fuel listed a w → wpAny P .any ops Q fuel listed a w := by
  intro fuel
  induction fuel with
  | zero =>
    intro listed a w hs hd hu h
    have h0 := h.1
    rw [ready_like hsz ha] at h0
    exact absurd h0 (ready_some hs hback (by omega) hu)
  | succ fuel ih =>
    intro listed a w hs hd hu h
    obtain ⟨_, h1⟩ := h
    rw [ready_like hsz ha] at h1
    have hne := ready_some hs hback (j := m) (by omega) hu
    refine ⟨fun h0 => absurd h0 hne, fun i hir => ?_⟩
    have hq := h1 i hir
    by_cases him : i = m
    · subst him
      obtain ⟨_, oi, hoi, hall⟩ := mem_ready.1 hir
      have hl : ∀ j, j < ops.size → (listed.setIfInBounds i true).getD j false = true := by
        intro j hj
        by_cases hji : j = i
        · subst hji
          have : j < listed.size := by omega
          simp [this]
        · refine getD_set_true (reach_listed hd (i + 1) i j (List.all_eq_true.1 hreach j (List.mem_range.2 (by omega))) (fun o ho e he hb => ?_))
          rw [hoi] at ho
          cases ho
          exact hall e he hb
      have hr0 := all_listed (ops := ops) (listed := listed.setIfInBounds i true) (by simpa using hs) hl
      have hr0' : Region.ready .any ops' (listed.setIfInBounds i true) = [] := by rw [ready_like hsz ha]; exact hr0
      have hk : LastQ P ops Q i .normal a w := by
        unfold wpOp at hq
        simp only [ho'] at hq
        rw [if_pos (by simp [Region.wanted, hgd])] at hq
        have hk' : wpAnyH P .any ops' (LastQ P ops Q i) S fuel (listed.setIfInBounds i true) a w := by
          rcases hq with hq | ⟨hq, _⟩
          · have : (execOp a.eval o').run P w = .ok (.value undef) w := by simp [execOp, hop, Act.eval]
            unfold Oper.wp at hq
            rw [this] at hq
            simpa [Oper.upon, hdst, Act.put] using hq.2
          · exfalso
            simp [Oper.asks, execOp, hop] at hq
            have e : Sem.events P (pure (Next.value (a.eval (Operand.const undef)))) w #[] = #[] := rfl
            rw [e] at hq
            simp at hq
        cases fuel with
        | zero => exact hk'.2
        | succ f => exact hk'.1 hr0'
      refine wpOp_mono (fun a' w' hq' => ?_) (show wpOp P ops Q i (fun a' w' => Q .normal a' w') a w from hk)
      cases fuel with
      | zero => exact ⟨hr0, hq'⟩
      | succ f => exact ⟨fun _ => hq', by rw [hr0]; intro j hj; cases hj⟩
    · exact wpOp_mono (fun a' w' hh => ih _ a' w' (by simpa using hs) (down_set hd hir) (by rw [getD_set_ne false him]; exact hu) hh.2) (wpOp_last (hsame i him) hy hq)

/-- the beginning. -/
theorem wp_region_heldL {id : Nat} {a : Act} {w : World} (pre : List Oper) (o : Oper) (hmx : P.follows .mixedOrders = true) (hdst : o.dst = none) (hgd : o.guard = none) (hback : backB (pre ++ [o]).toArray = true) (hreach : (List.range pre.length).all (fun i => reachB (pre ++ [o]).toArray (pre.length + 1) pre.length i) = true)
    (h : wpAnyH P .any (pre ++ [{ o with op := .move (.const undef) }]).toArray (LastQ P (pre ++ [o]).toArray Q pre.length) S (pre.length + 1) (Array.replicate (pre.length + 1) false) a w.drew) : (Code.region id (pre ++ [o]).toArray true).wp P Q a w := by
  generalize ho' : ({ o with op := .move (.const undef) } : Oper) = o' at h
  have hgl : (pre ++ [o]).toArray[pre.length]? = some o := by simp
  have hgl' : (pre ++ [o']).toArray[pre.length]? = some o' := by simp
  have hget : ∀ i : Nat, i ≠ pre.length → (pre ++ [o']).toArray[i]? = (pre ++ [o]).toArray[i]? := by
    intro i hi
    by_cases h1 : i < pre.length
    · simp [List.getElem?_append_left h1]
    · have : pre.length + 1 ≤ i := by omega
      simp [this]
  have ha : ∀ i : Nat, ((pre ++ [o']).toArray[i]?).map Oper.after = ((pre ++ [o]).toArray[i]?).map Oper.after := by
    intro i
    by_cases hi : i = pre.length
    · subst hi; rw [hgl, hgl', ← ho']; rfl
    · rw [hget i hi]
  have hy : ∀ tmps, yielded (pre ++ [o']).toArray tmps = yielded (pre ++ [o]).toArray tmps := by
    intro tmps
    funext g
    have : ((pre ++ [o']).toArray[g]?).bind Oper.dst = ((pre ++ [o]).toArray[g]?).bind Oper.dst := by
      by_cases hi : g = pre.length
      · subst hi; rw [hgl, hgl', ← ho']; rfl
      · rw [hget g hi]
    unfold yielded
    rw [this]
  refine wp_region_any hmx ?_
  have := any_last (P := P) (Q := Q) (S := S) (ops := (pre ++ [o]).toArray) (ops' := (pre ++ [o']).toArray) (m := pre.length) (by simp) (by simp) hget hgl' ha (by rw [← ho']) (by rw [← ho']; exact hdst) (by rw [← ho']; exact hgd) hy hback hreach (pre.length + 1) (Array.replicate (pre.length + 1) false) a w.drew (by simp)
    (fun i o ho hli => by simp [Array.getElem?_replicate] at hli; split at hli <;> simp at hli) (by simp) h
  simpa using this
/-- the same, the list given whole. -/
theorem wp_region_heldLast {id : Nat} {a : Act} {w : World} (l : List Oper) (hne : l ≠ []) (hmx : P.follows .mixedOrders = true) (hdst : (l.getLast hne).dst = none) (hgd : (l.getLast hne).guard = none) (hback : backB l.toArray = true) (hreach : (List.range l.dropLast.length).all (fun i => reachB l.toArray (l.dropLast.length + 1) l.dropLast.length i) = true)
    (hS : S w.drew) (h : S w.drew → wpAnyH P .any (l.dropLast ++ [{ l.getLast hne with op := .move (.const undef) }]).toArray (LastQ P l.toArray Q l.dropLast.length) S (l.dropLast.length + 1) (Array.replicate (l.dropLast.length + 1) false) a w.drew) : (Code.region id l.toArray true).wp P Q a w := by
  have e := List.dropLast_concat_getLast hne
  have := wp_region_heldL (P := P) (Q := Q) (S := S) (id := id) (a := a) (w := w) l.dropLast (l.getLast hne) hmx hdst hgd (by rw [e]; exact hback) (by rw [e]; exact hreach) (by rw [e]; exact h hS)
  rw [e] at this
  exact this
end
theorem wpOp_of {P : Program} {ops : Array Oper} {Q : Exit → Act → World → Prop} {i : Nat} {K : Act → World → Prop} {a : Act} {w : World} {o : Oper} (ho : ops[i]? = some o) (hg : o.guard = none) (h : o.wp P a w K Q) : wpOp P ops Q i K a w := by
  unfold wpOp
  simp only [ho]
  rw [if_pos (by simp [Region.wanted, hg])]
  exact .inl h
theorem lastQ_of {P : Program} {ops : Array Oper} {Q : Exit → Act → World → Prop} {m : Nat} {a : Act} {w : World} {o : Oper} (ho : ops[m]? = some o) (hg : o.guard = none) (h : o.wp P a w (fun a' w' => Q .normal a' w') Q) : LastQ P ops Q m .normal a w := wpOp_of ho hg h
end Go.Proofs.YtmbjflhhffcjdaaDoor.Pl


/- Places that are marked one after another, whatever lists they lie in: each cell once, all else stays. -/
namespace Go.Proofs.YtmbjflhhffcjdaaDoor
open Go.RowKit Pl
set_option linter.unusedVariables false

/-- a place: block, offset, and what a number becomes there (0: a number, 1: a bool, 2: a text). -/
abbrev Spot := Nat × Nat × Nat
def vk (d k : Nat) : Value := if d = 0 then .int .i64 (k : Int) else if d = 1 then .bool (decide (k % 3 = 0)) else .string (markS k)
/-- places that may be marked: none twice, each lies there, none is frozen. -/
structure TLok (w : World) (TL : List Spot) : Prop where
  nd : TL.Pairwise fun a b => ¬ (a.1 = b.1 ∧ a.2.1 = b.2.1)
  lt : ∀ s ∈ TL, s.1 < w.heap.size
  live : ∀ s ∈ TL, ∃ u, w.cell? ⟨s.1, s.2.1, none⟩ = some u
  fr : ∀ s ∈ TL, w.frozen? ⟨s.1, s.2.1, none⟩ = false
/-- the first n of them are marked, from K on; what was new at ws (boxes of a call's own) is as it was there. -/
structure MkI (w0 ws : World) (TL : List Spot) (K n : Nat) (w : World) : Prop where
  news : ws.heap.size ≤ w.heap.size ∧ ∀ g, w0.heap.size ≤ g → g < ws.heap.size → w.heap[g]? = ws.heap[g]?
  blk : ∀ g, g < w0.heap.size → (∀ s ∈ TL, s.1 ≠ g) → w.heap[g]? = w0.heap[g]?
  below : ∀ B, (∀ s ∈ TL, B ≤ s.1) → B ≤ w0.heap.size → Below B w0 w
  size : w0.heap.size ≤ w.heap.size
  cells : ∀ g o, g < w0.heap.size → (∀ s ∈ TL, ¬ (s.1 = g ∧ s.2.1 = o)) → w.cell? ⟨g, o, none⟩ = w0.cell? ⟨g, o, none⟩
  live : ∀ g o u, g < w0.heap.size → w0.cell? ⟨g, o, none⟩ = some u → ∃ u', w.cell? ⟨g, o, none⟩ = some u'
  froz : ∀ g o, g < w0.heap.size → w.frozen? ⟨g, o, none⟩ = w0.frozen? ⟨g, o, none⟩
  done : ∀ i s, i < n → TL[i]? = some s → w.cell? ⟨s.1, s.2.1, none⟩ = some (vk s.2.2 (K + i))
section
variable {w0 ws w w' : World} {TL : List Spot} {K n g o d : Nat}
theorem MkI.start (w0 : World) (TL : List Spot) (K : Nat) : MkI w0 w0 TL K 0 w0 :=
  ⟨⟨Nat.le_refl _, fun _ _ _ => rfl⟩, fun _ _ _ => rfl, fun B _ _ => Below.refl _ _, Nat.le_refl _, fun _ _ _ _ => rfl, fun _ _ u _ h => ⟨u, h⟩, fun _ _ _ => rfl, fun i s h => absurd h (by omega)⟩
theorem frozen_block {a b : World} {g o : Nat} (h : a.heap[g]? = b.heap[g]?) : a.frozen? ⟨g, o, none⟩ = b.frozen? ⟨g, o, none⟩ := by
  unfold World.frozen?
  rw [h]
theorem cell_block {a b : World} {g o : Nat} (h : a.heap[g]? = b.heap[g]?) : a.cell? ⟨g, o, none⟩ = b.cell? ⟨g, o, none⟩ := by
  unfold World.cell?
  rw [h]
theorem MkI.back {m : Nat} (h : MkI w0 ws TL K n w) (k : MkI w0 w TL K m w') : MkI w0 ws TL K m w' := ⟨⟨Nat.le_trans h.news.1 k.news.1, fun g h1 h2 => (k.news.2 g h1 (by have := h.news.1; omega)).trans (h.news.2 g h1 h2)⟩, k.blk, k.below, k.size, k.cells, k.live, k.froz, k.done⟩
theorem MkI.later (hT : TLok w0 TL) (h : MkI w0 ws TL K n w) (b : Below w.heap.size w w') : MkI w0 ws TL K n w' :=
  ⟨⟨Nat.le_trans h.news.1 b.size, fun g h1 h2 => (b.block g (by have := h.news.1; omega)).trans (h.news.2 g h1 h2)⟩, fun g h1 h2 => (b.block g (by have := h.size; omega)).trans (h.blk g h1 h2), fun B h1 h2 => (h.below B h1 h2).trans (b.mono (Nat.le_trans h2 h.size)), Nat.le_trans h.size b.size,
   fun g o hg hs => (cell_block (b.block g (by have := h.size; omega))).trans (h.cells g o hg hs),
   fun g o u hg hu => by rw [cell_block (b.block g (by have := h.size; omega))]; exact h.live g o u hg hu,
   fun g o hg => (frozen_block (b.block g (by have := h.size; omega))).trans (h.froz g o hg),
   fun i s hi hs => (cell_block (b.block s.1 (by have := hT.lt s (List.mem_of_getElem? hs); have := h.size; omega))).trans (h.done i s hi hs)⟩
/-- the next place lies there and may be written. -/
theorem MkI.next (hT : TLok w0 TL) (h : MkI w0 ws TL K n w) {i : Nat} (hs : TL[i]? = some (g, o, d)) : (∃ u, w.cell? ⟨g, o, none⟩ = some u) ∧ w.frozen? ⟨g, o, none⟩ = false := by
  have hm : (g, o, d) ∈ TL := List.mem_of_getElem? hs
  obtain ⟨u, hu⟩ := hT.live _ hm
  exact ⟨h.live g o u (hT.lt _ hm) hu, (h.froz g o (hT.lt _ hm)).trans (hT.fr _ hm)⟩
theorem TLok.apart (hT : TLok w0 TL) {i j : Nat} {s t : Spot} (hi : TL[i]? = some s) (hj : TL[j]? = some t) (hij : i ≠ j) : ¬ (s.1 = t.1 ∧ s.2.1 = t.2.1) := by
  obtain ⟨hil, rfl⟩ := List.getElem?_eq_some_iff.1 hi
  obtain ⟨hjl, rfl⟩ := List.getElem?_eq_some_iff.1 hj
  rcases Nat.lt_or_gt_of_ne hij with h | h
  · exact List.pairwise_iff_getElem.1 hT.nd i j hil hjl h
  · exact fun e => List.pairwise_iff_getElem.1 hT.nd j i hjl hil h ⟨e.1.symm, e.2.symm⟩
theorem MkI.step (hT : TLok w0 TL) (h : MkI w0 ws TL K n w) (hs : TL[n]? = some (g, o, d)) : MkI w0 ws TL K (n + 1) (w.setCell ⟨g, o, none⟩ (vk d (K + n))) := by
  have hm : (g, o, d) ∈ TL := List.mem_of_getElem? hs
  have hother : ∀ g' o', ¬ (g' = g ∧ o' = o) → (w.setCell ⟨g, o, none⟩ (vk d (K + n))).cell? ⟨g', o', none⟩ = w.cell? ⟨g', o', none⟩ := fun g' o' hne =>
    World.cell?_setCell_other _ _ _ _ (fun e => hne (by simp only [Addr.mk.injEq] at e; exact ⟨e.1.symm, e.2.1.symm⟩))
  obtain ⟨u, hu⟩ := (h.next hT hs).1
  refine ⟨⟨by simpa [World.setCell] using h.news.1, fun g' h1 h2 => (Below.heap_setCell _ _ _ _ (by have := hT.lt _ hm; simp only; omega)).trans (h.news.2 g' h1 h2)⟩, fun g' h1 h2 => (Below.heap_setCell _ _ _ _ (fun e => h2 _ hm e.symm)).trans (h.blk g' h1 h2), fun B h1 h2 => (h.below B h1 h2).setCell (h1 _ hm) _, by simpa [World.setCell] using h.size, ?_, ?_, ?_, ?_⟩
  · intro g' o' hg' hn
    rw [hother g' o' (fun e => hn _ hm ⟨e.1.symm, e.2.symm⟩)]
    exact h.cells g' o' hg' hn
  · intro g' o' u' hg' hu'
    by_cases e : g' = g ∧ o' = o
    · obtain ⟨rfl, rfl⟩ := e
      exact ⟨_, World.cell?_setCell_same _ _ _ hu⟩
    · rw [hother g' o' e]
      exact h.live g' o' u' hg' hu'
  · intro g' o' hg'
    rw [World.frozen?_setCell]
    exact h.froz g' o' hg'
  · intro i s hi hsi
    by_cases e : i = n
    · subst e
      rw [hs] at hsi
      simp only [Option.some.injEq] at hsi
      subst hsi
      exact World.cell?_setCell_same _ _ _ hu
    · rw [hother s.1 s.2.1 (hT.apart hsi hs e)]
      exact h.done i s (by omega) hsi
end
/-- all of them are marked. -/
def Held (w : World) (TL : List Spot) (K : Nat) : Prop := ∀ i s, TL[i]? = some s → s.1 < w.heap.size ∧ w.cell? ⟨s.1, s.2.1, none⟩ = some (vk s.2.2 (K + i))
theorem Held.later {w w' : World} {TL : List Spot} {K : Nat} (h : Held w TL K) (b : Below w.heap.size w w') : Held w' TL K := fun i s hs => by
  obtain ⟨h1, h2⟩ := h i s hs
  exact ⟨by have := b.size; omega, (cell_block (b.block s.1 h1)).trans h2⟩
/-- a list's places: n numbers on; size cells an element, of the kinds ds. -/
def Seg (TL : List Spot) (n : Nat) (ao : Option Addr) (len : Nat) (ds : List Nat) : Prop := ∀ i, i < len → ∃ g off, ao = some ⟨g, off, none⟩ ∧ ∀ r d, ds[r]? = some d → TL[n + i * ds.length + r]? = some (g, off + i * ds.length + r, d)
end Go.Proofs.YtmbjflhhffcjdaaDoor


/- Lists of numbers, of items and of texts, marked and looked at again, place by place. -/
namespace Go.Proofs.YtmbjflhhffcjdaaDoor
open Go.RowKit Pl
set_option linter.unusedVariables false
set_option linter.unusedSimpArgs false

theorem Seg.one {TL : List Spot} {n len d : Nat} {ao : Option Addr} (h : Seg TL n ao len [d]) {i : Nat} (hi : i < len) : ∃ g off, ao = some ⟨g, off, none⟩ ∧ TL[n + i]? = some (g, off + i, d) := by
  obtain ⟨g, off, h1, h2⟩ := h i hi
  have := h2 0 d rfl
  simp only [List.length_singleton, Nat.mul_one, Nat.add_zero] at this
  exact ⟨g, off, h1, this⟩
theorem vkI {k : Nat} {z : Int} (h : z = (k : Int)) : Value.int .i64 z = vk 0 k := by subst h; rfl

end Go.Proofs.YtmbjflhhffcjdaaDoor


/- Lists of items and of texts, looked at again, place by place. -/
namespace Go.Proofs.YtmbjflhhffcjdaaDoor
open Go.RowKit Pl
set_option linter.unusedVariables false
set_option linter.unusedSimpArgs false
end Go.Proofs.YtmbjflhhffcjdaaDoor


