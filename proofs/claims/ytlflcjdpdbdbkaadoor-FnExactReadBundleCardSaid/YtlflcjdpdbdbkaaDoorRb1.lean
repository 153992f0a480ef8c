/- The walks over the program's reader of several items, over the closure that reads a bundle and over the reading of its packet. Written by gen_rb.py. -/
import Derived.Test.YtlflcjdpdbdbkaaDoorBn
import Derived.Test.YtlflcjdpdbdbkaaDoorR4
import Derived.Test.YtlflcjdpdbdbkaaDoorHs
import Derived.Test.YtlflcjdpdbdbkaaDoorRh13
import Derived.Test.YtlflcjdpdbdbkaaDoorS2
namespace Go.Proofs.YtlflcjdpdbdbkaaDoor
open Go.RowKit Pl
set_option linter.unusedVariables false
set_option linter.unusedSimpArgs false

/-- several items, their number ahead. -/
def itemsP (s : ByteArray) (A : Nat) : Option (List It × Nat) := (rv s A).bind fun x => itsP s x.2 x.1
theorem itemsP_none {s : ByteArray} {A : Nat} (h : rv s A = none) : itemsP s A = none := by unfold itemsP; rw [h]; rfl
theorem itemsP_some {s : ByteArray} {A k i : Nat} (h : rv s A = some (k, i)) : itemsP s A = itsP s i k := by unfold itemsP; rw [h]; rfl
/-- the state behind j items. -/
def NSt (s : ByteArray) (A k j Aj : Nat) (xs : List It) : Prop := itsP s A k = (itsP s Aj (k - j)).map fun y => (xs ++ y.1, y.2)
theorem nst_start (s : ByteArray) (A k : Nat) : NSt s A k 0 A [] := by
  unfold NSt
  rcases h : itsP s A k with _ | y
  · simp
  · simp
theorem nst_next {s t : ByteArray} {A k j Aj i : Nat} {x : It} {xs : List It} (h : NSt s A k j Aj xs) (hj : j < k) (hr : shP s Aj = some (t, i)) (hx : rdP t = some x) : NSt s A k (j + 1) i (xs ++ [x]) := by
  unfold NSt at h ⊢
  obtain ⟨m, hm⟩ : ∃ m, k - j = m + 1 := ⟨k - j - 1, by omega⟩
  have hm' : k - (j + 1) = m := by omega
  rw [h, hm, hm', itsP_some hr hx, Option.map_map]
  congr 1
  funext y
  simp
theorem nst_bad1 {s : ByteArray} {A k j Aj : Nat} {xs : List It} (h : NSt s A k j Aj xs) (hj : j < k) (hr : shP s Aj = none) : itsP s A k = none := by
  unfold NSt at h
  obtain ⟨m, hm⟩ : ∃ m, k - j = m + 1 := ⟨k - j - 1, by omega⟩
  rw [h, hm, itsP_no1 hr]; rfl
theorem nst_bad2 {s t : ByteArray} {A k j Aj i : Nat} {xs : List It} (h : NSt s A k j Aj xs) (hj : j < k) (hr : shP s Aj = some (t, i)) (hx : rdP t = none) : itsP s A k = none := by
  unfold NSt at h
  obtain ⟨m, hm⟩ : ∃ m, k - j = m + 1 := ⟨k - j - 1, by omega⟩
  rw [h, hm, itsP_no2 hr hx]; rfl
theorem nst_end {s : ByteArray} {A k Aj : Nat} {xs : List It} (h : NSt s A k k Aj xs) : itsP s A k = some (xs, Aj) := by
  unfold NSt at h
  rw [h, Nat.sub_self]
  simp [itsP]
theorem shP_small {s t : ByteArray} {A i : Nat} (hA : A ≤ s.size) (h : shP s A = some (t, i)) : t.size ≤ 20000 := by
  have hu : Upto s A (s.data.toList.take A) := ⟨s.data.toList.drop A, (List.take_append_drop _ _).symm, by rw [List.length_take, ← rt_size]; omega⟩
  exact (hu.sh h).2
theorem keep_below {g : Nat} {a b c : World} (h : KeepBut g a b) (hb : Below a.heap.size b c) : KeepBut g a c :=
  ⟨hb.os.trans h.os, hb.tape.trans h.tape, hb.output.trans h.output, Nat.le_trans h.size hb.size, fun k hk hg => (hb.block k hk).trans (h.block k hk hg)⟩
theorem SlI.keepg {w w' : World} {B g : Nat} {v : Value} {ts : List It} (h : SlI w B v ts) (hk : KeepBut g w w') (hg : g < B) : SlI w' B v ts :=
  h.keep fun k e hl => hk.block k hl (by have := (h.lt k e).1; omega)
theorem PrAt.later {w w' : World} {g A : Nat} {s : ByteArray} (h : PrAt w g s A) (hb : Below w.heap.size w w') : PrAt w' g s A := h.stays hb h.lt

set_option maxRecDepth 100000 in
set_option maxHeartbeats 4000000 in
theorem items_any (s : ByteArray) (g A : Nat) (w : World) (hp : Hid (PrAt w g s A)) (hs : s.size ≤ 1048576) (hA : A ≤ s.size) :
    Calls Tryd.prog 30 #[.pointer (some ⟨g, 0, none⟩)] w fun e w' => (e = .panicked noPk ∧ itemsP s A = none ∧ KeepBut g w w') ∨
      ∃ (ts : List It) (i : Nat) (v : Value), e = .returned v ∧ itemsP s A = some (ts, i) ∧ ts.length ≤ 1048576 ∧ SlI w' w.heap.size v ts ∧ PrAt w' g s i ∧ KeepBut g w w' := by
  have hg := hp.out.lt
  have P0 : Hid (PrAt (w.alloc (.cells #[] 57)) g s A) := hp.out.stays ((Below.refl _ _).alloc (Nat.le_refl _) _) hg
  have V0 : Hid (SlI (w.alloc (.cells #[] 57)) w.heap.size (.slice (some ⟨w.heap.size, 0, none⟩) 0 0) []) := SlI.made w w.heap.size (Nat.le_refl _)
  have K0 : Hid (KeepBut g w (w.alloc (.cells #[] 57))) := keep_of_below ((Below.refl _ _).alloc (Nat.le_refl _) _)
  go_enter Tryd.func30, Tryd.ntmps30
  go_wp2_with fail
  generalize w.alloc (.cells #[] 57) = W0 at *
  rcases h0 : rv s A with _ | ⟨k, i⟩
  · refine (number_none s g A _ P0 hs hA h0).mono ?_
    rintro e w1 ⟨rfl, ht1⟩
    exact ⟨rfl, .inl ⟨rfl, itemsP_none h0, K0.out.trans ht1.keep⟩⟩
  have H0 : Hid (rv s A = some (k, i)) := h0
  obtain ⟨hk, hi⟩ := rv_le hA h0
  clear h0
  refine (number_some s g A k i _ P0 hs hA H0).mono ?_
  rintro e w1 ⟨rfl, hp1, ht1⟩
  have P1 : Hid (PrAt w1 g s i) := hp1
  have V1 : Hid (SlI w1 w.heap.size (.slice (some ⟨w.heap.size, 0, none⟩) 0 0) []) := V0.out.keepg ht1.keep hg
  have K1 : Hid (KeepBut g w w1) := K0.out.trans ht1.keep
  clear hp1 ht1 P0 V0 K0
  go_wp2_with fail
  go_loopw [3, 9] (fun v ix wr => ∃ (j Aj : Nat) (xs : List It), j ≤ k ∧ ix = .int .i64 j ∧ xs.length ≤ j ∧ j ≤ xs.length ∧ j ≤ Aj ∧ Aj ≤ s.size ∧ Hid (NSt s i k j Aj xs) ∧ Hid (SlI wr w.heap.size v xs) ∧ Hid (PrAt wr g s Aj) ∧ Hid (KeepBut g w wr)) (fun _ ix _ => k - (intOf ix).toNat)
  case atStart => exact ⟨0, i, [], Nat.zero_le _, rfl, Nat.zero_le _, Nat.zero_le _, Nat.zero_le _, hi, nst_start s i k, V1.out, P1.out, K1.out⟩
  case round =>
    clear P1 V1 K1
    obtain ⟨j, Aj, xs, hj, rfl, hxl, hxl2, hjA, hAj, hst, hV, hP, hK⟩ := hrel
    by_cases hlt : j < k
    · go_wp2_with fail
      rcases h1 : shP s Aj with _ | ⟨t, i2⟩
      · refine (short_none s g Aj _ hP hs hAj h1).mono ?_
        rintro e w2 ⟨rfl, ht2⟩
        exact ⟨rfl, .inl ⟨rfl, by rw [itemsP_some H0.out]; exact nst_bad1 hst.out hlt h1, hK.out.trans ht2.keep⟩⟩
      have H1 : Hid (shP s Aj = some (t, i2)) := h1
      obtain ⟨hlt2, hi2⟩ := shP_lt hAj h1
      have htz := shP_small hAj h1
      clear h1
      refine (short_some s t g Aj i2 _ hP hs hAj H1).mono ?_
      rintro e w2 ⟨rfl, hp2, hk2⟩
      have P2 : Hid (PrAt w2 g s i2) := hp2
      have V2 : Hid (SlI w2 w.heap.size u3 xs) := hV.out.keepg hk2 hg
      have K2 : Hid (KeepBut g w w2) := hK.out.trans hk2
      clear hp2 hk2 hP hV hK
      go_wp2_with fail
      refine (readItem_any t _ (by omega)).mono ?_
      rintro e w3 ⟨q, f, l, tx, r, rfl, hans, hb3⟩
      have P3 : Hid (PrAt w3 g s i2) := P2.out.later hb3
      have V3 : Hid (SlI w3 w.heap.size u3 xs) := V2.out.below hb3
      have K3 : Hid (KeepBut g w w3) := keep_below K2.out (hb3.mono K2.out.size)
      clear hb3 P2 V2 K2
      have hal : Below w3.heap.size w3 (w3.alloc (.cells #[.int .i64 q, .int .i64 f, .int .i64 l, .string tx] 57)) := (Below.refl _ _).alloc (Nat.le_refl _) _
      have P4 : Hid (PrAt (w3.alloc (.cells #[.int .i64 q, .int .i64 f, .int .i64 l, .string tx] 57)) g s i2) := P3.out.later hal
      have V4 : Hid (SlI (w3.alloc (.cells #[.int .i64 q, .int .i64 f, .int .i64 l, .string tx] 57)) w.heap.size u3 xs) := V3.out.below hal
      have K4 : Hid (KeepBut g w (w3.alloc (.cells #[.int .i64 q, .int .i64 f, .int .i64 l, .string tx] 57))) := keep_below K3.out (hal.mono K3.out.size)
      have I4 : Hid (ItAt (w3.alloc (.cells #[.int .i64 q, .int .i64 f, .int .i64 l, .string tx] 57)) w3.heap.size q f l tx) := heap_alloc_new w3 _
      clear hal P3 V3 K3
      cases r with
      | false =>
        have HR : Hid (rdP t = none) := (AnsI.rd_no hans).1
        clear hans
        go_wp2_with fail
        generalize (w3.alloc (.cells #[.int .i64 q, .int .i64 f, .int .i64 l, .string tx] 57)) = W4 at *
        exact ⟨rfl, .inl ⟨rfl, by rw [itemsP_some H0.out]; exact nst_bad2 hst.out hlt H1.out HR.out, K4.out⟩⟩
      | true =>
        have HR : Hid (rdP t = some ((q : Int), (f : Int), (l : Int), tx)) := AnsI.rd_yes hans
        clear hans
        obtain ⟨c0, c1, c2, c3⟩ := I4.out.cells
        have hs4 := K4.out.size
        have HZ : Hid ((w3.alloc (.cells #[.int .i64 q, .int .i64 f, .int .i64 l, .string tx] 57)).heap.size = w3.heap.size + 1) := by show _ = _; simp
        go_wp2_with (first | (with_reducible refine wpList_haltA _ _ _ rfl ?_))
        refine Stp.go ?_
        generalize (w3.alloc (.cells #[.int .i64 q, .int .i64 f, .int .i64 l, .string tx] 57)) = W4 at *
        refine wpList_pushIt rfl _ _ 24 rfl Tryd.underlying24 w.heap.size _ xs rfl V4.out ((q : Int), (f : Int), (l : Int), tx) (by rw [HZ.out]; rfl) (by omega) hs4 ?_
        intro v5 w5 O5 _ b5 _
        have O5 : Hid (SlI w5 w.heap.size v5 (xs ++ [((q : Int), (f : Int), (l : Int), tx)])) := O5
        have P5 : Hid (PrAt w5 g s i2) := P4.out.stays b5 hg
        have K5 : Hid (KeepBut g w w5) := keep_below K4.out b5
        clear c0 c1 c2 c3 P4 V4 K4 I4 b5
        go_wp2_with fail
        go_roundw
        case rel => exact ⟨j + 1, i2, xs ++ [((q : Int), (f : Int), (l : Int), tx)], by omega, by go_num, by simp; omega, by simp; omega, by omega, hi2, nst_next hst.out hlt H1.out HR.out, O5.out, P5.out, K5.out⟩
        case measure => simp [intOf]; omega
    · obtain rfl : j = k := by omega
      go_wp2_with fail
      go_ret
      exact .inr ⟨xs, Aj, _, rfl, by rw [itemsP_some H0.out]; exact nst_end hst.out, by omega, hV.out, hP.out, hK.out⟩

theorem bunP_n0 {s : ByteArray} (h : oneP s 0 = none) : bunP s = none := by simp [bunP, h]
theorem bunP_n1 {s : ByteArray} {f i0 : Nat} (h0 : oneP s 0 = some (f, i0)) (h : oneP s i0 = none) : bunP s = none := by simp [bunP, h0, h]
theorem bunP_n2 {s : ByteArray} {f i0 n i1 : Nat} (h0 : oneP s 0 = some (f, i0)) (h1 : oneP s i0 = some (n, i1)) (h : oneP s i1 = none) : bunP s = none := by simp [bunP, h0, h1, h]
theorem bunP_n3 {s : ByteArray} {f i0 n i1 o i2 : Nat} (h0 : oneP s 0 = some (f, i0)) (h1 : oneP s i0 = some (n, i1)) (h2 : oneP s i1 = some (o, i2)) (h : itemsP s i2 = none) : bunP s = none := by
  unfold itemsP at h
  rcases h3 : rv s i2 with _ | ⟨k, i3⟩
  · simp [bunP, h0, h1, h2, h3]
  · rw [h3, Option.bind_some] at h
    simp [bunP, h0, h1, h2, h3, h]
theorem bunP_all {s : ByteArray} {f i0 n i1 o i2 A : Nat} {ts : List It} (h0 : oneP s 0 = some (f, i0)) (h1 : oneP s i0 = some (n, i1)) (h2 : oneP s i1 = some (o, i2)) (h : itemsP s i2 = some (ts, A)) : bunP s = some ((f, n, o), ts, A) := by
  unfold itemsP at h
  rcases h3 : rv s i2 with _ | ⟨k, i3⟩
  · rw [h3] at h; cases h
  · rw [h3, Option.bind_some] at h
    exact bunP_some h0 h1 h2 h3 h

/-- what the closure answers. -/
def ClAnsB (s : ByteArray) (gm gr : Nat) (w : World) (e : Ending) (w' : World) : Prop :=
  (e = .panicked noPk ∧ bunP s = none ∧ Keep2 gm gr w w') ∨
  ∃ (f n o A : Nat) (ts : List It) (u : Sv), e = .returned (.tuple #[]) ∧ bunP s = some ((f, n, o), ts, A) ∧ ts.length ≤ 1048576 ∧ Bx w' gm 26 [.int .i64 f, .int .i64 n, .int .i64 o, .slice u.a u.n u.c] ∧ SlI w' w.heap.size u.v ts ∧ PrAt w' gr s A ∧ Keep2 gm gr w w'

set_option maxRecDepth 100000 in
set_option maxHeartbeats 4000000 in
theorem clBundle_any (s : ByteArray) (gm gr : Nat) (w : World) (hm : Hid (Bx w gm 26 [.int .i64 0, .int .i64 0, .int .i64 0, .slice none 0 0])) (hp : Hid (PrAt w gr s 0)) (hne : gm < gr) (hs : s.size ≤ 1048576) :
    Calls Tryd.prog 28 #[.pointer (some ⟨gr, 0, none⟩), .pointer (some ⟨gm, 0, none⟩)] w fun e w' => ClAnsB s gm gr w e w' := by
  have hgr := hp.out.lt
  have KB : Hid (Keep2 gm gr w w) := (KeepBut.refl gm w).left
  have U : Hid (Upto s 0 []) := upto_start s
  have hi : (0 : Nat) ≤ s.size := Nat.zero_le _
  have MB : Hid (Bx w gm 26 [.int .i64 0, .int .i64 0, .int .i64 0, .slice none 0 0]) := hm
  have PB : Hid (PrAt w gr s 0) := hp
  clear hm hp
  go_enter Tryd.func28, Tryd.ntmps28
  go_wp2_with fail
  rcases h0 : oneP s 0 with _ | ⟨f, i0⟩
  · refine (oneB_no s gr 0 _ PB hs hi h0).mono ?_
    rintro e w1 ⟨rfl, ht⟩
    exact ⟨rfl, .inl ⟨rfl, bunP_n0  h0, KB.out.trans ht.keep.right⟩⟩
  have H0 : Hid (oneP s 0 = some (f, i0)) := h0
  obtain ⟨u0, _⟩ := U.out.one h0
  have hi := u0.le
  have U : Hid (Upto s i0 ([] ++ [UInt8.ofNat f])) := u0
  clear h0 u0
  refine (oneB_yes s gr 0 f i0 _ PB hs H0).mono ?_
  rintro e w1 ⟨rfl, hp1, ht⟩
  have KA : Hid (Keep2 gm gr w w1) := KB.out.trans ht.keep.right
  have MA : Hid (Bx w1 gm 26 [.int .i64 0, .int .i64 0, .int .i64 0, .slice none 0 0]) := MB.out.keepb ht.keep (by omega)
  have PA : Hid (PrAt w1 gr s i0) := hp1
  have c0 := MA.out.cell 0
  simp only [List.getElem?_cons_succ, List.getElem?_cons_zero] at c0
  have f0 := MA.out.frozen 0
  clear hp1 ht KB MB PB
  have MB : Hid (Bx (w1.setCell ⟨gm, 0, none⟩ (.int .i64 f)) gm 26 [.int .i64 f, .int .i64 0, .int .i64 0, .slice none 0 0]) := MA.out.set 0 (.int .i64 f)
  have PB : Hid (PrAt (w1.setCell ⟨gm, 0, none⟩ (.int .i64 f)) gr s i0) := PA.out.turn ((TurnAt.refl gm w1).setCell 0 _) (by omega)
  have KB : Hid (Keep2 gm gr w (w1.setCell ⟨gm, 0, none⟩ (.int .i64 f))) := KA.out.trans ((TurnAt.refl gm w1).setCell 0 _).keep.left
  go_wp2_with fail
  generalize (w1.setCell ⟨gm, 0, none⟩ (.int .i64 f)) = W0 at *
  clear MA PA KA c0 f0
  rcases h1 : oneP s i0 with _ | ⟨n, i1⟩
  · refine (oneB_no s gr i0 _ PB hs hi h1).mono ?_
    rintro e w2 ⟨rfl, ht⟩
    exact ⟨rfl, .inl ⟨rfl, bunP_n1 H0.out h1, KB.out.trans ht.keep.right⟩⟩
  have H1 : Hid (oneP s i0 = some (n, i1)) := h1
  obtain ⟨u1, _⟩ := U.out.one h1
  have hi := u1.le
  have U : Hid (Upto s i1 (([] ++ [UInt8.ofNat f]) ++ [UInt8.ofNat n])) := u1
  clear h1 u1
  refine (oneB_yes s gr i0 n i1 _ PB hs H1).mono ?_
  rintro e w2 ⟨rfl, hp1, ht⟩
  have KA : Hid (Keep2 gm gr w w2) := KB.out.trans ht.keep.right
  have MA : Hid (Bx w2 gm 26 [.int .i64 f, .int .i64 0, .int .i64 0, .slice none 0 0]) := MB.out.keepb ht.keep (by omega)
  have PA : Hid (PrAt w2 gr s i1) := hp1
  have c0 := MA.out.cell 1
  simp only [List.getElem?_cons_succ, List.getElem?_cons_zero] at c0
  have f0 := MA.out.frozen 1
  clear hp1 ht KB MB PB
  have MB : Hid (Bx (w2.setCell ⟨gm, 1, none⟩ (.int .i64 n)) gm 26 [.int .i64 f, .int .i64 n, .int .i64 0, .slice none 0 0]) := MA.out.set 1 (.int .i64 n)
  have PB : Hid (PrAt (w2.setCell ⟨gm, 1, none⟩ (.int .i64 n)) gr s i1) := PA.out.turn ((TurnAt.refl gm w2).setCell 1 _) (by omega)
  have KB : Hid (Keep2 gm gr w (w2.setCell ⟨gm, 1, none⟩ (.int .i64 n))) := KA.out.trans ((TurnAt.refl gm w2).setCell 1 _).keep.left
  go_wp2_with fail
  generalize (w2.setCell ⟨gm, 1, none⟩ (.int .i64 n)) = W1 at *
  clear MA PA KA c0 f0
  rcases h2 : oneP s i1 with _ | ⟨o, i2⟩
  · refine (oneB_no s gr i1 _ PB hs hi h2).mono ?_
    rintro e w3 ⟨rfl, ht⟩
    exact ⟨rfl, .inl ⟨rfl, bunP_n2 H0.out H1.out h2, KB.out.trans ht.keep.right⟩⟩
  have H2 : Hid (oneP s i1 = some (o, i2)) := h2
  obtain ⟨u2, _⟩ := U.out.one h2
  have hi := u2.le
  have U : Hid (Upto s i2 ((([] ++ [UInt8.ofNat f]) ++ [UInt8.ofNat n]) ++ [UInt8.ofNat o])) := u2
  clear h2 u2
  refine (oneB_yes s gr i1 o i2 _ PB hs H2).mono ?_
  rintro e w3 ⟨rfl, hp1, ht⟩
  have KA : Hid (Keep2 gm gr w w3) := KB.out.trans ht.keep.right
  have MA : Hid (Bx w3 gm 26 [.int .i64 f, .int .i64 n, .int .i64 0, .slice none 0 0]) := MB.out.keepb ht.keep (by omega)
  have PA : Hid (PrAt w3 gr s i2) := hp1
  have c0 := MA.out.cell 2
  simp only [List.getElem?_cons_succ, List.getElem?_cons_zero] at c0
  have f0 := MA.out.frozen 2
  clear hp1 ht KB MB PB
  have MB : Hid (Bx (w3.setCell ⟨gm, 2, none⟩ (.int .i64 o)) gm 26 [.int .i64 f, .int .i64 n, .int .i64 o, .slice none 0 0]) := MA.out.set 2 (.int .i64 o)
  have PB : Hid (PrAt (w3.setCell ⟨gm, 2, none⟩ (.int .i64 o)) gr s i2) := PA.out.turn ((TurnAt.refl gm w3).setCell 2 _) (by omega)
  have KB : Hid (Keep2 gm gr w (w3.setCell ⟨gm, 2, none⟩ (.int .i64 o))) := KA.out.trans ((TurnAt.refl gm w3).setCell 2 _).keep.left
  go_wp2_with fail
  generalize (w3.setCell ⟨gm, 2, none⟩ (.int .i64 o)) = W2 at *
  clear MA PA KA c0 f0
  refine (items_any s gr i2 _ PB hs hi).mono ?_
  rintro e w4 (⟨rfl, hn, hk⟩ | ⟨ts, A, v, rfl, hn, hl, hv, hp4, hk⟩)
  · exact ⟨rfl, .inl ⟨rfl, bunP_n3 H0.out H1.out H2.out hn, KB.out.trans hk.right⟩⟩
  have HN : Hid (itemsP s i2 = some (ts, A)) := hn
  have hsz := KB.out.size
  have KA : Hid (Keep2 gm gr w w4) := KB.out.trans hk.right
  have MA : Hid (Bx w4 gm 26 [.int .i64 f, .int .i64 n, .int .i64 o, .slice none 0 0]) := MB.out.keepb hk (by omega)
  have VA : Hid (SlI w4 w.heap.size v ts) := hv.down hsz
  have PA : Hid (PrAt w4 gr s A) := hp4
  obtain ⟨u, rfl, -⟩ := VA.out.sv
  unfold Sv.v
  have c0 := MA.out.cell 3
  simp only [List.getElem?_cons_succ, List.getElem?_cons_zero] at c0
  have f0 := MA.out.frozen 3
  clear hn hk hv hp4 KB MB PB
  have T4 := (TurnAt.refl gm w4).setCell 3 (.slice u.a u.n u.c)
  have MB : Hid (Bx (w4.setCell ⟨gm, 3, none⟩ (.slice u.a u.n u.c)) gm 26 [.int .i64 f, .int .i64 n, .int .i64 o, .slice u.a u.n u.c]) := MA.out.set 3 (.slice u.a u.n u.c)
  have PB : Hid (PrAt (w4.setCell ⟨gm, 3, none⟩ (.slice u.a u.n u.c)) gr s A) := PA.out.turn T4 (by omega)
  have KB : Hid (Keep2 gm gr w (w4.setCell ⟨gm, 3, none⟩ (.slice u.a u.n u.c))) := KA.out.trans T4.keep.left
  have VB : Hid (SlI (w4.setCell ⟨gm, 3, none⟩ (.slice u.a u.n u.c)) w.heap.size u.v ts) := VA.out.past MA.out T4 (by decide)
  clear T4
  go_wp2_with fail
  go_end0
  exact .inr ⟨f, n, o, A, ts, u, rfl, bunP_all H0.out H1.out H2.out HN.out, hl, MB.out, VB.out, PB.out, KB.out⟩

/-- what the reading of a bundle's packet answers. -/
def RpAnsB (s : ByteArray) (gm : Nat) (w : World) (e : Ending) (w' : World) : Prop :=
  (e = .returned (.bool false) ∧ bunP s = none ∧ KeepBut gm w w') ∨
  ∃ (f n o A : Nat) (ts : List It) (u : Sv), e = .returned (.bool ((A : Int) == (s.size : Int))) ∧ bunP s = some ((f, n, o), ts, A) ∧ ts.length ≤ 1048576 ∧ Bx w' gm 26 [.int .i64 f, .int .i64 n, .int .i64 o, .slice u.a u.n u.c] ∧ SlI w' w.heap.size u.v ts ∧ KeepBut gm w w'

set_option maxRecDepth 100000 in
set_option maxHeartbeats 4000000 in
theorem readPB_any (s : ByteArray) (gm : Nat) (w : World) (hm : Hid (Bx w gm 26 [.int .i64 0, .int .i64 0, .int .i64 0, .slice none 0 0])) (hs : s.size ≤ 1048576) :
    Calls Tryd.prog 27 #[.string s, .func (.func 28) #[] #[.pointer (some ⟨gm, 0, none⟩)]] w fun e w' => RpAnsB s gm w e w' := by
  have hmf : ∀ (fn : Fn) (first cap : Array Value) (w : World), (Instr.makeFunc fn first cap).run Tryd.prog w = .ok (.func fn first cap) w := fun _ _ _ _ => rfl
  have hlt := hm.out.lt
  have H1 : Hid (Bx ((w.alloc (.cells #[.bool false] 4)).alloc (.cells #[.string s, .int .i64 0] 88)) gm 26 [.int .i64 0, .int .i64 0, .int .i64 0, .slice none 0 0]) := (hm.out.stays ((Below.refl w.heap.size w).alloc (Nat.le_refl _) _) hlt).stays ((Below.refl (w.heap.size + 1) _).alloc (by simp) _) (by omega)
  have H2 : Hid (PrAt ((w.alloc (.cells #[.bool false] 4)).alloc (.cells #[.string s, .int .i64 0] 88)) (w.heap.size + 1) s 0) := by
    have := heap_alloc_new (w.alloc (.cells #[.bool false] 4)) (.cells #[.string s, .int .i64 0] 88)
    show PrAt _ _ _ _
    simpa [PrAt] using this
  have H3 : Hid (((w.alloc (.cells #[.bool false] 4)).alloc (.cells #[.string s, .int .i64 0] 88)).heap[w.heap.size]? = some (.cells #[.bool false] 4 (0, 0))) :=
    (((Below.refl (w.heap.size + 1) (w.alloc (.cells #[.bool false] 4))).alloc (by simp) _).block w.heap.size (by omega)).trans (heap_alloc_new w _)
  have H4 : Hid (Below w.heap.size w ((w.alloc (.cells #[.bool false] 4)).alloc (.cells #[.string s, .int .i64 0] 88))) := ((Below.refl _ _).alloc (Nat.le_refl _) _).alloc (by simp) _
  have H5 : Hid (((w.alloc (.cells #[.bool false] 4)).alloc (.cells #[.string s, .int .i64 0] 88)).heap.size = w.heap.size + 2) := by show _ = _; simp
  go_enter_defers Tryd.func27, Tryd.ntmps27
  go_wp2_with fail
  generalize (w.alloc (.cells #[.bool false] 4)).alloc (.cells #[.string s, .int .i64 0] 88) = W at *
  refine (clBundle_any s gm (w.heap.size + 1) W H1 H2 (by omega) hs).mono ?_
  rintro e w1 (⟨rfl, hn, hk⟩ | ⟨f, n, o, A, ts, u, rfl, hq, hl, hi, hv, hp, hk⟩)
  · have hb : w1.heap[w.heap.size]? = some (.cells #[.bool false] 4 (0, 0)) := (hk.block w.heap.size (by have := H5.out; omega) (by omega) (by omega)).trans H3.out
    have hc : w1.cell? ⟨w.heap.size, 0, none⟩ = some (.bool false) := by rw [cell_of_row w1 w.heap.size 0 _ 4 (0, 0) hb]; rfl
    have hf := frozen_of_row w1 w.heap.size 0 _ 4 hb
    refine leaves_cons (f := 63) (args := #[.pointer (some ⟨w.heap.size, 0, none⟩)]) (by simp) (by simp [go_sem]) ?_
    refine (catch_panicking ⟨w.heap.size, 0, none⟩ false _ hc hf).mono ?_
    rintro e u' w'' ⟨rfl, rfl, rfl⟩
    have hsame : (w1.setCell ⟨w.heap.size, 0, none⟩ (.bool false)).cell? ⟨w.heap.size, 0, none⟩ = some (.bool false) := by
      rw [cell_of_row _ w.heap.size 0 _ 4 (0, 0) (heap_setCell_same w1 w.heap.size 0 _ 4 (.bool false) hb)]; rfl
    simp [Leaves, settle, results, Tryd.results27, go_sem, hsame]
    exact .inl ⟨rfl, hn, keep_out H4.out hk ((TurnAt.refl _ _).setCell 0 _)⟩
  · have hb : w1.heap[w.heap.size]? = some (.cells #[.bool false] 4 (0, 0)) := (hk.block w.heap.size (by have := H5.out; omega) (by omega) (by omega)).trans H3.out
    have hc : w1.cell? ⟨w.heap.size, 0, none⟩ = some (.bool false) := by rw [cell_of_row w1 w.heap.size 0 _ 4 (0, 0) hb]; rfl
    have hf := frozen_of_row w1 w.heap.size 0 _ 4 hb
    obtain ⟨c0, c1, _, _⟩ := hp.cells
    have HB : Hid (w1.heap[w.heap.size]? = some (.cells #[.bool false] 4 (0, 0))) := hb
    have HI : Hid (Bx w1 gm 26 [.int .i64 f, .int .i64 n, .int .i64 o, .slice u.a u.n u.c]) := hi
    have HV : Hid (SlI w1 (w.heap.size + 2) u.v ts) := by
      show SlI _ _ _ _
      rw [← H5.out]
      exact hv
    have HK : Hid (Keep2 gm (w.heap.size + 1) W w1) := hk
    have HQ : Hid (bunP s = some ((f, n, o), ts, A)) := hq
    clear hb hi hv hp hk hq H1 H2 H3 H5
    go_wp2_with fail
    have hsame : (w1.setCell ⟨w.heap.size, 0, none⟩ (.bool ((A : Int) == (s.size : Int)))).cell? ⟨w.heap.size, 0, none⟩ = some (.bool ((A : Int) == (s.size : Int))) := by
      rw [cell_of_row _ w.heap.size 0 _ 4 (0, 0) (heap_setCell_same w1 w.heap.size 0 _ 4 _ HB.out)]; rfl
    refine leaves_cons (f := 63) (args := #[.pointer (some ⟨w.heap.size, 0, none⟩)]) (by simp) (by simp [go_sem]) ?_
    refine (catch_idle ⟨w.heap.size, 0, none⟩ _).mono ?_
    rintro e u' w'' ⟨rfl, rfl, rfl⟩
    simp [Leaves, settle, results, Tryd.results27, go_sem, hsame]
    exact .inr ⟨f, n, o, A, ts, u, rfl, HQ.out, hl, HI.out.keepb ((TurnAt.refl w.heap.size w1).setCell 0 _).keep (by omega), (HV.out.keepg ((TurnAt.refl w.heap.size w1).setCell 0 _).keep (by omega)).down (by omega), keep_out H4.out HK.out ((TurnAt.refl _ _).setCell 0 _)⟩

end Go.Proofs.YtlflcjdpdbdbkaaDoor
