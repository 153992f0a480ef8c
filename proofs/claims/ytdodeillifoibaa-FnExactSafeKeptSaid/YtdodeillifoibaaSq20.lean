/- Joined texts: CCof CSfk CHax CSkp CSsk CLsk. -/
import Derived.Test.YtdodeillifoibaaSq18
import Derived.Test.YtdodeillifoibaaSq17
import Derived.Sort.OwnSortedInts
import Derived.Lib.SliceRun
import Derived.Test.YtdodeillifoibaaSq19
import Derived.Test.YtdodeillifoibaaSq11
/- The rings of the events of a kind: slices.Clone, inOrder, confsOf of the program. -/
namespace Go.Proofs.Ytdodeillifoibaa
open Go.RowKit Go.Sort Pl
set_option linter.unusedVariables false
set_option linter.unusedSimpArgs false

theorem mem_compact (zs : List Int) (x : Int) : x ∈ Lib.compact zs ↔ x ∈ zs := by
  unfold Lib.compact Lib.compactUpTo
  constructor
  · intro h
    obtain ⟨j, hj, rfl⟩ := List.mem_map.1 h
    have h2 : j < zs.length := List.mem_range.1 (List.mem_filter.1 hj).1
    rw [getElem!_pos _ _ (by simpa using h2)]
    simp
  · intro h
    obtain ⟨i, hi, rfl⟩ := List.getElem_of_mem h
    clear h
    induction i with
    | zero => exact List.mem_map.2 ⟨0, List.mem_filter.2 ⟨List.mem_range.2 hi, by simp [Lib.keeps]⟩, by rw [getElem!_pos _ _ (by simpa using hi)]; simp⟩
    | succ n ih =>
      by_cases hk : Lib.keeps zs.toArray (n + 1) = true
      · exact List.mem_map.2 ⟨n + 1, List.mem_filter.2 ⟨List.mem_range.2 hi, hk⟩, by rw [getElem!_pos _ _ (by simpa using hi)]; simp⟩
      · have e : zs[n + 1] = zs[n]'(by omega) := by
          have h1 : ¬ zs.toArray[n + 1]! ≠ zs.toArray[n]! := fun h => hk (by simp [Lib.keeps]; simpa using h)
          rw [getElem!_pos _ _ (by simpa using hi), getElem!_pos _ _ (by simpa using (by omega : n < zs.length))] at h1
          simpa using h1
        rw [e]
        exact ih (by omega)
theorem compact_len6 (ms : List Int) : (Lib.compact ms).length ≤ ms.length := by
  unfold Lib.compact Lib.compactUpTo
  rw [List.length_map]
  exact Nat.le_trans (List.length_filter_le _ _) (by simp)
theorem own_cut6 {w : World} {B g cap m : Nat} {e : TypeId} {cur : Array Value} {xs : List Int} (he : e = 3) (hB : B ≤ g) (hb : w.heap[g]? = some (.cells cur e (0, 0))) (h1 : xs.length ≤ cap) (h2 : cap ≤ maxLen) (h3 : cur.size = cap * 1) (h4 : cur.toList.take (xs.length * 1) = xs.map (Value.int .i64)) (hm : m ≤ xs.length) :
    OwnI w B (.slice (some ⟨g, 0, none⟩) m cap) (xs.take m) := by
  subst he
  refine ⟨by simp, .inr ⟨g, cap, cur, by rw [List.length_take, Nat.min_eq_left hm], hB, hb, by rw [List.length_take]; omega, h2, h3, ?_⟩⟩
  rw [List.length_take, Nat.min_eq_left hm, List.map_take, ← h4, Nat.mul_one, Nat.mul_one, List.take_take, Nat.min_eq_left hm]

set_option maxRecDepth 100000 in
set_option maxHeartbeats 2000000 in
theorem cloneInts_any (s : Sv) (xs : List Int) (B : Nat) (w : World) (h : Hid (OwnI w B s.v xs)) (hl : xs.length ≤ 1048576) :
    Calls Try.prog 103 #[.slice s.a s.n s.c] w fun e w' => ∃ u : Sv, e = .returned (.slice u.a u.n u.c) ∧ OwnI w' w.heap.size u.v xs ∧ Below w.heap.size w w' := by
  obtain ⟨a, n, c⟩ := s
  have HR : Hid (RI w (Sv.v ⟨a, n, c⟩) xs) := h.out.ri
  dsimp only
  rcases h.out.2 with ⟨hv, hnil⟩ | ⟨g, cap, cur, hv, _⟩
  · unfold Sv.v at hv
    simp at hv
    obtain ⟨rfl, rfl, rfl⟩ := hv
    obtain rfl := List.eq_nil_of_length_eq_zero hnil
    clear h HR
    have qT := fun w : World => Lib.run_eql_slice_nil (P := Try.prog) w 49 3 none 0 0 0 0 Try.underlying49
    go_enter Try.func103, Try.ntmps103
    go_wp2_with fail
    go_ret
    exact ⟨zSv, rfl, ownI_nil _ _, Below.refl _ _⟩
  · unfold Sv.v at hv
    simp at hv
    obtain ⟨rfl, rfl, rfl⟩ := hv
    clear h
    have qT := fun w : World => Lib.run_eql_slice_nil (P := Try.prog) w 49 3 (some ⟨g, 0, none⟩) xs.length c 0 0 Try.underlying49
    go_enter Try.func103, Try.ntmps103
    go_wp2_with (first | (with_reducible refine wpList_haltA _ _ _ rfl ?_))
    refine Stp.go ?_
    refine wpList_dupI rfl _ _ 49 rfl Try.underlying49 Try.info3' rfl ⟨some ⟨g, 0, none⟩, xs.length, c⟩ xs rfl HR.out hl ?_
    intro v w1 o1 b1
    go_wp2_with fail
    go_ret
    exact ⟨v, rfl, o1, b1⟩

set_option maxRecDepth 100000 in
set_option maxHeartbeats 4000000 in
theorem inOrder_any (s : Sv) (xs : List Int) (B : Nat) (w : World) (h : Hid (OwnI w B s.v xs)) (hl : xs.length ≤ 1048576) :
    Calls Try.prog 95 #[.slice s.a s.n s.c] w fun e w' => ∃ (u : Sv) (ys : List Int), e = .returned (.slice u.a u.n u.c) ∧ OwnI w' w.heap.size u.v ys ∧ ys.length ≤ 1048576 ∧ (∀ x, x ∈ ys ↔ x ∈ xs) ∧ Below w.heap.size w w' := by
  go_enter Try.func95, Try.ntmps95
  go_wp2_with fail
  refine (cloneInts_any s xs B _ h hl).mono ?_
  rintro e w3 ⟨s3, rfl, o3, b3⟩
  have O3 : Hid (OwnI w3 w.heap.size s3.v xs) := o3
  have B3 : Hid (Below w.heap.size w w3) := b3
  clear o3 b3 h
  by_cases hy0 : xs.length = 0
  · have hye : xs = [] := List.eq_nil_of_length_eq_zero hy0
    subst hye
    have hn3 : s3.n = 0 := by obtain ⟨ao, cap, h⟩ := O3.out.form; simp [Sv.v] at h; exact h.2.1
    obtain ⟨a3, n3, c3⟩ := s3
    simp at hn3
    subst hn3
    dsimp only
    go_wp2_with fail
    refine (sort_none a3 c3 w3).mono ?_
    rintro e w4 ⟨rfl, rfl⟩
    go_wp2_with fail
    refine (compact_empty a3 c3 w4).mono ?_
    rintro e w5 ⟨rfl, rfl⟩
    go_wp2_with fail
    go_ret
    exact ⟨⟨a3, 0, c3⟩, [], rfl, O3.out, by simp, fun x => Iff.rfl, B3.out⟩
  · rcases O3.out.2 with ⟨_, hnil⟩ | ⟨g, cap2, cur, hv, hbase, hbk, h1, h2, h3, h4⟩
    · exact absurd hnil hy0
    obtain ⟨a3, n3, c3⟩ := s3
    unfold Sv.v at hv
    simp at hv
    obtain ⟨rfl, rfl, rfl⟩ := hv
    have hH : Holds (Value.int .i64) w3 g 0 xs.toArray := holds_of_blockI hbk (by rw [Nat.mul_one] at h4; exact h4)
    have hgl : g < w3.heap.size := (Array.getElem?_eq_some_iff.1 hbk).1
    have hcall := sort_any g 0 c3 xs w3 hH hgl (by omega)
    have HBK : Hid (w3.heap[g]? = some (.cells cur 3 (0, 0))) := hbk
    clear hH hbk h4
    obtain ⟨ms, hms⟩ : ∃ ms, ms = xs.mergeSort fun x y => decide (x ≤ y) := ⟨_, rfl⟩
    have hml : ms.length = xs.length := by rw [hms, List.length_mergeSort]
    have HMM : Hid (∀ x, x ∈ ms ↔ x ∈ xs) := fun x => by rw [hms]; exact List.mem_mergeSort
    rw [← hms] at hcall
    clear hms
    dsimp only
    go_wp2_with fail
    refine hcall.mono ?_
    clear hcall
    rintro e w4 ⟨rfl, nn, os, hw4⟩
    have g4 : w3.grownBy w4 (some g) := by rw [hw4]; exact grownBy_sortedI _
    have hown4 := ownsRow_sortedI (n := nn) (os := os) (ts := ms) (ss := xs) hml (Nat.zero_le g) HBK.out h1 h2 h3
    rw [← hw4] at hown4
    rcases hown4.2 with ⟨hnil, _⟩ | ⟨g', cap', cur4, he, _, hbk4, h41, h42, h43, h44⟩
    · cases hnil
    cases he
    have HB4 : Hid (w4.heap[g]? = some (.cells cur4 3 (0, 0))) := hbk4
    have hcall := compact_any g 0 c3 ms w4 (holds_of_blockI hbk4 (by rw [hml]; rw [Nat.mul_one] at h44; exact h44)) (by omega) (by omega)
    rw [hml] at hcall
    have B4 : Hid (Below w.heap.size w w4) := B3.out.grown g4 B3.out.size (fun j hj => by cases hj; exact hbase)
    clear hw4 hown4 hbk4 h44 g4 B3 O3
    go_wp2_with fail
    refine hcall.mono ?_
    clear hcall
    rintro e w5 ⟨rfl, qq, hw5⟩
    obtain ⟨ks, hks⟩ : ∃ ks, ks = Lib.compact ms := ⟨_, rfl⟩
    rw [← hks] at hw5
    have hkl : ks.length ≤ xs.length := by rw [hks, ← hml]; exact compact_len6 ms
    have HKM : Hid (∀ x, x ∈ ks ↔ x ∈ xs) := fun x => by rw [hks, mem_compact]; exact HMM.out x
    have g5 : w4.grownBy w5 (some g) := by rw [hw5, ← grow_empty (putRow _ _ _ _ _)]; exact grownBy_sortedI _
    have hlen : (ks ++ List.replicate (xs.length - ks.length) (0 : Int)).length = xs.length := by simp; omega
    have hown5 := ownsRow_sortedI (n := qq) (os := #[]) (ts := ks ++ List.replicate (xs.length - ks.length) 0) (ss := xs) (base := 0) hlen (Nat.zero_le _) HB4.out (by omega) h42 h43
    rw [grow_empty, ← hw5] at hown5
    rcases hown5.2 with ⟨hnil, _⟩ | ⟨g', cap', cur5, he, _, hbk5, h51, h52, h53, h54⟩
    · cases hnil
    cases he
    have BX : Hid (Below w.heap.size w w5) := B4.out.grown g5 B4.out.size (fun j hj => by cases hj; exact hbase)
    have h55 : cur5.toList.take (ks.length * 1) = ks.map (Value.int .i64) := by
      rw [Nat.mul_one]
      rw [Nat.mul_one] at h54
      have h6 := congrArg (List.take ks.length) h54
      rw [List.take_take, Nat.min_eq_left hkl] at h6
      rw [h6, List.map_append, List.take_append_of_le_length (by simp), List.take_of_length_le (by simp)]
    have OC := own_cut6 (B := w.heap.size) (m := ks.length) rfl hbase hbk5 (by omega) h52 h53 h55 (Nat.le_refl _)
    rw [List.take_of_length_le (Nat.le_refl _)] at OC
    have OF : Hid (OwnI w5 w.heap.size (.slice (some ⟨g, 0, none⟩) ks.length c3) ks) := OC
    rw [← hks]
    clear OC hw5 hown5 h54 h55 hbk5 g5 B4 HB4 HBK hlen hks hml h41 h51 h53 h43
    go_wp2_with fail
    go_ret
    exact ⟨⟨some ⟨g, 0, none⟩, ks.length, c3⟩, ks, rfl, OF.out, by omega, HKM.out, BX.out⟩

/-- the rings of the events of a kind. -/
def confsP (k : Int) (es : List Ev) : List Int := (es.filter fun e => e.k == k).map (·.rid)
theorem confsP_step {c : Int} {es : List Ev} {k : Nat} (hk : k < es.length) : confsP c (es.take (k + 1)) = confsP c (es.take k) ++ if es[k].k == c then [es[k].rid] else [] := by
  unfold confsP
  rw [List.take_succ_eq_append_getElem hk, List.filter_append, List.map_append]
  congr 1
  by_cases h : (es[k].k == c) = true <;> simp [h]
theorem confsP_len (c : Int) (es : List Ev) : (confsP c es).length ≤ es.length := by
  unfold confsP; rw [List.length_map]; exact List.length_filter_le _ _
theorem mem_confs {c x : Int} {es : List Ev} : x ∈ confsP c es ↔ ∃ e ∈ es, e.isB c x = true := by
  unfold confsP
  constructor
  · intro h
    obtain ⟨e, he, rfl⟩ := List.mem_map.1 h
    obtain ⟨h1, h2⟩ := List.mem_filter.1 he
    exact ⟨e, h1, by simp [Ev.isB]; simpa using h2⟩
  · rintro ⟨e, he, h⟩
    simp [Ev.isB] at h
    exact List.mem_map.2 ⟨e, List.mem_filter.2 ⟨he, by simpa using h.1⟩, h.2⟩

set_option maxRecDepth 100000 in
set_option maxHeartbeats 4000000 in
theorem confsOf_any (s : Sv) (es : List Ev) (c : Int) (w : World) (hx : Hid (EvsR w s es)) (hl : es.length ≤ 1048576) :
    Calls Try.prog 74 #[.slice s.a s.n s.c, .int .i64 c] w fun x w' => ∃ (u : Sv) (ys : List Int), x = .returned (.slice u.a u.n u.c) ∧ OwnI w' w.heap.size u.v ys ∧ ys.length ≤ 1048576 ∧ (∀ x, x ∈ ys ↔ ∃ e ∈ es, e.isB c x = true) ∧ Below w.heap.size w w' := by
  obtain ⟨a, n, cp⟩ := s
  dsimp only
  have HN : Hid (n = es.length) := hx.out.1
  have hn : n ≤ 1048576 := by have := HN.out; omega
  clear hl
  have V0 : Hid (OwnI (w.alloc (.cells #[] 3)) w.heap.size (.slice (some ⟨w.heap.size, 0, none⟩) 0 0) []) := OwnI.made w w.heap.size (Nat.le_refl _)
  have B0 : Hid (Below w.heap.size w (w.alloc (.cells #[] 3))) := (Below.refl _ _).alloc (Nat.le_refl _) _
  go_enter Try.func74, Try.ntmps74
  go_wp2_with fail
  generalize w.alloc (.cells #[] 3) = W0 at *
  go_loopw [5, 10] (fun v i wr => ∃ k : Nat, k ≤ n ∧ i = .int .i64 k ∧ Hid (OwnI wr w.heap.size v (confsP c (es.take k))) ∧ Hid (Below w.heap.size w wr)) (fun _ i _ => n - (intOf i).toNat)
  case atStart => exact ⟨0, Nat.zero_le _, rfl, V0, B0⟩
  case round =>
    clear V0 B0
    obtain ⟨k, hk, rfl, hS, hb⟩ := hrel
    by_cases hlt : k < n
    · have hlt2 : k < es.length := by have := HN.out; omega
      obtain ⟨g, off, ha, hg, _, hr⟩ := (hx.out.stays hb.out).2.1 k (by simpa using hlt2)
      obtain ⟨e, he⟩ : ∃ e, e = es[k] := ⟨_, rfl⟩
      have hr2 : wr.rangeAt g (off + k * 8) e.row := by rw [he]; simpa using hr
      obtain ⟨c0, c1, _⟩ := Ev.rng hr2
      have HE : Hid (e = es[k]) := he
      have ha : a = some ⟨g, off, none⟩ := ha
      subst ha
      have i0 : (0 : Int) ≤ (k : Int) := by omega
      have i1 : (k : Int) < (n : Int) := by omega
      clear hr hr2 he hg
      have S1 : OwnI wr w.heap.size u5 (confsP c (es.take k)) := hS.out
      have z2 : w.heap.size ≤ wr.heap.size := hb.out.size
      have hlk : (confsP c (es.take k)).length ≤ 1048576 := by have := confsP_len c (es.take k); rw [List.length_take] at this; omega
      clear hS
      cases hq : e.k == c
      · go_wp2_with fail
        go_roundw
        case rel => exact ⟨k + 1, by omega, by go_num, (by rw [confsP_step hlt2, ← HE.out, hq]; simpa using S1 : OwnI _ _ _ _), hb⟩
        case measure => simp [intOf]; omega
      · go_wp2_with (at_builtin; refine wpList_pushI rfl _ _ 49 rfl Try.underlying49 Try.info3' w.heap.size u5 _ rfl S1 e.rid rfl (by omega) z2 ?_; intro v2 w3 S3 b3)
        have S4 : Hid (OwnI w3 w.heap.size v2 (confsP c (es.take (k + 1)))) := (by rw [confsP_step hlt2, ← HE.out, hq]; exact S3 : OwnI _ _ _ _)
        have B4 : Hid (Below w.heap.size w w3) := hb.out.trans b3
        go_roundw
        case rel => exact ⟨k + 1, by omega, by go_num, S4, B4⟩
        case measure => simp [intOf]; omega
    · obtain rfl : k = n := by omega
      have h := hS.out
      rw [List.take_of_length_le (by have := HN.out; omega)] at h
      obtain ⟨u, rfl⟩ := OwnI.sv h
      have HU : Hid (OwnI wr w.heap.size u.v (confsP c es)) := h
      clear h hS
      go_wp2_with fail
      refine (inOrder_any u _ _ _ HU (by have := confsP_len c es; have := HN.out; omega)).mono ?_
      rintro e w1 ⟨y, ys, rfl, oy, yl, ym, b1⟩
      go_wp2_with fail
      go_ret
      exact ⟨y, ys, rfl, oy.down hb.out.size, yl, fun x => (ym x).trans mem_confs, bl_next hb.out b1⟩
end Go.Proofs.Ytdodeillifoibaa


/- What is Safe of a log and lacking in another one: the program's safeKept. -/
namespace Go.Proofs.Ytdodeillifoibaa
open Go.RowKit Pl
set_option linter.unusedVariables false
set_option linter.unusedSimpArgs false

/-- is it Safe, and none of these? -/
def lackS (hs : List It) (x : It) : Bool := x.2.2.1 == 2 && !memB x hs

set_option maxRecDepth 100000 in
set_option maxHeartbeats 4000000 in
theorem clSafe_any (q f lv : Int) (tx : ByteArray) (gh : Nat) (sh : Sv) (hs : List It) (B : Nat) (w : World) (H : Hid (Bx w gh 24 [.slice sh.a sh.n sh.c])) (A : Hid (SlI w B sh.v hs)) (hl : hs.length ≤ 1048576) :
    Calls Try.prog 76 #[.agg #[.int .i64 q, .int .i64 f, .int .i64 lv, .string tx], .pointer (some ⟨gh, 0, none⟩)] w fun e w' => e = .returned (.bool (lackS hs (q, f, lv, tx))) ∧ Below w.heap.size w w' := by
  have LA : Hid (Bx (w.alloc (.cells #[.int .i64 q, .int .i64 f, .int .i64 lv, .string tx] 57)) w.heap.size 57 [.int .i64 q, .int .i64 f, .int .i64 lv, .string tx]) := Bx.new w 57 _
  have BW : Hid (Below w.heap.size w (w.alloc (.cells #[.int .i64 q, .int .i64 f, .int .i64 lv, .string tx] 57))) := (Below.refl _ _).alloc (Nat.le_refl _) _
  have H1 : Hid (Bx (w.alloc (.cells #[.int .i64 q, .int .i64 f, .int .i64 lv, .string tx] 57)) gh 24 [.slice sh.a sh.n sh.c]) := H.out.later BW.out
  obtain ⟨ao, cp, hf, hx⟩ := A.out.items
  obtain ⟨a, n, c⟩ := sh
  unfold Sv.v at hf
  simp at hf
  obtain ⟨rfl, rfl, rfl⟩ := hf
  have A1 : Hid (ItemsAt (w.alloc (.cells #[.int .i64 q, .int .i64 f, .int .i64 lv, .string tx] 57)) a hs) := ItemsAt.stays hx BW.out
  have x0 := LA.out.cell 0
  have x1 := LA.out.cell 1
  have x2 := LA.out.cell 2
  have x3 := LA.out.cell 3
  have y0 := H1.out.cell 0
  simp only [List.getElem?_cons_succ, List.getElem?_cons_zero] at x0 x1 x2 x3 y0
  clear hx A H
  cases hq : lv == 2
  · go_enter Try.func76, Try.ntmps76
    go_wp2_with fail
    go_ret
    exact ⟨by simp [lackS, hq], BW.out⟩
  go_enter Try.func76, Try.ntmps76
  go_wp2_with fail
  generalize w.alloc (.cells #[.int .i64 q, .int .i64 f, .int .i64 lv, .string tx] 57) = W at *
  clear x0 x1 x2 x3 y0
  refine (containsIt_any q f lv tx a c hs W A1 hl).mono ?_
  rintro e w1 ⟨rfl, b1⟩
  go_wp2_with fail
  go_ret
  exact ⟨by simp [lackS, hq], bl_next BW.out b1⟩

set_option maxRecDepth 100000 in
set_option maxHeartbeats 4000000 in
theorem indexFs_any (a : Option Addr) (c : Nat) (ts : List It) (gh : Nat) (sh : Sv) (hs : List It) (B : Nat) (w : World) (X : Hid (ItemsAt w a ts)) (hl : ts.length ≤ 1048576) (H : Hid (Bx w gh 24 [.slice sh.a sh.n sh.c])) (A : Hid (SlI w B sh.v hs)) (hhl : hs.length ≤ 1048576) :
    Calls Try.prog 97 #[.slice a ts.length c, .func (Fn.func 76) #[] #[.pointer (some ⟨gh, 0, none⟩)]] w fun e w' => ∃ r : Int, e = .returned (.int .i64 r) ∧ decide (r ≥ 0) = ts.any (lackS hs) ∧ Below w.heap.size w w' := by
  obtain ⟨n, hn1⟩ : ∃ n, n = ts.length := ⟨_, rfl⟩
  rw [← hn1]
  have N1 : Hid (n = ts.length) := hn1
  have hl : n ≤ 1048576 := by omega
  clear hn1
  go_enter Try.func97, Try.ntmps97
  go_wp2_with fail
  go_loopw [8] (fun i wr => ∃ k : Nat, k ≤ n ∧ i = .int .i64 k ∧ Hid (∀ x ∈ ts.take k, lackS hs x = false) ∧ Hid (Below w.heap.size w wr)) (fun i _ => n - (intOf i).toNat)
  case atStart => exact ⟨0, by omega, rfl, (fun x hx => by simp at hx : ∀ x ∈ ts.take 0, lackS hs x = false), Below.refl _ _⟩
  case round =>
    obtain ⟨k, hk, rfl, hal, hb⟩ := hrel
    by_cases hlt : k < n
    · have hx : k < ts.length := by rw [← N1.out]; exact hlt
      obtain ⟨b1, off1, rfl, hbb1, h0, h1, h2, h3⟩ := X.out.stays hb.out k hx
      have HP : Hid (∃ x : It, x = ts[k]) := ⟨_, rfl⟩
      obtain ⟨⟨q, f, lv, tx⟩, hp⟩ := HP.out
      rw [← hp] at h0 h1 h2 h3
      have HE : Hid ((q, f, lv, tx) = ts[k]) := hp
      clear hp HP
      dsimp only at h0 h1 h2 h3
      have i0 : (0 : Int) ≤ (k : Int) := by omega
      have i1 : (k : Int) < (n : Int) := by omega
      have H1 : Hid (Bx wr gh 24 [.slice sh.a sh.n sh.c]) := H.out.later hb.out
      have A1 : Hid (SlI wr B sh.v hs) := A.out.below hb.out
      go_wp2_with fail
      clear h0 h1 h2 h3
      refine (clSafe_any q f lv tx gh sh hs B _ H1 A1 hhl).mono ?_
      rintro e w1 ⟨rfl, c1⟩
      have B1 : Hid (Below w.heap.size w w1) := bl_next hb.out c1
      clear H1 A1 c1 hb
      cases hq : lackS hs (q, f, lv, tx)
      · go_wp2_with fail
        go_roundw
        case rel =>
          refine ⟨k + 1, by omega, by go_num, (fun x hx2 => ?_ : ∀ x ∈ ts.take (k + 1), lackS hs x = false), B1⟩
          rw [List.take_succ_eq_append_getElem hx] at hx2
          rcases List.mem_append.1 hx2 with h | h
          · exact hal.out x h
          · rw [List.mem_singleton.1 h, ← HE.out]; exact hq
        case measure => simp [intOf]; omega
      · have HY : Hid (ts.any (lackS hs) = true) := (List.any_eq_true.2 ⟨ts[k], List.getElem_mem hx, by rw [← HE.out]; exact hq⟩ : ts.any (lackS hs) = true)
        go_wp2_with fail
        go_ret
        exact ⟨k, rfl, by rw [HY.out]; simp, B1.out⟩
    · have HY : Hid (ts.any (lackS hs) = false) := (by
        have h := hal.out
        rw [List.take_of_length_le (by have := N1.out; omega)] at h
        exact List.any_eq_false.2 fun x hx => by rw [h x hx]; simp : ts.any (lackS hs) = false)
      go_wp2_with fail
      go_ret
      exact ⟨-1, rfl, by rw [HY.out]; rfl, hb.out⟩

set_option maxRecDepth 100000 in
set_option maxHeartbeats 4000000 in
theorem containsFs_any (a : Option Addr) (c : Nat) (ts : List It) (gh : Nat) (sh : Sv) (hs : List It) (B : Nat) (w : World) (X : Hid (ItemsAt w a ts)) (hl : ts.length ≤ 1048576) (H : Hid (Bx w gh 24 [.slice sh.a sh.n sh.c])) (A : Hid (SlI w B sh.v hs)) (hhl : hs.length ≤ 1048576) :
    Calls Try.prog 78 #[.slice a ts.length c, .func (Fn.func 76) #[] #[.pointer (some ⟨gh, 0, none⟩)]] w fun e w' => e = .returned (.bool (ts.any (lackS hs))) ∧ Below w.heap.size w w' := by
  go_enter Try.func78, Try.ntmps78
  go_wp2_with fail
  refine (indexFs_any a c ts gh sh hs B w X hl H A hhl).mono ?_
  rintro e w1 ⟨r, rfl, hr, b1⟩
  obtain ⟨M, hM⟩ : ∃ M, ts.any (lackS hs) = M := ⟨_, rfl⟩
  have hd : decide (r ≥ 0) = M := hr.trans hM
  have HM : Hid (ts.any (lackS hs) = M) := hM
  have B1 : Hid (Below w.heap.size w w1) := b1
  clear hM hr b1
  go_wp2_with fail
  go_ret
  exact ⟨by rw [HM.out]; rfl, B1.out⟩

/-- nothing Safe of a log, ahead of the end of a ring, is lacking in the other one ahead of the next ring. -/
def okC (a b : List Ev) (c : Int) : Bool := !(itemsP c (aheadP c a)).any (lackS (itemsP c (aheadN c b)))
def keptP (a b : List Ev) : Bool := b.all fun e => !(e.k == 2) || okC a b e.rid
theorem keptP_yes {a b : List Ev} (h : ∀ c, (∃ e ∈ b, e.isB 2 c = true) → okC a b c = true) : keptP a b = true := by
  unfold keptP
  refine List.all_eq_true.2 fun e he => ?_
  cases hk : e.k == 2
  · rfl
  · exact h e.rid ⟨e, he, by simp [Ev.isB, hk]⟩
theorem keptP_no {a b : List Ev} {c : Int} (hm : ∃ e ∈ b, e.isB 2 c = true) (h : okC a b c = false) : keptP a b = false := by
  unfold keptP
  obtain ⟨e, he, hc⟩ := hm
  refine List.all_eq_false.2 ⟨e, he, ?_⟩
  simp [Ev.isB] at hc
  obtain ⟨h1, rfl⟩ := hc
  simp [h1, h]

set_option maxRecDepth 100000 in
set_option maxHeartbeats 8000000 in
theorem safeKept_any (s1 s2 : Sv) (es fs : List Ev) (A1 A2 : Nat) (w : World) (h1 : Hid (EvsO w A1 s1 es)) (h2 : Hid (EvsO w A2 s2 fs)) (hl1 : es.length ≤ 1048576) (hl2 : fs.length ≤ 1048576) (hs1 : Hid (∀ e ∈ es, e.S)) (hs2 : Hid (∀ e ∈ fs, e.S)) :
    Calls Try.prog 49 #[.slice s1.a s1.n s1.c, .slice s2.a s2.n s2.c] w fun e w' => e = .returned (.bool (keptP es fs)) ∧ Below w.heap.size w w' := by
  go_enter Try.func49, Try.ntmps49
  go_wp2_with fail
  refine (confsOf_any s2 fs 2 _ (show Hid (EvsR w s2 fs) from h2.out.r) hl2).mono ?_
  rintro e w1 ⟨u, ys, rfl, oy, yl, ym, b1⟩
  have YM : Hid (∀ x, x ∈ ys ↔ ∃ e ∈ fs, e.isB 2 x = true) := ym
  have BW : Hid (Below w.heap.size w w1) := b1
  obtain ⟨au, cu, hu, hx⟩ := oy.ints
  obtain ⟨ua, un, uc⟩ := u
  unfold Sv.v at hu
  simp at hu
  obtain ⟨rfl, rfl, rfl⟩ := hu
  have YA : Hid (IntsAt w1 ua ys) := hx
  clear ym b1 oy hx
  dsimp only
  go_wp2_with fail
  go_loopw [12] (fun i wr => ∃ k : Nat, k ≤ ys.length ∧ i = .int .i64 k ∧ Hid (∀ c ∈ ys.take k, okC es fs c = true) ∧ Hid (Below w1.heap.size w1 wr)) (fun i _ => ys.length - (intOf i).toNat)
  case atStart => exact ⟨0, by omega, rfl, (fun x hx => by simp at hx : ∀ c ∈ ys.take 0, okC es fs c = true), Below.refl _ _⟩
  case round =>
    obtain ⟨k, hk, rfl, hal, hb⟩ := hrel
    by_cases hlt : k < ys.length
    · obtain ⟨bb, off, rfl, hbb, h0⟩ := YA.out.stays hb.out k hlt
      have HP : Hid (∃ x : Int, x = ys[k]) := ⟨_, rfl⟩
      obtain ⟨c, hp⟩ := HP.out
      rw [← hp] at h0
      have HE : Hid (c = ys[k]) := hp
      have i0 : (0 : Int) ≤ (k : Int) := by omega
      have i1 : (k : Int) < (ys.length : Int) := by omega
      have B1 : Hid (Below w.heap.size w wr) := bl_next BW.out hb.out
      clear hp HP
      go_wp2_with fail
      clear h0
      -- the other one's
      refine (aheadNext_any s2 fs c A2 wr (show Hid (EvsO wr A2 s2 fs) from h2.out.below B1.out) hl2).mono ?_
      rintro e w2 ⟨rfl, hn, b2⟩
      obtain ⟨M, hM⟩ : ∃ M, M = (aheadN c fs).length := ⟨_, rfl⟩
      have hMl : M ≤ fs.length := by rw [hM]; have := congrArg List.length hn; rw [List.length_take] at this; omega
      rw [← hM] at hn ⊢
      have HN : Hid (aheadN c fs = fs.take M) := hn
      have B2 : Hid (Below w.heap.size w w2) := bl_next B1.out b2
      have HB : Hid (Below w1.heap.size w1 w2) := bl_next hb.out b2
      clear b2 hn hM hb
      have RN : Hid (EvsR w2 ⟨s2.a, M, s2.c⟩ (aheadN c fs)) := (by rw [HN.out]; exact EvsR.take (h2.out.below B2.out).r M s2.c hMl : EvsR w2 ⟨s2.a, M, s2.c⟩ (aheadN c fs))
      have SN : Hid (∀ e ∈ aheadN c fs, e.S) := (by rw [HN.out]; exact fun e he => hs2.out e (List.mem_of_mem_take he) : ∀ e ∈ aheadN c fs, e.S)
      have LN : (aheadN c fs).length ≤ 1048576 := by rw [HN.out, List.length_take]; omega
      go_wp2_with fail
      refine (itemsOf_any ⟨s2.a, M, s2.c⟩ (aheadN c fs) c _ RN LN SN).mono ?_
      rintro e w3 ⟨sh, rfl, oh, b3⟩
      have OH : Hid (SlI w3 w2.heap.size sh.v (itemsP c (aheadN c fs))) := oh
      have B3 : Hid (Below w.heap.size w w3) := bl_next B2.out b3
      have HB3 : Hid (Below w1.heap.size w1 w3) := bl_next HB.out b3
      have hhl : (itemsP c (aheadN c fs)).length ≤ 1048576 := Nat.le_trans (itemsP_len c _) LN
      clear oh b3 RN SN LN HN HB B2
      obtain ⟨hs, hhs⟩ : ∃ hs, hs = itemsP c (aheadN c fs) := ⟨_, rfl⟩
      have HHS : Hid (hs = itemsP c (aheadN c fs)) := hhs
      have OH : Hid (SlI w3 w2.heap.size sh.v hs) := (by rw [hhs]; exact OH.out : SlI w3 w2.heap.size sh.v hs)
      have hhl : hs.length ≤ 1048576 := by rw [hhs]; exact hhl
      clear hhs
      have hz : Hid (Bx (w3.alloc (.cells #[.slice none 0 0] 24)) w3.heap.size 24 [.slice none 0 0]) := Bx.new w3 24 _
      go_wp2_with (first | (refine wpList_st1 rfl 24 _ _ rfl w3.heap.size 0 rfl 24 _ hz.out (.slice sh.a sh.n sh.c) rfl (by simp) rfl Try.sizeIs [.slice sh.a sh.n sh.c] rfl ?_; intro w4 OB TB; have b4 : Below w3.heap.size w3 w4 := ((Below.refl _ _).alloc (Nat.le_refl _) _).trans (TB.below (Nat.le_refl _)); have HX : Hid (Bx w4 w3.heap.size 24 [.slice sh.a sh.n sh.c]) := OB; have OH : Hid (SlI w4 w2.heap.size sh.v hs) := OH.out.below b4; have B4 : Hid (Below w.heap.size w w4) := bl_next B3.out b4; have HB4 : Hid (Below w1.heap.size w1 w4) := bl_next HB3.out b4; clear OB TB b4; refine Stp.here ?_))
      refine Stp.go ?_
      clear hz B3 HB3
      generalize hgh : w3.heap.size = gh at *
      clear hgh
      go_wp2_with fail
      -- one's own
      refine (aheadPart_any s1 es c A1 w4 (show Hid (EvsO w4 A1 s1 es) from h1.out.below B4.out) hl1).mono ?_
      rintro e w5 ⟨rfl, b5⟩
      obtain ⟨K, hK⟩ : ∃ K, K = (aheadP c es).length := ⟨_, rfl⟩
      have HA : Hid (aheadP c es = es.take K) := (by rw [hK]; exact aheadP_take c es : aheadP c es = es.take K)
      have hKl : K ≤ es.length := by rw [hK]; exact aheadP_len c es
      rw [← hK]
      have B5 : Hid (Below w.heap.size w w5) := bl_next B4.out b5
      have HB5 : Hid (Below w1.heap.size w1 w5) := bl_next HB4.out b5
      have HX : Hid (Bx w5 gh 24 [.slice sh.a sh.n sh.c]) := HX.out.later b5
      have OH : Hid (SlI w5 w2.heap.size sh.v hs) := OH.out.below b5
      clear b5 hK B4 HB4
      have RN : Hid (EvsR w5 ⟨s1.a, K, s1.c⟩ (aheadP c es)) := (by rw [HA.out]; exact EvsR.take (h1.out.below B5.out).r K s1.c hKl : EvsR w5 ⟨s1.a, K, s1.c⟩ (aheadP c es))
      have SN : Hid (∀ e ∈ aheadP c es, e.S) := (by rw [HA.out]; exact fun e he => hs1.out e (List.mem_of_mem_take he) : ∀ e ∈ aheadP c es, e.S)
      have LN : (aheadP c es).length ≤ 1048576 := by have := aheadP_len c es; omega
      go_wp2_with fail
      refine (itemsOf_any ⟨s1.a, K, s1.c⟩ (aheadP c es) c _ RN LN SN).mono ?_
      rintro e w6 ⟨st, rfl, ot, b6⟩
      have B6 : Hid (Below w.heap.size w w6) := bl_next B5.out b6
      have HB6 : Hid (Below w1.heap.size w1 w6) := bl_next HB5.out b6
      have HX : Hid (Bx w6 gh 24 [.slice sh.a sh.n sh.c]) := HX.out.later b6
      have OH : Hid (SlI w6 w2.heap.size sh.v hs) := OH.out.below b6
      obtain ⟨ao, cp, hf, hx⟩ := ot.items
      obtain ⟨ta, tn, tc⟩ := st
      unfold Sv.v at hf
      simp at hf
      obtain ⟨rfl, rfl, rfl⟩ := hf
      have XA : Hid (ItemsAt w6 ta (itemsP c (aheadP c es))) := hx
      have htl : (itemsP c (aheadP c es)).length ≤ 1048576 := Nat.le_trans (itemsP_len c _) LN
      clear ot b6 hx RN SN LN HA B5 HB5
      dsimp only
      go_wp2_with fail
      refine (containsFs_any ta tc (itemsP c (aheadP c es)) gh sh hs _ w6 XA htl HX OH hhl).mono ?_
      rintro e w7 ⟨rfl, b7⟩
      have HB7 : Hid (Below w1.heap.size w1 w7) := bl_next HB6.out b7
      clear b7 HX OH XA B6 HB6 B1
      have OK : Hid (okC es fs c = !(itemsP c (aheadP c es)).any (lackS hs)) := (by rw [HHS.out]; rfl : okC es fs c = _)
      obtain ⟨R, hR⟩ : ∃ R, (itemsP c (aheadP c es)).any (lackS hs) = R := ⟨_, rfl⟩
      have OK : Hid (okC es fs c = !R) := (by rw [OK.out, hR] : okC es fs c = !R)
      rw [hR]
      clear hR HHS
      cases R
      · go_wp2_with fail
        go_roundw
        case rel =>
          refine ⟨k + 1, by omega, by go_num, (fun x hx2 => ?_ : ∀ x ∈ ys.take (k + 1), okC es fs x = true), HB7⟩
          rw [List.take_succ_eq_append_getElem hlt] at hx2
          rcases List.mem_append.1 hx2 with h | h
          · exact hal.out x h
          · rw [List.mem_singleton.1 h, ← HE.out]; exact OK.out
        case measure => simp [intOf]; omega
      · have HY : Hid (keptP es fs = false) := keptP_no (c := c) ((YM.out c).1 (by rw [HE.out]; exact List.getElem_mem hlt)) OK.out
        go_wp2_with fail
        go_ret
        exact ⟨by rw [HY.out]; rfl, bl_next BW.out HB7.out⟩
    · have HY : Hid (keptP es fs = true) := keptP_yes fun c hc => hal.out c (by rw [List.take_of_length_le (by omega)]; exact (YM.out c).2 hc)
      go_wp2_with fail
      go_ret
      exact ⟨by rw [HY.out]; rfl, bl_next BW.out hb.out⟩
end Go.Proofs.Ytdodeillifoibaa


/- axiom.holdsAt, axiom.holds and SafeKept of the program. Written by gen_hx.py. -/
namespace Go.Proofs.Ytdodeillifoibaa
open Go.RowKit Pl
set_option linter.unusedVariables false
set_option linter.unusedSimpArgs false

/-- a log beside each other one. -/
def lg (L : List (List Ev)) (i : Nat) : List Ev := (L[i]?).getD []
def heldAt (L : List (List Ev)) (i : Nat) : Bool := (List.range L.length).all fun j => j == i || keptP (lg L i) (lg L j)
def heldAll (L : List (List Ev)) : Bool := (List.range L.length).all (heldAt L)
theorem lg_dm {dl : List Dm} {i : Nat} (h : i < dl.length) : lg (dl.map Dm.lo) i = dl[i].lo := by simp [lg, h]
theorem range_all {n : Nat} {f : Nat → Bool} (h : ∀ j, j < n → f j = true) : (List.range n).all f = true := List.all_eq_true.2 fun j hj => h j (List.mem_range.1 hj)
theorem range_no {n j : Nat} {f : Nat → Bool} (hj : j < n) (h : f j = false) : (List.range n).all f = false := List.all_eq_false.2 ⟨j, List.mem_range.2 hj, by simp [h]⟩
theorem Try.sizeWoH : (Try.prog.info? 44).map (·.size) = some 4 := by kernel_rfl
theorem Try.sizeAx : (Try.prog.info? 86).map (·.size) = some 2 := by kernel_rfl

set_option maxRecDepth 100000 in
set_option maxHeartbeats 16000000 in
theorem holdsAt_any (sd : Sv) (dl : List Dm) (i : Nat) (B : Nat) (w : World) (h : Hid (DmsO w B sd dl)) (hl : dl.length ≤ 1048576) (hs : Hid (∀ d ∈ dl, d.S)) (hi : i < dl.length) :
    Calls Try.prog 64 #[.agg #[.nilFunc, .func (Fn.func 49) #[] #[]], .int .i64 i, .slice sd.a sd.n sd.c] w fun e w' => e = .returned (.bool (heldAt (dl.map Dm.lo) i)) ∧ Below w.heap.size w w' := by
  have LA : Hid (Bx (w.alloc (.cells #[.nilFunc, .func (Fn.func 49) #[] #[]] 86)) w.heap.size 86 [.nilFunc, .func (Fn.func 49) #[] #[]]) := Bx.new w 86 _
  have BW : Hid (Below w.heap.size w (w.alloc (.cells #[.nilFunc, .func (Fn.func 49) #[] #[]] 86))) := (Below.refl _ _).alloc (Nat.le_refl _) _
  have HO : Hid (DmsO (w.alloc (.cells #[.nilFunc, .func (Fn.func 49) #[] #[]] 86)) B sd dl) := h.out.below BW.out
  obtain ⟨a, n, cp⟩ := sd
  dsimp only
  have HN : Hid (n = dl.length) := h.out.r.1
  have hn : n ≤ 1048576 := by have := HN.out; omega
  have hin : i < n := by have := HN.out; omega
  obtain ⟨d, hd⟩ : ∃ d, d = dl[i] := ⟨_, rfl⟩
  have SD : Hid (DmS d) := (by rw [hd]; exact hs.out _ (List.getElem_mem hi) : d.S)
  have LI : Hid (lg (dl.map Dm.lo) i = d.lo) := (by rw [lg_dm hi, hd] : lg (dl.map Dm.lo) i = d.lo)
  obtain ⟨R, hR⟩ : ∃ R, heldAt (dl.map Dm.lo) i = R := ⟨_, rfl⟩
  have HR : Hid (heldAt (dl.map Dm.lo) i = R) := hR
  rw [hR]
  clear h hl hR
  obtain ⟨g, off, ha, hg, _, hr⟩ := HO.out.r.2.1 i (by simpa using hi)
  have hr2 : (w.alloc (.cells #[.nilFunc, .func (Fn.func 49) #[] #[]] 86)).rangeAt g (off + i * 24) d.row := by rw [hd]; simpa using hr
  have c23 := hr2 23 _ rfl
  have OD : Hid (DmO (w.alloc (.cells #[.nilFunc, .func (Fn.func 49) #[] #[]] 86)) B d) := (by rw [hd]; exact HO.out.2 _ (List.getElem_mem hi) : Dm.O _ B d)
  have ha : a = some ⟨g, off, none⟩ := ha
  subst ha
  have a0 := LA.out.cell 0
  simp only [List.getElem?_cons_succ, List.getElem?_cons_zero] at a0
  have i0 : (0 : Int) ≤ (i : Int) := by omega
  have i1 : (i : Int) < (n : Int) := by omega
  have qn := fun W : World => run_neq_nf Try.prog W 81 _ _ _ Try.underlying81
  clear hr hr2 hd hg
  go_enter Try.func64, Try.ntmps64
  go_wp2_with fail
  generalize w.alloc (.cells #[.nilFunc, .func (Fn.func 49) #[] #[]] 86) = W at *
  clear c23 a0 qn i0 i1
  go_loopw [26] (fun q wr => ∃ k : Nat, k ≤ n ∧ q = .int .i64 k ∧ Hid (∀ j, j < k → (j == i || keptP d.lo (lg (dl.map Dm.lo) j)) = true) ∧ Hid (Below W.heap.size W wr)) (fun q _ => n - (intOf q).toNat)
  case atStart => exact ⟨0, Nat.zero_le _, rfl, fun j hj => absurd hj (by omega), Below.refl _ _⟩
  case round =>
    obtain ⟨k, hk, rfl, hS, hb⟩ := hrel
    by_cases hlt : k < n
    · have hlt2 : k < dl.length := by have := HN.out; omega
      have XA : Hid (Bx wr w.heap.size 86 [.nilFunc, .func (Fn.func 49) #[] #[]]) := LA.out.later hb.out
      have OD : Hid (DmO wr B d) := OD.out.below hb.out
      by_cases hki : k = i
      · have he : ((k : Int) != (i : Int)) = false := by simp [hki]
        have he2 : decide ((k : Int) = (i : Int)) = true := by simp [hki]
        go_wp2_with fail
        refine quietC (C := fun w' => Below wr.heap.size wr w') (by kernel_rfl) (by kernel_rfl) (Below.refl _ _).drew ?_
        go_big_quiet_want
        refine q_val (.pointer (some ⟨w.heap.size, 1, none⟩)) (fun w' hw' => by go_simp) ?_
        go_big_quiet_on
        simp only [Act.put, List.setIfInBounds_toArray, List.set_cons_zero, List.set_cons_succ]
        go_big_quiet_want
        refine q_val (.func (Fn.func 49) #[] #[]) (fun w' hw' => by have r1 : w'.cell? ⟨w.heap.size, 1, none⟩ = some (.func (Fn.func 49) #[] #[]) := (XA.out.later hw').cell 1; go_simp) ?_
        go_big_quiet_on
        simp only [Act.put, List.setIfInBounds_toArray, List.set_cons_zero, List.set_cons_succ]
        go_big_quiet_want
        refine q_val (.bool true) (fun w' hw' => by have r2 := run_neq_ff Try.prog w' 29 _ _ _ (Fn.func 49) #[] #[] Try.underlying29; go_simp) ?_
        go_big_quiet_on
        simp only [Act.put, List.setIfInBounds_toArray, List.set_cons_zero, List.set_cons_succ]
        go_big_quiet_want
        refine q_val (.bool true) (fun w' hw' => by go_simp) ?_
        go_big_quiet_on
        simp only [Act.put, List.setIfInBounds_toArray, List.set_cons_zero, List.set_cons_succ]
        go_big_quiet_want
        refine q_val (.int .i64 k) (fun w' hw' => by go_simp) ?_
        go_big_quiet_on
        simp only [Act.put, List.setIfInBounds_toArray, List.set_cons_zero, List.set_cons_succ]
        go_big_quiet_want
        refine q_val (.int .i64 i) (fun w' hw' => by go_simp) ?_
        go_big_quiet_on
        simp only [Act.put, List.setIfInBounds_toArray, List.set_cons_zero, List.set_cons_succ]
        go_big_quiet_want
        refine q_val (.bool false) (fun w' hw' => by go_simp) ?_
        go_big_quiet_on
        simp only [Act.put, List.setIfInBounds_toArray, List.set_cons_zero, List.set_cons_succ]
        go_big_quiet_want
        refine q_val (.bool false) (fun w' hw' => by go_simp) ?_
        go_big_quiet_on
        simp only [Act.put, List.setIfInBounds_toArray, List.set_cons_zero, List.set_cons_succ]
        go_big_quiet_want
        refine q_val (.bool false) (fun w' hw' => by go_simp) ?_
        go_big_quiet_on
        simp only [Act.put, List.setIfInBounds_toArray, List.set_cons_zero, List.set_cons_succ]
        go_big_quiet_skip
        go_big_quiet_skip
        go_big_quiet_skip
        go_big_quiet_skip
        go_big_quiet_skip
        go_big_quiet_skip
        go_big_quiet_skip
        go_big_quiet_skip
        go_big_quiet_skip
        go_big_quiet_skip
        go_big_quiet_want
        refine q_val (.bool false) (fun w' hw' => by go_simp) ?_
        go_big_quiet_on
        simp only [Act.put, List.setIfInBounds_toArray, List.set_cons_zero, List.set_cons_succ]
        refine wpQuiet_nil ?_
        intro w9 h9
        have B9 : Hid (Below W.heap.size W w9) := bl_next hb.out h9
        clear XA OD hb h9 he he2
        go_wp2_with fail
        go_roundw
        case rel =>
          refine ⟨k + 1, by omega, by go_num, fun j hj => ?_, B9⟩
          by_cases hjk : j = k
          · rw [hjk, hki]; simp
          · exact hS.out j (by omega)
        case measure => simp [intOf]; omega
      · have he : ((k : Int) != (i : Int)) = true := by simp; omega
        have he2 : decide ((k : Int) = (i : Int)) = false := by simp; omega
        have HO1 : Hid (DmsO wr B ⟨some ⟨g, off, none⟩, n, cp⟩ dl) := HO.out.below hb.out
        obtain ⟨g', off', ha, hg, _, hr⟩ := HO1.out.r.2.1 k (by simpa using hlt2)
        simp at ha
        obtain ⟨rfl, rfl⟩ := ha
        obtain ⟨b, hbd⟩ : ∃ b, b = dl[k] := ⟨_, rfl⟩
        have RB : Hid (wr.rangeAt g (off + k * 24) b.row) := (by rw [hbd]; simpa using hr : wr.rangeAt g (off + k * 24) b.row)
        have GL : Hid (g < wr.heap.size) := hg
        have OB : Hid (DmO wr B b) := (by rw [hbd]; exact HO1.out.2 _ (List.getElem_mem hlt2) : Dm.O _ B b)
        have SB : Hid (DmS b) := (by rw [hbd]; exact hs.out _ (List.getElem_mem hlt2) : b.S)
        have LK : Hid (lg (dl.map Dm.lo) k = b.lo) := (by rw [lg_dm hlt2, hbd] : lg (dl.map Dm.lo) k = b.lo)
        have J0 : Hid ((0 : Int) ≤ (k : Int)) := (by omega : (0 : Int) ≤ (k : Int))
        have J1 : Hid ((k : Int) < (n : Int)) := (by omega : (k : Int) < (n : Int))
        clear hr hbd hg HO1
        go_wp2_with fail
        refine quietC (C := fun w' => Below wr.heap.size wr w') (by kernel_rfl) (by kernel_rfl) (Below.refl _ _).drew ?_
        go_big_quiet_want
        refine q_val (.pointer (some ⟨w.heap.size, 1, none⟩)) (fun w' hw' => by go_simp) ?_
        go_big_quiet_on
        simp only [Act.put, List.setIfInBounds_toArray, List.set_cons_zero, List.set_cons_succ]
        go_big_quiet_want
        refine q_val (.func (Fn.func 49) #[] #[]) (fun w' hw' => by have r1 : w'.cell? ⟨w.heap.size, 1, none⟩ = some (.func (Fn.func 49) #[] #[]) := (XA.out.later hw').cell 1; go_simp) ?_
        go_big_quiet_on
        simp only [Act.put, List.setIfInBounds_toArray, List.set_cons_zero, List.set_cons_succ]
        go_big_quiet_want
        refine q_val (.bool true) (fun w' hw' => by have r2 := run_neq_ff Try.prog w' 29 _ _ _ (Fn.func 49) #[] #[] Try.underlying29; go_simp) ?_
        go_big_quiet_on
        simp only [Act.put, List.setIfInBounds_toArray, List.set_cons_zero, List.set_cons_succ]
        go_big_quiet_want
        refine q_val (.bool true) (fun w' hw' => by go_simp) ?_
        go_big_quiet_on
        simp only [Act.put, List.setIfInBounds_toArray, List.set_cons_zero, List.set_cons_succ]
        go_big_quiet_want
        refine q_val (.int .i64 k) (fun w' hw' => by go_simp) ?_
        go_big_quiet_on
        simp only [Act.put, List.setIfInBounds_toArray, List.set_cons_zero, List.set_cons_succ]
        go_big_quiet_want
        refine q_val (.int .i64 i) (fun w' hw' => by go_simp) ?_
        go_big_quiet_on
        simp only [Act.put, List.setIfInBounds_toArray, List.set_cons_zero, List.set_cons_succ]
        go_big_quiet_want
        refine q_val (.bool true) (fun w' hw' => by go_simp) ?_
        go_big_quiet_on
        simp only [Act.put, List.setIfInBounds_toArray, List.set_cons_zero, List.set_cons_succ]
        go_big_quiet_want
        refine q_val (.bool true) (fun w' hw' => by go_simp) ?_
        go_big_quiet_on
        simp only [Act.put, List.setIfInBounds_toArray, List.set_cons_zero, List.set_cons_succ]
        go_big_quiet_want
        refine q_val (.bool true) (fun w' hw' => by go_simp) ?_
        go_big_quiet_on
        simp only [Act.put, List.setIfInBounds_toArray, List.set_cons_zero, List.set_cons_succ]
        go_big_quiet_want
        refine q_val (.pointer (some ⟨w.heap.size, 1, none⟩)) (fun w' hw' => by go_simp) ?_
        go_big_quiet_on
        simp only [Act.put, List.setIfInBounds_toArray, List.set_cons_zero, List.set_cons_succ]
        go_big_quiet_want
        refine q_val (.func (Fn.func 49) #[] #[]) (fun w' hw' => by have r1 : w'.cell? ⟨w.heap.size, 1, none⟩ = some (.func (Fn.func 49) #[] #[]) := (XA.out.later hw').cell 1; go_simp) ?_
        go_big_quiet_on
        simp only [Act.put, List.setIfInBounds_toArray, List.set_cons_zero, List.set_cons_succ]
        go_big_quiet_want
        refine q_val (.slice d.ls.a d.ls.n d.ls.c) (fun w' hw' => by go_simp) ?_
        go_big_quiet_on
        simp only [Act.put, List.setIfInBounds_toArray, List.set_cons_zero, List.set_cons_succ]
        go_big_quiet_want
        refine q_val (.slice (some ⟨g, off, none⟩) n cp) (fun w' hw' => by go_simp) ?_
        go_big_quiet_on
        simp only [Act.put, List.setIfInBounds_toArray, List.set_cons_zero, List.set_cons_succ]
        go_big_quiet_want
        refine q_val (.int .i64 k) (fun w' hw' => by go_simp) ?_
        go_big_quiet_on
        simp only [Act.put, List.setIfInBounds_toArray, List.set_cons_zero, List.set_cons_succ]
        go_big_quiet_want
        refine q_val (.pointer (some ⟨g, off + k * 24, none⟩)) (fun w' hw' => by have i0 := J0.out; have i1 := J1.out; go_simp) ?_
        go_big_quiet_on
        simp only [Act.put, List.setIfInBounds_toArray, List.set_cons_zero, List.set_cons_succ]
        go_big_quiet_want
        refine q_val (.pointer (some ⟨g, off + k * 24 + 23, none⟩)) (fun w' hw' => by go_simp) ?_
        go_big_quiet_on
        simp only [Act.put, List.setIfInBounds_toArray, List.set_cons_zero, List.set_cons_succ]
        go_big_quiet_want
        refine q_val (.slice b.ls.a b.ls.n b.ls.c) (fun w' hw' => by have r3 : w'.cell? ⟨g, off + k * 24 + 23, none⟩ = some (.slice b.ls.a b.ls.n b.ls.c) := range_later RB.out GL.out hw' 23 _ rfl; go_simp) ?_
        go_big_quiet_on
        simp only [Act.put, List.setIfInBounds_toArray, List.set_cons_zero, List.set_cons_succ]
        go_big_quiet_want
        refine q_callB (W := wr) (.bool (keptP d.lo b.lo)) 49 #[.slice d.ls.a d.ls.n d.ls.c, .slice b.ls.a b.ls.n b.ls.c] (fun w' hw' => by go_simp) (fun w' hw' => safeKept_any d.ls b.ls d.lo b.lo _ _ w' (show Hid (EvsO w' B d.ls d.lo) from (OD.out.below hw').lo) (show Hid (EvsO w' B b.ls b.lo) from (OB.out.below hw').lo) SD.out.los.1 SB.out.los.1 SD.out.los.2 SB.out.los.2) ?_
        go_big_quiet_on
        simp only [Act.put, List.setIfInBounds_toArray, List.set_cons_zero, List.set_cons_succ]
        go_big_quiet_want
        refine q_val (.bool (!keptP d.lo b.lo)) (fun w' hw' => by go_simp) ?_
        go_big_quiet_on
        simp only [Act.put, List.setIfInBounds_toArray, List.set_cons_zero, List.set_cons_succ]
        go_big_quiet_want
        refine q_val (.bool (!keptP d.lo b.lo)) (fun w' hw' => by go_simp) ?_
        go_big_quiet_on
        simp only [Act.put, List.setIfInBounds_toArray, List.set_cons_zero, List.set_cons_succ]
        refine wpQuiet_nil ?_
        intro w9 h9
        have B9 : Hid (Below W.heap.size W w9) := bl_next hb.out h9
        clear XA OD OB RB GL hb h9 he he2
        obtain ⟨K, hK⟩ : ∃ K, keptP d.lo b.lo = K := ⟨_, rfl⟩
        rw [hK]
        cases K
        · have HF : Hid (R = false) := (by
            rw [← HR.out]
            unfold heldAt
            exact range_no (j := k) (by simpa using hlt2) (by rw [LI.out, LK.out, hK]; simp [hki]) : R = false)
          clear hK
          go_wp2_with fail
          go_ret
          exact ⟨by rw [HF.out]; rfl, bl_next BW.out B9.out⟩
        · have HK : Hid (keptP d.lo b.lo = true) := hK
          clear hK
          go_wp2_with fail
          go_roundw
          case rel =>
            refine ⟨k + 1, by omega, by go_num, fun j hj => ?_, B9⟩
            by_cases hjk : j = k
            · rw [hjk, LK.out, HK.out]; simp
            · exact hS.out j (by omega)
          case measure => simp [intOf]; omega
    · have HT : Hid (R = true) := (by
        rw [← HR.out]
        unfold heldAt
        refine range_all fun j hj => ?_
        rw [LI.out]
        exact hS.out j (by simp at hj; have := HN.out; omega) : R = true)
      go_wp2_with fail
      go_ret
      exact ⟨by rw [HT.out]; rfl, bl_next BW.out hb.out⟩

set_option maxRecDepth 100000 in
set_option maxHeartbeats 8000000 in
theorem holds_any (x : Wo) (B : Nat) (w : World) (h : Hid (WoO w B x)) (hs : Hid (WoS x)) :
    Calls Try.prog 41 #[.agg #[.nilFunc, .func (Fn.func 49) #[] #[]], .agg #[.slice x.rs.a x.rs.n x.rs.c, .slice x.ds.a x.ds.n x.ds.c, .slice x.ls.a x.ls.n x.ls.c, .slice x.ns.a x.ns.n x.ns.c]] w fun e w' => e = .returned (.bool (heldAll (x.dl.map Dm.lo))) ∧ Below w.heap.size w w' := by
  have hn1 : (w.alloc (.cells #[.nilFunc, .func (Fn.func 49) #[] #[]] 86)).heap.size = w.heap.size + 1 := by simp
  have LA : Hid (Bx ((w.alloc (.cells #[.nilFunc, .func (Fn.func 49) #[] #[]] 86)).alloc (.cells #[.slice x.rs.a x.rs.n x.rs.c, .slice x.ds.a x.ds.n x.ds.c, .slice x.ls.a x.ls.n x.ls.c, .slice x.ns.a x.ns.n x.ns.c] 44)) w.heap.size 86 [.nilFunc, .func (Fn.func 49) #[] #[]]) := by
    have h := Bx.new w 86 [.nilFunc, .func (Fn.func 49) #[] #[]]
    exact h.later ((Below.refl _ _).alloc (Nat.le_refl _) _)
  have LB : Hid (Bx ((w.alloc (.cells #[.nilFunc, .func (Fn.func 49) #[] #[]] 86)).alloc (.cells #[.slice x.rs.a x.rs.n x.rs.c, .slice x.ds.a x.ds.n x.ds.c, .slice x.ls.a x.ls.n x.ls.c, .slice x.ns.a x.ns.n x.ns.c] 44)) (w.heap.size + 1) 44 [.slice x.rs.a x.rs.n x.rs.c, .slice x.ds.a x.ds.n x.ds.c, .slice x.ls.a x.ls.n x.ls.c, .slice x.ns.a x.ns.n x.ns.c]) := by
    have h := Bx.new (w.alloc (.cells #[.nilFunc, .func (Fn.func 49) #[] #[]] 86)) 44 [.slice x.rs.a x.rs.n x.rs.c, .slice x.ds.a x.ds.n x.ds.c, .slice x.ls.a x.ls.n x.ls.c, .slice x.ns.a x.ns.n x.ns.c]
    rw [hn1] at h
    exact h
  have BW : Hid (Below w.heap.size w ((w.alloc (.cells #[.nilFunc, .func (Fn.func 49) #[] #[]] 86)).alloc (.cells #[.slice x.rs.a x.rs.n x.rs.c, .slice x.ds.a x.ds.n x.ds.c, .slice x.ls.a x.ls.n x.ls.c, .slice x.ns.a x.ns.n x.ns.c] 44))) := ((Below.refl _ _).alloc (Nat.le_refl _) _).alloc (by simp) _
  have HO : Hid (DmsO ((w.alloc (.cells #[.nilFunc, .func (Fn.func 49) #[] #[]] 86)).alloc (.cells #[.slice x.rs.a x.rs.n x.rs.c, .slice x.ds.a x.ds.n x.ds.c, .slice x.ls.a x.ls.n x.ls.c, .slice x.ns.a x.ns.n x.ns.c] 44)) B x.ds x.dl) := h.out.d.below BW.out
  have HN : Hid (x.ds.n = x.dl.length) := HO.out.r.1
  have hn : x.ds.n ≤ 1048576 := by have := HN.out; have := hs.out.dn; omega
  clear h hn1
  have b1 := LB.out.cell 1
  simp only [List.getElem?_cons_succ, List.getElem?_cons_zero] at b1
  go_enter Try.func41, Try.ntmps41
  go_wp2_with fail
  generalize ((w.alloc (.cells #[.nilFunc, .func (Fn.func 49) #[] #[]] 86)).alloc (.cells #[.slice x.rs.a x.rs.n x.rs.c, .slice x.ds.a x.ds.n x.ds.c, .slice x.ls.a x.ls.n x.ls.c, .slice x.ns.a x.ns.n x.ns.c] 44)) = W at *
  clear b1
  go_loopw [9] (fun q wr => ∃ k : Nat, k ≤ x.ds.n ∧ q = .int .i64 k ∧ Hid (∀ j, j < k → heldAt (x.dl.map Dm.lo) j = true) ∧ Hid (Below W.heap.size W wr)) (fun q _ => x.ds.n - (intOf q).toNat)
  case atStart => exact ⟨0, Nat.zero_le _, rfl, fun j hj => absurd hj (by omega), Below.refl _ _⟩
  case round =>
    obtain ⟨k, hk, rfl, hS, hb⟩ := hrel
    by_cases hlt : k < x.ds.n
    · have hlt2 : k < x.dl.length := by have := HN.out; omega
      have XA : Hid (Bx wr w.heap.size 86 [.nilFunc, .func (Fn.func 49) #[] #[]]) := LA.out.later hb.out
      have b1 := (LB.out.later hb.out).cell 1
      simp only [List.getElem?_cons_succ, List.getElem?_cons_zero] at b1
      have HO1 : Hid (DmsO wr B x.ds x.dl) := HO.out.below hb.out
      go_wp2_with (first | (refine wpList_ldG rfl 86 _ rfl w.heap.size 0 rfl 86 _ XA.out [.nilFunc, .func (Fn.func 49) #[] #[]] rfl _ Try.underlying86 rfl Try.sizeAx ?_))
      clear b1
      refine (holdsAt_any x.ds x.dl k B wr HO1 hs.out.dn (show Hid (∀ d ∈ x.dl, d.S) from hs.out.d) hlt2).mono ?_
      rintro e w1 ⟨rfl, c1⟩
      have B1 : Hid (Below W.heap.size W w1) := bl_next hb.out c1
      clear c1 hb HO1 XA
      cases hR : heldAt (x.dl.map Dm.lo) k
      · have HY : Hid (heldAll (x.dl.map Dm.lo) = false) := (range_no (j := k) (by simpa using hlt2) hR : heldAll _ = false)
        go_wp2_with fail
        go_ret
        exact ⟨by rw [HY.out]; rfl, bl_next BW.out B1.out⟩
      · have HR : Hid (heldAt (x.dl.map Dm.lo) k = true) := hR
        go_wp2_with fail
        go_roundw
        case rel =>
          refine ⟨k + 1, by omega, by go_num, fun j hj => ?_, B1⟩
          by_cases hjk : j = k
          · rw [hjk]; exact HR.out
          · exact hS.out j (by omega)
        case measure => simp [intOf]; omega
    · have HY : Hid (heldAll (x.dl.map Dm.lo) = true) := (range_all fun j hj => hS.out j (by simp at hj; have := HN.out; omega) : heldAll _ = true)
      go_wp2_with fail
      go_ret
      exact ⟨by rw [HY.out]; rfl, bl_next BW.out hb.out⟩
set_option maxRecDepth 100000 in
set_option maxHeartbeats 8000000 in
theorem safeKeptI_any (x : Wo) (B : Nat) (w : World) (h : Hid (WoO w B x)) (hs : Hid (WoS x)) :
    Calls Try.prog 24 #[.agg #[.slice x.rs.a x.rs.n x.rs.c, .slice x.ds.a x.ds.n x.ds.c, .slice x.ls.a x.ls.n x.ls.c, .slice x.ns.a x.ns.n x.ns.c]] w fun e w' => e = .returned (.bool (heldAll (x.dl.map Dm.lo))) ∧ Below w.heap.size w w' := by
  have LA : Hid (Bx (w.alloc (.cells #[.slice x.rs.a x.rs.n x.rs.c, .slice x.ds.a x.ds.n x.ds.c, .slice x.ls.a x.ls.n x.ls.c, .slice x.ns.a x.ns.n x.ns.c] 44)) w.heap.size 44 [.slice x.rs.a x.rs.n x.rs.c, .slice x.ds.a x.ds.n x.ds.c, .slice x.ls.a x.ls.n x.ls.c, .slice x.ns.a x.ns.n x.ns.c]) := Bx.new w 44 _
  have BW : Hid (Below w.heap.size w (w.alloc (.cells #[.slice x.rs.a x.rs.n x.rs.c, .slice x.ds.a x.ds.n x.ds.c, .slice x.ls.a x.ls.n x.ls.c, .slice x.ns.a x.ns.n x.ns.c] 44))) := (Below.refl _ _).alloc (Nat.le_refl _) _
  have HO : Hid (WoO (w.alloc (.cells #[.slice x.rs.a x.rs.n x.rs.c, .slice x.ds.a x.ds.n x.ds.c, .slice x.ls.a x.ls.n x.ls.c, .slice x.ns.a x.ns.n x.ns.c] 44)) B x) := h.out.below BW.out
  clear h
  go_enter Try.func24, Try.ntmps24
  go_wp2_with (first | (refine wpList_ldG rfl 44 _ rfl w.heap.size 0 rfl 44 _ LA.out [.slice x.rs.a x.rs.n x.rs.c, .slice x.ds.a x.ds.n x.ds.c, .slice x.ls.a x.ls.n x.ls.c, .slice x.ns.a x.ns.n x.ns.c] rfl _ Try.underlying44 rfl Try.sizeWoH ?_))
  generalize w.alloc (.cells #[.slice x.rs.a x.rs.n x.rs.c, .slice x.ds.a x.ds.n x.ds.c, .slice x.ls.a x.ls.n x.ls.c, .slice x.ns.a x.ns.n x.ns.c] 44) = W at *
  refine (holds_any x B W HO hs).mono ?_
  rintro e w1 ⟨rfl, c1⟩
  go_wp2_with fail
  go_ret
  exact ⟨rfl, bl_next BW.out c1⟩
end Go.Proofs.Ytdodeillifoibaa


/- What the specification's SafeKept asks, and what the program's asks: the same. -/
namespace Go.Proofs.Ytdodeillifoibaa
open Go.RowKit Pl
set_option linter.unusedVariables false
set_option linter.unusedSimpArgs false

theorem tw_next {f : Ev → Bool} : ∀ {es : List Ev} (h : (es.takeWhile f).length < es.length), f (es[(es.takeWhile f).length]'h) = false
  | e :: es, h => by
    cases hf : f e with
    | false => simp [List.takeWhile_cons, hf]
    | true =>
      have h1 : ((e :: es).takeWhile f).length = (es.takeWhile f).length + 1 := by simp [List.takeWhile_cons, hf]
      have h2 : (es.takeWhile f).length < es.length := by simp at h; omega
      have h3 := tw_next h2
      simp only [h1, List.getElem_cons_succ]
      exact h3
theorem part_is {c : Int} {es : List Ev} (h : 0 ≤ partP c es) : (aheadP c es).length < es.length ∧ partP c es = (aheadP c es).length := by
  unfold partP at *
  by_cases hl : (aheadP c es).length < es.length
  · rw [if_pos hl]; exact ⟨hl, rfl⟩
  · rw [if_neg hl] at h; omega
theorem part_ends {c : Int} {es : List Ev} (h : 0 ≤ partP c es) : ∃ e ∈ es, e.isB 2 c = true := by
  obtain ⟨h1, _⟩ := part_is h
  have := tw_next (f := fun e => !e.isB 2 c) h1
  refine ⟨_, List.getElem_mem h1, ?_⟩
  have h2 : (!(es[(aheadP c es).length]'h1).isB 2 c) = false := this
  cases hq : (es[(aheadP c es).length]'h1).isB 2 c with
  | true => rfl
  | false => rw [hq] at h2; cases h2
theorem tw_mem {f : Ev → Bool} : ∀ {es : List Ev} {x : Ev}, x ∈ es.takeWhile f → f x = true
  | e :: es, x, h => by
    rw [List.takeWhile_cons] at h
    cases hf : f e with
    | false => rw [hf] at h; simp at h
    | true =>
      rw [hf] at h
      simp only [if_true] at h
      rcases List.mem_cons.1 h with rfl | h
      · exact hf
      · exact tw_mem h
theorem part_of {c : Int} {es : List Ev} (h : ∃ e ∈ es, e.isB 2 c = true) : 0 ≤ partP c es := by
  unfold partP
  by_cases hl : (aheadP c es).length < es.length
  · rw [if_pos hl]; omega
  · obtain ⟨e, he, hb⟩ := h
    have e1 : aheadP c es = es := by
      have := aheadP_take c es
      rw [List.take_of_length_le (by omega)] at this
      exact this
    have h2 : ∀ x ∈ aheadP c es, (!x.isB 2 c) = true := fun x hx => tw_mem (f := fun e => !e.isB 2 c) hx
    rw [e1] at h2
    have := h2 e he
    rw [hb] at this
    cases this
theorem upto_next {c : Int} {es : List Ev} (h : 0 ≤ partP c es) : uptoN (partP c es) es = aheadN c es := by
  obtain ⟨_, h2⟩ := part_is h
  unfold uptoN aheadN
  rw [h2, show (((aheadP c es).length : Int) + 1).toNat = (aheadP c es).length + 1 by omega]
/-- is it passed over? -/
def skipB (a : List Ev) (k : Nat) (e : Ev) : Bool := !(e.k == 1) || !(e.l == 2) || (decide (partP e.rid a ≥ 0) && decide ((k : Int) > partP e.rid a))
/-- nothing is lacking of one item in another log. -/
def NF (a : List Ev) (k : Nat) (b : List Ev) : Prop := ∀ e, a[k]? = some e → skipB a k e = false → 0 ≤ partP e.rid b → hasP6 (partP e.rid b) e.rid e.it b = true
theorem ahead_mem {a : List Ev} {k : Nat} {e : Ev} (hk : a[k]? = some e) (hs : skipB a k e = false) : e ∈ aheadP e.rid a ∧ e.isB 1 e.rid = true ∧ (e.l == 2) = true := by
  unfold skipB at hs
  simp only [Bool.or_eq_false_iff, Bool.not_eq_false'] at hs
  obtain ⟨⟨h1, h2⟩, h3⟩ := hs
  refine ⟨?_, by simp [Ev.isB, h1], h2⟩
  obtain ⟨hkl, rfl⟩ := List.getElem?_eq_some_iff.1 hk
  have hlt : k < (aheadP a[k].rid a).length := by
    by_cases hp : 0 ≤ partP a[k].rid a
    · obtain ⟨q1, q2⟩ := part_is hp
      rw [q2] at h3
      have h4 : k ≤ (aheadP a[k].rid a).length := Nat.le_of_not_lt fun h => by
        rw [decide_eq_true (by omega : (((aheadP a[k].rid a).length : Nat) : Int) ≥ 0), decide_eq_true (by omega : (k : Int) > (((aheadP a[k].rid a).length : Nat) : Int))] at h3
        exact absurd h3 (by decide)
      by_cases h5 : k < (aheadP a[k].rid a).length
      · exact h5
      · exfalso
        have h5 : k = (aheadP a[k].rid a).length := by omega
        have h6 := tw_next (f := fun e => !e.isB 2 a[k].rid) q1
        have h7 : a[(aheadP a[k].rid a).length]? = some a[k] := by rw [← h5]; exact List.getElem?_eq_getElem hkl
        rw [List.getElem?_eq_getElem q1] at h7
        have h7 := Option.some.inj h7
        have h6 : (!(a[(aheadP a[k].rid a).length]'q1).isB 2 a[k].rid) = false := h6
        have h8 : a[k].isB 2 a[k].rid = true := by
          rw [h7] at h6
          cases hq : a[k].isB 2 a[k].rid with
          | true => rfl
          | false => rw [hq] at h6; cases h6
        simp [Ev.isB] at h8 h1
        omega
    · unfold partP at hp
      by_cases hl : (aheadP a[k].rid a).length < a.length
      · rw [if_pos hl] at hp; omega
      · omega
  have e1 : (aheadP a[k].rid a)[k] = a[k] := by
    have h := aheadP_take a[k].rid a
    have h2 : (aheadP a[k].rid a)[k]? = (a.take (aheadP a[k].rid a).length)[k]? := by rw [← h]
    rw [List.getElem?_eq_getElem hlt, List.getElem?_take_of_lt hlt, List.getElem?_eq_getElem hkl] at h2
    exact Option.some.inj h2
  have h9 := List.getElem_mem hlt
  rw [e1] at h9
  exact h9
theorem kept_of {a b : List Ev} (h : ∀ k, NF a k b) : keptP a b = true := by
  refine keptP_yes fun c hc => ?_
  unfold okC
  have hp := part_of hc
  rw [Bool.not_eq_true']
  refine List.any_eq_false.2 fun x hx => ?_
  obtain ⟨e, he, rfl⟩ := List.mem_map.1 hx
  obtain ⟨h1, h2⟩ := List.mem_filter.1 he
  have hc2 : e.rid = c := by simp [Ev.isB] at h2; exact h2.2
  subst hc2
  have hk1 : (e.k == 1) = true := by simp [Ev.isB] at h2; simpa using h2
  obtain ⟨k, hkl, hke⟩ := List.getElem_of_mem h1
  have hka : a[k]? = some e := by
    have h3 : (aheadP e.rid a)[k]? = (a.take (aheadP e.rid a).length)[k]? := by rw [← aheadP_take]
    rw [List.getElem?_take_of_lt hkl, List.getElem?_eq_getElem hkl, hke] at h3
    exact h3.symm
  unfold lackS
  cases hl : e.it.2.2.1 == 2 with
  | false => simp
  | true =>
    have hsk : skipB a k e = false := by
      unfold skipB
      have hl2 : (e.l == 2) = true := hl
      rw [hk1, hl2]
      simp only [Bool.not_true, Bool.false_or]
      cases hq : decide (partP e.rid a ≥ 0) with
      | false => rfl
      | true =>
        obtain ⟨_, q2⟩ := part_is (of_decide_eq_true hq)
        rw [q2]
        simp
        omega
    have := h k e hka hsk hp
    unfold hasP6 at this
    rw [upto_next hp] at this
    simp [this]
theorem kept_no {a b : List Ev} {k : Nat} {e : Ev} (hk : a[k]? = some e) (hs : skipB a k e = false) (hp : 0 ≤ partP e.rid b) (hh : hasP6 (partP e.rid b) e.rid e.it b = false) : keptP a b = false := by
  obtain ⟨h1, h2, h3⟩ := ahead_mem hk hs
  refine keptP_no (part_ends hp) (c := e.rid) ?_
  unfold okC
  rw [Bool.not_eq_false']
  refine List.any_eq_true.2 ⟨e.it, List.mem_map.2 ⟨e, List.mem_filter.2 ⟨h1, h2⟩, rfl⟩, ?_⟩
  unfold hasP6 at hh
  rw [upto_next hp] at hh
  unfold lackS
  have h4 : (e.it.2.2.1 == 2) = true := h3
  rw [h4, hh]
  rfl
theorem kept_self (a : List Ev) : keptP a a = true := by
  refine keptP_yes fun c hc => ?_
  unfold okC
  rw [Bool.not_eq_true']
  refine List.any_eq_false.2 fun x hx => ?_
  obtain ⟨e, he, rfl⟩ := List.mem_map.1 hx
  obtain ⟨h1, h2⟩ := List.mem_filter.1 he
  have hm : memB e.it (itemsP c (aheadN c a)) = true := by
    refine memB_items.2 ⟨e, ?_, h2, rfl⟩
    unfold aheadN
    refine List.mem_append_left _ ?_
    rw [aheadP_take c a] at h1
    rw [show (aheadP c a).length + 1 = (aheadP c a).length + 1 from rfl, List.take_add]
    exact List.mem_append_left _ h1
  unfold lackS
  rw [hm]
  simp
theorem heldAll_yes {L : List (List Ev)} (h : ∀ i j, i < L.length → j < L.length → ∀ k, NF (lg L i) k (lg L j)) : heldAll L = true := by
  refine range_all fun i hi => range_all fun j hj => ?_
  rw [kept_of (h i j hi hj)]
  simp
theorem heldAll_no {L : List (List Ev)} {i j : Nat} (hi : i < L.length) (hj : j < L.length) (h : keptP (lg L i) (lg L j) = false) : heldAll L = false := by
  refine range_no hi (range_no hj ?_)
  have hne : (j == i) = false := by
    refine beq_eq_false_iff_ne.2 fun e => ?_
    rw [e, kept_self] at h
    cases h
  rw [hne, h]
  rfl
end Go.Proofs.Ytdodeillifoibaa


/- The specification's SafeKept. -/
namespace Go.Proofs.Ytdodeillifoibaa
open Go.RowKit Pl
set_option linter.unusedVariables false
set_option linter.unusedSimpArgs false

theorem Ev.lev {w : World} {g off : Nat} {e : Ev} (h : w.rangeAt g off e.row) : w.cell? ⟨g, off + 3 + 2, none⟩ = some (.int .i64 e.l) := h 5 _ rfl
theorem NF_skip {a b : List Ev} {k : Nat} {e : Ev} (hk : a[k]? = some e) (hs : skipB a k e = true) : NF a k b := fun e' he' hs' => by
  rw [hk] at he'
  obtain rfl := Option.some.inj he'
  rw [hs] at hs'
  cases hs'
theorem NF_none {a b : List Ev} {k : Nat} (hk : a.length ≤ k) : NF a k b := fun e he => by
  rw [List.getElem?_eq_none hk] at he
  cases he
theorem NF_one {a b : List Ev} {k : Nat} {e : Ev} (hk : a[k]? = some e) (h : 0 ≤ partP e.rid b → hasP6 (partP e.rid b) e.rid e.it b = true) : NF a k b := fun e' he' _ hp => by
  rw [hk] at he'
  obtain rfl := Option.some.inj he'
  exact h hp

set_option maxRecDepth 100000 in
set_option maxHeartbeats 32000000 in
theorem spSafeKept_any (x : Wo) (B : Nat) (w : World) (h : Hid (WoO w B x)) (hs : Hid (WoS x)) :
    Calls Try.prog 23 #[.agg #[.slice x.rs.a x.rs.n x.rs.c, .slice x.ds.a x.ds.n x.ds.c, .slice x.ls.a x.ls.n x.ls.c, .slice x.ns.a x.ns.n x.ns.c]] w fun e w' => e = .returned (.bool (heldAll (x.dl.map Dm.lo))) ∧ Below w.heap.size w w' := by
  have LB : Hid (Bx (w.alloc (.cells #[.slice x.rs.a x.rs.n x.rs.c, .slice x.ds.a x.ds.n x.ds.c, .slice x.ls.a x.ls.n x.ls.c, .slice x.ns.a x.ns.n x.ns.c] 44)) w.heap.size 44 [.slice x.rs.a x.rs.n x.rs.c, .slice x.ds.a x.ds.n x.ds.c, .slice x.ls.a x.ls.n x.ls.c, .slice x.ns.a x.ns.n x.ns.c]) := Bx.new w 44 _
  have BW : Hid (Below w.heap.size w (w.alloc (.cells #[.slice x.rs.a x.rs.n x.rs.c, .slice x.ds.a x.ds.n x.ds.c, .slice x.ls.a x.ls.n x.ls.c, .slice x.ns.a x.ns.n x.ns.c] 44))) := (Below.refl _ _).alloc (Nat.le_refl _) _
  have HO : Hid (DmsO (w.alloc (.cells #[.slice x.rs.a x.rs.n x.rs.c, .slice x.ds.a x.ds.n x.ds.c, .slice x.ls.a x.ls.n x.ls.c, .slice x.ns.a x.ns.n x.ns.c] 44)) B x.ds x.dl) := h.out.d.below BW.out
  have HN : Hid (x.ds.n = x.dl.length) := HO.out.r.1
  have hn : x.ds.n ≤ 1048576 := by have := HN.out; have := hs.out.dn; omega
  have HS : Hid (∀ d ∈ x.dl, DmS d) := hs.out.d
  obtain ⟨L, hL⟩ : ∃ L, L = x.dl.map Dm.lo := ⟨_, rfl⟩
  have HL : Hid (L = x.dl.map Dm.lo) := hL
  have HLn : Hid (L.length = x.ds.n) := (by rw [hL, List.length_map]; exact HN.out.symm : L.length = x.ds.n)
  rw [← hL]
  clear h hs hL
  go_enter Try.func23, Try.ntmps23
  go_wp2_with fail
  generalize w.alloc (.cells #[.slice x.rs.a x.rs.n x.rs.c, .slice x.ds.a x.ds.n x.ds.c, .slice x.ls.a x.ls.n x.ls.c, .slice x.ns.a x.ns.n x.ns.c] 44) = W at *
  go_loopw [3] (fun q wr => ∃ i : Nat, i ≤ x.ds.n ∧ q = .int .i64 i ∧ Hid (∀ i', i' < i → ∀ j, j < L.length → ∀ k, NF (lg L i') k (lg L j)) ∧ Hid (Below W.heap.size W wr)) (fun q _ => x.ds.n - (intOf q).toNat)
  case atStart => exact ⟨0, Nat.zero_le _, rfl, fun i' hi' => absurd hi' (by omega), Below.refl _ _⟩
  case round =>
    obtain ⟨i, hi, rfl, hI, hb⟩ := hrel
    have b1 := (LB.out.later hb.out).cell 1
    simp only [List.getElem?_cons_succ, List.getElem?_cons_zero] at b1
    by_cases hlt : i < x.ds.n
    · have hlt2 : i < x.dl.length := by have := HN.out; omega
      obtain ⟨gd, od, had, hgd, _, hrd⟩ := (HO.out.below hb.out).r.2.1 i (by simpa using hlt2)
      obtain ⟨d, hd⟩ : ∃ d, d = x.dl[i] := ⟨_, rfl⟩
      have RD : wr.rangeAt gd (od + i * 24) d.row := by rw [hd]; simpa using hrd
      have c23 := RD 23 _ rfl
      have AD : Hid (x.ds.a = some ⟨gd, od, none⟩) := had
      have OD : Hid (DmO W B d) := (by rw [hd]; exact HO.out.2 _ (List.getElem_mem hlt2) : Dm.O W B d)
      have SD : Hid (DmS d) := (by rw [hd]; exact HS.out _ (List.getElem_mem hlt2) : DmS d)
      obtain ⟨sl, hsl⟩ : ∃ sl, sl = d.ls := ⟨_, rfl⟩
      have EL : Hid (EvsO W B sl d.lo) := (by rw [hsl]; exact OD.out.lo : EvsO W B sl d.lo)
      rw [← hsl] at c23
      clear hsl
      obtain ⟨la, ln, lc⟩ := sl
      dsimp only at c23
      have LI : Hid (lg L i = d.lo) := (by rw [HL.out, lg_dm hlt2, hd] : lg L i = d.lo)
      have hde : x.ds = ⟨some ⟨gd, od, none⟩, x.ds.n, x.ds.c⟩ := by rw [← had]
      have i0 : (0 : Int) ≤ (i : Int) := by omega
      have i1 : (i : Int) < (x.ds.n : Int) := by omega
      have hads : x.ds.a = some ⟨gd, od, none⟩ := had
      clear hrd hgd hd RD hde had
      rw [hads] at b1
      go_wp2_with fail
      have DN : Hid (ln = d.lo.length) := EL.out.r.1
      have hdn : ln ≤ 1048576 := by have := DN.out; have := SD.out.los.1; omega
      clear b1 c23 i0 i1 hads
      generalize hwa : wr = wa at *
      clear hwa
      go_loopw [5] (fun q wr => ∃ k : Nat, k ≤ ln ∧ q = .int .i64 k ∧ Hid (∀ k', k' < k → ∀ j, j < L.length → NF d.lo k' (lg L j)) ∧ Hid (Below W.heap.size W wr)) (fun q _ => ln - (intOf q).toNat)
      case atStart => exact ⟨0, Nat.zero_le _, rfl, fun i' hi' => absurd hi' (by omega), hb⟩
      case round =>
        clear hb
        obtain ⟨k, hk, rfl, hK, hb⟩ := hrel
        by_cases hkl : k < ln
        · have hkl2 : k < d.lo.length := by have := DN.out; omega
          obtain ⟨gl, ol, hal, hgl, _, hrl⟩ := (EL.out.below hb.out).r.2.1 k (by simpa using hkl2)
          obtain ⟨e, he⟩ : ∃ e, e = d.lo[k] := ⟨_, rfl⟩
          have RE0 : wr.rangeAt gl (ol + k * 8) e.row := by rw [he]; simpa using hrl
          have RE : Hid (wr.rangeAt gl (ol + k * 8) e.row) := RE0
          have GE : Hid (gl < wr.heap.size) := hgl
          have EK : Hid (d.lo[k]? = some e) := (by rw [he]; exact List.getElem?_eq_getElem hkl2 : d.lo[k]? = some e)
          have c0 := (Ev.rng RE0).1
          have c1 := (Ev.rng RE0).2.1
          have hal : la = some ⟨gl, ol, none⟩ := hal
          subst hal
          have i0 : (0 : Int) ≤ (k : Int) := by omega
          have i1 : (k : Int) < (ln : Int) := by omega
          clear hrl hgl he RE0
          have PC := spPartAt_any ⟨some ⟨gl, ol, none⟩, ln, lc⟩ d.lo e.rid wr (show Hid (EvsR wr ⟨some ⟨gl, ol, none⟩, ln, lc⟩ d.lo) from (EL.out.below hb.out).r) SD.out.los.1
          go_wp2_with fail
          clear c0 c1
          refine PC.mono ?_
          rintro y w1 ⟨rfl, b1⟩
          have B1 : Hid (Below W.heap.size W w1) := bl_next hb.out b1
          have RE1 : Hid (w1.rangeAt gl (ol + k * 8) e.row) := range_later RE.out GE.out b1
          have GE1 : Hid (gl < w1.heap.size) := Nat.lt_of_lt_of_le GE.out b1.size
          clear b1 hb RE GE PC
          have c0 := (Ev.rng RE1.out).1
          have c5 := Ev.lev RE1.out
          obtain ⟨P, hP⟩ : ∃ P, partP e.rid d.lo = P := ⟨_, rfl⟩
          have HP : Hid (partP e.rid d.lo = P) := hP
          rw [hP]
          clear hP
          have HSK : Hid (skipB d.lo k e = (!(e.k == 1) || !(e.l == 2) || (decide (P ≥ 0) && decide ((k : Int) > P)))) := (by unfold skipB; rw [HP.out] : _ = _)
          have SKP : Hid (skipB d.lo k e = true → ∀ k', k' < k + 1 → ∀ j, j < L.length → NF d.lo k' (lg L j)) := fun hsk k' hk' j hj => by
            by_cases hkk : k' = k
            · subst hkk; exact NF_skip EK.out hsk
            · exact hK.out k' (by omega) j hj
          cases h1 : e.k == 1
          · have h1' : (e.k != 1) = true := by simp [bne, h1]
            go_wp2_with fail
            go_roundw
            case rel => exact ⟨k + 1, by omega, by go_num, SKP.out (by rw [HSK.out, h1]; rfl), B1⟩
            case measure => simp [intOf]; omega
          have h1' : (e.k != 1) = false := by simp [bne, h1]
          cases h2 : e.l == 2
          · have h2' : (e.l != 2) = true := by simp [bne, h2]
            go_wp2_with fail
            go_roundw
            case rel => exact ⟨k + 1, by omega, by go_num, SKP.out (by rw [HSK.out, h2]; simp), B1⟩
            case measure => simp [intOf]; omega
          have h2' : (e.l != 2) = false := by simp [bne, h2]
          by_cases h3 : P ≥ 0 ∧ (k : Int) > P
          · have h3a : decide (P ≥ 0) = true := by simp; omega
            have h3b : decide ((k : Int) > P) = true := by simp; omega
            have hskt : skipB d.lo k e = true := by rw [HSK.out, h3a, h3b]; simp
            have HSKT : Hid (skipB d.lo k e = true) := hskt
            clear h3 hskt
            go_wp2_with fail
            go_roundw
            case rel => exact ⟨k + 1, by omega, by go_num, SKP.out HSKT.out, B1⟩
            case measure => simp [intOf]; omega
          have hskf : skipB d.lo k e = false := by
            rw [HSK.out, h1, h2]
            cases h3a : decide (P ≥ 0) with
            | false => rfl
            | true =>
              have h3b : decide ((k : Int) > P) = false := decide_eq_false fun h => h3 ⟨of_decide_eq_true h3a, h⟩
              rw [h3b]; rfl
          have SKF : Hid (skipB d.lo k e = false) := hskf
          have h3c : decide (P ≥ 0) = false ∨ decide ((k : Int) > P) = false := by
            cases h3a : decide (P ≥ 0) with
            | false => exact .inl rfl
            | true => exact .inr (decide_eq_false fun h => h3 ⟨of_decide_eq_true h3a, h⟩)
          clear hskf h3 SKP HSK
          have hstep : ∀ (V : World → Prop), True := fun _ => trivial
          clear hstep
          rcases (show (decide (P ≥ 0) = false) ∨ (decide (P ≥ 0) = true ∧ decide ((k : Int) > P) = false) by
            cases h3a : decide (P ≥ 0) with
            | false => exact .inl rfl
            | true => exact .inr ⟨rfl, by rcases h3c with h | h; (rw [h] at h3a; cases h3a); exact h⟩) with h3a | ⟨h3a, h3b⟩
          all_goals
            clear h3c
            go_wp2_with fail
            clear c0 c5 h1 h1' h2 h2' h3a i0 i1
            try clear h3b
            generalize hwb : w1 = wb at *
            clear hwb
            go_loopw [8] (fun q wr => ∃ j : Nat, j ≤ x.ds.n ∧ q = .int .i64 j ∧ Hid (∀ j', j' < j → NF d.lo k (lg L j')) ∧ Hid (Below W.heap.size W wr) ∧ Hid (Below wb.heap.size wb wr)) (fun q _ => x.ds.n - (intOf q).toNat)
            case atStart => exact ⟨0, Nat.zero_le _, rfl, fun i' hi' => absurd hi' (by omega), B1, Below.refl _ _⟩
            case round =>
              obtain ⟨j, hj, rfl, hJ, hb, hbb⟩ := hrel
              have b1 := (LB.out.later hb.out).cell 1
              simp only [List.getElem?_cons_succ, List.getElem?_cons_zero] at b1
              by_cases hjl : j < x.ds.n
              · have hjl2 : j < x.dl.length := by have := HN.out; omega
                obtain ⟨gd', od', had', hgd', _, hrd'⟩ := (HO.out.below hb.out).r.2.1 j (by simpa using hjl2)
                obtain ⟨f, hf⟩ : ∃ f, f = x.dl[j] := ⟨_, rfl⟩
                have RD : wr.rangeAt gd' (od' + j * 24) f.row := by rw [hf]; simpa using hrd'
                have c23 := RD 23 _ rfl
                have OF : Hid (DmO W B f) := (by rw [hf]; exact HO.out.2 _ (List.getElem_mem hjl2) : Dm.O W B f)
                have SF : Hid (DmS f) := (by rw [hf]; exact HS.out _ (List.getElem_mem hjl2) : DmS f)
                have LJ : Hid (lg L j = f.lo) := (by rw [HL.out, lg_dm hjl2, hf] : lg L j = f.lo)
                have had : x.ds.a = some ⟨gd', od', none⟩ := had'
                have i0 : (0 : Int) ≤ (j : Int) := by omega
                have i1 : (j : Int) < (x.ds.n : Int) := by omega
                clear hrd' hgd' hf RD had'
                rw [had] at b1
                go_wp2_with fail
                clear b1 c23 i0 i1 had
                refine (spPartAt_any f.ls f.lo e.rid wr (show Hid (EvsR wr f.ls f.lo) from (OF.out.below hb.out).lo.r) SF.out.los.1).mono ?_
                rintro y w2 ⟨rfl, b2⟩
                have B2 : Hid (Below W.heap.size W w2) := bl_next hb.out b2
                have BB2 : Hid (Below wb.heap.size wb w2) := bl_next hbb.out b2
                have RE2 : Hid (w2.rangeAt gl (ol + k * 8) e.row) := range_later RE1.out GE1.out BB2.out
                clear b2 hb hbb
                obtain ⟨Q, hQ⟩ : ∃ Q, partP e.rid f.lo = Q := ⟨_, rfl⟩
                have HQ : Hid (partP e.rid f.lo = Q) := hQ
                rw [hQ]
                clear hQ
                have NXT : Hid ((0 ≤ Q → hasP6 Q e.rid e.it f.lo = true) → ∀ j', j' < j + 1 → NF d.lo k (lg L j')) := fun h j' hj' => by
                  by_cases hjj : j' = j
                  · subst hjj; rw [LJ.out]; exact NF_one EK.out (by rw [HQ.out]; exact h)
                  · exact hJ.out j' (by omega)
                by_cases hq : Q ≥ 0
                · have hqd : decide (Q ≥ 0) = true := by simp; omega
                  have hq1 : Q ≤ 1048576 := by
                    have h1 := (part_is (by rw [HQ.out]; exact hq : 0 ≤ partP e.rid f.lo))
                    rw [HQ.out] at h1
                    have := SF.out.los.1
                    omega
                  have i0 : (0 : Int) ≤ (k : Int) := by omega
                  have i1 : (k : Int) < (ln : Int) := by omega
                  go_wp2_with (first | (refine wpList_ldN rfl 57 _ rfl gl (ol + k * 8 + 3) (by rfl) [.int .i64 e.q, .int .i64 e.f, .int .i64 e.l, .string e.t] (Ev.rng RE2.out).2.2 _ Try.underlying57 rfl Try.sizeI ?_))
                  clear i0 i1
                  refine (spHas_any f.ls f.lo Q e.rid e.q e.f e.l e.t w2 (show Hid (EvsR w2 f.ls f.lo) from (OF.out.below B2.out).lo.r) SF.out.los.1 hq hq1).mono ?_
                  rintro y w3 ⟨rfl, b3⟩
                  have B3 : Hid (Below W.heap.size W w3) := bl_next B2.out b3
                  have BB3 : Hid (Below wb.heap.size wb w3) := bl_next BB2.out b3
                  clear b3 B2 BB2 RE2
                  have HIT : Hid ((e.q, e.f, e.l, e.t) = e.it) := (rfl : (e.q, e.f, e.l, e.t) = e.it)
                  obtain ⟨R, hR⟩ : ∃ R, hasP6 Q e.rid (e.q, e.f, e.l, e.t) f.lo = R := ⟨_, rfl⟩
                  rw [hR]
                  cases R
                  · have HF : Hid (heldAll L = false) := (by
                      refine heldAll_no (i := i) (j := j) (by have := HLn.out; omega) (by have := HLn.out; omega) ?_
                      rw [LI.out, LJ.out]
                      exact kept_no EK.out SKF.out (by rw [HQ.out]; exact hq) (by rw [HQ.out]; exact hR) : heldAll L = false)
                    clear hR NXT
                    go_wp2_with fail
                    go_ret
                    exact ⟨by rw [HF.out]; rfl, bl_next BW.out B3.out⟩
                  · have HR : Hid (hasP6 Q e.rid e.it f.lo = true) := hR
                    clear hR
                    go_wp2_with fail
                    go_roundw
                    case rel => exact ⟨j + 1, by omega, by go_num, NXT.out fun _ => HR.out, B3, BB3⟩
                    case measure => simp [intOf]; omega
                · have hqd : decide (Q ≥ 0) = false := by simp; omega
                  go_wp2_with fail
                  go_roundw
                  case rel => exact ⟨j + 1, by omega, by go_num, NXT.out fun h => absurd h (by omega), B2, BB2⟩
                  case measure => simp [intOf]; omega
              · obtain rfl : j = x.ds.n := by omega
                go_wp2_with fail
                go_roundw
                case rel =>
                  refine ⟨k + 1, by omega, by go_num, fun k' hk' j hj => ?_, hb⟩
                  by_cases hkk : k' = k
                  · subst hkk; exact hJ.out j (by have := HLn.out; omega)
                  · exact hK.out k' (by omega) j hj
                case measure => simp [intOf]; omega
        · obtain rfl : k = ln := by omega
          go_wp2_with fail
          go_roundw
          case rel =>
            refine ⟨i + 1, by omega, by go_num, fun i' hi' j hj kk => ?_, hb⟩
            by_cases hii : i' = i
            · subst hii
              rw [LI.out]
              by_cases hkd : kk < k
              · exact hK.out kk hkd j hj
              · exact NF_none (by have := DN.out; omega)
            · exact hI.out i' (by omega) j hj kk
          case measure => simp [intOf]; omega
    · have HY : Hid (heldAll L = true) := (heldAll_yes fun i' j hi' hj k => hI.out i' (by have := HLn.out; omega) j hj k : heldAll L = true)
      go_wp2_with fail
      go_ret
      exact ⟨by rw [HY.out]; rfl, bl_next BW.out hb.out⟩
end Go.Proofs.Ytdodeillifoibaa


/- The law on SafeKept. -/
namespace Go.Proofs.Ytdodeillifoibaa
open Go.RowKit Pl
set_option linter.unusedVariables false
set_option linter.unusedSimpArgs false

/-- an event without anything but what it says. -/
def pE (e : Ev) : Ev := ⟨e.k, e.rid, e.ms, e.q, e.f, e.l, e.t, e.wi, zSv, zSv⟩
theorem pE_of {a b : List Ev} (h : a.map Ev.pl = b.map Ev.pl) : a.map pE = b.map pE := by
  have e : ∀ l : List Ev, l.map pE = (l.map Ev.pl).map fun p => (⟨p.1, p.2.1, p.2.2.1, p.2.2.2.1.1, p.2.2.2.1.2.1, p.2.2.2.1.2.2.1, p.2.2.2.1.2.2.2, p.2.2.2.2, zSv, zSv⟩ : Ev) := fun l => by rw [List.map_map]; rfl
  rw [e, e, h]
theorem aheadP_pE (c : Int) (es : List Ev) : aheadP c (es.map pE) = (aheadP c es).map pE := by
  unfold aheadP
  rw [List.takeWhile_map]
  rfl
theorem itemsP_pE (c : Int) (es : List Ev) : itemsP c (es.map pE) = itemsP c es := by
  unfold itemsP
  rw [List.filter_map, List.map_map]
  rfl
theorem aheadN_pE (c : Int) (es : List Ev) : aheadN c (es.map pE) = (aheadN c es).map pE := by
  unfold aheadN
  rw [aheadP_pE, List.length_map, ← List.map_take, ← List.map_drop, List.takeWhile_map, List.map_append]
  rfl
theorem keptP_pE (a b : List Ev) : keptP (a.map pE) (b.map pE) = keptP a b := by
  unfold keptP
  rw [List.all_map]
  refine congrArg (fun f => b.all f) (funext fun e => ?_)
  show (!(e.k == 2) || okC (a.map pE) (b.map pE) e.rid) = (!(e.k == 2) || okC a b e.rid)
  unfold okC
  rw [aheadP_pE, aheadN_pE, itemsP_pE, itemsP_pE]
theorem keptP_pl {a b c d : List Ev} (h : a.map Ev.pl = c.map Ev.pl) (k : b.map Ev.pl = d.map Ev.pl) : keptP a b = keptP c d := by
  rw [← keptP_pE a b, ← keptP_pE c d, pE_of h, pE_of k]
theorem heldAll_same {x y : List Dm} (hn : y.length = x.length) (h : ∀ j (a : j < x.length) (b : j < y.length), (x[j]).Same (y[j])) : heldAll (y.map Dm.lo) = heldAll (x.map Dm.lo) := by
  have hl : ∀ i, (lg (y.map Dm.lo) i).map Ev.pl = (lg (x.map Dm.lo) i).map Ev.pl := fun i => by
    by_cases hi : i < x.length
    · rw [lg_dm hi, lg_dm (by omega : i < y.length)]
      exact (h i hi (by omega)).lo.symm
    · unfold lg
      rw [List.getElem?_eq_none (by simp; omega), List.getElem?_eq_none (by simp; omega)]
  unfold heldAll
  rw [List.length_map, List.length_map, hn]
  refine congrArg (fun f => (List.range x.length).all f) (funext fun i => ?_)
  unfold heldAt
  rw [List.length_map, List.length_map, hn]
  refine congrArg (fun f => (List.range x.length).all f) (funext fun j => ?_)
  rw [keptP_pl (hl i) (hl j)]
theorem S_of_pl {α β : Type} {pl : α → β} {S : α → Prop} (hS : ∀ a b, pl a = pl b → S a → S b) {l m : List α} (h : l.map pl = m.map pl) (hs : ∀ e ∈ l, S e) : ∀ e ∈ m, S e := fun e he => by
  have h1 : pl e ∈ l.map pl := by rw [h]; exact List.mem_map_of_mem he
  obtain ⟨f, hf, hp⟩ := List.mem_map.1 h1
  exact hS f e hp (hs f hf)
theorem Wo.Same.small {x y : Wo} (h : x.Same y) (k : WoS x) : WoS y := by
  have l1 := congrArg List.length h.r
  have l2 := congrArg List.length h.l
  have l3 := congrArg List.length h.n
  simp only [List.length_map] at l1 l2 l3
  have := h.dn
  refine ⟨by have := k.rn; omega, S_of_pl (fun a b hp hs => ?_) h.r k.r, by have := k.dn; omega, fun e he => ?_, by have := k.ln; omega, S_of_pl (fun a b hp hs => ?_) h.l k.l, by have := k.nn; omega, S_of_pl (fun a b hp hs => ?_) h.n k.n⟩
  · simp only [Rn.pl, Prod.mk.injEq] at hp
    unfold Rn.S at *
    rw [← hp.2]; exact hs
  · obtain ⟨j, hj, rfl⟩ := List.getElem_of_mem he
    exact (h.d j (by omega) hj).symm.small (k.d _ (List.getElem_mem _))
  · simp only [Lt.pl, Prod.mk.injEq] at hp
    obtain ⟨_, ⟨_, _, _, h2⟩, ⟨_, _, _, _, _, h3⟩, _, _, _, h4⟩ := hp
    unfold Lt.S at *
    rw [← h2, ← h3, ← h4]; exact hs
  · simp only [Ev.pl, Prod.mk.injEq] at hp
    obtain ⟨_, _, h2, ⟨_, _, _, h3⟩, h4⟩ := hp
    unfold Ev.S at *
    rw [← h2, ← h3, ← h4]; exact hs
theorem Wo.Same.symm {x y : Wo} (h : x.Same y) : y.Same x := ⟨h.r.symm, h.dn.symm, fun j a b => (h.d j b a).symm, h.l.symm, h.n.symm⟩
theorem Wo.Same.trans {x y z : Wo} (h : x.Same y) (k : y.Same z) : x.Same z := ⟨h.r.trans k.r, k.dn.trans h.dn, fun j a b => (h.d j a (by have := h.dn; omega)).trans (k.d j (by have := h.dn; omega) b), h.l.trans k.l, h.n.trans k.n⟩

theorem Try.sizeLWo : (Try.prog.info? 37).map (·.size) = some 4 := by kernel_rfl
set_option maxRecDepth 100000 in
set_option maxHeartbeats 32000000 in
theorem lawSafeKept (x : Wo) (w : World) (h0 : Hid (WoR w x)) (hl : Hid (WoL x)) :
    Calls Try.prog 6 #[.agg #[.slice x.rs.a x.rs.n x.rs.c, .slice x.ds.a x.ds.n x.ds.c, .slice x.ls.a x.ls.n x.ls.c, .slice x.ns.a x.ns.n x.ns.c]] w fun e w' => e = .returned (.bool true) ∧ Below w.heap.size w w' := by
  have LA : Hid (Bx (w.alloc (.cells #[.slice x.rs.a x.rs.n x.rs.c, .slice x.ds.a x.ds.n x.ds.c, .slice x.ls.a x.ls.n x.ls.c, .slice x.ns.a x.ns.n x.ns.c] 37)) w.heap.size 37 [.slice x.rs.a x.rs.n x.rs.c, .slice x.ds.a x.ds.n x.ds.c, .slice x.ls.a x.ls.n x.ls.c, .slice x.ns.a x.ns.n x.ns.c]) := by
    have h := Bx.new w 37 [.slice x.rs.a x.rs.n x.rs.c, .slice x.ds.a x.ds.n x.ds.c, .slice x.ls.a x.ls.n x.ls.c, .slice x.ns.a x.ns.n x.ns.c]
    exact h
  have BW : Hid (Below w.heap.size w (w.alloc (.cells #[.slice x.rs.a x.rs.n x.rs.c, .slice x.ds.a x.ds.n x.ds.c, .slice x.ls.a x.ls.n x.ls.c, .slice x.ns.a x.ns.n x.ns.c] 37))) := ((Below.refl _ _).alloc (by simp) _)
  have HR : Hid (WoR (w.alloc (.cells #[.slice x.rs.a x.rs.n x.rs.c, .slice x.ds.a x.ds.n x.ds.c, .slice x.ls.a x.ls.n x.ls.c, .slice x.ns.a x.ns.n x.ns.c] 37)) x) := h0.out.stays BW.out
  obtain ⟨R, hR0⟩ : ∃ R, heldAll (x.dl.map Dm.lo) = R := ⟨_, rfl⟩
  have HD : Hid (heldAll (x.dl.map Dm.lo) = R) := hR0
  clear hR0
  have dOK : (R != R) = false := by simp
  go_enter Try.func6, Try.ntmps6
  go_wp2_with (first | (refine wpList_ldG rfl 37 _ rfl w.heap.size 0 rfl 37 _ LA.out [.slice x.rs.a x.rs.n x.rs.c, .slice x.ds.a x.ds.n x.ds.c, .slice x.ls.a x.ls.n x.ls.c, .slice x.ns.a x.ns.n x.ns.c] rfl _ Try.underlying37 rfl Try.sizeLWo ?_))
  generalize (w.alloc (.cells #[.slice x.rs.a x.rs.n x.rs.c, .slice x.ds.a x.ds.n x.ds.c, .slice x.ls.a x.ls.n x.ls.c, .slice x.ns.a x.ns.n x.ns.c] 37)) = W0 at *
  refine (szWorld_any x _ HR hl).mono ?_
  rintro e w1 ⟨rfl | ⟨z1, rfl, HS⟩, b⟩
  · go_wp2_with fail
    go_ret
    exact ⟨rfl, bl_next BW.out b⟩
  have hd1 : decide ((z1 : Int) < 0) = false := by simp
  have LA : Hid (Bx w1 w.heap.size 37 [.slice x.rs.a x.rs.n x.rs.c, .slice x.ds.a x.ds.n x.ds.c, .slice x.ls.a x.ls.n x.ls.c, .slice x.ns.a x.ns.n x.ns.c]) := LA.out.later b
  have BW : Hid (Below w.heap.size w w1) := bl_next BW.out b
  have HR : Hid (WoR w1 x) := HR.out.stays b
  clear b
  go_wp2_with (first | (refine wpList_ldG rfl 37 _ rfl w.heap.size 0 rfl 37 _ LA.out [.slice x.rs.a x.rs.n x.rs.c, .slice x.ds.a x.ds.n x.ds.c, .slice x.ls.a x.ls.n x.ls.c, .slice x.ns.a x.ns.n x.ns.c] rfl _ Try.underlying37 rfl Try.sizeLWo ?_))
  clear hd1
  refine (toWorld_any x _ HR HS).mono ?_
  rintro e w2 ⟨y2, rfl, e2, o2, b⟩
  have O2 : Hid (WoO w2 w1.heap.size y2) := o2
  have E2 : Hid (x.Same y2) := e2
  have Q2 : Hid (heldAll (y2.dl.map Dm.lo) = R) := (heldAll_same e2.dn e2.d).trans HD.out
  clear o2 e2
  have z_w2 : w1.heap.size ≤ w2.heap.size := b.size
  have LA : Hid (Bx w2 w.heap.size 37 [.slice x.rs.a x.rs.n x.rs.c, .slice x.ds.a x.ds.n x.ds.c, .slice x.ls.a x.ls.n x.ls.c, .slice x.ns.a x.ns.n x.ns.c]) := LA.out.later b
  have BW : Hid (Below w.heap.size w w2) := bl_next BW.out b
  have HR : Hid (WoR w2 x) := HR.out.stays b
  clear b
  go_wp2_with fail
  refine (spSafeKept_any y2 _ _ O2 (show Hid (WoS y2) from E2.out.small HS.out)).mono ?_
  rintro e w3 ⟨rfl, b⟩
  have z_w3 : w2.heap.size ≤ w3.heap.size := b.size
  have LA : Hid (Bx w3 w.heap.size 37 [.slice x.rs.a x.rs.n x.rs.c, .slice x.ds.a x.ds.n x.ds.c, .slice x.ls.a x.ls.n x.ls.c, .slice x.ns.a x.ns.n x.ns.c]) := LA.out.later b
  have BW : Hid (Below w.heap.size w w3) := bl_next BW.out b
  have HR : Hid (WoR w3 x) := HR.out.stays b
  have O2 : Hid (WoO w3 w1.heap.size y2) := O2.out.below b
  clear b
  simp only [Q2.out]
  clear O2 E2 Q2
  go_wp2_with (first | (refine wpList_ldG rfl 37 _ rfl w.heap.size 0 rfl 37 _ LA.out [.slice x.rs.a x.rs.n x.rs.c, .slice x.ds.a x.ds.n x.ds.c, .slice x.ls.a x.ls.n x.ls.c, .slice x.ns.a x.ns.n x.ns.c] rfl _ Try.underlying37 rfl Try.sizeLWo ?_))
  refine (toWorld_any x _ HR HS).mono ?_
  rintro e w4 ⟨yx, rfl, ex, ox, b⟩
  have XO : Hid (WoO w4 w3.heap.size yx) := ox
  have EX : Hid (x.Same yx) := ex
  have QX : Hid (heldAll (yx.dl.map Dm.lo) = R) := (heldAll_same ex.dn ex.d).trans HD.out
  clear ox ex
  have z_w4 : w3.heap.size ≤ w4.heap.size := b.size
  have LA : Hid (Bx w4 w.heap.size 37 [.slice x.rs.a x.rs.n x.rs.c, .slice x.ds.a x.ds.n x.ds.c, .slice x.ls.a x.ls.n x.ls.c, .slice x.ns.a x.ns.n x.ns.c]) := LA.out.later b
  have BW : Hid (Below w.heap.size w w4) := bl_next BW.out b
  have HR : Hid (WoR w4 x) := HR.out.stays b
  clear b
  have hz : Hid (Bx (w4.alloc (.cells #[.slice none 0 0, .slice none 0 0, .slice none 0 0, .slice none 0 0] 44)) w4.heap.size 44 [.slice none 0 0, .slice none 0 0, .slice none 0 0, .slice none 0 0]) := Bx.new w4 44 _
  go_wp2_with (first | (refine wpList_stB rfl 44 _ _ rfl w4.heap.size 0 rfl 44 _ hz.out [.slice yx.rs.a yx.rs.n yx.rs.c, .slice yx.ds.a yx.ds.n yx.ds.c, .slice yx.ls.a yx.ls.n yx.ls.c, .slice yx.ns.a yx.ns.n yx.ns.c] rfl (by simp) Try.sizeWo6 rfl [.slice yx.rs.a yx.rs.n yx.rs.c, .slice yx.ds.a yx.ds.n yx.ds.c, .slice yx.ls.a yx.ls.n yx.ls.c, .slice yx.ns.a yx.ns.n yx.ns.c] rfl ?_; intro WX OB TB; have b : Below w4.heap.size w4 WX := ((Below.refl _ _).alloc (Nat.le_refl _) _).trans (TB.below (Nat.le_refl _)); have XB : Hid (Bx WX w4.heap.size 44 [.slice yx.rs.a yx.rs.n yx.rs.c, .slice yx.ds.a yx.ds.n yx.ds.c, .slice yx.ls.a yx.ls.n yx.ls.c, .slice yx.ns.a yx.ns.n yx.ns.c]) := OB; have z_WX : w4.heap.size ≤ WX.heap.size := b.size; have LA : Hid (Bx WX w.heap.size 37 [.slice x.rs.a x.rs.n x.rs.c, .slice x.ds.a x.ds.n x.ds.c, .slice x.ls.a x.ls.n x.ls.c, .slice x.ns.a x.ns.n x.ns.c]) := LA.out.later b; have BW : Hid (Below w.heap.size w WX) := bl_next BW.out b; have HR : Hid (WoR WX x) := HR.out.stays b; have XO : Hid (WoO WX w3.heap.size yx) := XO.out.below b; clear OB TB b; refine Stp.here ?_))
  refine Stp.go ?_
  clear hz
  have zl_XB : w4.heap.size < WX.heap.size := XB.out.lt
  generalize hg_XB : w4.heap.size = gXB at *
  have SX : Hid (WoS yx) := EX.out.small HS.out
  go_wp2_with (first | (refine wpList_ldG rfl 44 _ rfl gXB 0 rfl 44 _ XB.out [.slice yx.rs.a yx.rs.n yx.rs.c, .slice yx.ds.a yx.ds.n yx.ds.c, .slice yx.ls.a yx.ls.n yx.ls.c, .slice yx.ns.a yx.ns.n yx.ns.c] rfl _ Try.underlying44 rfl Try.sizeWo6 ?_))
  refine (safeKeptI_any yx _ _ XO SX).mono ?_
  rintro e w6 ⟨rfl, b⟩
  have z_w6 : WX.heap.size ≤ w6.heap.size := b.size
  have LA : Hid (Bx w6 w.heap.size 37 [.slice x.rs.a x.rs.n x.rs.c, .slice x.ds.a x.ds.n x.ds.c, .slice x.ls.a x.ls.n x.ls.c, .slice x.ns.a x.ns.n x.ns.c]) := LA.out.later b
  have BW : Hid (Below w.heap.size w w6) := bl_next BW.out b
  have HR : Hid (WoR w6 x) := HR.out.stays b
  have XO : Hid (WoO w6 w3.heap.size yx) := XO.out.below b
  have XB : Hid (Bx w6 gXB 44 [.slice yx.rs.a yx.rs.n yx.rs.c, .slice yx.ds.a yx.ds.n yx.ds.c, .slice yx.ls.a yx.ls.n yx.ls.c, .slice yx.ns.a yx.ns.n yx.ns.c]) := XB.out.later b
  clear b
  simp only [QX.out]
  go_wp2_with fail
  have c : Below w6.heap.size w6 w6.drew := (Below.refl _ _).drew
  refine wp_region_held_drew (S := fun w' => Below w6.heap.size w6 w') (by kernel_rfl) c (fun hHeld => ?_)
  refine wpAnyH_take (i := 0) (v := _) rfl (by kernel_rfl) (by kernel_rfl) (by kernel_rfl) (fun _ _ _ h => h) (ld_yield (by rfl) 44 _ rfl gXB 0 rfl 44 _ (fun w hS => XB.out.later hS) [.slice yx.rs.a yx.rs.n yx.rs.c, .slice yx.ds.a yx.ds.n yx.ds.c, .slice yx.ls.a yx.ls.n yx.ls.c, .slice yx.ns.a yx.ns.n yx.ns.c] rfl _ Try.underlying44 rfl Try.sizeWo6) (by assumption) ?_
  try simp only [Act.put, List.getElem_toArray, List.getElem_cons_zero, List.getElem_cons_succ, List.setIfInBounds_toArray, List.set_cons_zero, List.set_cons_succ]
  refine wpAnyH_take (i := 1) (v := _) rfl (by kernel_rfl) (by kernel_rfl) (by kernel_rfl) (fun _ _ _ h => h) (ld_yield (by rfl) 37 _ rfl w.heap.size 0 rfl 37 _ (fun w hS => LA.out.later hS) [.slice x.rs.a x.rs.n x.rs.c, .slice x.ds.a x.ds.n x.ds.c, .slice x.ls.a x.ls.n x.ls.c, .slice x.ns.a x.ns.n x.ns.c] rfl _ Try.underlying37 rfl Try.sizeLWo) (by assumption) ?_
  try simp only [Act.put, List.getElem_toArray, List.getElem_cons_zero, List.getElem_cons_succ, List.setIfInBounds_toArray, List.set_cons_zero, List.set_cons_succ]
  refine wpAnyH_ready (rs := [2]) (by kernel_rfl) (by simp) ?_
  refine AllReadyH.cons (i := 2) rfl (fun K hK => ?_) AllReadyH.nil
  rw [if_pos (by rfl)]
  simp only [List.getElem_toArray, List.getElem_cons_zero, List.getElem_cons_succ]
  go_simp
  refine (toWorld_any x _ (show Hid (WoR w6.drew x) from HR.out.stays c) HS).mono ?_
  rintro e y1 ⟨yt, rfl, et, ot, b1⟩
  have OT : Hid (WoO y1 _ yt) := ot
  have ET : Hid (yx.Same yt) := EX.out.symm.trans et
  have c : Below w6.heap.size w6 y1 := bl_next c b1
  refine hK.out _ _ (c) (fun hHeld => ?_)
  clear hK K
  try simp only [Act.put, List.getElem_toArray, List.getElem_cons_zero, List.getElem_cons_succ, List.setIfInBounds_toArray, List.set_cons_zero, List.set_cons_succ]
  clear ot et b1
  refine wpAnyH_ready (rs := [3]) (by kernel_rfl) (by simp) ?_
  refine AllReadyH.cons (i := 3) rfl (fun K hK => ?_) AllReadyH.nil
  rw [if_pos (by rfl)]
  simp only [List.getElem_toArray, List.getElem_cons_zero, List.getElem_cons_succ]
  go_simp
  refine (eqWo_any yx yt _ _ _ (show Hid (WoO y1 w3.heap.size yx) from XO.out.below c) OT ET SX).mono ?_
  rintro e v2 ⟨rfl, b1⟩
  have c : Below w6.heap.size w6 v2 := bl_next c b1
  refine hK.out _ _ (c) (fun hHeld => ?_)
  clear hK K
  try simp only [Act.put, List.getElem_toArray, List.getElem_cons_zero, List.getElem_cons_succ, List.setIfInBounds_toArray, List.set_cons_zero, List.set_cons_succ]
  clear b1
  refine wpAnyH_take (i := 4) (v := ?v4b3) rfl (by kernel_rfl) (by kernel_rfl) (by kernel_rfl) (fun _ _ _ h => h) (Or.inl ⟨by rfl, ?hy4b3⟩) (by assumption) ?_
  case hy4b3 => (intro w hSw; (try dsimp only at hSw); simp only [List.getElem_toArray, List.getElem_cons_zero, List.getElem_cons_succ]; go_simp; try with_reducible rfl)
  try simp only [Act.put, List.getElem_toArray, List.getElem_cons_zero, List.getElem_cons_succ, List.setIfInBounds_toArray, List.set_cons_zero, List.set_cons_succ]
  refine wpAnyH_done (by kernel_rfl) ?_ _
  have LA : Hid (Bx v2 w.heap.size 37 [.slice x.rs.a x.rs.n x.rs.c, .slice x.ds.a x.ds.n x.ds.c, .slice x.ls.a x.ls.n x.ls.c, .slice x.ns.a x.ns.n x.ns.c]) := LA.out.later c
  have BW : Hid (Below w.heap.size w v2) := bl_next BW.out c
  clear c hHeld OT ET
  go_wp2_with fail
  go_ret
  exact ⟨rfl, BW.out⟩
end Go.Proofs.Ytdodeillifoibaa



