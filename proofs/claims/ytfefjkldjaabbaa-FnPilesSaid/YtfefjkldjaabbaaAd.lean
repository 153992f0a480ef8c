/- The walk over a piece that comes to a pile: nothing comes of it; it begins the pile anew or is the next one; it is the last one or not. -/
import Derived.Test.YtfefjkldjaabbaaPa
import Derived.Test.YtfefjkldjaabbaaPb
import Derived.Deep.RegionLaw
namespace Go.Proofs.Ytfefjkldjaabbaa
open Go.RowKit Pl
set_option linter.unusedVariables false

theorem Try.sizeP : (Try.prog.info? 35).map (·.size) = some 3 := by kernel_rfl
theorem PiB.grown {w w' : World} {g B : Nat} {num cnt : Int} {s : Sv} {v : Value} {xs : List ByteArray} (h : PiB w g num cnt s) (hO : OwnS w B v xs) (hg : w.grownBy w' v.ownBlock) : PiB w' g num cnt s := Bx.grown h hg fun e => bx_s_ne hO h (by decide) e.symm
theorem own_cap {w : World} {B g n cap : Nat} {s : Sv} {ts : List ByteArray} (h : OwnS w B s.v ts) (hv : s.v = .slice (some ⟨g, 0, none⟩) n cap) : ts.length ≤ cap := by
  rcases h.2 with ⟨h1, _⟩ | ⟨g', cap', cur, h1, h2⟩
  · rw [hv] at h1; cases h1
  · rw [hv] at h1
    cases h1
    exact h2.2.2.1
theorem gr_set {S : Nat → Prop} (g : Nat) (w : World) (j : Nat) (u : Value) (hS : S g) : Gr S w (w.setCell ⟨g, j, none⟩ u) :=
  have T := (TurnAt.refl g w).setCell j u
  ⟨T.os, T.tape, T.output, by rw [T.size]; exact Nat.le_refl _, fun k hk hn => T.block k (fun e => hn (e ▸ hS))⟩
theorem sjoin_own (s : Sv) (ts : List ByteArray) (B : Nat) (w : World) (h : Hid (OwnS w B s.v ts)) (hl : ts.length ≤ 1000) (h0 : 0 < ts.length) (hs : ∀ t ∈ ts, t.size ≤ 1048576) :
    Calls Try.prog 59 #[.slice s.a s.n s.c, .string ⟨#[]⟩] w fun e w' => e = .returned (.string (catL ts)) ∧ Below w.heap.size w w' := by
  obtain ⟨g, cap, hv, _, hg, hc, _⟩ := h.out.some h0
  have hcap := own_cap h.out hv
  unfold Sv.v at hv
  rw [hv]
  have hc' : ∀ (j : Nat) x, ts[j]? = some x → w.cell? ⟨g, 0 + j, none⟩ = some (.string x) := fun j x hj => by
    obtain ⟨hj1, hj2⟩ := List.getElem?_eq_some_iff.1 hj
    rw [Nat.zero_add, hc j hj1, hj2]
  have hb := catL_len ts 1048576 hs
  have he := catL_join ts
  have := sjoin_any g 0 cap ts (ByteArray.mk #[]) w hc' hg (by omega) hcap (by
    have e2 : Lib.join (ts.map (·.data.toList)) (ByteArray.mk #[]).data.toList = (catL ts).data.toList := by rw [← he]
    rw [e2]
    have : ts.length * 1048576 ≤ 1000 * 1048576 := Nat.mul_le_mul_right _ hl
    omega)
  rw [he] at this
  exact this
/-- what is left when a text has come to a pile. -/
def AddPost (B g : Nat) (p : Pi) (s : Sv) (x : ByteArray) (w : World) (e : Ending) (w' : World) : Prop :=
  ∃ s' : Sv, e = .returned (.tuple #[.string (addP p x).2.1, .bool (addP p x).2.2]) ∧ PiB w' g (addP p x).1.num (addP p x).1.cnt s' ∧ OwnS w' B s'.v (addP p x).1.ps ∧
    (∀ k, s'.v.ownBlock = some k → s.v.ownBlock = some k ∨ w.heap.size ≤ k) ∧ Gr (fun k => k = g ∨ s.v.ownBlock = some k) w w'
theorem sv_form {w : World} {B : Nat} {v : Value} {xs : List ByteArray} (h : OwnS w B v xs) : ∃ s : Sv, v = s.v ∧ s.n = xs.length := by
  obtain ⟨a, c, rfl⟩ := h.form; exact ⟨⟨a, xs.length, c⟩, rfl, rfl⟩
theorem sv_len {w : World} {B : Nat} {s : Sv} {xs : List ByteArray} (h : OwnS w B s.v xs) : s.n = xs.length := by
  obtain ⟨a, c, h1⟩ := h.form; unfold Sv.v at h1; simp only [Value.slice.injEq] at h1; exact h1.2.1
theorem ownS_none (w : World) (B : Nat) : OwnS w B (.slice none 0 0) [] := ⟨by simp, .inl ⟨rfl, rfl⟩⟩
theorem addPost_same {B g : Nat} {p : Pi} {s : Sv} {x : ByteArray} {w w' : World} (hB : PiB w g p.num p.cnt s) (hO : OwnS w B s.v p.ps) (hb : Below w.heap.size w w') (h : addP p x = (p, ByteArray.empty, false)) :
    AddPost B g p s x w (.returned (.tuple #[.string ⟨#[]⟩, .bool false])) w' := by
  refine ⟨s, ?_, ?_, ?_, fun k hk => .inl hk, gr_below hb⟩
  · rw [h]; rfl
  · rw [h]; exact hB.later hb
  · rw [h]; exact ownS_later hO hb

set_option maxRecDepth 100000 in
set_option maxHeartbeats 2000000 in
theorem add_none (p : Pi) (x : ByteArray) (g B : Nat) (s : Sv) (w : World) (hB : Hid (PiB w g p.num p.cnt s)) (hO : Hid (OwnS w B s.v p.ps)) (hx : x.size ≤ 1048576) (hp : Hid (pcP x = none)) :
    Calls Try.prog 44 #[.pointer (some ⟨g, 0, none⟩), .string x] w fun e w' => AddPost B g p s x w e w' := by
  go_enter Try.func44, Try.ntmps44
  go_wp2_with fail
  refine (readPiece_no x w hx hp).mono ?_
  rintro e w1 ⟨rfl, hb1⟩
  have B1 : Hid (Below w.heap.size w w1) := hb1
  clear hb1
  go_wp2_with fail
  go_ret2
  exact addPost_same hB.out hO.out (B1.out.alloc B1.out.size _) (addP_none hp.out)

set_option maxRecDepth 100000 in
set_option maxHeartbeats 4000000 in
theorem add_no (p : Pi) (x t : ByteArray) (n q c g B : Nat) (s : Sv) (w : World) (hB : Hid (PiB w g p.num p.cnt s)) (hO : Hid (OwnS w B s.v p.ps)) (hps : Hid p.short) (hx : x.size ≤ 1048576) (hp : Hid (pcP x = some (n, q, c, t))) (hq : q ≠ 0) (hf : Hid (fitsB p n q c = false)) :
    Calls Try.prog 44 #[.pointer (some ⟨g, 0, none⟩), .string x] w fun e w' => AddPost B g p s x w e w' := by
  have hr := pcP_right hp.out
  have hsn := sv_len hO.out
  have HN : Hid (s.n = p.ps.length) := hsn
  clear hsn
  go_enter Try.func44, Try.ntmps44
  go_wp2_with fail
  refine (readPiece_yes x n q c t w hx hp).mono ?_
  rintro e w1 ⟨rfl, hb1⟩
  have B1 : Hid (Below w.heap.size w (w1.alloc (.cells #[.int .i64 n, .int .i64 q, .int .i64 c, .string t] 62))) := hb1.alloc hb1.size _
  have Z1 : Hid ((w1.alloc (.cells #[.int .i64 n, .int .i64 q, .int .i64 c, .string t] 62)).heap.size = w1.heap.size + 1 ∧ w.heap.size ≤ w1.heap.size) := ⟨by simp, hb1.size⟩
  have X1 : Hid (PeAt (w1.alloc (.cells #[.int .i64 n, .int .i64 q, .int .i64 c, .string t] 62)) w1.heap.size n q c t) := heap_alloc_new w1 _
  have P1 : Hid (PiB (w1.alloc (.cells #[.int .i64 n, .int .i64 q, .int .i64 c, .string t] 62)) g p.num p.cnt s) := hB.out.later B1.out
  have O1 : Hid (OwnS (w1.alloc (.cells #[.int .i64 n, .int .i64 q, .int .i64 c, .string t] 62)) B s.v p.ps) := ownS_later hO.out B1.out
  have GX : g < w1.heap.size := Nat.lt_of_lt_of_le hB.out.lt hb1.size
  clear hb1
  obtain ⟨x0, x1, x2, x3⟩ := X1.out.cells
  have q0 : ((q : Int) == 0) = false := by simp; omega
  go_wp2_with fail
  generalize w1.alloc (.cells #[.int .i64 n, .int .i64 q, .int .i64 c, .string t] 62) = W1 at *
  refine (awaits_no p n q c g t s W1 P1 HN.out hq hf.out).mono ?_
  rintro e w2 ⟨rfl, hb2⟩
  have B2 : Hid (Below w.heap.size w w2) := B1.out.trans (hb2.mono B1.out.size)
  clear hb2 x0 x1 x2 x3
  go_wp2_with fail
  go_ret2
  exact addPost_same hB.out hO.out B2.out (addP_no hp.out hf.out)

set_option maxRecDepth 100000 in
set_option maxHeartbeats 4000000 in
theorem add_more0 (p : Pi) (x t : ByteArray) (n q c g B : Nat) (s : Sv) (w : World) (hB : Hid (PiB w g p.num p.cnt s)) (hO : Hid (OwnS w B s.v p.ps)) (hps : Hid p.short) (hx : x.size ≤ 1048576) (hp : Hid (pcP x = some (n, q, c, t))) (hq : q = 0) (hf : Hid (fitsB p n q c = true)) (hBw : B ≤ w.heap.size) (hc : q + 1 ≠ c) :
    Calls Try.prog 44 #[.pointer (some ⟨g, 0, none⟩), .string x] w fun e w' => AddPost B g p s x w e w' := by
  subst hq
  have hr := pcP_right hp.out
  have hbl := base_len hp.out hf.out
  have HBL : Hid ((baseP p 0).length = 0 ∧ 0 ≤ 9) := hbl
  have hff := of_decide_eq_true hf.out
  have HFF : Hid (0 = 0 ∨ ((n : Int) = p.num ∧ (c : Int) = p.cnt ∧ 0 = p.ps.length)) := hff
  have HC : Hid (0 + 1 ≠ c) := hc
  have hq9 : 0 ≤ 9 := hbl.2
  clear hff hbl hc
  have hsn := sv_len hO.out
  have HN : Hid (s.n = p.ps.length) := hsn
  clear hsn
  go_enter Try.func44, Try.ntmps44
  go_wp2_with fail
  refine (readPiece_yes x n 0 c t w hx hp).mono ?_
  rintro e w1 ⟨rfl, hb1⟩
  have B1 : Hid (Below w.heap.size w (w1.alloc (.cells #[.int .i64 n, .int .i64 0, .int .i64 c, .string t] 62))) := hb1.alloc hb1.size _
  have Z1 : Hid ((w1.alloc (.cells #[.int .i64 n, .int .i64 0, .int .i64 c, .string t] 62)).heap.size = w1.heap.size + 1 ∧ w.heap.size ≤ w1.heap.size) := ⟨by simp, hb1.size⟩
  have X1 : Hid (PeAt (w1.alloc (.cells #[.int .i64 n, .int .i64 0, .int .i64 c, .string t] 62)) w1.heap.size n 0 c t) := heap_alloc_new w1 _
  have P1 : Hid (PiB (w1.alloc (.cells #[.int .i64 n, .int .i64 0, .int .i64 c, .string t] 62)) g p.num p.cnt s) := hB.out.later B1.out
  have O1 : Hid (OwnS (w1.alloc (.cells #[.int .i64 n, .int .i64 0, .int .i64 c, .string t] 62)) B s.v p.ps) := ownS_later hO.out B1.out
  have GX : g < w1.heap.size := Nat.lt_of_lt_of_le hB.out.lt hb1.size
  clear hb1
  obtain ⟨x0, x1, x2, x3⟩ := X1.out.cells
  have q0 : ((0 : Int) == 0) = true := rfl
  go_wp2_with (first | (refine wpList_stB rfl 35 _ _ rfl g 0 rfl 35 _ P1.out [.int .i64 n, .int .i64 c, .slice none 0 0] rfl (by simp) Try.sizeP rfl [.int .i64 n, .int .i64 c, .slice none 0 0] rfl ?_; intro W2 OB TB; have P2 : Hid (PiB W2 g n c ⟨none, 0, 0⟩) := OB; have T2 : Hid (TurnAt g (w1.alloc (.cells #[.int .i64 n, .int .i64 0, .int .i64 c, .string t] 62)) W2) := TB; have X2 : Hid (PeAt W2 w1.heap.size n 0 c t) := (TB.block _ (by omega)).trans X1.out; have y0 := X2.out.cells.1; have y1 := X2.out.cells.2.1; have y2 := X2.out.cells.2.2.1; have y3 := X2.out.cells.2.2.2; clear OB TB))
  have G2 : Hid (Gr (fun k => k = g ∨ s.v.ownBlock = some k) w W2) := (gr_below B1.out).trans ⟨T2.out.os, T2.out.tape, T2.out.output, by rw [T2.out.size]; exact Nat.le_refl _, fun k hk hn => T2.out.block k (fun e => hn (.inl e))⟩
  have O2 : Hid (OwnS W2 B (Sv.v ⟨none, 0, 0⟩) (baseP p 0)) := by
    unfold baseP; rw [if_pos rfl]; exact ownS_none W2 B
  have N2 : Hid (∀ k, (Sv.v ⟨none, 0, 0⟩).ownBlock = some k → s.v.ownBlock = some k) := fun k hk => by cases hk
  clear P1 O1 X1 T2 B1 q0 x0 x1 x2 x3 y0 y1 y2 y3
  generalize hSV : (⟨none, 0, 0⟩ : Sv) = sv at *
  have hsq : Hid ((0 : Int) = sv.n) := by rw [← hSV]; rfl
  clear hSV
  refine (awaits_yes n c n 0 c g t sv W2 P2 rfl rfl hsq.out).mono ?_
  rintro e w3 ⟨rfl, hb3⟩
  have P3n : Hid (PiB w3 g n c sv) := P2.out.later hb3
  have X3n : Hid (PeAt w3 w1.heap.size n 0 c t) := X2.out.stays hb3 X2.out.lt
  have P3 : Hid (PiB w3.drew g n c sv) := P2.out.later hb3.drew
  have X3 : Hid (PeAt w3.drew w1.heap.size n 0 c t) := X2.out.stays hb3.drew X2.out.lt
  have O3 : Hid (OwnS w3.drew B sv.v (baseP p 0)) := World.ownsRow.drew (ownS_later O2.out hb3)
  have G3 : Hid (Gr (fun k => k = g ∨ s.v.ownBlock = some k) w w3.drew) := G2.out.trans (gr_below hb3.drew)
  have Z3 : Hid (B ≤ w3.drew.heap.size) := Nat.le_trans hBw G3.out.size
  clear P2 X2 O2 G2 hb3
  go_wp2_with fail
  have x3 : w3.cell? ⟨w1.heap.size, 3, none⟩ = some (.string t) := X3.out.cells.2.2.2
  have g2 : w3.cell? ⟨g, 2, none⟩ = some (.slice sv.a sv.n sv.c) := P3.out.cells.2.2
  have XA : ∀ o, (w3.alloc o).cell? ⟨w1.heap.size, 3, none⟩ = some (.string t) := fun o => (X3n.out.stays ((Below.refl w3.heap.size w3).alloc (Nat.le_refl _) o) X3n.out.lt).cells.2.2.2
  have GA : ∀ o, (w3.alloc o).cell? ⟨g, 2, none⟩ = some (.slice sv.a sv.n sv.c) := fun o => (P3n.out.later ((Below.refl w3.heap.size w3).alloc (Nat.le_refl _) o)).cells.2.2
  have FA : ∀ o k, (w3.alloc o).frozen? ⟨g, k, none⟩ = false := fun o k => (P3n.out.later ((Below.refl w3.heap.size w3).alloc (Nat.le_refl _) o)).frozen k
  have hlen : (baseP p 0).length < 4000000 := by have := HBL.out; omega
  go_region_law (first
    | (refine step_pushS (by rfl) _ _ 26 (by rfl) Try.underlying26 Try.info9 B sv.v (baseP p 0) (by rfl) t (w := w3.drew) (by rfl) O3.out (by rfl) hlen Z3.out ?_; intro v4 w4 O4 G4 N4; obtain ⟨s4, rfl, -⟩ := sv_form O4; have P4 := PiB.grown (P3.out.later ((Below.refl w3.drew.heap.size w3.drew).alloc (Nat.le_refl _) (.cells #[.string t] 9))) (O3.out.alloc _) G4; have h40 := P4.cells.1; have h41 := P4.cells.2.1; have h42 := P4.cells.2.2; have f42 := P4.frozen 2; unfold Sv.v at *))
  all_goals
    have P5 : Hid (PiB (w4.setCell ⟨g, 2, none⟩ (.slice s4.a s4.n s4.c)) g n c s4) := Bx.set P4 2 (.slice s4.a s4.n s4.c)
    have X4 : Bx w4 w1.heap.size 62 [.int .i64 n, .int .i64 0, .int .i64 c, .string t] := Bx.grown (Bx.later X3.out ((Below.refl w3.drew.heap.size w3.drew).alloc (Nat.le_refl _) (.cells #[.string t] 9))) G4 (fun e => bx_s_ne (O3.out.alloc (.cells #[.string t] 9)) (Bx.later (T := 62) (cs := [.int .i64 n, .int .i64 0, .int .i64 c, .string t]) X3.out ((Below.refl w3.drew.heap.size w3.drew).alloc (Nat.le_refl _) (.cells #[.string t] 9))) (by decide) e.symm)
    have X5 : Hid (PeAt (w4.setCell ⟨g, 2, none⟩ (.slice s4.a s4.n s4.c)) w1.heap.size n 0 c t) := Bx.other X4 (by omega)
    have O5 : Hid (OwnS (w4.setCell ⟨g, 2, none⟩ (.slice s4.a s4.n s4.c)) B s4.v (baseP p 0 ++ [t])) := Pl.OwnS.past O4 P4 ((TurnAt.refl g w4).setCell 2 _) (by decide)
    have G5 : Hid (Gr (fun k => k = g ∨ s.v.ownBlock = some k) w (w4.setCell ⟨g, 2, none⟩ (.slice s4.a s4.n s4.c))) := ((G3.out.trans (gr_below ((Below.refl w3.drew.heap.size w3.drew).alloc (Nat.le_refl _) (.cells #[.string t] 9)))).trans (Gr.ofGrown G4 (fun k hk => .inr (N2.out k hk)))).trans (gr_set g w4 2 _ (.inl rfl))
    have N5 : Hid (∀ k, s4.v.ownBlock = some k → s.v.ownBlock = some k ∨ w.heap.size ≤ k) := fun k hk => by
      rcases N4 with h | h
      · exact .inl (N2.out k (by rw [← hk]; exact h.symm))
      · have e : some k = some (w3.drew.heap.size + 1) := by rw [← hk]; exact h
        have := G3.out.size
        simp only [Option.some.injEq] at e
        exact .inr (by omega)
    generalize w4.setCell ⟨g, 2, none⟩ (.slice s4.a s4.n s4.c) = W5 at *
    clear P3n X3n P3 X3 O3 G3 Z3 O4 G4 N4 P4 h40 h41 h42 f42 X4 x3 g2 XA GA FA
    obtain ⟨x0, x1, x2, x3⟩ := X5.out.cells
    go_wp2_with fail
    refine (isLast_any n 0 c t W5 (by omega) (by omega)).mono ?_
    rw [decide_eq_false (show ¬ 0 + 1 = c from HC.out)]
    rintro e w6 ⟨rfl, hb6⟩
    have P6 : Hid (PiB w6 g n c s4) := P5.out.later hb6
    have O6 : Hid (OwnS w6 B s4.v (baseP p 0 ++ [t])) := ownS_later O5.out hb6
    have G6 : Hid (Gr (fun k => k = g ∨ s.v.ownBlock = some k) w w6) := G5.out.trans (gr_below hb6)
    clear P5 X5 O5 G5 hb6 x0 x1 x2 x3
    go_wp2_with fail
    go_ret2
    refine ⟨s4, ?_, ?_, ?_, N5.out, G6.out⟩
    · rw [addP_more hp.out hf.out HC.out]; rfl
    · rw [addP_more hp.out hf.out HC.out]; exact P6.out
    · rw [addP_more hp.out hf.out HC.out]; exact O6.out

set_option maxRecDepth 100000 in
set_option maxHeartbeats 4000000 in
theorem add_last0 (p : Pi) (x t : ByteArray) (n q c g B : Nat) (s : Sv) (w : World) (hB : Hid (PiB w g p.num p.cnt s)) (hO : Hid (OwnS w B s.v p.ps)) (hps : Hid p.short) (hx : x.size ≤ 1048576) (hp : Hid (pcP x = some (n, q, c, t))) (hq : q = 0) (hf : Hid (fitsB p n q c = true)) (hBw : B ≤ w.heap.size) (hc : q + 1 = c) :
    Calls Try.prog 44 #[.pointer (some ⟨g, 0, none⟩), .string x] w fun e w' => AddPost B g p s x w e w' := by
  subst hq
  have hr := pcP_right hp.out
  have hbl := base_len hp.out hf.out
  have HBL : Hid ((baseP p 0).length = 0 ∧ 0 ≤ 9) := hbl
  have hff := of_decide_eq_true hf.out
  have HFF : Hid (0 = 0 ∨ ((n : Int) = p.num ∧ (c : Int) = p.cnt ∧ 0 = p.ps.length)) := hff
  have HC : Hid (0 + 1 = c) := hc
  have hq9 : 0 ≤ 9 := hbl.2
  clear hff hbl hc
  have hsn := sv_len hO.out
  have HN : Hid (s.n = p.ps.length) := hsn
  clear hsn
  go_enter Try.func44, Try.ntmps44
  go_wp2_with fail
  refine (readPiece_yes x n 0 c t w hx hp).mono ?_
  rintro e w1 ⟨rfl, hb1⟩
  have B1 : Hid (Below w.heap.size w (w1.alloc (.cells #[.int .i64 n, .int .i64 0, .int .i64 c, .string t] 62))) := hb1.alloc hb1.size _
  have Z1 : Hid ((w1.alloc (.cells #[.int .i64 n, .int .i64 0, .int .i64 c, .string t] 62)).heap.size = w1.heap.size + 1 ∧ w.heap.size ≤ w1.heap.size) := ⟨by simp, hb1.size⟩
  have X1 : Hid (PeAt (w1.alloc (.cells #[.int .i64 n, .int .i64 0, .int .i64 c, .string t] 62)) w1.heap.size n 0 c t) := heap_alloc_new w1 _
  have P1 : Hid (PiB (w1.alloc (.cells #[.int .i64 n, .int .i64 0, .int .i64 c, .string t] 62)) g p.num p.cnt s) := hB.out.later B1.out
  have O1 : Hid (OwnS (w1.alloc (.cells #[.int .i64 n, .int .i64 0, .int .i64 c, .string t] 62)) B s.v p.ps) := ownS_later hO.out B1.out
  have GX : g < w1.heap.size := Nat.lt_of_lt_of_le hB.out.lt hb1.size
  clear hb1
  obtain ⟨x0, x1, x2, x3⟩ := X1.out.cells
  have q0 : ((0 : Int) == 0) = true := rfl
  go_wp2_with (first | (refine wpList_stB rfl 35 _ _ rfl g 0 rfl 35 _ P1.out [.int .i64 n, .int .i64 c, .slice none 0 0] rfl (by simp) Try.sizeP rfl [.int .i64 n, .int .i64 c, .slice none 0 0] rfl ?_; intro W2 OB TB; have P2 : Hid (PiB W2 g n c ⟨none, 0, 0⟩) := OB; have T2 : Hid (TurnAt g (w1.alloc (.cells #[.int .i64 n, .int .i64 0, .int .i64 c, .string t] 62)) W2) := TB; have X2 : Hid (PeAt W2 w1.heap.size n 0 c t) := (TB.block _ (by omega)).trans X1.out; have y0 := X2.out.cells.1; have y1 := X2.out.cells.2.1; have y2 := X2.out.cells.2.2.1; have y3 := X2.out.cells.2.2.2; clear OB TB))
  have G2 : Hid (Gr (fun k => k = g ∨ s.v.ownBlock = some k) w W2) := (gr_below B1.out).trans ⟨T2.out.os, T2.out.tape, T2.out.output, by rw [T2.out.size]; exact Nat.le_refl _, fun k hk hn => T2.out.block k (fun e => hn (.inl e))⟩
  have O2 : Hid (OwnS W2 B (Sv.v ⟨none, 0, 0⟩) (baseP p 0)) := by
    unfold baseP; rw [if_pos rfl]; exact ownS_none W2 B
  have N2 : Hid (∀ k, (Sv.v ⟨none, 0, 0⟩).ownBlock = some k → s.v.ownBlock = some k) := fun k hk => by cases hk
  clear P1 O1 X1 T2 B1 q0 x0 x1 x2 x3 y0 y1 y2 y3
  generalize hSV : (⟨none, 0, 0⟩ : Sv) = sv at *
  have hsq : Hid ((0 : Int) = sv.n) := by rw [← hSV]; rfl
  clear hSV
  refine (awaits_yes n c n 0 c g t sv W2 P2 rfl rfl hsq.out).mono ?_
  rintro e w3 ⟨rfl, hb3⟩
  have P3n : Hid (PiB w3 g n c sv) := P2.out.later hb3
  have X3n : Hid (PeAt w3 w1.heap.size n 0 c t) := X2.out.stays hb3 X2.out.lt
  have P3 : Hid (PiB w3.drew g n c sv) := P2.out.later hb3.drew
  have X3 : Hid (PeAt w3.drew w1.heap.size n 0 c t) := X2.out.stays hb3.drew X2.out.lt
  have O3 : Hid (OwnS w3.drew B sv.v (baseP p 0)) := World.ownsRow.drew (ownS_later O2.out hb3)
  have G3 : Hid (Gr (fun k => k = g ∨ s.v.ownBlock = some k) w w3.drew) := G2.out.trans (gr_below hb3.drew)
  have Z3 : Hid (B ≤ w3.drew.heap.size) := Nat.le_trans hBw G3.out.size
  clear P2 X2 O2 G2 hb3
  go_wp2_with fail
  have x3 : w3.cell? ⟨w1.heap.size, 3, none⟩ = some (.string t) := X3.out.cells.2.2.2
  have g2 : w3.cell? ⟨g, 2, none⟩ = some (.slice sv.a sv.n sv.c) := P3.out.cells.2.2
  have XA : ∀ o, (w3.alloc o).cell? ⟨w1.heap.size, 3, none⟩ = some (.string t) := fun o => (X3n.out.stays ((Below.refl w3.heap.size w3).alloc (Nat.le_refl _) o) X3n.out.lt).cells.2.2.2
  have GA : ∀ o, (w3.alloc o).cell? ⟨g, 2, none⟩ = some (.slice sv.a sv.n sv.c) := fun o => (P3n.out.later ((Below.refl w3.heap.size w3).alloc (Nat.le_refl _) o)).cells.2.2
  have FA : ∀ o k, (w3.alloc o).frozen? ⟨g, k, none⟩ = false := fun o k => (P3n.out.later ((Below.refl w3.heap.size w3).alloc (Nat.le_refl _) o)).frozen k
  have hlen : (baseP p 0).length < 4000000 := by have := HBL.out; omega
  go_region_law (first
    | (refine step_pushS (by rfl) _ _ 26 (by rfl) Try.underlying26 Try.info9 B sv.v (baseP p 0) (by rfl) t (w := w3.drew) (by rfl) O3.out (by rfl) hlen Z3.out ?_; intro v4 w4 O4 G4 N4; obtain ⟨s4, rfl, -⟩ := sv_form O4; have P4 := PiB.grown (P3.out.later ((Below.refl w3.drew.heap.size w3.drew).alloc (Nat.le_refl _) (.cells #[.string t] 9))) (O3.out.alloc _) G4; have h40 := P4.cells.1; have h41 := P4.cells.2.1; have h42 := P4.cells.2.2; have f42 := P4.frozen 2; unfold Sv.v at *))
  all_goals
    have P5 : Hid (PiB (w4.setCell ⟨g, 2, none⟩ (.slice s4.a s4.n s4.c)) g n c s4) := Bx.set P4 2 (.slice s4.a s4.n s4.c)
    have X4 : Bx w4 w1.heap.size 62 [.int .i64 n, .int .i64 0, .int .i64 c, .string t] := Bx.grown (Bx.later X3.out ((Below.refl w3.drew.heap.size w3.drew).alloc (Nat.le_refl _) (.cells #[.string t] 9))) G4 (fun e => bx_s_ne (O3.out.alloc (.cells #[.string t] 9)) (Bx.later (T := 62) (cs := [.int .i64 n, .int .i64 0, .int .i64 c, .string t]) X3.out ((Below.refl w3.drew.heap.size w3.drew).alloc (Nat.le_refl _) (.cells #[.string t] 9))) (by decide) e.symm)
    have X5 : Hid (PeAt (w4.setCell ⟨g, 2, none⟩ (.slice s4.a s4.n s4.c)) w1.heap.size n 0 c t) := Bx.other X4 (by omega)
    have O5 : Hid (OwnS (w4.setCell ⟨g, 2, none⟩ (.slice s4.a s4.n s4.c)) B s4.v (baseP p 0 ++ [t])) := Pl.OwnS.past O4 P4 ((TurnAt.refl g w4).setCell 2 _) (by decide)
    have G5 : Hid (Gr (fun k => k = g ∨ s.v.ownBlock = some k) w (w4.setCell ⟨g, 2, none⟩ (.slice s4.a s4.n s4.c))) := ((G3.out.trans (gr_below ((Below.refl w3.drew.heap.size w3.drew).alloc (Nat.le_refl _) (.cells #[.string t] 9)))).trans (Gr.ofGrown G4 (fun k hk => .inr (N2.out k hk)))).trans (gr_set g w4 2 _ (.inl rfl))
    have N5 : Hid (∀ k, s4.v.ownBlock = some k → s.v.ownBlock = some k ∨ w.heap.size ≤ k) := fun k hk => by
      rcases N4 with h | h
      · exact .inl (N2.out k (by rw [← hk]; exact h.symm))
      · have e : some k = some (w3.drew.heap.size + 1) := by rw [← hk]; exact h
        have := G3.out.size
        simp only [Option.some.injEq] at e
        exact .inr (by omega)
    generalize w4.setCell ⟨g, 2, none⟩ (.slice s4.a s4.n s4.c) = W5 at *
    clear P3n X3n P3 X3 O3 G3 Z3 O4 G4 N4 P4 h40 h41 h42 f42 X4 x3 g2 XA GA FA
    obtain ⟨x0, x1, x2, x3⟩ := X5.out.cells
    go_wp2_with fail
    refine (isLast_any n 0 c t W5 (by omega) (by omega)).mono ?_
    rw [decide_eq_true (show 0 + 1 = c from HC.out)]
    rintro e w6 ⟨rfl, hb6⟩
    have P6 : Hid (PiB w6 g n c s4) := P5.out.later hb6
    have O6 : Hid (OwnS w6 B s4.v (baseP p 0 ++ [t])) := ownS_later O5.out hb6
    have G6 : Hid (Gr (fun k => k = g ∨ s.v.ownBlock = some k) w w6) := G5.out.trans (gr_below hb6)
    clear P5 X5 O5 G5 hb6 x0 x1 x2 x3
    have g2 : w6.cell? ⟨g, 2, none⟩ = some (.slice s4.a s4.n s4.c) := P6.out.cells.2.2
    go_wp2_with fail
    refine (sjoin_own s4 (baseP p 0 ++ [t]) B w6 O6 (by rw [List.length_append, HBL.out.1]; have := HBL.out.2; simp only [List.length_cons, List.length_nil]; omega) (by simp) (fun y hy => by
      rcases List.mem_append.1 hy with hy | hy
      · exact base_short hps.out y hy
      · simp at hy; subst hy; omega)).mono ?_
    rintro e w7 ⟨rfl, hb7⟩
    have P7 : Hid (PiB w7 g n c s4) := P6.out.later hb7
    have G7 : Hid (Gr (fun k => k = g ∨ s.v.ownBlock = some k) w w7) := G6.out.trans (gr_below hb7)
    clear P6 O6 G6 hb7 g2
    go_wp2_with (first | (refine wpList_stB rfl 35 _ _ rfl g 0 rfl 35 _ P7.out [.int .i64 0, .int .i64 0, .slice none 0 0] rfl (by simp) Try.sizeP rfl [.int .i64 0, .int .i64 0, .slice none 0 0] rfl ?_; intro W8 OB TB; have P8 : Hid (PiB W8 g 0 0 ⟨none, 0, 0⟩) := OB; have T8 : Hid (TurnAt g w7 W8) := TB; clear OB TB))
    go_ret2
    refine ⟨⟨none, 0, 0⟩, ?_, ?_, ?_, ?_, G7.out.trans ⟨T8.out.os, T8.out.tape, T8.out.output, by rw [T8.out.size]; exact Nat.le_refl _, fun k hk hn => T8.out.block k (fun e => hn (.inl e))⟩⟩
    · rw [addP_last hp.out hf.out HC.out]; rfl
    · rw [addP_last hp.out hf.out HC.out]; exact P8.out
    · rw [addP_last hp.out hf.out HC.out]; exact ownS_none W8 B
    · intro k hk; cases hk

set_option maxRecDepth 100000 in
set_option maxHeartbeats 4000000 in
theorem add_more1 (p : Pi) (x t : ByteArray) (n q c g B : Nat) (s : Sv) (w : World) (hB : Hid (PiB w g p.num p.cnt s)) (hO : Hid (OwnS w B s.v p.ps)) (hps : Hid p.short) (hx : x.size ≤ 1048576) (hp : Hid (pcP x = some (n, q, c, t))) (hq : q ≠ 0) (hf : Hid (fitsB p n q c = true)) (hBw : B ≤ w.heap.size) (hc : q + 1 ≠ c) :
    Calls Try.prog 44 #[.pointer (some ⟨g, 0, none⟩), .string x] w fun e w' => AddPost B g p s x w e w' := by
  have hr := pcP_right hp.out
  have hbl := base_len hp.out hf.out
  have HBL : Hid ((baseP p q).length = q ∧ q ≤ 9) := hbl
  have hff := of_decide_eq_true hf.out
  have HFF : Hid (q = 0 ∨ ((n : Int) = p.num ∧ (c : Int) = p.cnt ∧ q = p.ps.length)) := hff
  have HC : Hid (q + 1 ≠ c) := hc
  have hq9 : q ≤ 9 := hbl.2
  clear hff hbl hc
  have hsn := sv_len hO.out
  have HN : Hid (s.n = p.ps.length) := hsn
  clear hsn
  go_enter Try.func44, Try.ntmps44
  go_wp2_with fail
  refine (readPiece_yes x n q c t w hx hp).mono ?_
  rintro e w1 ⟨rfl, hb1⟩
  have B1 : Hid (Below w.heap.size w (w1.alloc (.cells #[.int .i64 n, .int .i64 q, .int .i64 c, .string t] 62))) := hb1.alloc hb1.size _
  have Z1 : Hid ((w1.alloc (.cells #[.int .i64 n, .int .i64 q, .int .i64 c, .string t] 62)).heap.size = w1.heap.size + 1 ∧ w.heap.size ≤ w1.heap.size) := ⟨by simp, hb1.size⟩
  have X1 : Hid (PeAt (w1.alloc (.cells #[.int .i64 n, .int .i64 q, .int .i64 c, .string t] 62)) w1.heap.size n q c t) := heap_alloc_new w1 _
  have P1 : Hid (PiB (w1.alloc (.cells #[.int .i64 n, .int .i64 q, .int .i64 c, .string t] 62)) g p.num p.cnt s) := hB.out.later B1.out
  have O1 : Hid (OwnS (w1.alloc (.cells #[.int .i64 n, .int .i64 q, .int .i64 c, .string t] 62)) B s.v p.ps) := ownS_later hO.out B1.out
  have GX : g < w1.heap.size := Nat.lt_of_lt_of_le hB.out.lt hb1.size
  clear hb1
  obtain ⟨x0, x1, x2, x3⟩ := X1.out.cells
  have q0 : ((q : Int) == 0) = false := by simp; omega
  go_wp2_with fail
  generalize w1.alloc (.cells #[.int .i64 n, .int .i64 q, .int .i64 c, .string t] 62) = W2 at *
  obtain ⟨f1, f2, f3⟩ := HFF.out.resolve_left hq
  have P2 : Hid (PiB W2 g n c s) := by rw [f1, f2]; exact P1.out
  have X2 : Hid (PeAt W2 w1.heap.size n q c t) := X1.out
  have G2 : Hid (Gr (fun k => k = g ∨ s.v.ownBlock = some k) w W2) := gr_below B1.out
  have O2 : Hid (OwnS W2 B s.v (baseP p q)) := by
    unfold baseP; rw [if_neg hq]; exact O1.out
  have N2 : Hid (∀ k, s.v.ownBlock = some k → s.v.ownBlock = some k) := fun k hk => hk
  have hsq : Hid ((q : Int) = s.n) := by show _ = _; rw [HN.out]; omega
  clear P1 O1 X1 B1 q0 x0 x1 x2 x3 f1 f2 f3
  generalize hSV : s = sv at P2 O2 hsq
  have N2 : Hid (∀ k, sv.v.ownBlock = some k → s.v.ownBlock = some k) := by rw [← hSV]; exact N2.out
  clear hSV
  refine (awaits_yes n c n q c g t sv W2 P2 rfl rfl hsq.out).mono ?_
  rintro e w3 ⟨rfl, hb3⟩
  have P3n : Hid (PiB w3 g n c sv) := P2.out.later hb3
  have X3n : Hid (PeAt w3 w1.heap.size n q c t) := X2.out.stays hb3 X2.out.lt
  have P3 : Hid (PiB w3.drew g n c sv) := P2.out.later hb3.drew
  have X3 : Hid (PeAt w3.drew w1.heap.size n q c t) := X2.out.stays hb3.drew X2.out.lt
  have O3 : Hid (OwnS w3.drew B sv.v (baseP p q)) := World.ownsRow.drew (ownS_later O2.out hb3)
  have G3 : Hid (Gr (fun k => k = g ∨ s.v.ownBlock = some k) w w3.drew) := G2.out.trans (gr_below hb3.drew)
  have Z3 : Hid (B ≤ w3.drew.heap.size) := Nat.le_trans hBw G3.out.size
  clear P2 X2 O2 G2 hb3
  go_wp2_with fail
  have x3 : w3.cell? ⟨w1.heap.size, 3, none⟩ = some (.string t) := X3.out.cells.2.2.2
  have g2 : w3.cell? ⟨g, 2, none⟩ = some (.slice sv.a sv.n sv.c) := P3.out.cells.2.2
  have XA : ∀ o, (w3.alloc o).cell? ⟨w1.heap.size, 3, none⟩ = some (.string t) := fun o => (X3n.out.stays ((Below.refl w3.heap.size w3).alloc (Nat.le_refl _) o) X3n.out.lt).cells.2.2.2
  have GA : ∀ o, (w3.alloc o).cell? ⟨g, 2, none⟩ = some (.slice sv.a sv.n sv.c) := fun o => (P3n.out.later ((Below.refl w3.heap.size w3).alloc (Nat.le_refl _) o)).cells.2.2
  have FA : ∀ o k, (w3.alloc o).frozen? ⟨g, k, none⟩ = false := fun o k => (P3n.out.later ((Below.refl w3.heap.size w3).alloc (Nat.le_refl _) o)).frozen k
  have hlen : (baseP p q).length < 4000000 := by have := HBL.out; omega
  go_region_law (first
    | (refine step_pushS (by rfl) _ _ 26 (by rfl) Try.underlying26 Try.info9 B sv.v (baseP p q) (by rfl) t (w := w3.drew) (by rfl) O3.out (by rfl) hlen Z3.out ?_; intro v4 w4 O4 G4 N4; obtain ⟨s4, rfl, -⟩ := sv_form O4; have P4 := PiB.grown (P3.out.later ((Below.refl w3.drew.heap.size w3.drew).alloc (Nat.le_refl _) (.cells #[.string t] 9))) (O3.out.alloc _) G4; have h40 := P4.cells.1; have h41 := P4.cells.2.1; have h42 := P4.cells.2.2; have f42 := P4.frozen 2; unfold Sv.v at *))
  all_goals
    have P5 : Hid (PiB (w4.setCell ⟨g, 2, none⟩ (.slice s4.a s4.n s4.c)) g n c s4) := Bx.set P4 2 (.slice s4.a s4.n s4.c)
    have X4 : Bx w4 w1.heap.size 62 [.int .i64 n, .int .i64 q, .int .i64 c, .string t] := Bx.grown (Bx.later X3.out ((Below.refl w3.drew.heap.size w3.drew).alloc (Nat.le_refl _) (.cells #[.string t] 9))) G4 (fun e => bx_s_ne (O3.out.alloc (.cells #[.string t] 9)) (Bx.later (T := 62) (cs := [.int .i64 n, .int .i64 q, .int .i64 c, .string t]) X3.out ((Below.refl w3.drew.heap.size w3.drew).alloc (Nat.le_refl _) (.cells #[.string t] 9))) (by decide) e.symm)
    have X5 : Hid (PeAt (w4.setCell ⟨g, 2, none⟩ (.slice s4.a s4.n s4.c)) w1.heap.size n q c t) := Bx.other X4 (by omega)
    have O5 : Hid (OwnS (w4.setCell ⟨g, 2, none⟩ (.slice s4.a s4.n s4.c)) B s4.v (baseP p q ++ [t])) := Pl.OwnS.past O4 P4 ((TurnAt.refl g w4).setCell 2 _) (by decide)
    have G5 : Hid (Gr (fun k => k = g ∨ s.v.ownBlock = some k) w (w4.setCell ⟨g, 2, none⟩ (.slice s4.a s4.n s4.c))) := ((G3.out.trans (gr_below ((Below.refl w3.drew.heap.size w3.drew).alloc (Nat.le_refl _) (.cells #[.string t] 9)))).trans (Gr.ofGrown G4 (fun k hk => .inr (N2.out k hk)))).trans (gr_set g w4 2 _ (.inl rfl))
    have N5 : Hid (∀ k, s4.v.ownBlock = some k → s.v.ownBlock = some k ∨ w.heap.size ≤ k) := fun k hk => by
      rcases N4 with h | h
      · exact .inl (N2.out k (by rw [← hk]; exact h.symm))
      · have e : some k = some (w3.drew.heap.size + 1) := by rw [← hk]; exact h
        have := G3.out.size
        simp only [Option.some.injEq] at e
        exact .inr (by omega)
    generalize w4.setCell ⟨g, 2, none⟩ (.slice s4.a s4.n s4.c) = W5 at *
    clear P3n X3n P3 X3 O3 G3 Z3 O4 G4 N4 P4 h40 h41 h42 f42 X4 x3 g2 XA GA FA
    obtain ⟨x0, x1, x2, x3⟩ := X5.out.cells
    go_wp2_with fail
    refine (isLast_any n q c t W5 (by omega) (by omega)).mono ?_
    rw [decide_eq_false (show ¬ q + 1 = c from HC.out)]
    rintro e w6 ⟨rfl, hb6⟩
    have P6 : Hid (PiB w6 g n c s4) := P5.out.later hb6
    have O6 : Hid (OwnS w6 B s4.v (baseP p q ++ [t])) := ownS_later O5.out hb6
    have G6 : Hid (Gr (fun k => k = g ∨ s.v.ownBlock = some k) w w6) := G5.out.trans (gr_below hb6)
    clear P5 X5 O5 G5 hb6 x0 x1 x2 x3
    go_wp2_with fail
    go_ret2
    refine ⟨s4, ?_, ?_, ?_, N5.out, G6.out⟩
    · rw [addP_more hp.out hf.out HC.out]; rfl
    · rw [addP_more hp.out hf.out HC.out]; exact P6.out
    · rw [addP_more hp.out hf.out HC.out]; exact O6.out

set_option maxRecDepth 100000 in
set_option maxHeartbeats 4000000 in
theorem add_last1 (p : Pi) (x t : ByteArray) (n q c g B : Nat) (s : Sv) (w : World) (hB : Hid (PiB w g p.num p.cnt s)) (hO : Hid (OwnS w B s.v p.ps)) (hps : Hid p.short) (hx : x.size ≤ 1048576) (hp : Hid (pcP x = some (n, q, c, t))) (hq : q ≠ 0) (hf : Hid (fitsB p n q c = true)) (hBw : B ≤ w.heap.size) (hc : q + 1 = c) :
    Calls Try.prog 44 #[.pointer (some ⟨g, 0, none⟩), .string x] w fun e w' => AddPost B g p s x w e w' := by
  have hr := pcP_right hp.out
  have hbl := base_len hp.out hf.out
  have HBL : Hid ((baseP p q).length = q ∧ q ≤ 9) := hbl
  have hff := of_decide_eq_true hf.out
  have HFF : Hid (q = 0 ∨ ((n : Int) = p.num ∧ (c : Int) = p.cnt ∧ q = p.ps.length)) := hff
  have HC : Hid (q + 1 = c) := hc
  have hq9 : q ≤ 9 := hbl.2
  clear hff hbl hc
  have hsn := sv_len hO.out
  have HN : Hid (s.n = p.ps.length) := hsn
  clear hsn
  go_enter Try.func44, Try.ntmps44
  go_wp2_with fail
  refine (readPiece_yes x n q c t w hx hp).mono ?_
  rintro e w1 ⟨rfl, hb1⟩
  have B1 : Hid (Below w.heap.size w (w1.alloc (.cells #[.int .i64 n, .int .i64 q, .int .i64 c, .string t] 62))) := hb1.alloc hb1.size _
  have Z1 : Hid ((w1.alloc (.cells #[.int .i64 n, .int .i64 q, .int .i64 c, .string t] 62)).heap.size = w1.heap.size + 1 ∧ w.heap.size ≤ w1.heap.size) := ⟨by simp, hb1.size⟩
  have X1 : Hid (PeAt (w1.alloc (.cells #[.int .i64 n, .int .i64 q, .int .i64 c, .string t] 62)) w1.heap.size n q c t) := heap_alloc_new w1 _
  have P1 : Hid (PiB (w1.alloc (.cells #[.int .i64 n, .int .i64 q, .int .i64 c, .string t] 62)) g p.num p.cnt s) := hB.out.later B1.out
  have O1 : Hid (OwnS (w1.alloc (.cells #[.int .i64 n, .int .i64 q, .int .i64 c, .string t] 62)) B s.v p.ps) := ownS_later hO.out B1.out
  have GX : g < w1.heap.size := Nat.lt_of_lt_of_le hB.out.lt hb1.size
  clear hb1
  obtain ⟨x0, x1, x2, x3⟩ := X1.out.cells
  have q0 : ((q : Int) == 0) = false := by simp; omega
  go_wp2_with fail
  generalize w1.alloc (.cells #[.int .i64 n, .int .i64 q, .int .i64 c, .string t] 62) = W2 at *
  obtain ⟨f1, f2, f3⟩ := HFF.out.resolve_left hq
  have P2 : Hid (PiB W2 g n c s) := by rw [f1, f2]; exact P1.out
  have X2 : Hid (PeAt W2 w1.heap.size n q c t) := X1.out
  have G2 : Hid (Gr (fun k => k = g ∨ s.v.ownBlock = some k) w W2) := gr_below B1.out
  have O2 : Hid (OwnS W2 B s.v (baseP p q)) := by
    unfold baseP; rw [if_neg hq]; exact O1.out
  have N2 : Hid (∀ k, s.v.ownBlock = some k → s.v.ownBlock = some k) := fun k hk => hk
  have hsq : Hid ((q : Int) = s.n) := by show _ = _; rw [HN.out]; omega
  clear P1 O1 X1 B1 q0 x0 x1 x2 x3 f1 f2 f3
  generalize hSV : s = sv at P2 O2 hsq
  have N2 : Hid (∀ k, sv.v.ownBlock = some k → s.v.ownBlock = some k) := by rw [← hSV]; exact N2.out
  clear hSV
  refine (awaits_yes n c n q c g t sv W2 P2 rfl rfl hsq.out).mono ?_
  rintro e w3 ⟨rfl, hb3⟩
  have P3n : Hid (PiB w3 g n c sv) := P2.out.later hb3
  have X3n : Hid (PeAt w3 w1.heap.size n q c t) := X2.out.stays hb3 X2.out.lt
  have P3 : Hid (PiB w3.drew g n c sv) := P2.out.later hb3.drew
  have X3 : Hid (PeAt w3.drew w1.heap.size n q c t) := X2.out.stays hb3.drew X2.out.lt
  have O3 : Hid (OwnS w3.drew B sv.v (baseP p q)) := World.ownsRow.drew (ownS_later O2.out hb3)
  have G3 : Hid (Gr (fun k => k = g ∨ s.v.ownBlock = some k) w w3.drew) := G2.out.trans (gr_below hb3.drew)
  have Z3 : Hid (B ≤ w3.drew.heap.size) := Nat.le_trans hBw G3.out.size
  clear P2 X2 O2 G2 hb3
  go_wp2_with fail
  have x3 : w3.cell? ⟨w1.heap.size, 3, none⟩ = some (.string t) := X3.out.cells.2.2.2
  have g2 : w3.cell? ⟨g, 2, none⟩ = some (.slice sv.a sv.n sv.c) := P3.out.cells.2.2
  have XA : ∀ o, (w3.alloc o).cell? ⟨w1.heap.size, 3, none⟩ = some (.string t) := fun o => (X3n.out.stays ((Below.refl w3.heap.size w3).alloc (Nat.le_refl _) o) X3n.out.lt).cells.2.2.2
  have GA : ∀ o, (w3.alloc o).cell? ⟨g, 2, none⟩ = some (.slice sv.a sv.n sv.c) := fun o => (P3n.out.later ((Below.refl w3.heap.size w3).alloc (Nat.le_refl _) o)).cells.2.2
  have FA : ∀ o k, (w3.alloc o).frozen? ⟨g, k, none⟩ = false := fun o k => (P3n.out.later ((Below.refl w3.heap.size w3).alloc (Nat.le_refl _) o)).frozen k
  have hlen : (baseP p q).length < 4000000 := by have := HBL.out; omega
  go_region_law (first
    | (refine step_pushS (by rfl) _ _ 26 (by rfl) Try.underlying26 Try.info9 B sv.v (baseP p q) (by rfl) t (w := w3.drew) (by rfl) O3.out (by rfl) hlen Z3.out ?_; intro v4 w4 O4 G4 N4; obtain ⟨s4, rfl, -⟩ := sv_form O4; have P4 := PiB.grown (P3.out.later ((Below.refl w3.drew.heap.size w3.drew).alloc (Nat.le_refl _) (.cells #[.string t] 9))) (O3.out.alloc _) G4; have h40 := P4.cells.1; have h41 := P4.cells.2.1; have h42 := P4.cells.2.2; have f42 := P4.frozen 2; unfold Sv.v at *))
  all_goals
    have P5 : Hid (PiB (w4.setCell ⟨g, 2, none⟩ (.slice s4.a s4.n s4.c)) g n c s4) := Bx.set P4 2 (.slice s4.a s4.n s4.c)
    have X4 : Bx w4 w1.heap.size 62 [.int .i64 n, .int .i64 q, .int .i64 c, .string t] := Bx.grown (Bx.later X3.out ((Below.refl w3.drew.heap.size w3.drew).alloc (Nat.le_refl _) (.cells #[.string t] 9))) G4 (fun e => bx_s_ne (O3.out.alloc (.cells #[.string t] 9)) (Bx.later (T := 62) (cs := [.int .i64 n, .int .i64 q, .int .i64 c, .string t]) X3.out ((Below.refl w3.drew.heap.size w3.drew).alloc (Nat.le_refl _) (.cells #[.string t] 9))) (by decide) e.symm)
    have X5 : Hid (PeAt (w4.setCell ⟨g, 2, none⟩ (.slice s4.a s4.n s4.c)) w1.heap.size n q c t) := Bx.other X4 (by omega)
    have O5 : Hid (OwnS (w4.setCell ⟨g, 2, none⟩ (.slice s4.a s4.n s4.c)) B s4.v (baseP p q ++ [t])) := Pl.OwnS.past O4 P4 ((TurnAt.refl g w4).setCell 2 _) (by decide)
    have G5 : Hid (Gr (fun k => k = g ∨ s.v.ownBlock = some k) w (w4.setCell ⟨g, 2, none⟩ (.slice s4.a s4.n s4.c))) := ((G3.out.trans (gr_below ((Below.refl w3.drew.heap.size w3.drew).alloc (Nat.le_refl _) (.cells #[.string t] 9)))).trans (Gr.ofGrown G4 (fun k hk => .inr (N2.out k hk)))).trans (gr_set g w4 2 _ (.inl rfl))
    have N5 : Hid (∀ k, s4.v.ownBlock = some k → s.v.ownBlock = some k ∨ w.heap.size ≤ k) := fun k hk => by
      rcases N4 with h | h
      · exact .inl (N2.out k (by rw [← hk]; exact h.symm))
      · have e : some k = some (w3.drew.heap.size + 1) := by rw [← hk]; exact h
        have := G3.out.size
        simp only [Option.some.injEq] at e
        exact .inr (by omega)
    generalize w4.setCell ⟨g, 2, none⟩ (.slice s4.a s4.n s4.c) = W5 at *
    clear P3n X3n P3 X3 O3 G3 Z3 O4 G4 N4 P4 h40 h41 h42 f42 X4 x3 g2 XA GA FA
    obtain ⟨x0, x1, x2, x3⟩ := X5.out.cells
    go_wp2_with fail
    refine (isLast_any n q c t W5 (by omega) (by omega)).mono ?_
    rw [decide_eq_true (show q + 1 = c from HC.out)]
    rintro e w6 ⟨rfl, hb6⟩
    have P6 : Hid (PiB w6 g n c s4) := P5.out.later hb6
    have O6 : Hid (OwnS w6 B s4.v (baseP p q ++ [t])) := ownS_later O5.out hb6
    have G6 : Hid (Gr (fun k => k = g ∨ s.v.ownBlock = some k) w w6) := G5.out.trans (gr_below hb6)
    clear P5 X5 O5 G5 hb6 x0 x1 x2 x3
    have g2 : w6.cell? ⟨g, 2, none⟩ = some (.slice s4.a s4.n s4.c) := P6.out.cells.2.2
    go_wp2_with fail
    refine (sjoin_own s4 (baseP p q ++ [t]) B w6 O6 (by rw [List.length_append, HBL.out.1]; have := HBL.out.2; simp only [List.length_cons, List.length_nil]; omega) (by simp) (fun y hy => by
      rcases List.mem_append.1 hy with hy | hy
      · exact base_short hps.out y hy
      · simp at hy; subst hy; omega)).mono ?_
    rintro e w7 ⟨rfl, hb7⟩
    have P7 : Hid (PiB w7 g n c s4) := P6.out.later hb7
    have G7 : Hid (Gr (fun k => k = g ∨ s.v.ownBlock = some k) w w7) := G6.out.trans (gr_below hb7)
    clear P6 O6 G6 hb7 g2
    go_wp2_with (first | (refine wpList_stB rfl 35 _ _ rfl g 0 rfl 35 _ P7.out [.int .i64 0, .int .i64 0, .slice none 0 0] rfl (by simp) Try.sizeP rfl [.int .i64 0, .int .i64 0, .slice none 0 0] rfl ?_; intro W8 OB TB; have P8 : Hid (PiB W8 g 0 0 ⟨none, 0, 0⟩) := OB; have T8 : Hid (TurnAt g w7 W8) := TB; clear OB TB))
    go_ret2
    refine ⟨⟨none, 0, 0⟩, ?_, ?_, ?_, ?_, G7.out.trans ⟨T8.out.os, T8.out.tape, T8.out.output, by rw [T8.out.size]; exact Nat.le_refl _, fun k hk hn => T8.out.block k (fun e => hn (.inl e))⟩⟩
    · rw [addP_last hp.out hf.out HC.out]; rfl
    · rw [addP_last hp.out hf.out HC.out]; exact P8.out
    · rw [addP_last hp.out hf.out HC.out]; exact ownS_none W8 B
    · intro k hk; cases hk

/-- a text comes to a pile. -/
theorem add_any (p : Pi) (x : ByteArray) (g B : Nat) (s : Sv) (w : World) (hB : Hid (PiB w g p.num p.cnt s)) (hO : Hid (OwnS w B s.v p.ps)) (hps : Hid p.short) (hx : x.size ≤ 1048576) (hBw : B ≤ w.heap.size) :
    Calls Try.prog 44 #[.pointer (some ⟨g, 0, none⟩), .string x] w fun e w' => AddPost B g p s x w e w' := by
  rcases h0 : pcP x with _ | ⟨n, q, c, t⟩
  · exact add_none p x g B s w hB hO hx h0
  · by_cases hq : q = 0
    · have hf : fitsB p n q c = true := decide_eq_true (.inl hq)
      by_cases hc : q + 1 = c
      · exact add_last0 p x t n q c g B s w hB hO hps hx h0 hq hf hBw hc
      · exact add_more0 p x t n q c g B s w hB hO hps hx h0 hq hf hBw hc
    · cases hf : fitsB p n q c with
      | false => exact add_no p x t n q c g B s w hB hO hps hx h0 hq hf
      | true =>
        by_cases hc : q + 1 = c
        · exact add_last1 p x t n q c g B s w hB hO hps hx h0 hq hf hBw hc
        · exact add_more1 p x t n q c g B s w hB hO hps hx h0 hq hf hBw hc
end Go.Proofs.Ytfefjkldjaabbaa
