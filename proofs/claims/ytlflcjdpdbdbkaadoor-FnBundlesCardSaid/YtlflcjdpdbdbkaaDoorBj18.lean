/- Joined texts: Dn13 Hb Rh13. -/
import Derived.Test.YtlflcjdpdbdbkaaDoorBj14
import Derived.Test.YtlflcjdpdbdbkaaDoorBj10
import Derived.Test.YtlflcjdpdbdbkaaDoorBj17
/- Any drawn bundle. Written by gen_dn.py. -/
namespace Go.Proofs.YtlflcjdpdbdbkaaDoor
open Go.RowKit Pl
set_option linter.unusedVariables false
set_option linter.unusedSimpArgs false

theorem wp_stBuD {P : Program} {w : World} {o : Oper} {a : Act} {Q : Exit → Act → World → Prop} {K : Act → World → Prop} (ty : TypeId) (x y : Operand) (ho : o.op = .store ty x y) (g off : Nat) (hx : a.eval x = .pointer (some ⟨g, off, none⟩)) (T : Nat) (all : List Value) (hB : Bx w g T all) (cs : List Value) (hy : a.eval y = .agg cs.toArray)
    (hl : off + cs.length ≤ all.length) (hi : (P.info? ty).map (·.size) = some cs.length) (h1 : cs.all (·.oneCell') = true) (all' : List Value) (he : all.take off ++ cs ++ all.drop (off + cs.length) = all')
    (h : ∀ w', Bx w' g T all' → TurnAt g w w' → K (a.put o.dst undef) w') : o.wp P a w K Q := by
  obtain ⟨w', hr, h2, h3⟩ := hB.store P ty off cs hl hi h1 all' he
  unfold Oper.wp execOp
  simp only [ho, hx, hy, Sem.run_bind, Instr.storeAt, Instr.sureAddr, Sem.run_pure, Result.andThen_ok, hr]
  exact h w' h2 h3
/-- a cell of a block that stays. -/
theorem cellD_of {w w' : World} {b k g : Nat} {u : Value} (h : w.cell? ⟨b, k, none⟩ = some u) (hk : KeepBut g w w') (hb : b < w.heap.size) (hg : b ≠ g) : w'.cell? ⟨b, k, none⟩ = some u := by
  rw [← h]
  simp only [World.cell?]
  rw [hk.block b hb hg]
theorem cellD_on {w w' : World} {b k : Nat} {u : Value} (h : w.cell? ⟨b, k, none⟩ = some u) (hk : Below w.heap.size w w') (hb : b < w.heap.size) : w'.cell? ⟨b, k, none⟩ = some u := by
  rw [← h]
  simp only [World.cell?]
  rw [hk.block b hb]
theorem cellD_past {w w' : World} {b k g : Nat} {u : Value} (h : w.cell? ⟨b, k, none⟩ = some u) (hk : TurnAt g w w') (hg : b ≠ g) : w'.cell? ⟨b, k, none⟩ = some u := by
  rw [← h]
  simp only [World.cell?]
  rw [hk.block b hg]

set_option maxRecDepth 100000 in
set_option maxHeartbeats 8000000 in
theorem anyBundle_any (w0 w : World) (B g n cap : Nat) (ao : Option Addr) (hn : n ≤ 1048576) (hB : B ≤ g) (hd : Hid (Drw w0 w B g ao n cap)) :
    Calls Tryd.prog 21 #[.pointer (some ⟨g, 0, none⟩)] w fun e w' => (∃ (f k o : Int) (u : Sv) (ts : List It), e = .returned (.agg #[.int .i64 f, .int .i64 k, .int .i64 o, .slice u.a u.n u.c]) ∧ SlI w' w.heap.size u.v ts ∧ ts.length ≤ 10) ∧ Hid (Drw w w' B g ao n cap) := by
  have hg := hd.out.lt
  have R0 : Hid (Bx (w.alloc (.cells #[.int .i64 0, .int .i64 0, .int .i64 0, .slice none 0 0] 26)) w.heap.size 26 [.int .i64 0, .int .i64 0, .int .i64 0, .slice none 0 0]) := Bx.new w 26 _
  have D0 : Hid (Drw w (w.alloc (.cells #[.int .i64 0, .int .i64 0, .int .i64 0, .slice none 0 0] 26)) B g ao n cap) := hd.out.here.out.push ((Below.refl _ _).alloc (Nat.le_refl _) _) hg hB
  clear hd
  go_enter Tryd.func21, Tryd.ntmps21
  go_wp2_with fail
  generalize (w.alloc (.cells #[.int .i64 0, .int .i64 0, .int .i64 0, .slice none 0 0] 26)) = W0 at *
  refine (ring_any W0 W0 B g n cap ao hn hB D0.out.here).mono ?_
  rintro e w1 ⟨⟨i, ms, v, hrb, hown, rfl⟩, hd1⟩
  have R1 : Hid (Bx w1 w.heap.size 26 [.int .i64 0, .int .i64 0, .int .i64 0, .slice none 0 0]) := R0.out.keepb hd1.out.2.2 (by omega)
  have D1 := D0.out.back hd1.out
  have hml : 0 < ms.length := by
    unfold ringB at hrb
    simp only [Bool.and_eq_true, decide_eq_true_eq] at hrb
    omega
  have hlow := fun k hk => (hown.lt k hk)
  obtain ⟨ma, mc, rfl, hma⟩ := hown.ints
  obtain ⟨mb, mo, rfl, hmb, hmc⟩ := hma 0 hml
  have hmlow : W0.heap.size ≤ mb := (hlow mb rfl).1
  have zW0 := R0.out.lt
  rw [Nat.add_zero] at hmc
  generalize ms[0] = d at *
  have CM : Hid (w1.cell? ⟨mb, mo, none⟩ = some (.int .i64 d)) := hmc
  clear hrb hown hma hmc hlow hd1 R0 D0
  have z1 := R1.out.lt
  have ba : Below w1.heap.size w1 (w1.alloc (.cells #[.int .i64 i, .slice (some ⟨mb, mo, none⟩) ms.length mc] 75)) := (Below.refl _ _).alloc (Nat.le_refl _) _
  have G2 : Hid (Bx (w1.alloc (.cells #[.int .i64 i, .slice (some ⟨mb, mo, none⟩) ms.length mc] 75)) w1.heap.size 75 [.int .i64 i, .slice (some ⟨mb, mo, none⟩) ms.length mc]) := Bx.new w1 75 _
  have R2 : Hid (Bx (w1.alloc (.cells #[.int .i64 i, .slice (some ⟨mb, mo, none⟩) ms.length mc] 75)) w.heap.size 26 [.int .i64 0, .int .i64 0, .int .i64 0, .slice none 0 0]) := R1.out.later ba
  have C2 : Hid ((w1.alloc (.cells #[.int .i64 i, .slice (some ⟨mb, mo, none⟩) ms.length mc] 75)).cell? ⟨mb, mo, none⟩ = some (.int .i64 d)) := cellD_on CM.out ba hmb
  have D2 : Hid (Drw w (w1.alloc (.cells #[.int .i64 i, .slice (some ⟨mb, mo, none⟩) ms.length mc] 75)) B g ao n cap) := D1.out.push (ba.mono (by omega)) hg hB
  have s2 := ba.size
  clear ba R1 D1 CM
  go_wp2_with fail
  generalize (w1.alloc (.cells #[.int .i64 i, .slice (some ⟨mb, mo, none⟩) ms.length mc] 75)) = W2 at *
  generalize w1.heap.size = gr at *
  refine (below_small W2 W2 B g n cap 4 ao hn hB (by omega) (by omega) D2.out.here).mono ?_
  rintro e w3 ⟨⟨x, hx, rfl⟩, hd3⟩
  have G3 : Hid (Bx w3 gr 75 [.int .i64 i, .slice (some ⟨mb, mo, none⟩) ms.length mc]) := G2.out.keepb hd3.out.2.2 (by omega)
  have R3 : Hid (Bx w3 w.heap.size 26 [.int .i64 0, .int .i64 0, .int .i64 0, .slice none 0 0]) := R2.out.keepb hd3.out.2.2 (by omega)
  have C3 : Hid (w3.cell? ⟨mb, mo, none⟩ = some (.int .i64 d)) := cellD_of C2.out hd3.out.2.2 (by omega) (by omega)
  have D3 := D2.out.back hd3.out
  clear hd3 G2 R2 C2 D2
  go_wp2_with (first | (with_reducible refine wpList_haltS 3 _ _ rfl ?_))
  refine Stp.go ?_
  refine wpList_st1 rfl 3 _ _ rfl gr 0 rfl 75 _ G3.out (.int .i64 (1 + (x : Int))) rfl (by simp) rfl Tryd.size3 [.int .i64 (1 + (x : Int)), .slice (some ⟨mb, mo, none⟩) ms.length mc] rfl ?_
  intro w4 G4 T4
  obtain ⟨id, hid, h1, h4⟩ : ∃ id : Nat, (1 : Int) + (x : Int) = (id : Int) ∧ 1 ≤ id ∧ id ≤ 4 := ⟨x + 1, by omega, by omega, by omega⟩
  rw [hid] at G4 ⊢
  clear hid
  have bd : Below w4.heap.size w4 w4.drew := (Below.refl _ _).drew
  have RG : Hid (Bx w4.drew gr 75 [.int .i64 (id : Int), .slice (some ⟨mb, mo, none⟩) ms.length mc]) := Bx.later G4 bd
  have RR : Hid (Bx w4.drew w.heap.size 26 [.int .i64 0, .int .i64 0, .int .i64 0, .slice none 0 0]) := (R3.out.turn T4 (by omega)).later bd
  have mbs : mb < w4.heap.size := by rw [T4.size]; have := G3.out.lt; omega
  have CM : Hid (w4.drew.cell? ⟨mb, mo, none⟩ = some (.int .i64 d)) := cellD_on (cellD_past C3.out T4 (by omega)) bd mbs
  have DW : Hid (Drw w w4.drew B g ao n cap) := (D3.out.push (T4.below (by omega)) hg hB).out.drew
  clear T4 G3 R3 C3 D3 G4 bd
  have KEEP : Hid (∀ w' : World, w'.cell? ⟨gr, 0, none⟩ = some (.int .i64 (id : Int)) → w'.cell? ⟨gr, 1, none⟩ = some (.slice (some ⟨mb, mo, none⟩) ms.length mc) → w'.cell? ⟨mb, mo, none⟩ = some (.int .i64 d) → w'.cell? ⟨gr, 0, none⟩ = some (.int .i64 (id : Int)) ∧ w'.cell? ⟨gr, 1, none⟩ = some (.slice (some ⟨mb, mo, none⟩) ms.length mc) ∧ w'.cell? ⟨mb, mo, none⟩ = some (.int .i64 d)) := fun _ a b c => ⟨a, b, c⟩
  go_wp2_with fail
  refine wp_region_held_drew (S := fun w' => w'.cell? ⟨gr, 0, none⟩ = some (.int .i64 (id : Int)) ∧ w'.cell? ⟨gr, 1, none⟩ = some (.slice (some ⟨mb, mo, none⟩) ms.length mc) ∧ w'.cell? ⟨mb, mo, none⟩ = some (.int .i64 d)) (by kernel_rfl) (KEEP.out _ (RG.out.cell 0) (RG.out.cell 1) (CM.out)) (fun hHeld => ?_)
  generalize w4.drew = W at *
  have SZ0 : ∃ szb, szb = W.heap.size := ⟨_, rfl⟩
  obtain ⟨szb, hszb⟩ := SZ0
  have SZ : szb ≤ W.heap.size := by omega
  have mbz : mb < szb := by have := RG.out.lt; omega
  have grz : gr < szb := by have := RG.out.lt; omega
  clear hszb mbs
  refine wpAnyH_take (i := 0) (v := ?v0b1) rfl (by kernel_rfl) (by kernel_rfl) (by kernel_rfl) (fun _ _ _ h => h) (Or.inl ⟨by rfl, ?hy0b1⟩) (by assumption) ?_
  case hy0b1 => (intro w hSw; (try dsimp only at hSw); simp only [List.getElem_toArray, List.getElem_cons_zero, List.getElem_cons_succ]; go_simp; try with_reducible rfl)
  try simp only [Act.put, List.getElem_toArray, List.getElem_cons_zero, List.getElem_cons_succ, List.setIfInBounds_toArray, List.set_cons_zero, List.set_cons_succ]
  refine wpAnyH_take (i := 1) (v := ?v1b2) rfl (by kernel_rfl) (by kernel_rfl) (by kernel_rfl) (fun _ _ _ h => h) (Or.inl ⟨by rfl, ?hy1b2⟩) (by assumption) ?_
  case hy1b2 => (intro w hSw; (try dsimp only at hSw); simp only [List.getElem_toArray, List.getElem_cons_zero, List.getElem_cons_succ]; go_simp; try with_reducible rfl)
  try simp only [Act.put, List.getElem_toArray, List.getElem_cons_zero, List.getElem_cons_succ, List.setIfInBounds_toArray, List.set_cons_zero, List.set_cons_succ]
  refine wpAnyH_take (i := 2) (v := ?v2b3) rfl (by kernel_rfl) (by kernel_rfl) (by kernel_rfl) (fun _ _ _ h => h) (Or.inl ⟨by rfl, ?hy2b3⟩) (by assumption) ?_
  case hy2b3 => (intro w hSw; (try dsimp only at hSw); simp only [List.getElem_toArray, List.getElem_cons_zero, List.getElem_cons_succ]; go_simp; try with_reducible rfl)
  try simp only [Act.put, List.getElem_toArray, List.getElem_cons_zero, List.getElem_cons_succ, List.setIfInBounds_toArray, List.set_cons_zero, List.set_cons_succ]
  refine wpAnyH_take (i := 3) (v := ?v3b4) rfl (by kernel_rfl) (by kernel_rfl) (by kernel_rfl) (fun _ _ _ h => h) (Or.inl ⟨by rfl, ?hy3b4⟩) (by assumption) ?_
  case hy3b4 => (intro w hSw; (try dsimp only at hSw); simp only [List.getElem_toArray, List.getElem_cons_zero, List.getElem_cons_succ]; go_simp; try with_reducible rfl)
  try simp only [Act.put, List.getElem_toArray, List.getElem_cons_zero, List.getElem_cons_succ, List.setIfInBounds_toArray, List.set_cons_zero, List.set_cons_succ]
  refine wpAnyH_take (i := 4) (v := ?v4b5) rfl (by kernel_rfl) (by kernel_rfl) (by kernel_rfl) (fun _ _ _ h => h) (Or.inl ⟨by rfl, ?hy4b5⟩) (by assumption) ?_
  case hy4b5 => (intro w hSw; (try dsimp only at hSw); simp only [List.getElem_toArray, List.getElem_cons_zero, List.getElem_cons_succ]; go_simp; try with_reducible rfl)
  try simp only [Act.put, List.getElem_toArray, List.getElem_cons_zero, List.getElem_cons_succ, List.setIfInBounds_toArray, List.set_cons_zero, List.set_cons_succ]
  refine wpAnyH_take (i := 5) (v := ?v5b6) rfl (by kernel_rfl) (by kernel_rfl) (by kernel_rfl) (fun _ _ _ h => h) (Or.inl ⟨by rfl, ?hy5b6⟩) (by assumption) ?_
  case hy5b6 => (intro w hSw; (try dsimp only at hSw); simp only [List.getElem_toArray, List.getElem_cons_zero, List.getElem_cons_succ]; go_simp; try with_reducible rfl)
  try simp only [Act.put, List.getElem_toArray, List.getElem_cons_zero, List.getElem_cons_succ, List.setIfInBounds_toArray, List.set_cons_zero, List.set_cons_succ]
  refine wpAnyH_ready (rs := [6, 7]) (by kernel_rfl) (by simp) ?_
  refine (AllReadyH.cons (i := 6) rfl (fun K hK => ?_) (AllReadyH.cons (i := 7) rfl (fun K hK => ?_) AllReadyH.nil))
  · skip
    rw [if_pos (by rfl)]
    simp only [List.getElem_toArray, List.getElem_cons_zero, List.getElem_cons_succ]
    go_simp
    refine (bundleD_any W W B g n cap ao id d (some ⟨mb, mo, none⟩) ms.length mc hn hB h1 h4 DW.out.here).mono ?_
    rintro e y0 ⟨⟨o, s, ts, rfl, US, hts⟩, hdy⟩
    have RR : Hid (Bx y0 w.heap.size 26 [.int .i64 0, .int .i64 0, .int .i64 0, .slice none 0 0]) := RR.out.keepb hdy.out.2.2 (by omega)
    have RG : Hid (Bx y0 gr 75 [.int .i64 (id : Int), .slice (some ⟨mb, mo, none⟩) ms.length mc]) := RG.out.keepb hdy.out.2.2 (by omega)
    have CM : Hid (y0.cell? ⟨mb, mo, none⟩ = some (.int .i64 d)) := cellD_of CM.out hdy.out.2.2 (by omega) (by omega)
    have SZ : szb ≤ y0.heap.size := Nat.le_trans SZ hdy.out.2.2.size
    have US : Hid (SlI y0 w.heap.size s.v ts) := US.down (by have := RR.out.lt; first | omega | (simp; omega))
    have DW := DW.out.back hdy.out
    refine hK.out _ _ (KEEP.out _ (RG.out.cell 0) (RG.out.cell 1) (CM.out)) (fun hHeld => ?_)
    clear hK K
    try simp only [Act.put, List.getElem_toArray, List.getElem_cons_zero, List.getElem_cons_succ, List.setIfInBounds_toArray, List.set_cons_zero, List.set_cons_succ]
    clear hdy
    refine wpAnyH_ready (rs := [7]) (by kernel_rfl) (by simp) ?_
    refine AllReadyH.cons (i := 7) rfl (fun K hK => ?_) AllReadyH.nil
    rw [if_pos (by rfl)]
    simp only [List.getElem_toArray, List.getElem_cons_zero, List.getElem_cons_succ]
    go_simp
    have ba : Below y0.heap.size y0 (y0.alloc (.cells #[.int .i64 0, .int .i64 0, .int .i64 0, .slice none 0 0] 26)) := (Below.refl _ _).alloc (Nat.le_refl _) _
    have NB : Hid (Bx (y0.alloc (.cells #[.int .i64 0, .int .i64 0, .int .i64 0, .slice none 0 0] 26)) y0.heap.size 26 [.int .i64 0, .int .i64 0, .int .i64 0, .slice none 0 0]) := Bx.new y0 26 [.int .i64 0, .int .i64 0, .int .i64 0, .slice none 0 0]
    have hnb : szb ≤ y0.heap.size := SZ
    have CM : Hid ((y0.alloc (.cells #[.int .i64 0, .int .i64 0, .int .i64 0, .slice none 0 0] 26)).cell? ⟨mb, mo, none⟩ = some (.int .i64 d)) := cellD_on CM.out ba (by omega)
    have RR : Hid (Bx (y0.alloc (.cells #[.int .i64 0, .int .i64 0, .int .i64 0, .slice none 0 0] 26)) w.heap.size 26 [.int .i64 0, .int .i64 0, .int .i64 0, .slice none 0 0]) := RR.out.later ba
    have RG : Hid (Bx (y0.alloc (.cells #[.int .i64 0, .int .i64 0, .int .i64 0, .slice none 0 0] 26)) gr 75 [.int .i64 (id : Int), .slice (some ⟨mb, mo, none⟩) ms.length mc]) := RG.out.later ba
    have DW : Hid (Drw w (y0.alloc (.cells #[.int .i64 0, .int .i64 0, .int .i64 0, .slice none 0 0] 26)) B g ao n cap) := DW.out.push (ba.mono (by omega)) hg hB
    have SZ : szb ≤ (y0.alloc (.cells #[.int .i64 0, .int .i64 0, .int .i64 0, .slice none 0 0] 26)).heap.size := Nat.le_trans SZ ba.size
    have US : Hid (SlI (y0.alloc (.cells #[.int .i64 0, .int .i64 0, .int .i64 0, .slice none 0 0] 26)) w.heap.size s.v ts) := US.out.below ba
    refine hK.out _ _ (KEEP.out _ (RG.out.cell 0) (RG.out.cell 1) (CM.out)) (fun hHeld => ?_)
    clear hK K
    try simp only [Act.put, List.getElem_toArray, List.getElem_cons_zero, List.getElem_cons_succ, List.setIfInBounds_toArray, List.set_cons_zero, List.set_cons_succ]
    clear ba
    refine wpAnyH_ready (rs := [8]) (by kernel_rfl) (by simp) ?_
    refine AllReadyH.cons (i := 8) rfl (fun K hK => ?_) AllReadyH.nil
    rw [if_pos (by rfl)]
    simp only [List.getElem_toArray, List.getElem_cons_zero, List.getElem_cons_succ]
    refine wp_stBuD 26 _ _ rfl (y0.heap.size) 0 (by rfl) 26 _ NB.out [.int .i64 d, .int .i64 (id : Int), .int .i64 o, .slice s.a s.n s.c] (by rfl) (by simp) Tryd.sizeBu rfl [.int .i64 d, .int .i64 (id : Int), .int .i64 o, .slice s.a s.n s.c] rfl ?_
    intro w5 M5 T5
    generalize y0.heap.size = gm at *
    have M5 : Hid (Bx w5 gm 26 [.int .i64 d, .int .i64 (id : Int), .int .i64 o, .slice s.a s.n s.c]) := M5
    have U5 : Hid (SlI w5 w.heap.size s.v ts) := US.out.past NB.out T5 (by decide)
    have R5 : Hid (Bx w5 w.heap.size 26 [.int .i64 0, .int .i64 0, .int .i64 0, .slice none 0 0]) := RR.out.turn T5 (by omega)
    have RG : Hid (Bx w5 gr 75 [.int .i64 (id : Int), .slice (some ⟨mb, mo, none⟩) ms.length mc]) := RG.out.turn T5 (by omega)
    have CM : Hid (w5.cell? ⟨mb, mo, none⟩ = some (.int .i64 d)) := cellD_past CM.out T5 (by omega)
    have D5 : Hid (Drw w w5 B g ao n cap) := DW.out.push (T5.below (by omega)) hg hB
    refine hK.out _ _ (KEEP.out _ (RG.out.cell 0) (RG.out.cell 1) (CM.out)) (fun hHeld => ?_)
    clear hK K
    try simp only [Act.put, List.getElem_toArray, List.getElem_cons_zero, List.getElem_cons_succ, List.setIfInBounds_toArray, List.set_cons_zero, List.set_cons_succ]
    clear T5 RR DW NB US
    refine wpAnyH_done (by kernel_rfl) ?_ _
    clear hHeld RG CM KEEP
    go_wp2_with fail
    refine (below_small w5 w5 B g n cap 20 ao hn hB (by omega) (by omega) D5.out.here).mono ?_
    rintro e w6 ⟨⟨y, hy, rfl⟩, hd6⟩
    have M6 : Hid (Bx w6 gm 26 [.int .i64 d, .int .i64 (id : Int), .int .i64 o, .slice s.a s.n s.c]) := M5.out.keepb hd6.out.2.2 (by omega)
    have R6 : Hid (Bx w6 w.heap.size 26 [.int .i64 0, .int .i64 0, .int .i64 0, .slice none 0 0]) := R5.out.keepb hd6.out.2.2 (by omega)
    have U6 : Hid (SlI w6 w.heap.size s.v ts) := U5.out.but hd6.out.2.2 hg
    have D6 := D5.out.back hd6.out
    clear hd6 M5 R5 U5 D5
    by_cases y0 : y = 0
    · subst y0
      have ba : Below w6.heap.size w6 (w6.alloc (.cells #[.int .i64 0, .int .i64 5, .int .i64 6] 3)) := (Below.refl _ _).alloc (Nat.le_refl _) _
      have P7 : Hid (RowI (w6.alloc (.cells #[.int .i64 0, .int .i64 5, .int .i64 6] 3)) w6.heap.size 3) := rowI_new w6 [0, 5, 6] 3 rfl
      have hS : w6.heap.size < (w6.alloc (.cells #[.int .i64 0, .int .i64 5, .int .i64 6] 3)).heap.size := by simp
      have z6 : w.heap.size ≤ w6.heap.size := Nat.le_of_lt R6.out.lt
      have M7 : Hid (Bx (w6.alloc (.cells #[.int .i64 0, .int .i64 5, .int .i64 6] 3)) gm 26 [.int .i64 d, .int .i64 (id : Int), .int .i64 o, .slice s.a s.n s.c]) := M6.out.later ba
      have R7 : Hid (Bx (w6.alloc (.cells #[.int .i64 0, .int .i64 5, .int .i64 6] 3)) w.heap.size 26 [.int .i64 0, .int .i64 0, .int .i64 0, .slice none 0 0]) := R6.out.later ba
      have U7 : Hid (SlI (w6.alloc (.cells #[.int .i64 0, .int .i64 5, .int .i64 6] 3)) w.heap.size s.v ts) := U6.out.below ba
      have D7 : Hid (Drw w (w6.alloc (.cells #[.int .i64 0, .int .i64 5, .int .i64 6] 3)) B g ao n cap) := D6.out.push (ba.mono z6) hg hB
      have hl6 := M6.out.lt
      clear ba M6 R6 U6 D6
      go_wp2_with fail
      generalize (w6.alloc (.cells #[.int .i64 0, .int .i64 5, .int .i64 6] 3)) = W7 at *
      refine (pickInt_any W7 W7 B g n cap w6.heap.size 3 ao hn hB (by omega) (by omega) hS (by omega) P7 D7.out.here).mono ?_
      rintro e w8 ⟨⟨z, rfl⟩, hd8⟩
      have M8 : Hid (Bx w8 gm 26 [.int .i64 d, .int .i64 (id : Int), .int .i64 o, .slice s.a s.n s.c]) := M7.out.keepb hd8.out.2.2 (by omega)
      have R8 : Hid (Bx w8 w.heap.size 26 [.int .i64 0, .int .i64 0, .int .i64 0, .slice none 0 0]) := R7.out.keepb hd8.out.2.2 (by omega)
      have U8 : Hid (SlI w8 w.heap.size s.v ts) := U7.out.but hd8.out.2.2 hg
      have D8 := D7.out.back hd8.out
      clear hd8 M7 R7 U7 D7 P7
      go_wp2_with (first | (with_reducible refine wpList_haltS 3 _ _ rfl ?_))
      refine Stp.go ?_
      refine wpList_st1 rfl 3 _ _ rfl gm 0 rfl 26 _ M8.out (.int .i64 z) rfl (by simp) rfl Tryd.size3 [.int .i64 z, .int .i64 (id : Int), .int .i64 o, .slice s.a s.n s.c] rfl ?_
      intro w9 M9 T9
      have M9 : Hid (Bx w9 gm 26 [.int .i64 z, .int .i64 (id : Int), .int .i64 o, .slice s.a s.n s.c]) := M9
      have R9 : Hid (Bx w9 w.heap.size 26 [.int .i64 0, .int .i64 0, .int .i64 0, .slice none 0 0]) := R8.out.turn T9 (by omega)
      have U9 : Hid (SlI w9 w.heap.size s.v ts) := U8.out.past M8.out T9 (by decide)
      have D9 : Hid (Drw w w9 B g ao n cap) := D8.out.push (T9.below (by omega)) hg hB
      clear T9 M8 R8 U8 D8
      have m0 := M9.out.cell 0
      have m1 := M9.out.cell 1
      have m2 := M9.out.cell 2
      have m3 := M9.out.cell 3
      simp only [List.getElem?_cons_succ, List.getElem?_cons_zero] at m0 m1 m2 m3
      go_wp2_with (first | (with_reducible refine wpList_haltS 26 _ _ rfl ?_))
      refine Stp.go ?_
      refine wpList_stB rfl 26 _ _ rfl w.heap.size 0 rfl 26 _ R9.out [.int .i64 z, .int .i64 (id : Int), .int .i64 o, .slice s.a s.n s.c] rfl (by simp) Tryd.sizeBu rfl [.int .i64 z, .int .i64 (id : Int), .int .i64 o, .slice s.a s.n s.c] rfl ?_
      intro WZ RZ TZ
      have DZ : Hid (Drw w WZ B g ao n cap) := D9.out.push (TZ.below (by omega)) hg hB
      have UZ : Hid (SlI WZ w.heap.size s.v ts) := U9.out.past R9.out TZ (by decide)
      clear TZ m0 m1 m2 m3
      go_wp2_with fail
      refine bodyPost_ret (results_b Tryd.results21 w.heap.size 26 [.int .i64 z, .int .i64 (id : Int), .int .i64 o, .slice s.a s.n s.c] _ rfl RZ Tryd.underlying26 rfl Tryd.sizeBu) rfl ?_
      exact ⟨⟨_, _, _, s, ts, rfl, UZ.out, by omega⟩, DZ⟩
    by_cases y1 : y = 1
    · subst y1
      have ba : Below w6.heap.size w6 (w6.alloc (.cells #[.int .i64 0, .int .i64 9, .int .i64 10] 3)) := (Below.refl _ _).alloc (Nat.le_refl _) _
      have P7 : Hid (RowI (w6.alloc (.cells #[.int .i64 0, .int .i64 9, .int .i64 10] 3)) w6.heap.size 3) := rowI_new w6 [0, 9, 10] 3 rfl
      have hS : w6.heap.size < (w6.alloc (.cells #[.int .i64 0, .int .i64 9, .int .i64 10] 3)).heap.size := by simp
      have z6 : w.heap.size ≤ w6.heap.size := Nat.le_of_lt R6.out.lt
      have M7 : Hid (Bx (w6.alloc (.cells #[.int .i64 0, .int .i64 9, .int .i64 10] 3)) gm 26 [.int .i64 d, .int .i64 (id : Int), .int .i64 o, .slice s.a s.n s.c]) := M6.out.later ba
      have R7 : Hid (Bx (w6.alloc (.cells #[.int .i64 0, .int .i64 9, .int .i64 10] 3)) w.heap.size 26 [.int .i64 0, .int .i64 0, .int .i64 0, .slice none 0 0]) := R6.out.later ba
      have U7 : Hid (SlI (w6.alloc (.cells #[.int .i64 0, .int .i64 9, .int .i64 10] 3)) w.heap.size s.v ts) := U6.out.below ba
      have D7 : Hid (Drw w (w6.alloc (.cells #[.int .i64 0, .int .i64 9, .int .i64 10] 3)) B g ao n cap) := D6.out.push (ba.mono z6) hg hB
      have hl6 := M6.out.lt
      clear ba M6 R6 U6 D6
      go_wp2_with fail
      generalize (w6.alloc (.cells #[.int .i64 0, .int .i64 9, .int .i64 10] 3)) = W7 at *
      refine (pickInt_any W7 W7 B g n cap w6.heap.size 3 ao hn hB (by omega) (by omega) hS (by omega) P7 D7.out.here).mono ?_
      rintro e w8 ⟨⟨z, rfl⟩, hd8⟩
      have M8 : Hid (Bx w8 gm 26 [.int .i64 d, .int .i64 (id : Int), .int .i64 o, .slice s.a s.n s.c]) := M7.out.keepb hd8.out.2.2 (by omega)
      have R8 : Hid (Bx w8 w.heap.size 26 [.int .i64 0, .int .i64 0, .int .i64 0, .slice none 0 0]) := R7.out.keepb hd8.out.2.2 (by omega)
      have U8 : Hid (SlI w8 w.heap.size s.v ts) := U7.out.but hd8.out.2.2 hg
      have D8 := D7.out.back hd8.out
      clear hd8 M7 R7 U7 D7 P7
      go_wp2_with (first | (with_reducible refine wpList_haltS 3 _ _ rfl ?_))
      refine Stp.go ?_
      refine wpList_st1 rfl 3 _ _ rfl gm 1 rfl 26 _ M8.out (.int .i64 z) rfl (by simp) rfl Tryd.size3 [.int .i64 d, .int .i64 z, .int .i64 o, .slice s.a s.n s.c] rfl ?_
      intro w9 M9 T9
      have M9 : Hid (Bx w9 gm 26 [.int .i64 d, .int .i64 z, .int .i64 o, .slice s.a s.n s.c]) := M9
      have R9 : Hid (Bx w9 w.heap.size 26 [.int .i64 0, .int .i64 0, .int .i64 0, .slice none 0 0]) := R8.out.turn T9 (by omega)
      have U9 : Hid (SlI w9 w.heap.size s.v ts) := U8.out.past M8.out T9 (by decide)
      have D9 : Hid (Drw w w9 B g ao n cap) := D8.out.push (T9.below (by omega)) hg hB
      clear T9 M8 R8 U8 D8
      have m0 := M9.out.cell 0
      have m1 := M9.out.cell 1
      have m2 := M9.out.cell 2
      have m3 := M9.out.cell 3
      simp only [List.getElem?_cons_succ, List.getElem?_cons_zero] at m0 m1 m2 m3
      go_wp2_with (first | (with_reducible refine wpList_haltS 26 _ _ rfl ?_))
      refine Stp.go ?_
      refine wpList_stB rfl 26 _ _ rfl w.heap.size 0 rfl 26 _ R9.out [.int .i64 d, .int .i64 z, .int .i64 o, .slice s.a s.n s.c] rfl (by simp) Tryd.sizeBu rfl [.int .i64 d, .int .i64 z, .int .i64 o, .slice s.a s.n s.c] rfl ?_
      intro WZ RZ TZ
      have DZ : Hid (Drw w WZ B g ao n cap) := D9.out.push (TZ.below (by omega)) hg hB
      have UZ : Hid (SlI WZ w.heap.size s.v ts) := U9.out.past R9.out TZ (by decide)
      clear TZ m0 m1 m2 m3
      go_wp2_with fail
      refine bodyPost_ret (results_b Tryd.results21 w.heap.size 26 [.int .i64 d, .int .i64 z, .int .i64 o, .slice s.a s.n s.c] _ rfl RZ Tryd.underlying26 rfl Tryd.sizeBu) rfl ?_
      exact ⟨⟨_, _, _, s, ts, rfl, UZ.out, by omega⟩, DZ⟩
    by_cases y2 : y = 2
    · subst y2
      have ba : Below w6.heap.size w6 (w6.alloc (.cells #[.int .i64 (-1), .int .i64 0, .int .i64 (id : Int)] 3)) := (Below.refl _ _).alloc (Nat.le_refl _) _
      have P7 : Hid (RowI (w6.alloc (.cells #[.int .i64 (-1), .int .i64 0, .int .i64 (id : Int)] 3)) w6.heap.size 3) := rowI_new w6 [-1, 0, (id : Int)] 3 rfl
      have hS : w6.heap.size < (w6.alloc (.cells #[.int .i64 (-1), .int .i64 0, .int .i64 (id : Int)] 3)).heap.size := by simp
      have z6 : w.heap.size ≤ w6.heap.size := Nat.le_of_lt R6.out.lt
      have M7 : Hid (Bx (w6.alloc (.cells #[.int .i64 (-1), .int .i64 0, .int .i64 (id : Int)] 3)) gm 26 [.int .i64 d, .int .i64 (id : Int), .int .i64 o, .slice s.a s.n s.c]) := M6.out.later ba
      have R7 : Hid (Bx (w6.alloc (.cells #[.int .i64 (-1), .int .i64 0, .int .i64 (id : Int)] 3)) w.heap.size 26 [.int .i64 0, .int .i64 0, .int .i64 0, .slice none 0 0]) := R6.out.later ba
      have U7 : Hid (SlI (w6.alloc (.cells #[.int .i64 (-1), .int .i64 0, .int .i64 (id : Int)] 3)) w.heap.size s.v ts) := U6.out.below ba
      have D7 : Hid (Drw w (w6.alloc (.cells #[.int .i64 (-1), .int .i64 0, .int .i64 (id : Int)] 3)) B g ao n cap) := D6.out.push (ba.mono z6) hg hB
      have m1 := M6.out.cell 1
      simp only [List.getElem?_cons_succ, List.getElem?_cons_zero] at m1
      have hl6 := M6.out.lt
      clear ba M6 R6 U6 D6
      go_wp2_with fail
      clear m1
      generalize (w6.alloc (.cells #[.int .i64 (-1), .int .i64 0, .int .i64 (id : Int)] 3)) = W7 at *
      refine (pickInt_any W7 W7 B g n cap w6.heap.size 3 ao hn hB (by omega) (by omega) hS (by omega) P7 D7.out.here).mono ?_
      rintro e w8 ⟨⟨z, rfl⟩, hd8⟩
      have M8 : Hid (Bx w8 gm 26 [.int .i64 d, .int .i64 (id : Int), .int .i64 o, .slice s.a s.n s.c]) := M7.out.keepb hd8.out.2.2 (by omega)
      have R8 : Hid (Bx w8 w.heap.size 26 [.int .i64 0, .int .i64 0, .int .i64 0, .slice none 0 0]) := R7.out.keepb hd8.out.2.2 (by omega)
      have U8 : Hid (SlI w8 w.heap.size s.v ts) := U7.out.but hd8.out.2.2 hg
      have D8 := D7.out.back hd8.out
      clear hd8 M7 R7 U7 D7 P7
      go_wp2_with (first | (with_reducible refine wpList_haltS 3 _ _ rfl ?_))
      refine Stp.go ?_
      refine wpList_st1 rfl 3 _ _ rfl gm 2 rfl 26 _ M8.out (.int .i64 z) rfl (by simp) rfl Tryd.size3 [.int .i64 d, .int .i64 (id : Int), .int .i64 z, .slice s.a s.n s.c] rfl ?_
      intro w9 M9 T9
      have M9 : Hid (Bx w9 gm 26 [.int .i64 d, .int .i64 (id : Int), .int .i64 z, .slice s.a s.n s.c]) := M9
      have R9 : Hid (Bx w9 w.heap.size 26 [.int .i64 0, .int .i64 0, .int .i64 0, .slice none 0 0]) := R8.out.turn T9 (by omega)
      have U9 : Hid (SlI w9 w.heap.size s.v ts) := U8.out.past M8.out T9 (by decide)
      have D9 : Hid (Drw w w9 B g ao n cap) := D8.out.push (T9.below (by omega)) hg hB
      clear T9 M8 R8 U8 D8
      have m0 := M9.out.cell 0
      have m1 := M9.out.cell 1
      have m2 := M9.out.cell 2
      have m3 := M9.out.cell 3
      simp only [List.getElem?_cons_succ, List.getElem?_cons_zero] at m0 m1 m2 m3
      go_wp2_with (first | (with_reducible refine wpList_haltS 26 _ _ rfl ?_))
      refine Stp.go ?_
      refine wpList_stB rfl 26 _ _ rfl w.heap.size 0 rfl 26 _ R9.out [.int .i64 d, .int .i64 (id : Int), .int .i64 z, .slice s.a s.n s.c] rfl (by simp) Tryd.sizeBu rfl [.int .i64 d, .int .i64 (id : Int), .int .i64 z, .slice s.a s.n s.c] rfl ?_
      intro WZ RZ TZ
      have DZ : Hid (Drw w WZ B g ao n cap) := D9.out.push (TZ.below (by omega)) hg hB
      have UZ : Hid (SlI WZ w.heap.size s.v ts) := U9.out.past R9.out TZ (by decide)
      clear TZ m0 m1 m2 m3
      go_wp2_with fail
      refine bodyPost_ret (results_b Tryd.results21 w.heap.size 26 [.int .i64 d, .int .i64 (id : Int), .int .i64 z, .slice s.a s.n s.c] _ rfl RZ Tryd.underlying26 rfl Tryd.sizeBu) rfl ?_
      exact ⟨⟨_, _, _, s, ts, rfl, UZ.out, by omega⟩, DZ⟩
    by_cases y3 : y = 3
    · subst y3
      go_wp2_with fail
      refine (anyItems_any w6 w6 B g n cap ao hn hB D6.out.here).mono ?_
      rintro e w8 ⟨⟨v3, ts3, rfl, U8, hsh⟩, hd8⟩
      obtain ⟨s3, rfl, e3⟩ := U8.sv
      have hs3 := hsh.1
      clear hsh e3
      have M8 : Hid (Bx w8 gm 26 [.int .i64 d, .int .i64 (id : Int), .int .i64 o, .slice s.a s.n s.c]) := M6.out.keepb hd8.out.2.2 (by omega)
      have R8 : Hid (Bx w8 w.heap.size 26 [.int .i64 0, .int .i64 0, .int .i64 0, .slice none 0 0]) := R6.out.keepb hd8.out.2.2 (by omega)
      have U8 : Hid (SlI w8 w.heap.size s3.v ts3) := U8.down (Nat.le_of_lt R6.out.lt)
      have D8 := D6.out.back hd8.out
      clear hd8 M6 R6 U6 D6
      go_wp2_with (first | (with_reducible refine wpList_haltS 24 _ _ rfl ?_))
      refine Stp.go ?_
      refine wpList_st1 rfl 24 _ _ rfl gm 3 rfl 26 _ M8.out (.slice s3.a s3.n s3.c) rfl (by simp) rfl Tryd.sizeIs [.int .i64 d, .int .i64 (id : Int), .int .i64 o, .slice s3.a s3.n s3.c] rfl ?_
      intro w9 M9 T9
      have M9 : Hid (Bx w9 gm 26 [.int .i64 d, .int .i64 (id : Int), .int .i64 o, .slice s3.a s3.n s3.c]) := M9
      have R9 : Hid (Bx w9 w.heap.size 26 [.int .i64 0, .int .i64 0, .int .i64 0, .slice none 0 0]) := R8.out.turn T9 (by omega)
      have U9 : Hid (SlI w9 w.heap.size s3.v ts3) := U8.out.past M8.out T9 (by decide)
      have D9 : Hid (Drw w w9 B g ao n cap) := D8.out.push (T9.below (by omega)) hg hB
      clear T9 M8 R8 U8 D8
      have m0 := M9.out.cell 0
      have m1 := M9.out.cell 1
      have m2 := M9.out.cell 2
      have m3 := M9.out.cell 3
      simp only [List.getElem?_cons_succ, List.getElem?_cons_zero] at m0 m1 m2 m3
      go_wp2_with (first | (with_reducible refine wpList_haltS 26 _ _ rfl ?_))
      refine Stp.go ?_
      refine wpList_stB rfl 26 _ _ rfl w.heap.size 0 rfl 26 _ R9.out [.int .i64 d, .int .i64 (id : Int), .int .i64 o, .slice s3.a s3.n s3.c] rfl (by simp) Tryd.sizeBu rfl [.int .i64 d, .int .i64 (id : Int), .int .i64 o, .slice s3.a s3.n s3.c] rfl ?_
      intro WZ RZ TZ
      have DZ : Hid (Drw w WZ B g ao n cap) := D9.out.push (TZ.below (by omega)) hg hB
      have UZ : Hid (SlI WZ w.heap.size s3.v ts3) := U9.out.past R9.out TZ (by decide)
      clear TZ m0 m1 m2 m3
      go_wp2_with fail
      refine bodyPost_ret (results_b Tryd.results21 w.heap.size 26 [.int .i64 d, .int .i64 (id : Int), .int .i64 o, .slice s3.a s3.n s3.c] _ rfl RZ Tryd.underlying26 rfl Tryd.sizeBu) rfl ?_
      exact ⟨⟨_, _, _, s3, ts3, rfl, UZ.out, by omega⟩, DZ⟩
    have n0 : ¬ (y : Int) = 0 := by omega
    have n1 : ¬ (y : Int) = 1 := by omega
    have n2 : ¬ (y : Int) = 2 := by omega
    have n3 : ¬ (y : Int) = 3 := by omega
    have m0 := M6.out.cell 0
    have m1 := M6.out.cell 1
    have m2 := M6.out.cell 2
    have m3 := M6.out.cell 3
    simp only [List.getElem?_cons_succ, List.getElem?_cons_zero] at m0 m1 m2 m3
    go_wp2_with (first | (with_reducible refine wpList_haltS 26 _ _ rfl ?_))
    refine Stp.go ?_
    refine wpList_stB rfl 26 _ _ rfl w.heap.size 0 rfl 26 _ R6.out [.int .i64 d, .int .i64 (id : Int), .int .i64 o, .slice s.a s.n s.c] rfl (by simp) Tryd.sizeBu rfl [.int .i64 d, .int .i64 (id : Int), .int .i64 o, .slice s.a s.n s.c] rfl ?_
    intro WZ RZ TZ
    have DZ : Hid (Drw w WZ B g ao n cap) := D6.out.push (TZ.below (by omega)) hg hB
    have UZ : Hid (SlI WZ w.heap.size s.v ts) := U6.out.past R6.out TZ (by decide)
    clear TZ m0 m1 m2 m3
    go_wp2_with fail
    refine bodyPost_ret (results_b Tryd.results21 w.heap.size 26 [.int .i64 d, .int .i64 (id : Int), .int .i64 o, .slice s.a s.n s.c] _ rfl RZ Tryd.underlying26 rfl Tryd.sizeBu) rfl ?_
    exact ⟨⟨_, _, _, s, ts, rfl, UZ.out, by omega⟩, DZ⟩
  · skip
    rw [if_pos (by rfl)]
    simp only [List.getElem_toArray, List.getElem_cons_zero, List.getElem_cons_succ]
    go_simp
    have ba : Below W.heap.size W (W.alloc (.cells #[.int .i64 0, .int .i64 0, .int .i64 0, .slice none 0 0] 26)) := (Below.refl _ _).alloc (Nat.le_refl _) _
    have NB : Hid (Bx (W.alloc (.cells #[.int .i64 0, .int .i64 0, .int .i64 0, .slice none 0 0] 26)) W.heap.size 26 [.int .i64 0, .int .i64 0, .int .i64 0, .slice none 0 0]) := Bx.new W 26 [.int .i64 0, .int .i64 0, .int .i64 0, .slice none 0 0]
    have hnb : szb ≤ W.heap.size := SZ
    have CM : Hid ((W.alloc (.cells #[.int .i64 0, .int .i64 0, .int .i64 0, .slice none 0 0] 26)).cell? ⟨mb, mo, none⟩ = some (.int .i64 d)) := cellD_on CM.out ba (by omega)
    have RR : Hid (Bx (W.alloc (.cells #[.int .i64 0, .int .i64 0, .int .i64 0, .slice none 0 0] 26)) w.heap.size 26 [.int .i64 0, .int .i64 0, .int .i64 0, .slice none 0 0]) := RR.out.later ba
    have RG : Hid (Bx (W.alloc (.cells #[.int .i64 0, .int .i64 0, .int .i64 0, .slice none 0 0] 26)) gr 75 [.int .i64 (id : Int), .slice (some ⟨mb, mo, none⟩) ms.length mc]) := RG.out.later ba
    have DW : Hid (Drw w (W.alloc (.cells #[.int .i64 0, .int .i64 0, .int .i64 0, .slice none 0 0] 26)) B g ao n cap) := DW.out.push (ba.mono (by omega)) hg hB
    have SZ : szb ≤ (W.alloc (.cells #[.int .i64 0, .int .i64 0, .int .i64 0, .slice none 0 0] 26)).heap.size := Nat.le_trans SZ ba.size
    refine hK.out _ _ (KEEP.out _ (RG.out.cell 0) (RG.out.cell 1) (CM.out)) (fun hHeld => ?_)
    clear hK K
    try simp only [Act.put, List.getElem_toArray, List.getElem_cons_zero, List.getElem_cons_succ, List.setIfInBounds_toArray, List.set_cons_zero, List.set_cons_succ]
    clear ba
    refine wpAnyH_ready (rs := [6]) (by kernel_rfl) (by simp) ?_
    refine AllReadyH.cons (i := 6) rfl (fun K hK => ?_) AllReadyH.nil
    rw [if_pos (by rfl)]
    simp only [List.getElem_toArray, List.getElem_cons_zero, List.getElem_cons_succ]
    go_simp
    refine (bundleD_any (W.alloc (.cells #[.int .i64 0, .int .i64 0, .int .i64 0, .slice none 0 0] 26)) (W.alloc (.cells #[.int .i64 0, .int .i64 0, .int .i64 0, .slice none 0 0] 26)) B g n cap ao id d (some ⟨mb, mo, none⟩) ms.length mc hn hB h1 h4 DW.out.here).mono ?_
    rintro e y0 ⟨⟨o, s, ts, rfl, US, hts⟩, hdy⟩
    have RR : Hid (Bx y0 w.heap.size 26 [.int .i64 0, .int .i64 0, .int .i64 0, .slice none 0 0]) := RR.out.keepb hdy.out.2.2 (by omega)
    have RG : Hid (Bx y0 gr 75 [.int .i64 (id : Int), .slice (some ⟨mb, mo, none⟩) ms.length mc]) := RG.out.keepb hdy.out.2.2 (by omega)
    have CM : Hid (y0.cell? ⟨mb, mo, none⟩ = some (.int .i64 d)) := cellD_of CM.out hdy.out.2.2 (by omega) (by omega)
    have SZ : szb ≤ y0.heap.size := Nat.le_trans SZ hdy.out.2.2.size
    have US : Hid (SlI y0 w.heap.size s.v ts) := US.down (by have := RR.out.lt; first | omega | (simp; omega))
    have DW := DW.out.back hdy.out
    have NB : Hid (Bx y0 W.heap.size 26 [.int .i64 0, .int .i64 0, .int .i64 0, .slice none 0 0]) := NB.out.keepb hdy.out.2.2 (by omega)
    refine hK.out _ _ (KEEP.out _ (RG.out.cell 0) (RG.out.cell 1) (CM.out)) (fun hHeld => ?_)
    clear hK K
    try simp only [Act.put, List.getElem_toArray, List.getElem_cons_zero, List.getElem_cons_succ, List.setIfInBounds_toArray, List.set_cons_zero, List.set_cons_succ]
    clear hdy
    refine wpAnyH_ready (rs := [8]) (by kernel_rfl) (by simp) ?_
    refine AllReadyH.cons (i := 8) rfl (fun K hK => ?_) AllReadyH.nil
    rw [if_pos (by rfl)]
    simp only [List.getElem_toArray, List.getElem_cons_zero, List.getElem_cons_succ]
    refine wp_stBuD 26 _ _ rfl (W.heap.size) 0 (by rfl) 26 _ NB.out [.int .i64 d, .int .i64 (id : Int), .int .i64 o, .slice s.a s.n s.c] (by rfl) (by simp) Tryd.sizeBu rfl [.int .i64 d, .int .i64 (id : Int), .int .i64 o, .slice s.a s.n s.c] rfl ?_
    intro w5 M5 T5
    generalize W.heap.size = gm at *
    have M5 : Hid (Bx w5 gm 26 [.int .i64 d, .int .i64 (id : Int), .int .i64 o, .slice s.a s.n s.c]) := M5
    have U5 : Hid (SlI w5 w.heap.size s.v ts) := US.out.past NB.out T5 (by decide)
    have R5 : Hid (Bx w5 w.heap.size 26 [.int .i64 0, .int .i64 0, .int .i64 0, .slice none 0 0]) := RR.out.turn T5 (by omega)
    have RG : Hid (Bx w5 gr 75 [.int .i64 (id : Int), .slice (some ⟨mb, mo, none⟩) ms.length mc]) := RG.out.turn T5 (by omega)
    have CM : Hid (w5.cell? ⟨mb, mo, none⟩ = some (.int .i64 d)) := cellD_past CM.out T5 (by omega)
    have D5 : Hid (Drw w w5 B g ao n cap) := DW.out.push (T5.below (by omega)) hg hB
    refine hK.out _ _ (KEEP.out _ (RG.out.cell 0) (RG.out.cell 1) (CM.out)) (fun hHeld => ?_)
    clear hK K
    try simp only [Act.put, List.getElem_toArray, List.getElem_cons_zero, List.getElem_cons_succ, List.setIfInBounds_toArray, List.set_cons_zero, List.set_cons_succ]
    clear T5 RR DW NB US
    refine wpAnyH_done (by kernel_rfl) ?_ _
    clear hHeld RG CM KEEP
    go_wp2_with fail
    refine (below_small w5 w5 B g n cap 20 ao hn hB (by omega) (by omega) D5.out.here).mono ?_
    rintro e w6 ⟨⟨y, hy, rfl⟩, hd6⟩
    have M6 : Hid (Bx w6 gm 26 [.int .i64 d, .int .i64 (id : Int), .int .i64 o, .slice s.a s.n s.c]) := M5.out.keepb hd6.out.2.2 (by omega)
    have R6 : Hid (Bx w6 w.heap.size 26 [.int .i64 0, .int .i64 0, .int .i64 0, .slice none 0 0]) := R5.out.keepb hd6.out.2.2 (by omega)
    have U6 : Hid (SlI w6 w.heap.size s.v ts) := U5.out.but hd6.out.2.2 hg
    have D6 := D5.out.back hd6.out
    clear hd6 M5 R5 U5 D5
    by_cases y0 : y = 0
    · subst y0
      have ba : Below w6.heap.size w6 (w6.alloc (.cells #[.int .i64 0, .int .i64 5, .int .i64 6] 3)) := (Below.refl _ _).alloc (Nat.le_refl _) _
      have P7 : Hid (RowI (w6.alloc (.cells #[.int .i64 0, .int .i64 5, .int .i64 6] 3)) w6.heap.size 3) := rowI_new w6 [0, 5, 6] 3 rfl
      have hS : w6.heap.size < (w6.alloc (.cells #[.int .i64 0, .int .i64 5, .int .i64 6] 3)).heap.size := by simp
      have z6 : w.heap.size ≤ w6.heap.size := Nat.le_of_lt R6.out.lt
      have M7 : Hid (Bx (w6.alloc (.cells #[.int .i64 0, .int .i64 5, .int .i64 6] 3)) gm 26 [.int .i64 d, .int .i64 (id : Int), .int .i64 o, .slice s.a s.n s.c]) := M6.out.later ba
      have R7 : Hid (Bx (w6.alloc (.cells #[.int .i64 0, .int .i64 5, .int .i64 6] 3)) w.heap.size 26 [.int .i64 0, .int .i64 0, .int .i64 0, .slice none 0 0]) := R6.out.later ba
      have U7 : Hid (SlI (w6.alloc (.cells #[.int .i64 0, .int .i64 5, .int .i64 6] 3)) w.heap.size s.v ts) := U6.out.below ba
      have D7 : Hid (Drw w (w6.alloc (.cells #[.int .i64 0, .int .i64 5, .int .i64 6] 3)) B g ao n cap) := D6.out.push (ba.mono z6) hg hB
      have hl6 := M6.out.lt
      clear ba M6 R6 U6 D6
      go_wp2_with fail
      generalize (w6.alloc (.cells #[.int .i64 0, .int .i64 5, .int .i64 6] 3)) = W7 at *
      refine (pickInt_any W7 W7 B g n cap w6.heap.size 3 ao hn hB (by omega) (by omega) hS (by omega) P7 D7.out.here).mono ?_
      rintro e w8 ⟨⟨z, rfl⟩, hd8⟩
      have M8 : Hid (Bx w8 gm 26 [.int .i64 d, .int .i64 (id : Int), .int .i64 o, .slice s.a s.n s.c]) := M7.out.keepb hd8.out.2.2 (by omega)
      have R8 : Hid (Bx w8 w.heap.size 26 [.int .i64 0, .int .i64 0, .int .i64 0, .slice none 0 0]) := R7.out.keepb hd8.out.2.2 (by omega)
      have U8 : Hid (SlI w8 w.heap.size s.v ts) := U7.out.but hd8.out.2.2 hg
      have D8 := D7.out.back hd8.out
      clear hd8 M7 R7 U7 D7 P7
      go_wp2_with (first | (with_reducible refine wpList_haltS 3 _ _ rfl ?_))
      refine Stp.go ?_
      refine wpList_st1 rfl 3 _ _ rfl gm 0 rfl 26 _ M8.out (.int .i64 z) rfl (by simp) rfl Tryd.size3 [.int .i64 z, .int .i64 (id : Int), .int .i64 o, .slice s.a s.n s.c] rfl ?_
      intro w9 M9 T9
      have M9 : Hid (Bx w9 gm 26 [.int .i64 z, .int .i64 (id : Int), .int .i64 o, .slice s.a s.n s.c]) := M9
      have R9 : Hid (Bx w9 w.heap.size 26 [.int .i64 0, .int .i64 0, .int .i64 0, .slice none 0 0]) := R8.out.turn T9 (by omega)
      have U9 : Hid (SlI w9 w.heap.size s.v ts) := U8.out.past M8.out T9 (by decide)
      have D9 : Hid (Drw w w9 B g ao n cap) := D8.out.push (T9.below (by omega)) hg hB
      clear T9 M8 R8 U8 D8
      have m0 := M9.out.cell 0
      have m1 := M9.out.cell 1
      have m2 := M9.out.cell 2
      have m3 := M9.out.cell 3
      simp only [List.getElem?_cons_succ, List.getElem?_cons_zero] at m0 m1 m2 m3
      go_wp2_with (first | (with_reducible refine wpList_haltS 26 _ _ rfl ?_))
      refine Stp.go ?_
      refine wpList_stB rfl 26 _ _ rfl w.heap.size 0 rfl 26 _ R9.out [.int .i64 z, .int .i64 (id : Int), .int .i64 o, .slice s.a s.n s.c] rfl (by simp) Tryd.sizeBu rfl [.int .i64 z, .int .i64 (id : Int), .int .i64 o, .slice s.a s.n s.c] rfl ?_
      intro WZ RZ TZ
      have DZ : Hid (Drw w WZ B g ao n cap) := D9.out.push (TZ.below (by omega)) hg hB
      have UZ : Hid (SlI WZ w.heap.size s.v ts) := U9.out.past R9.out TZ (by decide)
      clear TZ m0 m1 m2 m3
      go_wp2_with fail
      refine bodyPost_ret (results_b Tryd.results21 w.heap.size 26 [.int .i64 z, .int .i64 (id : Int), .int .i64 o, .slice s.a s.n s.c] _ rfl RZ Tryd.underlying26 rfl Tryd.sizeBu) rfl ?_
      exact ⟨⟨_, _, _, s, ts, rfl, UZ.out, by omega⟩, DZ⟩
    by_cases y1 : y = 1
    · subst y1
      have ba : Below w6.heap.size w6 (w6.alloc (.cells #[.int .i64 0, .int .i64 9, .int .i64 10] 3)) := (Below.refl _ _).alloc (Nat.le_refl _) _
      have P7 : Hid (RowI (w6.alloc (.cells #[.int .i64 0, .int .i64 9, .int .i64 10] 3)) w6.heap.size 3) := rowI_new w6 [0, 9, 10] 3 rfl
      have hS : w6.heap.size < (w6.alloc (.cells #[.int .i64 0, .int .i64 9, .int .i64 10] 3)).heap.size := by simp
      have z6 : w.heap.size ≤ w6.heap.size := Nat.le_of_lt R6.out.lt
      have M7 : Hid (Bx (w6.alloc (.cells #[.int .i64 0, .int .i64 9, .int .i64 10] 3)) gm 26 [.int .i64 d, .int .i64 (id : Int), .int .i64 o, .slice s.a s.n s.c]) := M6.out.later ba
      have R7 : Hid (Bx (w6.alloc (.cells #[.int .i64 0, .int .i64 9, .int .i64 10] 3)) w.heap.size 26 [.int .i64 0, .int .i64 0, .int .i64 0, .slice none 0 0]) := R6.out.later ba
      have U7 : Hid (SlI (w6.alloc (.cells #[.int .i64 0, .int .i64 9, .int .i64 10] 3)) w.heap.size s.v ts) := U6.out.below ba
      have D7 : Hid (Drw w (w6.alloc (.cells #[.int .i64 0, .int .i64 9, .int .i64 10] 3)) B g ao n cap) := D6.out.push (ba.mono z6) hg hB
      have hl6 := M6.out.lt
      clear ba M6 R6 U6 D6
      go_wp2_with fail
      generalize (w6.alloc (.cells #[.int .i64 0, .int .i64 9, .int .i64 10] 3)) = W7 at *
      refine (pickInt_any W7 W7 B g n cap w6.heap.size 3 ao hn hB (by omega) (by omega) hS (by omega) P7 D7.out.here).mono ?_
      rintro e w8 ⟨⟨z, rfl⟩, hd8⟩
      have M8 : Hid (Bx w8 gm 26 [.int .i64 d, .int .i64 (id : Int), .int .i64 o, .slice s.a s.n s.c]) := M7.out.keepb hd8.out.2.2 (by omega)
      have R8 : Hid (Bx w8 w.heap.size 26 [.int .i64 0, .int .i64 0, .int .i64 0, .slice none 0 0]) := R7.out.keepb hd8.out.2.2 (by omega)
      have U8 : Hid (SlI w8 w.heap.size s.v ts) := U7.out.but hd8.out.2.2 hg
      have D8 := D7.out.back hd8.out
      clear hd8 M7 R7 U7 D7 P7
      go_wp2_with (first | (with_reducible refine wpList_haltS 3 _ _ rfl ?_))
      refine Stp.go ?_
      refine wpList_st1 rfl 3 _ _ rfl gm 1 rfl 26 _ M8.out (.int .i64 z) rfl (by simp) rfl Tryd.size3 [.int .i64 d, .int .i64 z, .int .i64 o, .slice s.a s.n s.c] rfl ?_
      intro w9 M9 T9
      have M9 : Hid (Bx w9 gm 26 [.int .i64 d, .int .i64 z, .int .i64 o, .slice s.a s.n s.c]) := M9
      have R9 : Hid (Bx w9 w.heap.size 26 [.int .i64 0, .int .i64 0, .int .i64 0, .slice none 0 0]) := R8.out.turn T9 (by omega)
      have U9 : Hid (SlI w9 w.heap.size s.v ts) := U8.out.past M8.out T9 (by decide)
      have D9 : Hid (Drw w w9 B g ao n cap) := D8.out.push (T9.below (by omega)) hg hB
      clear T9 M8 R8 U8 D8
      have m0 := M9.out.cell 0
      have m1 := M9.out.cell 1
      have m2 := M9.out.cell 2
      have m3 := M9.out.cell 3
      simp only [List.getElem?_cons_succ, List.getElem?_cons_zero] at m0 m1 m2 m3
      go_wp2_with (first | (with_reducible refine wpList_haltS 26 _ _ rfl ?_))
      refine Stp.go ?_
      refine wpList_stB rfl 26 _ _ rfl w.heap.size 0 rfl 26 _ R9.out [.int .i64 d, .int .i64 z, .int .i64 o, .slice s.a s.n s.c] rfl (by simp) Tryd.sizeBu rfl [.int .i64 d, .int .i64 z, .int .i64 o, .slice s.a s.n s.c] rfl ?_
      intro WZ RZ TZ
      have DZ : Hid (Drw w WZ B g ao n cap) := D9.out.push (TZ.below (by omega)) hg hB
      have UZ : Hid (SlI WZ w.heap.size s.v ts) := U9.out.past R9.out TZ (by decide)
      clear TZ m0 m1 m2 m3
      go_wp2_with fail
      refine bodyPost_ret (results_b Tryd.results21 w.heap.size 26 [.int .i64 d, .int .i64 z, .int .i64 o, .slice s.a s.n s.c] _ rfl RZ Tryd.underlying26 rfl Tryd.sizeBu) rfl ?_
      exact ⟨⟨_, _, _, s, ts, rfl, UZ.out, by omega⟩, DZ⟩
    by_cases y2 : y = 2
    · subst y2
      have ba : Below w6.heap.size w6 (w6.alloc (.cells #[.int .i64 (-1), .int .i64 0, .int .i64 (id : Int)] 3)) := (Below.refl _ _).alloc (Nat.le_refl _) _
      have P7 : Hid (RowI (w6.alloc (.cells #[.int .i64 (-1), .int .i64 0, .int .i64 (id : Int)] 3)) w6.heap.size 3) := rowI_new w6 [-1, 0, (id : Int)] 3 rfl
      have hS : w6.heap.size < (w6.alloc (.cells #[.int .i64 (-1), .int .i64 0, .int .i64 (id : Int)] 3)).heap.size := by simp
      have z6 : w.heap.size ≤ w6.heap.size := Nat.le_of_lt R6.out.lt
      have M7 : Hid (Bx (w6.alloc (.cells #[.int .i64 (-1), .int .i64 0, .int .i64 (id : Int)] 3)) gm 26 [.int .i64 d, .int .i64 (id : Int), .int .i64 o, .slice s.a s.n s.c]) := M6.out.later ba
      have R7 : Hid (Bx (w6.alloc (.cells #[.int .i64 (-1), .int .i64 0, .int .i64 (id : Int)] 3)) w.heap.size 26 [.int .i64 0, .int .i64 0, .int .i64 0, .slice none 0 0]) := R6.out.later ba
      have U7 : Hid (SlI (w6.alloc (.cells #[.int .i64 (-1), .int .i64 0, .int .i64 (id : Int)] 3)) w.heap.size s.v ts) := U6.out.below ba
      have D7 : Hid (Drw w (w6.alloc (.cells #[.int .i64 (-1), .int .i64 0, .int .i64 (id : Int)] 3)) B g ao n cap) := D6.out.push (ba.mono z6) hg hB
      have m1 := M6.out.cell 1
      simp only [List.getElem?_cons_succ, List.getElem?_cons_zero] at m1
      have hl6 := M6.out.lt
      clear ba M6 R6 U6 D6
      go_wp2_with fail
      clear m1
      generalize (w6.alloc (.cells #[.int .i64 (-1), .int .i64 0, .int .i64 (id : Int)] 3)) = W7 at *
      refine (pickInt_any W7 W7 B g n cap w6.heap.size 3 ao hn hB (by omega) (by omega) hS (by omega) P7 D7.out.here).mono ?_
      rintro e w8 ⟨⟨z, rfl⟩, hd8⟩
      have M8 : Hid (Bx w8 gm 26 [.int .i64 d, .int .i64 (id : Int), .int .i64 o, .slice s.a s.n s.c]) := M7.out.keepb hd8.out.2.2 (by omega)
      have R8 : Hid (Bx w8 w.heap.size 26 [.int .i64 0, .int .i64 0, .int .i64 0, .slice none 0 0]) := R7.out.keepb hd8.out.2.2 (by omega)
      have U8 : Hid (SlI w8 w.heap.size s.v ts) := U7.out.but hd8.out.2.2 hg
      have D8 := D7.out.back hd8.out
      clear hd8 M7 R7 U7 D7 P7
      go_wp2_with (first | (with_reducible refine wpList_haltS 3 _ _ rfl ?_))
      refine Stp.go ?_
      refine wpList_st1 rfl 3 _ _ rfl gm 2 rfl 26 _ M8.out (.int .i64 z) rfl (by simp) rfl Tryd.size3 [.int .i64 d, .int .i64 (id : Int), .int .i64 z, .slice s.a s.n s.c] rfl ?_
      intro w9 M9 T9
      have M9 : Hid (Bx w9 gm 26 [.int .i64 d, .int .i64 (id : Int), .int .i64 z, .slice s.a s.n s.c]) := M9
      have R9 : Hid (Bx w9 w.heap.size 26 [.int .i64 0, .int .i64 0, .int .i64 0, .slice none 0 0]) := R8.out.turn T9 (by omega)
      have U9 : Hid (SlI w9 w.heap.size s.v ts) := U8.out.past M8.out T9 (by decide)
      have D9 : Hid (Drw w w9 B g ao n cap) := D8.out.push (T9.below (by omega)) hg hB
      clear T9 M8 R8 U8 D8
      have m0 := M9.out.cell 0
      have m1 := M9.out.cell 1
      have m2 := M9.out.cell 2
      have m3 := M9.out.cell 3
      simp only [List.getElem?_cons_succ, List.getElem?_cons_zero] at m0 m1 m2 m3
      go_wp2_with (first | (with_reducible refine wpList_haltS 26 _ _ rfl ?_))
      refine Stp.go ?_
      refine wpList_stB rfl 26 _ _ rfl w.heap.size 0 rfl 26 _ R9.out [.int .i64 d, .int .i64 (id : Int), .int .i64 z, .slice s.a s.n s.c] rfl (by simp) Tryd.sizeBu rfl [.int .i64 d, .int .i64 (id : Int), .int .i64 z, .slice s.a s.n s.c] rfl ?_
      intro WZ RZ TZ
      have DZ : Hid (Drw w WZ B g ao n cap) := D9.out.push (TZ.below (by omega)) hg hB
      have UZ : Hid (SlI WZ w.heap.size s.v ts) := U9.out.past R9.out TZ (by decide)
      clear TZ m0 m1 m2 m3
      go_wp2_with fail
      refine bodyPost_ret (results_b Tryd.results21 w.heap.size 26 [.int .i64 d, .int .i64 (id : Int), .int .i64 z, .slice s.a s.n s.c] _ rfl RZ Tryd.underlying26 rfl Tryd.sizeBu) rfl ?_
      exact ⟨⟨_, _, _, s, ts, rfl, UZ.out, by omega⟩, DZ⟩
    by_cases y3 : y = 3
    · subst y3
      go_wp2_with fail
      refine (anyItems_any w6 w6 B g n cap ao hn hB D6.out.here).mono ?_
      rintro e w8 ⟨⟨v3, ts3, rfl, U8, hsh⟩, hd8⟩
      obtain ⟨s3, rfl, e3⟩ := U8.sv
      have hs3 := hsh.1
      clear hsh e3
      have M8 : Hid (Bx w8 gm 26 [.int .i64 d, .int .i64 (id : Int), .int .i64 o, .slice s.a s.n s.c]) := M6.out.keepb hd8.out.2.2 (by omega)
      have R8 : Hid (Bx w8 w.heap.size 26 [.int .i64 0, .int .i64 0, .int .i64 0, .slice none 0 0]) := R6.out.keepb hd8.out.2.2 (by omega)
      have U8 : Hid (SlI w8 w.heap.size s3.v ts3) := U8.down (Nat.le_of_lt R6.out.lt)
      have D8 := D6.out.back hd8.out
      clear hd8 M6 R6 U6 D6
      go_wp2_with (first | (with_reducible refine wpList_haltS 24 _ _ rfl ?_))
      refine Stp.go ?_
      refine wpList_st1 rfl 24 _ _ rfl gm 3 rfl 26 _ M8.out (.slice s3.a s3.n s3.c) rfl (by simp) rfl Tryd.sizeIs [.int .i64 d, .int .i64 (id : Int), .int .i64 o, .slice s3.a s3.n s3.c] rfl ?_
      intro w9 M9 T9
      have M9 : Hid (Bx w9 gm 26 [.int .i64 d, .int .i64 (id : Int), .int .i64 o, .slice s3.a s3.n s3.c]) := M9
      have R9 : Hid (Bx w9 w.heap.size 26 [.int .i64 0, .int .i64 0, .int .i64 0, .slice none 0 0]) := R8.out.turn T9 (by omega)
      have U9 : Hid (SlI w9 w.heap.size s3.v ts3) := U8.out.past M8.out T9 (by decide)
      have D9 : Hid (Drw w w9 B g ao n cap) := D8.out.push (T9.below (by omega)) hg hB
      clear T9 M8 R8 U8 D8
      have m0 := M9.out.cell 0
      have m1 := M9.out.cell 1
      have m2 := M9.out.cell 2
      have m3 := M9.out.cell 3
      simp only [List.getElem?_cons_succ, List.getElem?_cons_zero] at m0 m1 m2 m3
      go_wp2_with (first | (with_reducible refine wpList_haltS 26 _ _ rfl ?_))
      refine Stp.go ?_
      refine wpList_stB rfl 26 _ _ rfl w.heap.size 0 rfl 26 _ R9.out [.int .i64 d, .int .i64 (id : Int), .int .i64 o, .slice s3.a s3.n s3.c] rfl (by simp) Tryd.sizeBu rfl [.int .i64 d, .int .i64 (id : Int), .int .i64 o, .slice s3.a s3.n s3.c] rfl ?_
      intro WZ RZ TZ
      have DZ : Hid (Drw w WZ B g ao n cap) := D9.out.push (TZ.below (by omega)) hg hB
      have UZ : Hid (SlI WZ w.heap.size s3.v ts3) := U9.out.past R9.out TZ (by decide)
      clear TZ m0 m1 m2 m3
      go_wp2_with fail
      refine bodyPost_ret (results_b Tryd.results21 w.heap.size 26 [.int .i64 d, .int .i64 (id : Int), .int .i64 o, .slice s3.a s3.n s3.c] _ rfl RZ Tryd.underlying26 rfl Tryd.sizeBu) rfl ?_
      exact ⟨⟨_, _, _, s3, ts3, rfl, UZ.out, by omega⟩, DZ⟩
    have n0 : ¬ (y : Int) = 0 := by omega
    have n1 : ¬ (y : Int) = 1 := by omega
    have n2 : ¬ (y : Int) = 2 := by omega
    have n3 : ¬ (y : Int) = 3 := by omega
    have m0 := M6.out.cell 0
    have m1 := M6.out.cell 1
    have m2 := M6.out.cell 2
    have m3 := M6.out.cell 3
    simp only [List.getElem?_cons_succ, List.getElem?_cons_zero] at m0 m1 m2 m3
    go_wp2_with (first | (with_reducible refine wpList_haltS 26 _ _ rfl ?_))
    refine Stp.go ?_
    refine wpList_stB rfl 26 _ _ rfl w.heap.size 0 rfl 26 _ R6.out [.int .i64 d, .int .i64 (id : Int), .int .i64 o, .slice s.a s.n s.c] rfl (by simp) Tryd.sizeBu rfl [.int .i64 d, .int .i64 (id : Int), .int .i64 o, .slice s.a s.n s.c] rfl ?_
    intro WZ RZ TZ
    have DZ : Hid (Drw w WZ B g ao n cap) := D6.out.push (TZ.below (by omega)) hg hB
    have UZ : Hid (SlI WZ w.heap.size s.v ts) := U6.out.past R6.out TZ (by decide)
    clear TZ m0 m1 m2 m3
    go_wp2_with fail
    refine bodyPost_ret (results_b Tryd.results21 w.heap.size 26 [.int .i64 d, .int .i64 (id : Int), .int .i64 o, .slice s.a s.n s.c] _ rfl RZ Tryd.underlying26 rfl Tryd.sizeBu) rfl ?_
    exact ⟨⟨_, _, _, s, ts, rfl, UZ.out, by omega⟩, DZ⟩
end Go.Proofs.YtlflcjdpdbdbkaaDoor

/- Bundles that a law sizes, copies, compares, writes over and looks at again. Written by gen_hb.py. -/
namespace Go.Proofs.YtlflcjdpdbdbkaaDoor
open Go.RowKit Pl
set_option linter.unusedVariables false

set_option maxRecDepth 100000 in
set_option maxHeartbeats 1000000 in
theorem szBundle_any (f n o : Int) (s : Sv) (ts : List It) (L : Nat) (w : World) (hx : Hid (RIt w s ts)) (hlen : ts.length ≤ 9223372036854775807) (hsz : Hid (∀ x ∈ ts, x.2.2.2.size ≤ 9223372036854775807)) (hL : L ≤ 1048576) :
    Calls Tryd.prog 16 #[.agg #[.int .i64 f, .int .i64 n, .int .i64 o, .slice s.a s.n s.c], .int .i64 L] w fun e w' => (e = .returned (.int .i64 (-1)) ∨ ∃ r : Nat, e = .returned (.int .i64 r) ∧ r ≤ 1048576 ∧ Hid (r + ts.length ≤ L ∧ ∀ x ∈ ts, x.2.2.2.size ≤ 1048576)) ∧ Below w.heap.size w w' := by
  have B1 : Hid (Below w.heap.size w (w.alloc (.cells #[.int .i64 f, .int .i64 n, .int .i64 o, .slice s.a s.n s.c] 37))) := (Below.refl _ _).alloc (Nat.le_refl _) _
  have X1 : Hid (ItemsAt (w.alloc (.cells #[.int .i64 f, .int .i64 n, .int .i64 o, .slice s.a s.n s.c] 37)) s.a ts) := hx.out.2.stays B1.out
  have hn : Hid (s.n = ts.length) := hx.out.1
  go_enter Tryd.func16, Tryd.ntmps16
  go_wp2_with fail
  generalize (w.alloc (.cells #[.int .i64 f, .int .i64 n, .int .i64 o, .slice s.a s.n s.c] 37)) = W at *
  have hc := szItems_left L hL s.a s.c ts W X1 hlen hsz
  rw [← hn.out] at hc
  refine hc.mono ?_
  clear hc
  rintro e w1 ⟨rfl | ⟨r, rfl, hr, hr2⟩, hb1⟩
  · have B2 : Hid (Below w.heap.size w w1) := bl_nxt B1.out hb1
    go_wp2
    go_ret
    exact ⟨.inl rfl, B2.out⟩
  · have B2 : Hid (Below w.heap.size w w1) := bl_nxt B1.out hb1
    have HR : Hid (r + ts.length ≤ L ∧ ∀ x ∈ ts, x.2.2.2.size ≤ 1048576) := ⟨by rw [← hn.out]; exact hr, hr2⟩
    have hr3 : r ≤ 1048576 := by have := HR.out.1; omega
    have hd : decide ((r : Int) < 0) = false := by simp
    clear hr hr2 hb1
    go_wp2
    go_ret
    exact ⟨.inr ⟨r, rfl, hr3, HR⟩, B2.out⟩

set_option maxRecDepth 100000 in
set_option maxHeartbeats 4000000 in
theorem toBundle_any (f n o : Int) (s : Sv) (ts : List It) (w : World) (hx : Hid (RIt w s ts)) (hl : ts.length ≤ 1048576) :
    Calls Tryd.prog 17 #[.agg #[.int .i64 f, .int .i64 n, .int .i64 o, .slice s.a s.n s.c]] w fun e w' => ∃ s' : Sv, e = .returned (.agg #[.int .i64 f, .int .i64 n, .int .i64 o, .slice s'.a s'.n s'.c]) ∧ SlI w' w.heap.size s'.v ts ∧ Below w.heap.size w w' := by
  have B0 : Hid (Below w.heap.size w (((w.alloc (.cells #[.int .i64 f, .int .i64 n, .int .i64 o, .slice s.a s.n s.c] 37)).alloc (.cells #[.int .i64 0, .int .i64 0, .int .i64 0, .slice none 0 0] 26)).alloc (.cells #[.int .i64 0, .int .i64 0, .int .i64 0, .slice none 0 0] 26))) := (((Below.refl _ _).alloc (Nat.le_refl _) _).alloc (by simp) _).alloc (by simp; omega) _
  have A0 : Hid (Bx (((w.alloc (.cells #[.int .i64 f, .int .i64 n, .int .i64 o, .slice s.a s.n s.c] 37)).alloc (.cells #[.int .i64 0, .int .i64 0, .int .i64 0, .slice none 0 0] 26)).alloc (.cells #[.int .i64 0, .int .i64 0, .int .i64 0, .slice none 0 0] 26)) w.heap.size 37 [.int .i64 f, .int .i64 n, .int .i64 o, .slice s.a s.n s.c]) := (Bx.new w 37 [.int .i64 f, .int .i64 n, .int .i64 o, .slice s.a s.n s.c]).stays (((Below.refl (w.heap.size + 1) _).alloc (by simp) _).alloc (by simp) _) (by omega)
  have R0 : Hid (Bx (((w.alloc (.cells #[.int .i64 f, .int .i64 n, .int .i64 o, .slice s.a s.n s.c] 37)).alloc (.cells #[.int .i64 0, .int .i64 0, .int .i64 0, .slice none 0 0] 26)).alloc (.cells #[.int .i64 0, .int .i64 0, .int .i64 0, .slice none 0 0] 26)) (w.heap.size + 1) 26 [.int .i64 0, .int .i64 0, .int .i64 0, .slice none 0 0]) := (bx_next w _ 26 [.int .i64 0, .int .i64 0, .int .i64 0, .slice none 0 0]).stays ((Below.refl (w.heap.size + 2) _).alloc (by simp) _) (by omega)
  have V0 : Hid (Bx (((w.alloc (.cells #[.int .i64 f, .int .i64 n, .int .i64 o, .slice s.a s.n s.c] 37)).alloc (.cells #[.int .i64 0, .int .i64 0, .int .i64 0, .slice none 0 0] 26)).alloc (.cells #[.int .i64 0, .int .i64 0, .int .i64 0, .slice none 0 0] 26)) (w.heap.size + 1 + 1) 26 [.int .i64 0, .int .i64 0, .int .i64 0, .slice none 0 0]) := by
    have h := bx_next (w.alloc (.cells #[.int .i64 f, .int .i64 n, .int .i64 o, .slice s.a s.n s.c] 37)) (.cells #[.int .i64 0, .int .i64 0, .int .i64 0, .slice none 0 0] 26) 26 [.int .i64 0, .int .i64 0, .int .i64 0, .slice none 0 0]
    rw [show (w.alloc (.cells #[.int .i64 f, .int .i64 n, .int .i64 o, .slice s.a s.n s.c] 37)).heap.size = w.heap.size + 1 by simp] at h
    exact h
  have hn : Hid (s.n = ts.length) := hx.out.1
  go_enter Tryd.func17, Tryd.ntmps17
  go_wp2_with (first | (with_reducible refine wpList_haltS 3 _ _ rfl ?_))
  refine Stp.go ?_
  generalize (((w.alloc (.cells #[.int .i64 f, .int .i64 n, .int .i64 o, .slice s.a s.n s.c] 37)).alloc (.cells #[.int .i64 0, .int .i64 0, .int .i64 0, .slice none 0 0] 26)).alloc (.cells #[.int .i64 0, .int .i64 0, .int .i64 0, .slice none 0 0] 26)) = W at *
  generalize hg1 : w.heap.size + 1 = g1 at *
  have HG1 : Hid (w.heap.size + 1 = g1) := hg1
  clear hg1
  generalize hg2 : g1 + 1 = g2 at *
  have HG2 : Hid (g1 + 1 = g2) := hg2
  clear hg2
  have z2 : w.heap.size < g1 ∧ g1 < g2 := by have := HG1.out; have := HG2.out; omega
  refine wpList_st1 rfl 3 _ _ rfl g2 0 rfl 26 _ V0.out (.int .i64 f) rfl (by simp) rfl Tryd.size3 [.int .i64 f, .int .i64 0, .int .i64 0, .slice none 0 0] rfl ?_
  intro W1 V1 T1
  have V1 : Hid (Bx W1 g2 26 [.int .i64 f, .int .i64 0, .int .i64 0, .slice none 0 0]) := V1
  have A1 : Hid (Bx W1 w.heap.size 37 [.int .i64 f, .int .i64 n, .int .i64 o, .slice s.a s.n s.c]) := A0.out.turn T1 (by omega)
  have R1 : Hid (Bx W1 g1 26 [.int .i64 0, .int .i64 0, .int .i64 0, .slice none 0 0]) := R0.out.turn T1 (by omega)
  have B1 : Hid (Below w.heap.size w W1) := B0.out.trans (T1.below (by omega))
  clear A0 R0 V0 B0 T1
  have a1 := A1.out.cell 1
  simp only [List.getElem?_cons_succ, List.getElem?_cons_zero] at a1
  go_wp2_with (first | (with_reducible refine wpList_haltS 3 _ _ rfl ?_))
  refine Stp.go ?_
  refine wpList_st1 rfl 3 _ _ rfl g2 1 rfl 26 _ V1.out (.int .i64 n) rfl (by simp) rfl Tryd.size3 [.int .i64 f, .int .i64 n, .int .i64 0, .slice none 0 0] rfl ?_
  intro W2 V2 T2
  have V2 : Hid (Bx W2 g2 26 [.int .i64 f, .int .i64 n, .int .i64 0, .slice none 0 0]) := V2
  have A2 : Hid (Bx W2 w.heap.size 37 [.int .i64 f, .int .i64 n, .int .i64 o, .slice s.a s.n s.c]) := A1.out.turn T2 (by omega)
  have R2 : Hid (Bx W2 g1 26 [.int .i64 0, .int .i64 0, .int .i64 0, .slice none 0 0]) := R1.out.turn T2 (by omega)
  have B2 : Hid (Below w.heap.size w W2) := B1.out.trans (T2.below (by omega))
  clear A1 R1 V1 B1 T2 a1
  have a2 := A2.out.cell 2
  simp only [List.getElem?_cons_succ, List.getElem?_cons_zero] at a2
  go_wp2_with (first | (with_reducible refine wpList_haltS 3 _ _ rfl ?_))
  refine Stp.go ?_
  refine wpList_st1 rfl 3 _ _ rfl g2 2 rfl 26 _ V2.out (.int .i64 o) rfl (by simp) rfl Tryd.size3 [.int .i64 f, .int .i64 n, .int .i64 o, .slice none 0 0] rfl ?_
  intro W3 V3 T3
  have V3 : Hid (Bx W3 g2 26 [.int .i64 f, .int .i64 n, .int .i64 o, .slice none 0 0]) := V3
  have A3 : Hid (Bx W3 w.heap.size 37 [.int .i64 f, .int .i64 n, .int .i64 o, .slice s.a s.n s.c]) := A2.out.turn T3 (by omega)
  have R3 : Hid (Bx W3 g1 26 [.int .i64 0, .int .i64 0, .int .i64 0, .slice none 0 0]) := R2.out.turn T3 (by omega)
  have B3 : Hid (Below w.heap.size w W3) := B2.out.trans (T3.below (by omega))
  clear A2 R2 V2 B2 T3 a2
  have a3 := A3.out.cell 3
  simp only [List.getElem?_cons_succ, List.getElem?_cons_zero] at a3
  have X3 : Hid (ItemsAt W3 s.a ts) := hx.out.2.stays B3.out
  go_wp2_with (first | (with_reducible refine wpList_haltS 24 _ _ rfl ?_))
  have hc := toItems_sl W3 s.a s.c ts X3 hl
  rw [← hn.out] at hc
  refine hc.mono ?_
  clear hc
  rintro e W4 ⟨rfl, hv4, -, hb4⟩
  obtain ⟨s4, hs4⟩ : ∃ s4 : Sv, s4 = ⟨some ⟨W3.heap.size, 0, none⟩, s.n, s.n⟩ := ⟨_, rfl⟩
  have hq : Value.slice (some ⟨W3.heap.size, 0, none⟩) s.n s.n = s4.v := by rw [hs4]; rfl
  rw [hq] at hv4 ⊢
  clear hq hs4
  unfold Sv.v
  have V4 : Hid (Bx W4 g2 26 [.int .i64 f, .int .i64 n, .int .i64 o, .slice none 0 0]) := V3.out.later hb4
  have R4 : Hid (Bx W4 g1 26 [.int .i64 0, .int .i64 0, .int .i64 0, .slice none 0 0]) := R3.out.later hb4
  have B4 : Hid (Below w.heap.size w W4) := B3.out.trans (hb4.mono B3.out.size)
  have O4 : Hid (SlI W4 w.heap.size s4.v ts) := hv4.down B3.out.size
  clear A3 R3 V3 B3 X3 a3 hv4 hb4
  go_wp2_with (first | (with_reducible refine wpList_haltS 24 _ _ rfl ?_))
  refine Stp.go ?_
  refine wpList_st1 rfl 24 _ _ rfl g2 3 rfl 26 _ V4.out (.slice s4.a s4.n s4.c) rfl (by simp) rfl Tryd.sizeIs [.int .i64 f, .int .i64 n, .int .i64 o, .slice s4.a s4.n s4.c] rfl ?_
  intro W5 V5 T5
  have R5 : Hid (Bx W5 g1 26 [.int .i64 0, .int .i64 0, .int .i64 0, .slice none 0 0]) := R4.out.turn T5 (by omega)
  have B5 : Hid (Below w.heap.size w W5) := B4.out.trans (T5.below (by omega))
  have O5 : Hid (SlI W5 w.heap.size s4.v ts) := O4.out.past V4.out T5 (by decide)
  have V5 : Hid (Bx W5 g2 26 [.int .i64 f, .int .i64 n, .int .i64 o, .slice s4.a s4.n s4.c]) := V5
  clear V4 R4 B4 O4 T5
  have c0 := V5.out.cell 0
  have c1 := V5.out.cell 1
  have c2 := V5.out.cell 2
  have c3 := V5.out.cell 3
  simp only [List.getElem?_cons_succ, List.getElem?_cons_zero] at c0 c1 c2 c3
  go_wp2_with (first | (with_reducible refine wpList_haltS 26 _ _ rfl ?_))
  refine Stp.go ?_
  refine wpList_stB rfl 26 _ _ rfl g1 0 rfl 26 _ R5.out [.int .i64 f, .int .i64 n, .int .i64 o, .slice s4.a s4.n s4.c] rfl (by simp) Tryd.sizeBu rfl [.int .i64 f, .int .i64 n, .int .i64 o, .slice s4.a s4.n s4.c] rfl ?_
  intro W6 R6 T6
  have O6 := O5.out.past R5.out T6 (by decide)
  have B6 := B5.out.trans (T6.below (by omega))
  go_wp2_with fail
  refine bodyPost_ret (results_b Tryd.results17 g1 26 [.int .i64 f, .int .i64 n, .int .i64 o, .slice s4.a s4.n s4.c] _ rfl R6 Tryd.underlying26 rfl Tryd.sizeBu) rfl ?_
  exact ⟨s4, rfl, O6, B6⟩

set_option maxRecDepth 100000 in
set_option maxHeartbeats 2000000 in
theorem eqBundle_same (f n o : Int) (s s' : Sv) (ts : List It) (B1 B2 : Nat) (w : World) (h1 : Hid (SlI w B1 s.v ts)) (h2 : Hid (SlI w B2 s'.v ts)) (hl : ts.length ≤ 1048576) :
    Calls Tryd.prog 18 #[.agg #[.int .i64 f, .int .i64 n, .int .i64 o, .slice s.a s.n s.c], .agg #[.int .i64 f, .int .i64 n, .int .i64 o, .slice s'.a s'.n s'.c]] w fun e w' => e = .returned (.bool true) ∧ Below w.heap.size w w' := by
  have d0 : (f != f) = false := by simp
  have d1 : (n != n) = false := by simp
  have d2 : (o != o) = false := by simp
  have BB : Hid (Below w.heap.size w ((w.alloc (.cells #[.int .i64 f, .int .i64 n, .int .i64 o, .slice s.a s.n s.c] 26)).alloc (.cells #[.int .i64 f, .int .i64 n, .int .i64 o, .slice s'.a s'.n s'.c] 26))) := ((Below.refl _ _).alloc (Nat.le_refl _) _).alloc (by simp) _
  have P1 : Hid (Bx ((w.alloc (.cells #[.int .i64 f, .int .i64 n, .int .i64 o, .slice s.a s.n s.c] 26)).alloc (.cells #[.int .i64 f, .int .i64 n, .int .i64 o, .slice s'.a s'.n s'.c] 26)) w.heap.size 26 [.int .i64 f, .int .i64 n, .int .i64 o, .slice s.a s.n s.c]) := (Bx.new w 26 [.int .i64 f, .int .i64 n, .int .i64 o, .slice s.a s.n s.c]).stays ((Below.refl (w.heap.size + 1) _).alloc (by simp) _) (by omega)
  have P2 : Hid (Bx ((w.alloc (.cells #[.int .i64 f, .int .i64 n, .int .i64 o, .slice s.a s.n s.c] 26)).alloc (.cells #[.int .i64 f, .int .i64 n, .int .i64 o, .slice s'.a s'.n s'.c] 26)) (w.heap.size + 1) 26 [.int .i64 f, .int .i64 n, .int .i64 o, .slice s'.a s'.n s'.c]) := bx_next w (.cells #[.int .i64 f, .int .i64 n, .int .i64 o, .slice s.a s.n s.c] 26) 26 [.int .i64 f, .int .i64 n, .int .i64 o, .slice s'.a s'.n s'.c]
  have O1 : Hid (SlI ((w.alloc (.cells #[.int .i64 f, .int .i64 n, .int .i64 o, .slice s.a s.n s.c] 26)).alloc (.cells #[.int .i64 f, .int .i64 n, .int .i64 o, .slice s'.a s'.n s'.c] 26)) B1 s.v ts) := h1.out.below BB.out
  have O2 : Hid (SlI ((w.alloc (.cells #[.int .i64 f, .int .i64 n, .int .i64 o, .slice s.a s.n s.c] 26)).alloc (.cells #[.int .i64 f, .int .i64 n, .int .i64 o, .slice s'.a s'.n s'.c] 26)) B2 s'.v ts) := h2.out.below BB.out
  have a0 := P1.out.cell 0
  have a1 := P1.out.cell 1
  have a2 := P1.out.cell 2
  have a3 := P1.out.cell 3
  have b0 := P2.out.cell 0
  have b1 := P2.out.cell 1
  have b2 := P2.out.cell 2
  have b3 := P2.out.cell 3
  simp only [List.getElem?_cons_succ, List.getElem?_cons_zero] at a0 a1 a2 a3 b0 b1 b2 b3
  go_enter Tryd.func18, Tryd.ntmps18
  go_wp2_with fail
  generalize ((w.alloc (.cells #[.int .i64 f, .int .i64 n, .int .i64 o, .slice s.a s.n s.c] 26)).alloc (.cells #[.int .i64 f, .int .i64 n, .int .i64 o, .slice s'.a s'.n s'.c] 26)) = W at *
  have hc := eqItems_sl s.v s'.v ts B1 B2 W O1.out O2.out hl
  unfold Sv.v at hc
  refine hc.mono ?_
  clear hc
  rintro e w1 ⟨rfl, hb1⟩
  go_wp2
  go_ret
  exact ⟨rfl, BB.out.trans (hb1.mono BB.out.size)⟩

set_option maxRecDepth 100000 in
set_option maxHeartbeats 2000000 in
theorem markBundle_any (f n o : Int) (s : Sv) (ts : List It) (B K : Nat) (w : World) (h1 : Hid (SlI w B s.v ts)) (hl : K + 4 * ts.length ≤ 4999990) (hK : 0 < K) :
    Calls Tryd.prog 19 #[.agg #[.int .i64 f, .int .i64 n, .int .i64 o, .slice s.a s.n s.c], .int .i64 K] w fun e w' => e = .returned (.int .i64 ((K + 4 * ts.length : Nat) : Int)) ∧ SlI w' B s.v (mkI K ts.length) ∧ w.grownBy w' s.v.ownBlock := by
  have O1 : Hid (SlI (w.alloc (.cells #[.int .i64 f, .int .i64 n, .int .i64 o, .slice s.a s.n s.c] 26)) B s.v ts) := h1.out.below ((Below.refl _ _).alloc (Nat.le_refl _) _)
  go_enter Tryd.func19, Tryd.ntmps19
  go_wp2_with fail
  have hc := markItems_any s.v ts B K _ O1 hl hK
  have he : s.v = .slice s.a s.n s.c := rfl
  rw [he] at hc
  refine hc.mono ?_
  clear hc
  rintro e w1 ⟨rfl, ho, hg⟩
  have HG : Hid (w.grownBy w1 s.v.ownBlock) := grown_box _ hg
  have HO : Hid (SlI w1 B s.v (mkI K ts.length)) := ho
  clear ho hg O1 h1 he
  go_wp2
  go_ret
  exact ⟨rfl, HO.out, HG.out⟩

set_option maxRecDepth 100000 in
set_option maxHeartbeats 2000000 in
theorem heldBundle_any (f n o : Int) (s : Sv) (m B K : Nat) (w : World) (h1 : Hid (SlI w B s.v (mkI K m))) (hl : K + 4 * m ≤ 4999990) (hK : 0 < K) :
    Calls Tryd.prog 20 #[.agg #[.int .i64 f, .int .i64 n, .int .i64 o, .slice s.a s.n s.c], .int .i64 K] w fun e w' => e = .returned (.int .i64 ((K + 4 * m : Nat) : Int)) ∧ Below w.heap.size w w' := by
  have O1 : Hid (SlI (w.alloc (.cells #[.int .i64 f, .int .i64 n, .int .i64 o, .slice s.a s.n s.c] 26)) B s.v (mkI K m)) := h1.out.below ((Below.refl _ _).alloc (Nat.le_refl _) _)
  have B1 : Hid (Below w.heap.size w (w.alloc (.cells #[.int .i64 f, .int .i64 n, .int .i64 o, .slice s.a s.n s.c] 26))) := (Below.refl _ _).alloc (Nat.le_refl _) _
  go_enter Tryd.func20, Tryd.ntmps20
  go_wp2_with fail
  generalize (w.alloc (.cells #[.int .i64 f, .int .i64 n, .int .i64 o, .slice s.a s.n s.c] 26)) = W at *
  have hc := heldItems_any s.v m B K W O1 hl hK
  unfold Sv.v at hc
  refine hc.mono ?_
  clear hc
  rintro e w1 ⟨rfl, hb1⟩
  have HB : Hid (Below w.heap.size w w1) := B1.out.trans (hb1.mono B1.out.size)
  have hd : decide (((K + 4 * m : Nat) : Int) < 0) = false := by simp; omega
  clear hb1 O1 h1
  go_wp2
  go_ret
  exact ⟨rfl, HB.out⟩
end Go.Proofs.YtlflcjdpdbdbkaaDoor

/- Both BundleOk, told of a bundle whose list is read. -/
namespace Go.Proofs.YtlflcjdpdbdbkaaDoor
open Go.RowKit Pl
set_option linter.unusedVariables false

theorem bundleOk_r (f n o : Int) (s : Sv) (ts : List It) (w : World) (hx : Hid (RIt w s ts)) (hl : ts.length ≤ 1048576) :
    Calls Tryd.prog 11 #[.agg #[.int .i64 f, .int .i64 n, .int .i64 o, .slice s.a s.n s.c]] w fun e w' => e = .returned (.bool (bunB f n o ts)) ∧ Below w.heap.size w w' := by
  have h := bundleOk_any f n o s.a s.c ts w hx.out.2 hl
  rw [← hx.out.1] at h
  exact h
theorem spBundleOk_r (f n o : Int) (s : Sv) (ts : List It) (w : World) (hx : Hid (RIt w s ts)) (hl : ts.length ≤ 1048576) :
    Calls Tryd.prog 12 #[.agg #[.int .i64 f, .int .i64 n, .int .i64 o, .slice s.a s.n s.c]] w fun e w' => e = .returned (.bool (bunB f n o ts)) ∧ Below w.heap.size w w' := by
  have h := spBundleOk_any f n o s.a s.c ts w hx.out.2 hl
  rw [← hx.out.1] at h
  exact h
end Go.Proofs.YtlflcjdpdbdbkaaDoor

