/- The law on AllHere. Written by gen_lah.py. -/
import Derived.Test.YtlflcjdpdbdbkaaBh
import Derived.Test.YtlflcjdpdbdbkaaRs
namespace Go.Proofs.Ytlflcjdpdbdbkaa
open Go.RowKit Pl
set_option linter.unusedVariables false
set_option linter.unusedSimpArgs false

theorem pl_short {cs bs : List Bu} (h : cs.map Bu.pl = bs.map Bu.pl) (hs : ∀ b ∈ bs, b.ts.length ≤ 1048576) : ∀ c ∈ cs, c.ts.length ≤ 1048576 := by
  intro c hc
  have h1 : c.pl ∈ bs.map Bu.pl := by rw [← h]; exact List.mem_map_of_mem hc
  obtain ⟨b, hb, he⟩ := List.mem_map.1 h1
  simp only [Bu.pl, Prod.mk.injEq] at he
  rw [← he.2.2.2]
  exact hs b hb
theorem hitB_pl {cs bs : List Bu} (h : cs.map Bu.pl = bs.map Bu.pl) (rid d : Int) : hitB rid d cs = hitB rid d bs := by
  have e : ∀ l : List Bu, hitB rid d l = (l.map Bu.pl).any fun b => decide (b.1 = d) && (decide (b.2.1 = rid) && bunB b.1 b.2.1 b.2.2.1 b.2.2.2) := by
    intro l
    unfold hitB
    rw [List.any_map]
    rfl
  rw [e, e, h]
theorem hereB_pl {cs bs : List Bu} {rid : Int} {ms : List Int} (h : cs.map Bu.pl = bs.map Bu.pl) : hereB rid ms cs = hereB rid ms bs := by
  unfold hereB
  congr 1
  funext d
  exact hitB_pl h rid d
theorem Try.sizeRg : (Try.prog.info? 40).map (·.size) = some 2 := by kernel_rfl
theorem Try.sizeLRg : (Try.prog.info? 35).map (·.size) = some 2 := by kernel_rfl

set_option maxRecDepth 100000 in
set_option maxHeartbeats 8000000 in
theorem lawAllHere (rid : Int) (ma : Option Addr) (mc : Nat) (ms : List Int) (ao : Option Addr) (cap : Nat) (bs : List Bu) (w : World) (hm : IntsAt w ma ms) (hml : ms.length ≤ maxLen) (hx : Hid (BnsAt w ao bs)) (hl : bs.length ≤ 9223372036854775807) (hs : Hid (∀ b ∈ bs, b.ts.length ≤ 9223372036854775807 ∧ ∀ x ∈ b.ts, x.2.2.2.size ≤ 9223372036854775807)) :
    Calls Try.prog 4 #[.agg #[.int .i64 rid, .slice ma ms.length mc], .slice ao bs.length cap] w fun e w' => e = .returned (.bool true) ∧ Below w.heap.size w w' := by
  unfold maxLen at hml
  have A : Hid (Bx (w.alloc (.cells #[.int .i64 rid, .slice ma ms.length mc] 35)) w.heap.size 35 [.int .i64 rid, .slice ma ms.length mc]) := Bx.new w 35 _
  have B : Hid (Below w.heap.size w (w.alloc (.cells #[.int .i64 rid, .slice ma ms.length mc] 35))) := (Below.refl _ _).alloc (Nat.le_refl _) _
  have M : Hid (IntsAt (w.alloc (.cells #[.int .i64 rid, .slice ma ms.length mc] 35)) ma ms) := hm.stays B.out
  have X : Hid (BnsAt (w.alloc (.cells #[.int .i64 rid, .slice ma ms.length mc] 35)) ao bs) := hx.out.stays B.out
  clear hm hx
  by_cases hl1 : 1048576 < ms.length
  · go_enter Try.func4, Try.ntmps4
    go_wp2_with fail
    refine (szRing_long rid ma ms.length mc _ hl1 (by omega)).mono ?_
    rintro e w1 ⟨rfl, hb1⟩
    have B1 : Hid (Below w.heap.size w w1) := bl_nxt B.out hb1
    clear hb1
    go_wp2_with fail
    go_ret
    exact ⟨rfl, B1.out⟩
  have hl2 : ms.length ≤ 1048576 := by omega
  clear hml hl1
  go_enter Try.func4, Try.ntmps4
  go_wp2_with fail
  generalize (w.alloc (.cells #[.int .i64 rid, .slice ma ms.length mc] 35)) = W0 at *
  refine (szRing_any rid ma ms.length mc _ hl2).mono ?_
  rintro e w1 ⟨rfl, b⟩
  have A : Hid (Bx w1 w.heap.size 35 [.int .i64 rid, .slice ma ms.length mc]) := A.out.later b
  have B : Hid (Below w.heap.size w w1) := bl_nxt B.out b
  have M : Hid (IntsAt w1 ma ms) := M.out.stays b
  have X : Hid (BnsAt w1 ao bs) := X.out.stays b
  clear b
  have hz : decide (((1048576 - ms.length : Nat) : Int) < 0) = false := by simp
  generalize hL : 1048576 - ms.length = L at *
  have hL1 : L ≤ 1048576 := by omega
  clear hL
  go_wp2_with fail
  refine (szBundles_any L hL1 ao cap bs _ X hl hs).mono ?_
  rintro e w2 ⟨hq, b⟩
  have A : Hid (Bx w2 w.heap.size 35 [.int .i64 rid, .slice ma ms.length mc]) := A.out.later b
  have B : Hid (Below w.heap.size w w2) := bl_nxt B.out b
  have M : Hid (IntsAt w2 ma ms) := M.out.stays b
  have X : Hid (BnsAt w2 ao bs) := X.out.stays b
  clear b hz
  rcases hq with rfl | ⟨z, rfl, hzl, hsz⟩
  · go_wp2_with fail
    go_ret
    exact ⟨rfl, B.out⟩
  have hbl : bs.length ≤ 1048576 := by omega
  have hz : decide ((z : Int) < 0) = false := by simp
  clear hl hs hzl
  have a0 := A.out.cell 0
  have a1 := A.out.cell 1
  simp only [List.getElem?_cons_succ, List.getElem?_cons_zero] at a0 a1
  go_wp2_with fail
  clear hz a0 a1
  refine (toRing_any rid ma mc ms _ M hl2).mono ?_
  rintro e w3 ⟨v3, rfl, o3, b⟩
  have A : Hid (Bx w3 w.heap.size 35 [.int .i64 rid, .slice ma ms.length mc]) := A.out.later b
  have B : Hid (Below w.heap.size w w3) := bl_nxt B.out b
  have M : Hid (IntsAt w3 ma ms) := M.out.stays b
  have X : Hid (BnsAt w3 ao bs) := X.out.stays b
  clear b
  obtain ⟨ra, rc, rfl, hra⟩ := o3.ints
  have RA : Hid (IntsAt w3 ra ms) := hra
  clear o3 hra
  go_wp2_with fail
  refine (toBundles_any ao cap bs _ X hbl hsz).mono ?_
  rintro e w4 ⟨cs, rfl, hpl, hcx, b⟩
  have A : Hid (Bx w4 w.heap.size 35 [.int .i64 rid, .slice ma ms.length mc]) := A.out.later b
  have B : Hid (Below w.heap.size w w4) := bl_nxt B.out b
  have M : Hid (IntsAt w4 ma ms) := M.out.stays b
  have X : Hid (BnsAt w4 ao bs) := X.out.stays b
  have RA : Hid (IntsAt w4 ra ms) := RA.out.stays b
  clear b
  have CX : Hid (BnsAt w4 (some ⟨w3.heap.size, 0, none⟩) cs) := hcx
  have HCL : Hid (bs.length = cs.length) := by show _ = _; have := congrArg List.length hpl; simpa using this.symm
  have HSC : Hid (∀ b ∈ cs, b.ts.length ≤ 1048576) := pl_short hpl hsz.out
  have HHC : Hid (hereB rid ms cs = hereB rid ms bs) := hereB_pl hpl
  clear hcx hpl
  go_wp2_with fail
  have hcall := spAllHere_any rid ra rc ms (some ⟨w3.heap.size, 0, none⟩) bs.length cs w4 RA hl2 CX (by rw [← HCL.out]; exact hbl) HSC
  rw [← HCL.out, HHC.out] at hcall
  refine hcall.mono ?_
  rintro e w5 ⟨rfl, b⟩
  have A : Hid (Bx w5 w.heap.size 35 [.int .i64 rid, .slice ma ms.length mc]) := A.out.later b
  have B : Hid (Below w.heap.size w w5) := bl_nxt B.out b
  have M : Hid (IntsAt w5 ma ms) := M.out.stays b
  have X : Hid (BnsAt w5 ao bs) := X.out.stays b
  clear b hcall CX RA HSC HHC HCL
  have a0 := A.out.cell 0
  have a1 := A.out.cell 1
  simp only [List.getElem?_cons_succ, List.getElem?_cons_zero] at a0 a1
  go_wp2_with fail
  clear a0 a1
  refine (toRing_any rid ma mc ms _ M hl2).mono ?_
  rintro e w6 ⟨v6, rfl, o6, b⟩
  have A : Hid (Bx w6 w.heap.size 35 [.int .i64 rid, .slice ma ms.length mc]) := A.out.later b
  have B : Hid (Below w.heap.size w w6) := bl_nxt B.out b
  have M : Hid (IntsAt w6 ma ms) := M.out.stays b
  have X : Hid (BnsAt w6 ao bs) := X.out.stays b
  clear b
  obtain ⟨qa, qc, hqf⟩ := o6.form
  subst hqf
  have D6 : Below w6.heap.size w6 (w6.alloc (.cells #[.int .i64 rid, .slice qa ms.length qc] 40)) := (Below.refl _ _).alloc (Nat.le_refl _) _
  have XR : Hid (Bx (w6.alloc (.cells #[.int .i64 rid, .slice qa ms.length qc] 40)) w6.heap.size 40 [.int .i64 rid, .slice qa ms.length qc]) := Bx.new w6 40 _
  have XO : Hid (OwnI (w6.alloc (.cells #[.int .i64 rid, .slice qa ms.length qc] 40)) w5.heap.size (.slice qa ms.length qc) ms) := o6.stays D6 (fun k hk => (o6.lt k hk).2)
  have A : Hid (Bx (w6.alloc (.cells #[.int .i64 rid, .slice qa ms.length qc] 40)) w.heap.size 35 [.int .i64 rid, .slice ma ms.length mc]) := A.out.later D6
  have B : Hid (Below w.heap.size w (w6.alloc (.cells #[.int .i64 rid, .slice qa ms.length qc] 40))) := bl_nxt B.out D6
  have M : Hid (IntsAt (w6.alloc (.cells #[.int .i64 rid, .slice qa ms.length qc] 40)) ma ms) := M.out.stays D6
  have X : Hid (BnsAt (w6.alloc (.cells #[.int .i64 rid, .slice qa ms.length qc] 40)) ao bs) := X.out.stays D6
  clear D6 o6
  go_wp2_with fail
  generalize (w6.alloc (.cells #[.int .i64 rid, .slice qa ms.length qc] 40)) = W7 at *
  generalize w6.heap.size = gx at *
  refine (toBundles_any ao cap bs _ X hbl hsz).mono ?_
  rintro e w8 ⟨ds, rfl, hpl, hdx, b⟩
  have A : Hid (Bx w8 w.heap.size 35 [.int .i64 rid, .slice ma ms.length mc]) := A.out.later b
  have B : Hid (Below w.heap.size w w8) := bl_nxt B.out b
  have M : Hid (IntsAt w8 ma ms) := M.out.stays b
  have X : Hid (BnsAt w8 ao bs) := X.out.stays b
  have XR : Hid (Bx w8 gx 40 [.int .i64 rid, .slice qa ms.length qc]) := XR.out.later b
  have XO : Hid (OwnI w8 w5.heap.size (.slice qa ms.length qc) ms) := XO.out.stays b (fun k hk => (XO.out.lt k hk).2)
  clear b
  have DX : Hid (BnsAt w8 (some ⟨W7.heap.size, 0, none⟩) ds) := hdx
  generalize W7.heap.size = gl at *
  have HDL : Hid (bs.length = ds.length) := by show _ = _; have := congrArg List.length hpl; simpa using this.symm
  have HPL : Hid (ds.map Bu.pl = bs.map Bu.pl) := hpl
  have HSD : Hid (∀ b ∈ ds, b.ts.length ≤ 1048576) := pl_short hpl hsz.out
  have HHD : Hid (hereB rid ms ds = hereB rid ms bs) := hereB_pl hpl
  clear hdx hpl
  have x0 := XR.out.cell 0
  have x1 := XR.out.cell 1
  simp only [List.getElem?_cons_succ, List.getElem?_cons_zero] at x0 x1
  go_wp2_with fail
  clear x0 x1
  have XI : Hid (IntsAt w8 qa ms) := by
    obtain ⟨a2, c2, he, hx2⟩ := XO.out.ints
    simp only [Value.slice.injEq] at he
    rw [he.1]; exact hx2
  have hcall := allHere_any rid qa qc ms (some ⟨gl, 0, none⟩) bs.length ds w8 XI hl2 DX (by rw [← HDL.out]; exact hbl) HSD
  rw [← HDL.out, HHD.out] at hcall
  refine hcall.mono ?_
  rintro e w9 ⟨rfl, b⟩
  have A : Hid (Bx w9 w.heap.size 35 [.int .i64 rid, .slice ma ms.length mc]) := A.out.later b
  have B : Hid (Below w.heap.size w w9) := bl_nxt B.out b
  have M : Hid (IntsAt w9 ma ms) := M.out.stays b
  have X : Hid (BnsAt w9 ao bs) := X.out.stays b
  have XR : Hid (Bx w9 gx 40 [.int .i64 rid, .slice qa ms.length qc]) := XR.out.later b
  have XO : Hid (OwnI w9 w5.heap.size (.slice qa ms.length qc) ms) := XO.out.stays b (fun k hk => (XO.out.lt k hk).2)
  have DX : Hid (BnsAt w9 (some ⟨gl, 0, none⟩) ds) := DX.out.stays b
  clear b hcall XI HHD
  obtain ⟨OK, hOK⟩ : ∃ OK, hereB rid ms bs = OK := ⟨_, rfl⟩
  rw [hOK]
  clear hOK
  go_wp2_with fail
  refine wp_region_held_drew (S := fun w' => Below w9.heap.size w9 w') (by kernel_rfl) (Below.refl _ _).drew (fun hHeld => ?_)
  refine wpAnyH_take (i := 0) (v := _) rfl (by kernel_rfl) (by kernel_rfl) (by kernel_rfl) (fun _ _ _ h => h) (ld_yield (by rfl) 40 _ rfl gx 0 rfl 40 _ (fun w hS => XR.out.later hS) [.int .i64 rid, .slice qa ms.length qc] rfl _ Try.underlying40 rfl Try.sizeRg) (by assumption) ?_
  try simp only [Act.put, List.getElem_toArray, List.getElem_cons_zero, List.getElem_cons_succ, List.setIfInBounds_toArray, List.set_cons_zero, List.set_cons_succ]
  refine wpAnyH_take (i := 1) (v := _) rfl (by kernel_rfl) (by kernel_rfl) (by kernel_rfl) (fun _ _ _ h => h) (ld_yield (by rfl) 35 _ rfl w.heap.size 0 rfl 35 _ (fun w hS => A.out.later hS) [.int .i64 rid, .slice ma ms.length mc] rfl _ Try.underlying35 rfl Try.sizeLRg) (by assumption) ?_
  try simp only [Act.put, List.getElem_toArray, List.getElem_cons_zero, List.getElem_cons_succ, List.setIfInBounds_toArray, List.set_cons_zero, List.set_cons_succ]
  refine wpAnyH_ready (rs := [2]) (by kernel_rfl) (by simp) ?_
  refine AllReadyH.cons (i := 2) rfl (fun K hK => ?_) AllReadyH.nil
  rw [if_pos (by rfl)]
  simp only [List.getElem_toArray, List.getElem_cons_zero, List.getElem_cons_succ]
  go_simp
  refine (toRing_any rid ma mc ms _ (show Hid (IntsAt w9.drew ma ms) from M.out.stays (Below.refl _ _).drew) hl2).mono ?_
  rintro e w10 ⟨v10, rfl, o10, b10⟩
  have c10 : Below w9.heap.size w9 w10 := (Below.refl w9.heap.size w9).drew.trans b10
  refine hK.out _ _ (c10) (fun hHeld => ?_)
  clear hK K
  try simp only [Act.put, List.getElem_toArray, List.getElem_cons_zero, List.getElem_cons_succ, List.setIfInBounds_toArray, List.set_cons_zero, List.set_cons_succ]
  refine wpAnyH_ready (rs := [3]) (by kernel_rfl) (by simp) ?_
  refine AllReadyH.cons (i := 3) rfl (fun K hK => ?_) AllReadyH.nil
  rw [if_pos (by rfl)]
  simp only [List.getElem_toArray, List.getElem_cons_zero, List.getElem_cons_succ]
  go_simp
  refine (eqRing_same rid _ v10 ms w5.heap.size _ _ (show Hid (OwnI w10 _ _ ms) from XO.out.stays c10 (fun k hk => (XO.out.lt k hk).2)) (show Hid (OwnI w10 _ _ ms) from o10) hl2).mono ?_
  rintro e w11 ⟨rfl, b11⟩
  have c11 : Below w9.heap.size w9 w11 := bl_nxt c10 b11
  refine hK.out _ _ (c11) (fun hHeld => ?_)
  clear hK K
  try simp only [Act.put, List.getElem_toArray, List.getElem_cons_zero, List.getElem_cons_succ, List.setIfInBounds_toArray, List.set_cons_zero, List.set_cons_succ]
  refine wpAnyH_take (i := 4) (v := ?v4) rfl (by kernel_rfl) (by kernel_rfl) (by kernel_rfl) (fun _ _ _ h => h) (Or.inl ⟨by rfl, ?hy4⟩) (by assumption) ?_
  case hy4 => (intro w hSw; (try dsimp only at hSw); simp only [List.getElem_toArray, List.getElem_cons_zero, List.getElem_cons_succ]; go_simp; try with_reducible rfl)
  try simp only [Act.put, List.getElem_toArray, List.getElem_cons_zero, List.getElem_cons_succ, List.setIfInBounds_toArray, List.set_cons_zero, List.set_cons_succ]
  refine wpAnyH_done (by kernel_rfl) ?_ _
  have A : Hid (Bx w11 w.heap.size 35 [.int .i64 rid, .slice ma ms.length mc]) := A.out.later c11
  have B : Hid (Below w.heap.size w w11) := bl_nxt B.out c11
  have M : Hid (IntsAt w11 ma ms) := M.out.stays c11
  have X : Hid (BnsAt w11 ao bs) := X.out.stays c11
  have XR : Hid (Bx w11 gx 40 [.int .i64 rid, .slice qa ms.length qc]) := XR.out.later c11
  have XO : Hid (OwnI w11 w5.heap.size (.slice qa ms.length qc) ms) := XO.out.stays c11 (fun k hk => (XO.out.lt k hk).2)
  have DX : Hid (BnsAt w11 (some ⟨gl, 0, none⟩) ds) := DX.out.stays c11
  clear c10 c11 b10 b11 o10 hHeld XR XO A M
  go_wp2_with fail
  refine (toBundles_any ao cap bs _ X hbl hsz).mono ?_
  rintro e w12 ⟨es, rfl, hpl, hex, b⟩
  have B : Hid (Below w.heap.size w w12) := bl_nxt B.out b
  have X : Hid (BnsAt w12 ao bs) := X.out.stays b
  have DX : Hid (BnsAt w12 (some ⟨gl, 0, none⟩) ds) := DX.out.stays b
  clear b
  have EX : Hid (BnsAt w12 (some ⟨w11.heap.size, 0, none⟩) es) := hex
  generalize w11.heap.size = ge at *
  have HDE : Hid (ds.map Bu.pl = es.map Bu.pl) := HPL.out.trans hpl.symm
  clear hex hpl
  go_wp2_with fail
  have hcall := eqBundles_same (some ⟨gl, 0, none⟩) (some ⟨ge, 0, none⟩) bs.length bs.length ds es w12 DX EX HDE (by rw [← HDL.out]; exact hbl) HSD
  rw [← HDL.out] at hcall
  refine hcall.mono ?_
  rintro e w13 ⟨rfl, b⟩
  have B : Hid (Below w.heap.size w w13) := bl_nxt B.out b
  clear b hcall
  go_wp2_with fail
  go_ret
  exact ⟨rfl, B.out⟩
end Go.Proofs.Ytlflcjdpdbdbkaa
