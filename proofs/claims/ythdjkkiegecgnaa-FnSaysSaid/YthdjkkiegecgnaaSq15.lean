/- Joined texts: CTk2 CTk3 CWc CCtc. -/
import Derived.Test.YthdjkkiegecgnaaSq13
import Derived.Test.YthdjkkiegecgnaaSq14
import Derived.Test.YthdjkkiegecgnaaSq11
/- A member takes items in. -/
namespace Go.Proofs.Ythdjkkiegecgnaa
open Go.RowKit Pl
set_option linter.unusedVariables false
set_option linter.unusedSimpArgs false

/-- the member with these items put in. -/
def Mt.putX (m : Mt) (xs : List It) : Mt := ⟨m.id, m.rid, m.ms, putAll m.its xs, m.lv, m.tx, m.rd, m.se, m.li, m.he, m.la⟩
def Mv.setI (u : Mv) (s : Sv) : Mv := ⟨u.ms, s, u.lv, u.tx, u.ws⟩
/-- all but the box g and the row that the items lie in stays. -/
structure TakeK (w : World) (g : Nat) (v u : Value) (w' : World) : Prop where
  os : w'.os = w.os
  tape : w'.tape = w.tape
  output : w'.output = w.output
  size : w.heap.size ≤ w'.heap.size
  block : ∀ k, k < w.heap.size → k ≠ g → v.ownBlock ≠ some k → w'.heap[k]? = w.heap[k]?
  o : u.ownBlock = v.ownBlock ∨ ∃ nb, u.ownBlock = some nb ∧ w.heap.size ≤ nb

end Go.Proofs.Ythdjkkiegecgnaa


/- A member takes items in: what it leaves, whatever its other lists are. -/
namespace Go.Proofs.Ythdjkkiegecgnaa
open Go.RowKit Pl
set_option linter.unusedVariables false
set_option linter.unusedSimpArgs false

set_option maxRecDepth 100000 in
set_option maxHeartbeats 4000000 in
theorem take_its (m : Mt) (u : Mv) (it : Sv) (g B : Nat) (s : Sv) (xs : List It) (w : World) (h : Hid (MbB w g m u it)) (ho : Hid (SlI w B u.its.v m.its)) (hA : Hid (Asc m.its)) (hx : Hid (RIt w s.v xs)) (hB : B ≤ g) (hl : m.its.length + xs.length ≤ 1048576) (hts : Hid (∀ x ∈ xs, x.2.2.2.size ≤ 1048576)) :
    Calls Try.prog 131 #[.pointer (some ⟨g, 0, none⟩), .slice s.a s.n s.c] w fun e w' => e = .returned (.tuple #[]) ∧ ∃ n : Sv, MbB w' g (m.putX xs) (u.setI n) it ∧ SlI w' B n.v (putAll m.its xs) ∧ TakeK w g u.its.v n.v w' ∧ Below B w w' := by
  have cl : Hid (Bx w.drew g 115 [.slice u.its.a u.its.n u.its.c, .int .i64 m.id, .int .i64 m.rid, .slice u.ms.a u.ms.n u.ms.c, .slice it.a it.n it.c, .slice u.lv.a u.lv.n u.lv.c, .slice u.tx.a u.tx.n u.tx.c, .int .i64 m.rd, .int .i64 m.se, .int .i64 m.li, .int .i64 m.he, .int .i64 m.la.c, .int .i64 m.la.r, .int .i64 m.la.q, .int .i64 m.la.a, .int .i64 m.la.b, .slice u.ws.a u.ws.n u.ws.c]) := Bx.later h.out (Below.refl _ _).drew
  have zg : g < w.heap.size := Bx.lt h.out
  go_enter Try.func131, Try.ntmps131
  refine wp_region_heldLast (S := fun w' => Bx w' g 115 [.slice u.its.a u.its.n u.its.c, .int .i64 m.id, .int .i64 m.rid, .slice u.ms.a u.ms.n u.ms.c, .slice it.a it.n it.c, .slice u.lv.a u.lv.n u.lv.c, .slice u.tx.a u.tx.n u.tx.c, .int .i64 m.rd, .int .i64 m.se, .int .i64 m.li, .int .i64 m.he, .int .i64 m.la.c, .int .i64 m.la.r, .int .i64 m.la.q, .int .i64 m.la.a, .int .i64 m.la.b, .slice u.ws.a u.ws.n u.ws.c]) _ (by simp) (by kernel_rfl) (by rfl) (by rfl) (by kernel_rfl) (by kernel_rfl) cl.out (fun hHeld => ?_)
  simp only [List.dropLast_cons_cons, List.dropLast_singleton, List.getLast_cons_cons, List.getLast_singleton, List.cons_append, List.nil_append, List.length_cons, List.length_nil]
  refine wpAnyH_take (i := 0) (v := ?v0) rfl (by kernel_rfl) (by kernel_rfl) (by kernel_rfl) (fun _ _ _ h => h) (Or.inl ⟨by rfl, ?hy0⟩) (by assumption) ?_
  case hy0 => (intro w hSw; (try dsimp only at hSw); simp only [List.getElem_toArray, List.getElem_cons_zero, List.getElem_cons_succ]; go_simp; try with_reducible rfl)
  try simp only [Act.put, List.getElem_toArray, List.getElem_cons_zero, List.getElem_cons_succ, List.setIfInBounds_toArray, List.set_cons_zero, List.set_cons_succ]
  refine wpAnyH_take (i := 1) (v := ?v1) rfl (by kernel_rfl) (by kernel_rfl) (by kernel_rfl) (fun _ _ _ h => h) (Or.inl ⟨by rfl, ?hy1⟩) (by assumption) ?_
  case hy1 => (intro w hSw; (try dsimp only at hSw); simp only [List.getElem_toArray, List.getElem_cons_zero, List.getElem_cons_succ]; go_simp; try with_reducible rfl)
  try simp only [Act.put, List.getElem_toArray, List.getElem_cons_zero, List.getElem_cons_succ, List.setIfInBounds_toArray, List.set_cons_zero, List.set_cons_succ]
  refine wpAnyH_take (i := 2) (v := ?v2) rfl (by kernel_rfl) (by kernel_rfl) (by kernel_rfl) (fun _ _ _ h => h) (Or.inl ⟨by rfl, ?hy2⟩) (by assumption) ?_
  case hy2 => (intro w hSw; (try dsimp only at hSw); simp only [List.getElem_toArray, List.getElem_cons_zero, List.getElem_cons_succ]; go_simp; try with_reducible rfl)
  try simp only [Act.put, List.getElem_toArray, List.getElem_cons_zero, List.getElem_cons_succ, List.setIfInBounds_toArray, List.set_cons_zero, List.set_cons_succ]
  refine wpAnyH_take (i := 3) (v := ?v3) rfl (by kernel_rfl) (by kernel_rfl) (by kernel_rfl) (fun _ _ _ h => h) (Or.inl ⟨by rfl, ?hy3⟩) (by assumption) ?_
  case hy3 => (intro w hSw; (try dsimp only at hSw); simp only [List.getElem_toArray, List.getElem_cons_zero, List.getElem_cons_succ]; go_simp; try with_reducible rfl)
  try simp only [Act.put, List.getElem_toArray, List.getElem_cons_zero, List.getElem_cons_succ, List.setIfInBounds_toArray, List.set_cons_zero, List.set_cons_succ]
  refine wpAnyH_take (i := 4) (v := _) rfl (by kernel_rfl) (by kernel_rfl) (by kernel_rfl) (fun _ _ _ h => h) (ld1_yield (by rfl) 113 _ rfl g 0 rfl 115 _ (fun w hS => hS) (.slice u.its.a u.its.n u.its.c) rfl _ Try.underlying113 rfl) (by assumption) ?_
  try simp only [Act.put, List.getElem_toArray, List.getElem_cons_zero, List.getElem_cons_succ, List.setIfInBounds_toArray, List.set_cons_zero, List.set_cons_succ]
  refine wpAnyH_take (i := 5) (v := ?v5) rfl (by kernel_rfl) (by kernel_rfl) (by kernel_rfl) (fun _ _ _ h => h) (Or.inl ⟨by rfl, ?hy5⟩) (by assumption) ?_
  case hy5 => (intro w hSw; (try dsimp only at hSw); simp only [List.getElem_toArray, List.getElem_cons_zero, List.getElem_cons_succ]; go_simp; try with_reducible rfl)
  try simp only [Act.put, List.getElem_toArray, List.getElem_cons_zero, List.getElem_cons_succ, List.setIfInBounds_toArray, List.set_cons_zero, List.set_cons_succ]
  refine wpAnyH_ready (rs := [6]) (by kernel_rfl) (by simp) ?_
  refine AllReadyH.cons (i := 6) rfl (fun K hK => ?_) AllReadyH.nil
  rw [if_pos (by rfl)]
  simp only [List.getElem_toArray, List.getElem_cons_zero, List.getElem_cons_succ]
  go_simp
  have hxd : Hid (RIt w.drew s.v xs) := RIt.stays hx.out ((Below.refl _ _).drew)
  refine (copyItems_s s xs _ hxd (by omega) hts).mono ?_
  rintro e w1 ⟨c, rfl, oc, b1⟩
  have c1 : Below w.heap.size w w1 := (Below.refl w.heap.size w).drew.trans b1
  have z1 : w.heap.size ≤ w1.heap.size := c1.size
  have HG : Hid (Bx w1 g 115 [.slice u.its.a u.its.n u.its.c, .int .i64 m.id, .int .i64 m.rid, .slice u.ms.a u.ms.n u.ms.c, .slice it.a it.n it.c, .slice u.lv.a u.lv.n u.lv.c, .slice u.tx.a u.tx.n u.tx.c, .int .i64 m.rd, .int .i64 m.se, .int .i64 m.li, .int .i64 m.he, .int .i64 m.la.c, .int .i64 m.la.r, .int .i64 m.la.q, .int .i64 m.la.a, .int .i64 m.la.b, .slice u.ws.a u.ws.n u.ws.c]) := Bx.later h.out c1
  have HO : Hid (SlI w1 B u.its.v m.its) := SlI.below ho.out c1
  have oc : SlI w1 w.heap.size c.v xs := oc
  obtain ⟨lo, lc, hc, hci⟩ := oc.items
  have HCI : Hid (ItemsAt w1 lo xs) := hci
  have HAP : Hid (Apart u.its.v lo) := fun k b off hk e => by
    have h1 := (SlI.lt ho.out k hk).2
    have h2 := (oc.lt b (by rw [hc, e]; rfl)).1
    omega
  obtain ⟨ca, cn, cc⟩ := c
  simp only [Sv.v, Value.slice.injEq] at hc
  obtain ⟨rfl, rfl, rfl⟩ := hc
  have BK : Hid (Below w.heap.size w w1) := c1
  refine hK.out _ _ (HG.out) (fun hHeld => ?_)
  clear hK K
  try simp only [Act.put, List.getElem_toArray, List.getElem_cons_zero, List.getElem_cons_succ, List.setIfInBounds_toArray, List.set_cons_zero, List.set_cons_succ]
  clear b1 c1 oc hci hxd
  refine wpAnyH_ready (rs := [7]) (by kernel_rfl) (by simp) ?_
  refine AllReadyH.cons (i := 7) rfl (fun K hK => ?_) AllReadyH.nil
  rw [if_pos (by rfl)]
  simp only [List.getElem_toArray, List.getElem_cons_zero, List.getElem_cons_succ]
  go_simp
  refine (put2_any u.its.v m.its ca cc xs B _ HO.out hA HCI HAP (by omega) hl).mono ?_
  rintro e w2 ⟨vn, rfl, sn, pk⟩
  obtain ⟨n, rfl⟩ := sn.sv
  have SN : Hid (SlI w2 B (.slice n.a n.n n.c) (putAll m.its xs)) := sn
  have PK : Hid (PutK w1 u.its.v (.slice n.a n.n n.c) w2) := pk
  have HG2 : Hid (Bx w2 g 115 [.slice u.its.a u.its.n u.its.c, .int .i64 m.id, .int .i64 m.rid, .slice u.ms.a u.ms.n u.ms.c, .slice it.a it.n it.c, .slice u.lv.a u.lv.n u.lv.c, .slice u.tx.a u.tx.n u.tx.c, .int .i64 m.rd, .int .i64 m.se, .int .i64 m.li, .int .i64 m.he, .int .i64 m.la.c, .int .i64 m.la.r, .int .i64 m.la.q, .int .i64 m.la.a, .int .i64 m.la.b, .slice u.ws.a u.ws.n u.ws.c]) := HG.out.grown pk.g (fun e => bx_it_ne HO.out HG.out (by decide) e.symm)
  have zb : ∀ k, u.its.v.ownBlock = some k → B ≤ k := fun k hk => (SlI.lt ho.out k hk).1
  have BB : Hid (Below B w w2) := (BK.out.mono (by omega)).grown pk.g (by omega) zb
  have TKK : Hid (TakeK w g u.its.v (.slice n.a n.n n.c) w2) := ⟨pk.g.os.trans BK.out.os, pk.g.tape.trans BK.out.tape, pk.g.output.trans BK.out.output, Nat.le_trans z1 pk.g.size, fun k hk _ hn => (pk.g.block k (by omega) (fun e => hn e.symm)).trans (BK.out.block k hk), by
    rcases pk.o with e | ⟨nb, e, z⟩
    · exact .inl e
    · exact .inr ⟨nb, e, by omega⟩⟩
  refine hK.out _ _ (HG2.out) (fun hHeld => ?_)
  clear hK K
  try simp only [Act.put, List.getElem_toArray, List.getElem_cons_zero, List.getElem_cons_succ, List.setIfInBounds_toArray, List.set_cons_zero, List.set_cons_succ]
  clear sn pk zb
  refine wpAnyH_take (i := 8) (v := ?v8) rfl (by kernel_rfl) (by kernel_rfl) (by kernel_rfl) (fun _ _ _ h => h) (Or.inl ⟨by rfl, ?hy8⟩) (by assumption) ?_
  case hy8 => (intro w hSw; (try dsimp only at hSw); simp only [List.getElem_toArray, List.getElem_cons_zero, List.getElem_cons_succ]; go_simp; try with_reducible rfl)
  try simp only [Act.put, List.getElem_toArray, List.getElem_cons_zero, List.getElem_cons_succ, List.setIfInBounds_toArray, List.set_cons_zero, List.set_cons_succ]
  refine wpAnyH_take (i := 9) (v := ?v9) rfl (by kernel_rfl) (by kernel_rfl) (by kernel_rfl) (fun _ _ _ h => h) (Or.inl ⟨by rfl, ?hy9⟩) (by assumption) ?_
  case hy9 => (intro w hSw; (try dsimp only at hSw); simp only [List.getElem_toArray, List.getElem_cons_zero, List.getElem_cons_succ]; go_simp; try with_reducible rfl)
  try simp only [Act.put, List.getElem_toArray, List.getElem_cons_zero, List.getElem_cons_succ, List.setIfInBounds_toArray, List.set_cons_zero, List.set_cons_succ]
  refine wpAnyH_take (i := 10) (v := ?v10) rfl (by kernel_rfl) (by kernel_rfl) (by kernel_rfl) (fun _ _ _ h => h) (Or.inl ⟨by rfl, ?hy10⟩) (by assumption) ?_
  case hy10 => (intro w hSw; (try dsimp only at hSw); simp only [List.getElem_toArray, List.getElem_cons_zero, List.getElem_cons_succ]; go_simp; try with_reducible rfl)
  try simp only [Act.put, List.getElem_toArray, List.getElem_cons_zero, List.getElem_cons_succ, List.setIfInBounds_toArray, List.set_cons_zero, List.set_cons_succ]
  refine wpAnyH_done (by kernel_rfl) ?_ _
  refine lastQ_of rfl rfl ?_
  refine wp_st1 113 _ _ rfl g 0 rfl 115 _ HG2.out (.slice n.a n.n n.c) rfl (by simp) rfl Try.sizeSt [.slice n.a n.n n.c, .int .i64 m.id, .int .i64 m.rid, .slice u.ms.a u.ms.n u.ms.c, .slice it.a it.n it.c, .slice u.lv.a u.lv.n u.lv.c, .slice u.tx.a u.tx.n u.tx.c, .int .i64 m.rd, .int .i64 m.se, .int .i64 m.li, .int .i64 m.he, .int .i64 m.la.c, .int .i64 m.la.r, .int .i64 m.la.q, .int .i64 m.la.a, .int .i64 m.la.b, .slice u.ws.a u.ws.n u.ws.c] rfl ?_
  intro w3 OB TB
  go_wp2_with fail
  refine bodyPost_end (results_none rfl _ _ _) rfl ?_
  refine ⟨rfl, n, OB, SN.out.past HG2.out TB (by decide), ?_, BB.out.trans (TB.below (by omega))⟩
  exact ⟨TB.os.trans TKK.out.os, TB.tape.trans TKK.out.tape, TB.output.trans TKK.out.output, Nat.le_trans TKK.out.size (Nat.le_of_eq TB.size.symm), fun k hk hn hv => (TB.block k hn).trans (TKK.out.block k hk hn hv), TKK.out.o⟩
end Go.Proofs.Ythdjkkiegecgnaa


/- Slices of ints and texts, wherever in their block they begin; cut in front in a walk. -/
namespace Go.Proofs.Ythdjkkiegecgnaa
open Go.RowKit Pl
set_option linter.unusedVariables false

def SlJ (w : World) (B : Nat) (v : Value) (xs : List Int) : Prop := Sl w 3 1 B v xs.length (xs.map (Value.int .i64))
def SlX (w : World) (B : Nat) (v : Value) (xs : List ByteArray) : Prop := Sl w 9 1 B v xs.length (xs.map Value.string)
section
variable {w w' : World} {B : Nat} {v : Value}
theorem Pl.OwnI.j {xs : List Int} (h : OwnI w B v xs) : SlJ w B v xs := by
  have := Sl.ofOwn (w := w) (e := 3) (size := 1) (B := B) (v := v) (n := xs.length) (xs := xs.map (Value.int .i64)) h
  exact this
theorem Pl.OwnS.x {xs : List ByteArray} (h : OwnS w B v xs) : SlX w B v xs := by
  have := Sl.ofOwn (w := w) (e := 9) (size := 1) (B := B) (v := v) (n := xs.length) (xs := xs.map Value.string) h
  exact this
theorem SlJ.ri {xs : List Int} (h : SlJ w B v xs) : RI w v xs := by
  obtain ⟨ao, cap, e⟩ := Sl.form h
  refine ⟨ao, cap, e, fun i hi => ?_⟩
  obtain ⟨g, off, cap', hv, hb, hlt, hc, _⟩ := Sl.read h (by omega)
  rw [e] at hv
  simp at hv
  exact ⟨g, off, hv.1, hlt, hc i _ (by simp [hi])⟩
theorem SlX.rt {xs : List ByteArray} (h : SlX w B v xs) : RT w v xs := by
  obtain ⟨ao, cap, e⟩ := Sl.form h
  refine ⟨ao, cap, e, fun i hi => ?_⟩
  obtain ⟨g, off, cap', hv, hb, hlt, hc, _⟩ := Sl.read h (by omega)
  rw [e] at hv
  simp at hv
  exact ⟨g, off, hv.1, hlt, hc i _ (by simp [hi])⟩
theorem Sl.blk {e size n : Nat} {xs : List Value} (h : Sl w e size B v n xs) {k : Nat} (hk : v.ownBlock = some k) : ∃ cs, w.heap[k]? = some (.cells cs e (0, 0)) := by
  rcases h.2 with ⟨rfl, _⟩ | ⟨g, off, cap, cur, rfl, _, hg, _⟩
  · cases hk
  · cases hk; exact ⟨_, hg⟩
theorem Sl.kt {S : Nat → Prop} {e size n : Nat} {xs : List Value} (h : Sl w e size B v n xs) (k : KeepTy S w w') (hS : ¬ S e) : Sl w' e size B v n xs :=
  h.keep fun b hb hlt => k.block b hlt fun cs T' z hc => by
    obtain ⟨cs', hc'⟩ := Sl.blk h hb
    rw [hc'] at hc; simp at hc; rw [← hc.2.1]; exact hS
theorem SlJ.kt {S : Nat → Prop} {xs : List Int} (h : SlJ w B v xs) (k : KeepTy S w w') (hS : ¬ S 3) : SlJ w' B v xs := Sl.kt h k hS
theorem SlX.kt {S : Nat → Prop} {xs : List ByteArray} (h : SlX w B v xs) (k : KeepTy S w w') (hS : ¬ S 9) : SlX w' B v xs := Sl.kt h k hS
theorem SlJ.below {xs : List Int} (h : SlJ w B v xs) (hb : Below w.heap.size w w') : SlJ w' B v xs := Sl.below h hb
theorem SlX.below {xs : List ByteArray} (h : SlX w B v xs) (hb : Below w.heap.size w w') : SlX w' B v xs := Sl.below h hb
/-- what a member takes in leaves lists of other types. -/
theorem TakeK.kt {g : Nat} {u v : Value} {T : Nat} {cs : List Value} {B' : Nat} {its : List It} (h : TakeK w g u v w') (hB : Bx w g T cs) (hu : SlI w B' u its) : KeepTy (fun X => X = T ∨ X = 38) w w' :=
  ⟨h.os, h.tape, h.output, h.size, fun k hk ht => h.block k hk (fun e => by subst e; exact ht _ T _ hB (.inl rfl)) (fun e => by obtain ⟨c, hc⟩ := own_is_it hu e; exact ht _ 38 _ hc (.inr rfl))⟩
end
section
variable {P : Program} {w : World} {ops : Array Oper} {rest : List Oper} {o : Oper} {a : Act} {Q : Exit → Act → World → Prop}
/-- a walk stops at a store. -/
theorem wpList_haltS (t : TypeId) (x y : Operand) (ho : o.op = .store t x y) (h : Stp (wpList P ops Q (o :: rest) a w)) : wpList P ops Q (o :: rest) a w := h.out
end
end Go.Proofs.Ythdjkkiegecgnaa


/- A member catches an item: the walks over both Catch. Written by gen_ct.py. -/
namespace Go.Proofs.Ythdjkkiegecgnaa
open Go.RowKit Pl
set_option linter.unusedVariables false
set_option linter.unusedSimpArgs false

theorem MtO.past {w w' : World} {B g T : Nat} {m : Mt} {v : Mv} {cs : List Value} (h : MtO w B m v) (hB : Bx w g T cs) (ht : TurnAt g w w') (h3 : T ≠ 3) (h9 : T ≠ 9) (hI : T ≠ 38) : MtO w' B m v :=
  ⟨h.ms.past hB ht h3, h.its.past hB ht hI, h.lv.past hB ht h3, h.tx.past hB ht h9, h.ws.past hB ht h3, h.a1, h.a2, h.a3⟩
theorem MtO.keepb {w w' : World} {B g T : Nat} {m : Mt} {v : Mv} {cs : List Value} (h : MtO w B m v) (hB : Bx w g T cs) (ht : KeepBut g w w') (h3 : T ≠ 3) (h9 : T ≠ 9) (hI : T ≠ 38) : MtO w' B m v :=
  ⟨h.ms.keepb hB ht h3, h.its.keepb hB ht hI, h.lv.keepb hB ht h3, h.tx.keepb hB ht h9, h.ws.keepb hB ht h3, h.a1, h.a2, h.a3⟩
/-- the member behind it. -/
def Mt.setIt (m : Mt) (ts : List It) : Mt := ⟨m.id, m.rid, m.ms, ts, m.lv, m.tx, m.rd, m.se, m.li, m.he, m.la⟩
def Mt.cat (m : Mt) (y : It) : Mt := m.setIt (if m.ok = true then putP m.its y else m.its)
end Go.Proofs.Ythdjkkiegecgnaa


