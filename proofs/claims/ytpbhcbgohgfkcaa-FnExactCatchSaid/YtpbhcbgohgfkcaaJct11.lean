/- Joined texts: Tk2 Mo Mp. -/
import Derived.Test.YtpbhcbgohgfkcaaJct1
import Derived.Test.YtpbhcbgohgfkcaaJct2
import Derived.Test.YtpbhcbgohgfkcaaJct3
import Derived.Test.YtpbhcbgohgfkcaaJct4
import Derived.Test.YtpbhcbgohgfkcaaJct5
import Derived.Test.YtpbhcbgohgfkcaaJct6
import Derived.Test.YtpbhcbgohgfkcaaJct7
import Derived.Test.YtpbhcbgohgfkcaaJct8
import Derived.Test.YtpbhcbgohgfkcaaJct9
import Derived.Test.YtpbhcbgohgfkcaaJct10
import Derived.BigQuiet
import Derived.Deep.QuietTactic
/- A member takes items in. -/
namespace Go.Proofs.Ytpbhcbgohgfkcaa
open Go.RowKit Pl
set_option linter.unusedVariables false
set_option linter.unusedSimpArgs false

/-- the member with these items put in. -/
def Mt.putX (m : Mt) (xs : List It) : Mt := ⟨m.id, m.rid, m.ms, putAll m.its xs, m.lv, m.tx, m.rd, m.se, m.li, m.he, m.la⟩
def Mv.setI (u : Mv) (s : Sv) : Mv := ⟨u.ms, s, u.lv, u.tx, u.ws⟩
/-- all but the box g and the row that the items lie in stays. -/
structure TakeK (w : World) (g : Nat) (v u : Value) (w' : World) : Prop where
  os : w'.os = w.os
  tape : w'.tape = w.tape
  output : w'.output = w.output
  size : w.heap.size ≤ w'.heap.size
  block : ∀ k, k < w.heap.size → k ≠ g → v.ownBlock ≠ some k → w'.heap[k]? = w.heap[k]?
  o : u.ownBlock = v.ownBlock ∨ ∃ nb, u.ownBlock = some nb ∧ w.heap.size ≤ nb

set_option maxRecDepth 100000 in
set_option maxHeartbeats 4000000 in
theorem take_any (m : Mt) (u : Mv) (it : Sv) (g B : Nat) (s : Sv) (xs : List It) (w : World) (h : Hid (MbB w g m u it)) (ho : Hid (MtO w B m u)) (hA : Hid (Asc m.its)) (hx : Hid (RIt w s.v xs)) (hB : B ≤ g) (hl : m.its.length + xs.length ≤ 1048576) (hts : Hid (∀ x ∈ xs, x.2.2.2.size ≤ 1048576)) :
    Calls Try.prog 75 #[.pointer (some ⟨g, 0, none⟩), .slice s.a s.n s.c] w fun e w' => e = .returned (.tuple #[]) ∧ ∃ n : Sv, MbB w' g (m.putX xs) (u.setI n) it ∧ MtO w' B (m.putX xs) (u.setI n) ∧ TakeK w g u.its.v n.v w' ∧ Below B w w' := by
  have cl : Hid (Bx w.drew g 107 [.slice u.its.a u.its.n u.its.c, .int .i64 m.id, .int .i64 m.rid, .slice u.ms.a u.ms.n u.ms.c, .slice it.a it.n it.c, .slice u.lv.a u.lv.n u.lv.c, .slice u.tx.a u.tx.n u.tx.c, .int .i64 m.rd, .int .i64 m.se, .int .i64 m.li, .int .i64 m.he, .int .i64 m.la.c, .int .i64 m.la.r, .int .i64 m.la.q, .int .i64 m.la.a, .int .i64 m.la.b, .slice u.ws.a u.ws.n u.ws.c]) := Bx.later h.out (Below.refl _ _).drew
  have zg : g < w.heap.size := Bx.lt h.out
  go_enter Try.func75, Try.ntmps75
  refine wp_region_heldLast (S := fun w' => Bx w' g 107 [.slice u.its.a u.its.n u.its.c, .int .i64 m.id, .int .i64 m.rid, .slice u.ms.a u.ms.n u.ms.c, .slice it.a it.n it.c, .slice u.lv.a u.lv.n u.lv.c, .slice u.tx.a u.tx.n u.tx.c, .int .i64 m.rd, .int .i64 m.se, .int .i64 m.li, .int .i64 m.he, .int .i64 m.la.c, .int .i64 m.la.r, .int .i64 m.la.q, .int .i64 m.la.a, .int .i64 m.la.b, .slice u.ws.a u.ws.n u.ws.c]) _ (by simp) (by kernel_rfl) (by rfl) (by rfl) (by kernel_rfl) (by kernel_rfl) cl.out (fun hHeld => ?_)
  simp only [List.dropLast_cons_cons, List.dropLast_singleton, List.getLast_cons_cons, List.getLast_singleton, List.cons_append, List.nil_append, List.length_cons, List.length_nil]
  refine wpAnyH_take (i := 0) (v := ?v0) rfl (by kernel_rfl) (by kernel_rfl) (by kernel_rfl) (fun _ _ _ h => h) (Or.inl ⟨by rfl, ?hy0⟩) (by assumption) ?_
  case hy0 => (intro w hSw; (try dsimp only at hSw); simp only [List.getElem_toArray, List.getElem_cons_zero, List.getElem_cons_succ]; go_simp; try with_reducible rfl)
  try simp only [Act.put, List.getElem_toArray, List.getElem_cons_zero, List.getElem_cons_succ, List.setIfInBounds_toArray, List.set_cons_zero, List.set_cons_succ]
  refine wpAnyH_take (i := 1) (v := ?v1) rfl (by kernel_rfl) (by kernel_rfl) (by kernel_rfl) (fun _ _ _ h => h) (Or.inl ⟨by rfl, ?hy1⟩) (by assumption) ?_
  case hy1 => (intro w hSw; (try dsimp only at hSw); simp only [List.getElem_toArray, List.getElem_cons_zero, List.getElem_cons_succ]; go_simp; try with_reducible rfl)
  try simp only [Act.put, List.getElem_toArray, List.getElem_cons_zero, List.getElem_cons_succ, List.setIfInBounds_toArray, List.set_cons_zero, List.set_cons_succ]
  refine wpAnyH_take (i := 2) (v := ?v2) rfl (by kernel_rfl) (by kernel_rfl) (by kernel_rfl) (fun _ _ _ h => h) (Or.inl ⟨by rfl, ?hy2⟩) (by assumption) ?_
  case hy2 => (intro w hSw; (try dsimp only at hSw); simp only [List.getElem_toArray, List.getElem_cons_zero, List.getElem_cons_succ]; go_simp; try with_reducible rfl)
  try simp only [Act.put, List.getElem_toArray, List.getElem_cons_zero, List.getElem_cons_succ, List.setIfInBounds_toArray, List.set_cons_zero, List.set_cons_succ]
  refine wpAnyH_take (i := 3) (v := ?v3) rfl (by kernel_rfl) (by kernel_rfl) (by kernel_rfl) (fun _ _ _ h => h) (Or.inl ⟨by rfl, ?hy3⟩) (by assumption) ?_
  case hy3 => (intro w hSw; (try dsimp only at hSw); simp only [List.getElem_toArray, List.getElem_cons_zero, List.getElem_cons_succ]; go_simp; try with_reducible rfl)
  try simp only [Act.put, List.getElem_toArray, List.getElem_cons_zero, List.getElem_cons_succ, List.setIfInBounds_toArray, List.set_cons_zero, List.set_cons_succ]
  refine wpAnyH_take (i := 4) (v := _) rfl (by kernel_rfl) (by kernel_rfl) (by kernel_rfl) (fun _ _ _ h => h) (ld1_yield (by rfl) 105 _ rfl g 0 rfl 107 _ (fun w hS => hS) (.slice u.its.a u.its.n u.its.c) rfl _ Try.underlying105 rfl) (by assumption) ?_
  try simp only [Act.put, List.getElem_toArray, List.getElem_cons_zero, List.getElem_cons_succ, List.setIfInBounds_toArray, List.set_cons_zero, List.set_cons_succ]
  refine wpAnyH_take (i := 5) (v := ?v5) rfl (by kernel_rfl) (by kernel_rfl) (by kernel_rfl) (fun _ _ _ h => h) (Or.inl ⟨by rfl, ?hy5⟩) (by assumption) ?_
  case hy5 => (intro w hSw; (try dsimp only at hSw); simp only [List.getElem_toArray, List.getElem_cons_zero, List.getElem_cons_succ]; go_simp; try with_reducible rfl)
  try simp only [Act.put, List.getElem_toArray, List.getElem_cons_zero, List.getElem_cons_succ, List.setIfInBounds_toArray, List.set_cons_zero, List.set_cons_succ]
  refine wpAnyH_ready (rs := [6]) (by kernel_rfl) (by simp) ?_
  refine AllReadyH.cons (i := 6) rfl (fun K hK => ?_) AllReadyH.nil
  rw [if_pos (by rfl)]
  simp only [List.getElem_toArray, List.getElem_cons_zero, List.getElem_cons_succ]
  go_simp
  have hxd : Hid (RIt w.drew s.v xs) := RIt.stays hx.out ((Below.refl _ _).drew)
  refine (copyItems_s s xs _ hxd (by omega) hts).mono ?_
  rintro e w1 ⟨c, rfl, oc, b1⟩
  have c1 : Below w.heap.size w w1 := (Below.refl w.heap.size w).drew.trans b1
  have z1 : w.heap.size ≤ w1.heap.size := c1.size
  have HG : Hid (Bx w1 g 107 [.slice u.its.a u.its.n u.its.c, .int .i64 m.id, .int .i64 m.rid, .slice u.ms.a u.ms.n u.ms.c, .slice it.a it.n it.c, .slice u.lv.a u.lv.n u.lv.c, .slice u.tx.a u.tx.n u.tx.c, .int .i64 m.rd, .int .i64 m.se, .int .i64 m.li, .int .i64 m.he, .int .i64 m.la.c, .int .i64 m.la.r, .int .i64 m.la.q, .int .i64 m.la.a, .int .i64 m.la.b, .slice u.ws.a u.ws.n u.ws.c]) := Bx.later h.out c1
  have HO : Hid (MtO w1 B m u) := MtO.later ho.out c1
  have oc : SlI w1 w.heap.size c.v xs := oc
  obtain ⟨lo, lc, hc, hci⟩ := oc.items
  have HCI : Hid (ItemsAt w1 lo xs) := hci
  have HAP : Hid (Apart u.its.v lo) := fun k b off hk e => by
    have h1 := (ho.out.its.lt k hk).2
    have h2 := (oc.lt b (by rw [hc, e]; rfl)).1
    omega
  obtain ⟨ca, cn, cc⟩ := c
  simp only [Sv.v, Value.slice.injEq] at hc
  obtain ⟨rfl, rfl, rfl⟩ := hc
  have BK : Hid (Below w.heap.size w w1) := c1
  refine hK.out _ _ (HG.out) (fun hHeld => ?_)
  clear hK K
  try simp only [Act.put, List.getElem_toArray, List.getElem_cons_zero, List.getElem_cons_succ, List.setIfInBounds_toArray, List.set_cons_zero, List.set_cons_succ]
  clear b1 c1 oc hci hxd
  refine wpAnyH_ready (rs := [7]) (by kernel_rfl) (by simp) ?_
  refine AllReadyH.cons (i := 7) rfl (fun K hK => ?_) AllReadyH.nil
  rw [if_pos (by rfl)]
  simp only [List.getElem_toArray, List.getElem_cons_zero, List.getElem_cons_succ]
  go_simp
  refine (put2_any u.its.v m.its ca cc xs B _ HO.out.its hA HCI HAP (by omega) hl).mono ?_
  rintro e w2 ⟨vn, rfl, sn, pk⟩
  obtain ⟨n, rfl⟩ := sn.sv
  have SN : Hid (SlI w2 B (.slice n.a n.n n.c) (putAll m.its xs)) := sn
  have PK : Hid (PutK w1 u.its.v (.slice n.a n.n n.c) w2) := pk
  have HG2 : Hid (Bx w2 g 107 [.slice u.its.a u.its.n u.its.c, .int .i64 m.id, .int .i64 m.rid, .slice u.ms.a u.ms.n u.ms.c, .slice it.a it.n it.c, .slice u.lv.a u.lv.n u.lv.c, .slice u.tx.a u.tx.n u.tx.c, .int .i64 m.rd, .int .i64 m.se, .int .i64 m.li, .int .i64 m.he, .int .i64 m.la.c, .int .i64 m.la.r, .int .i64 m.la.q, .int .i64 m.la.a, .int .i64 m.la.b, .slice u.ws.a u.ws.n u.ws.c]) := HG.out.grown pk.g (fun e => bx_it_ne HO.out.its HG.out (by decide) e.symm)
  have P1 : Hid (OwnI w2 B u.ms.v m.ms) := HO.out.ms.kept pk.g (fun k a b => ap_i_it HO.out.ms HO.out.its k a b.symm)
  have P3 : Hid (OwnI w2 B u.lv.v m.lv) := HO.out.lv.kept pk.g (fun k a b => ap_i_it HO.out.lv HO.out.its k a b.symm)
  have P4 : Hid (OwnS w2 B u.tx.v m.tx) := ownS_kept HO.out.tx pk.g (fun k a b => ap_s_it HO.out.tx HO.out.its k a b.symm)
  have P5 : Hid (OwnI w2 B u.ws.v m.la.ws) := HO.out.ws.kept pk.g (fun k a b => ap_i_it HO.out.ws HO.out.its k a b.symm)
  have zb : ∀ k, u.its.v.ownBlock = some k → B ≤ k := fun k hk => (ho.out.its.lt k hk).1
  have BB : Hid (Below B w w2) := (BK.out.mono (by omega)).grown pk.g (by omega) zb
  have TKK : Hid (TakeK w g u.its.v (.slice n.a n.n n.c) w2) := ⟨pk.g.os.trans BK.out.os, pk.g.tape.trans BK.out.tape, pk.g.output.trans BK.out.output, Nat.le_trans z1 pk.g.size, fun k hk _ hn => (pk.g.block k (by omega) (fun e => hn e.symm)).trans (BK.out.block k hk), by
    rcases pk.o with e | ⟨nb, e, z⟩
    · exact .inl e
    · exact .inr ⟨nb, e, by omega⟩⟩
  refine hK.out _ _ (HG2.out) (fun hHeld => ?_)
  clear hK K
  try simp only [Act.put, List.getElem_toArray, List.getElem_cons_zero, List.getElem_cons_succ, List.setIfInBounds_toArray, List.set_cons_zero, List.set_cons_succ]
  clear sn pk zb
  refine wpAnyH_take (i := 8) (v := ?v8) rfl (by kernel_rfl) (by kernel_rfl) (by kernel_rfl) (fun _ _ _ h => h) (Or.inl ⟨by rfl, ?hy8⟩) (by assumption) ?_
  case hy8 => (intro w hSw; (try dsimp only at hSw); simp only [List.getElem_toArray, List.getElem_cons_zero, List.getElem_cons_succ]; go_simp; try with_reducible rfl)
  try simp only [Act.put, List.getElem_toArray, List.getElem_cons_zero, List.getElem_cons_succ, List.setIfInBounds_toArray, List.set_cons_zero, List.set_cons_succ]
  refine wpAnyH_take (i := 9) (v := ?v9) rfl (by kernel_rfl) (by kernel_rfl) (by kernel_rfl) (fun _ _ _ h => h) (Or.inl ⟨by rfl, ?hy9⟩) (by assumption) ?_
  case hy9 => (intro w hSw; (try dsimp only at hSw); simp only [List.getElem_toArray, List.getElem_cons_zero, List.getElem_cons_succ]; go_simp; try with_reducible rfl)
  try simp only [Act.put, List.getElem_toArray, List.getElem_cons_zero, List.getElem_cons_succ, List.setIfInBounds_toArray, List.set_cons_zero, List.set_cons_succ]
  refine wpAnyH_take (i := 10) (v := ?v10) rfl (by kernel_rfl) (by kernel_rfl) (by kernel_rfl) (fun _ _ _ h => h) (Or.inl ⟨by rfl, ?hy10⟩) (by assumption) ?_
  case hy10 => (intro w hSw; (try dsimp only at hSw); simp only [List.getElem_toArray, List.getElem_cons_zero, List.getElem_cons_succ]; go_simp; try with_reducible rfl)
  try simp only [Act.put, List.getElem_toArray, List.getElem_cons_zero, List.getElem_cons_succ, List.setIfInBounds_toArray, List.set_cons_zero, List.set_cons_succ]
  refine wpAnyH_done (by kernel_rfl) ?_ _
  refine lastQ_of rfl rfl ?_
  refine wp_st1 105 _ _ rfl g 0 rfl 107 _ HG2.out (.slice n.a n.n n.c) rfl (by simp) rfl Try.sizeSt [.slice n.a n.n n.c, .int .i64 m.id, .int .i64 m.rid, .slice u.ms.a u.ms.n u.ms.c, .slice it.a it.n it.c, .slice u.lv.a u.lv.n u.lv.c, .slice u.tx.a u.tx.n u.tx.c, .int .i64 m.rd, .int .i64 m.se, .int .i64 m.li, .int .i64 m.he, .int .i64 m.la.c, .int .i64 m.la.r, .int .i64 m.la.q, .int .i64 m.la.a, .int .i64 m.la.b, .slice u.ws.a u.ws.n u.ws.c] rfl ?_
  intro w3 OB TB
  go_wp2_with fail
  refine bodyPost_end (results_none rfl _ _ _) rfl ?_
  refine ⟨rfl, n, OB, ⟨P1.out.past HG2.out TB (by decide), SN.out.past HG2.out TB (by decide), P3.out.past HG2.out TB (by decide), P4.out.past HG2.out TB (by decide), P5.out.past HG2.out TB (by decide), HO.out.a1, HO.out.a2, HO.out.a3⟩, ?_, BB.out.trans (TB.below (by omega))⟩
  exact ⟨TB.os.trans TKK.out.os, TB.tape.trans TKK.out.tape, TB.output.trans TKK.out.output, Nat.le_trans TKK.out.size (Nat.le_of_eq TB.size.symm), fun k hk hn hv => (TB.block k hn).trans (TKK.out.block k hk hn hv), TKK.out.o⟩
end Go.Proofs.Ytpbhcbgohgfkcaa

/- What a member has to say, and whether it is right: small walks. -/
namespace Go.Proofs.Ytpbhcbgohgfkcaa
open Go.RowKit Pl
set_option linter.unusedVariables false
set_option linter.unusedSimpArgs false

/-- whether texts are short. -/
def fitB (ts : List ByteArray) : Bool := ts.all fun t => decide (t.size ≤ 60)
theorem fitB_true {ts : List ByteArray} : fitB ts = true ↔ ∀ t ∈ ts, t.size ≤ 60 := by
  unfold fitB
  simp [List.all_eq_true]
theorem fitB_step {ts : List ByteArray} {k : Nat} (h : ∀ t ∈ ts.take k, t.size ≤ 60) (hk : k < ts.length) (hs : ts[k].size ≤ 60) : ∀ t ∈ ts.take (k + 1), t.size ≤ 60 := by
  intro t ht
  rw [List.take_succ_eq_append_getElem hk] at ht
  rcases List.mem_append.1 ht with h1 | h1
  · exact h t h1
  · simp at h1; subst h1; exact hs
theorem fitB_bad {ts : List ByteArray} {k : Nat} (hk : k < ts.length) (hs : 60 < ts[k].size) : fitB ts = false := by
  cases h : fitB ts with
  | false => rfl
  | true => have := fitB_true.1 h _ (List.getElem_mem hk); omega
theorem fitB_all {ts : List ByteArray} {k : Nat} (h : ∀ t ∈ ts.take k, t.size ≤ 60) (hk : ts.length ≤ k) : fitB ts = true := by
  rw [List.take_of_length_le hk] at h
  exact fitB_true.2 h
/-- whether a number is a level. -/
def lvB (l : Int) : Bool := decide (1 ≤ l ∧ l ≤ 2)
def lvsB (lv : List Int) : Bool := lv.all lvB
/-- whether it may stand there to be said. -/
def sayB (lv : List Int) (tx : List ByteArray) : Bool := decide (tx.length ≤ 20) && (decide (lv.length = tx.length) && (lvsB lv && fitB tx))

set_option maxRecDepth 100000 in
set_option maxHeartbeats 1000000 in
theorem fits_any (ao : Option Addr) (cap : Nat) (ts : List ByteArray) (w : World) (hx : Hid (TextsAt w ao ts)) (hl : ts.length ≤ 1048576) :
    Calls Try.prog 116 #[.slice ao ts.length cap] w fun e w' => e = .returned (.bool (fitB ts)) ∧ w' = w := by
  go_enter Try.func116, Try.ntmps116
  go_wp2
  go_loop [7] (fun i => ∃ k : Nat, k ≤ ts.length ∧ i = .int .i64 k ∧ Hid (∀ t ∈ ts.take k, t.size ≤ 60)) (fun i => ts.length - (intOf i).toNat)
  case atStart => exact ⟨0, Nat.zero_le _, rfl, fun t ht => by simp at ht⟩
  case round =>
    obtain ⟨k, hk, rfl, hst⟩ := hrel
    by_cases hlt : k < ts.length
    · obtain ⟨b, off, rfl, hbb, hc⟩ := hx.out k hlt
      obtain ⟨x, ht⟩ : ∃ x, x = ts[k] := ⟨_, rfl⟩
      rw [← ht] at hc
      have HT : Hid (x = ts[k]) := ht
      clear ht
      by_cases h1 : 60 < x.size
      · have hd : decide (60 < (x.size : Int)) = true := by simp; omega
        go_wp2
        go_ret
        exact ⟨by rw [fitB_bad hlt (by rw [← HT.out]; exact h1)]; rfl, rfl⟩
      · have hd : decide (60 < (x.size : Int)) = false := by simp; omega
        go_wp2
        go_round
        case rel => exact ⟨k + 1, by omega, by go_num, fitB_step hst.out hlt (by rw [← HT.out]; omega)⟩
        case measure => simp [intOf]; omega
    · go_wp2
      go_ret
      exact ⟨by rw [fitB_all hst.out (by omega)]; rfl, rfl⟩

set_option maxRecDepth 100000 in
set_option maxHeartbeats 1000000 in
theorem isLevel_any (l : Int) (w : World) : Calls Try.prog 62 #[.int .i64 l] w fun e w' => e = .returned (.bool (lvB l)) ∧ w' = w := by
  unfold lvB
  by_cases h1 : l = 1
  · subst h1
    go_enter Try.func62, Try.ntmps62
    go_wp2
    go_ret
    exact ⟨rfl, rfl⟩
  · by_cases h2 : l = 2
    · subst h2
      go_enter Try.func62, Try.ntmps62
      go_wp2
      go_ret
      exact ⟨rfl, rfl⟩
    · have h3 : decide (1 ≤ l ∧ l ≤ 2) = false := by simp; omega
      have HD : Hid (decide (1 ≤ l ∧ l ≤ 2) = false) := h3
      have k1 : (l == 1) = false := by simp; exact h1
      have k2 : (l == 2) = false := by simp; exact h2
      clear h3 h1 h2
      go_enter Try.func62, Try.ntmps62
      go_wp2
      go_ret
      exact ⟨by rw [HD.out]; rfl, rfl⟩

theorem filt_next {lv : List Int} {k : Nat} (hk : k < lv.length) : (lv.take (k + 1)).filter lvB = (lv.take k).filter lvB ++ if lvB lv[k] = true then [lv[k]] else [] := by
  rw [List.take_succ_eq_append_getElem hk, List.filter_append]
  congr 1
  by_cases h : lvB lv[k] = true <;> simp [h]

set_option maxRecDepth 100000 in
set_option maxHeartbeats 1000000 in
theorem keptI_any (ao : Option Addr) (cap : Nat) (lv : List Int) (w : World) (hx : Hid (IntsAt w ao lv)) (hl : lv.length ≤ 1048576) :
    Calls Try.prog 115 #[.slice ao lv.length cap, .func (Fn.func 62) #[] #[]] w fun e w' => ∃ v, e = .returned v ∧ OwnI w' w.heap.size v (lv.filter lvB) ∧ Below w.heap.size w w' := by
  have S0 : Hid (OwnI (w.alloc (.cells #[] 3)) w.heap.size (.slice (some ⟨w.heap.size, 0, none⟩) 0 0) []) := OwnI.made w w.heap.size (Nat.le_refl _)
  have B0 : Hid (Below w.heap.size w (w.alloc (.cells #[] 3))) := (Below.refl _ _).alloc (Nat.le_refl _) _
  go_enter Try.func115, Try.ntmps115
  go_wp2
  go_loopw [5, 11] (fun v i wr => ∃ (k : Nat), k ≤ lv.length ∧ i = .int .i64 k ∧ Hid (OwnI wr w.heap.size v ((lv.take k).filter lvB)) ∧ Hid (Below w.heap.size w wr)) (fun _ i _ => lv.length - (intOf i).toNat)
  case atStart => exact ⟨0, Nat.zero_le _, rfl, S0, B0⟩
  case round =>
    clear S0 B0
    obtain ⟨k, hk, rfl, hS, hb⟩ := hrel
    by_cases hlt : k < lv.length
    · obtain ⟨bb, off, rfl, hbb, h0⟩ := hx.out.stays hb.out k hlt
      have hst := filt_next hlt
      have HP : Hid (∃ x : Int, x = lv[k]) := ⟨_, rfl⟩
      obtain ⟨x, hp⟩ := HP.out
      rw [← hp] at h0 hst
      have HST : Hid _ := hst
      clear hp HP hst
      have S1 := hS.out
      have B1 := hb.out
      have z1 : w.heap.size ≤ wr.heap.size := B1.size
      have hlk : ((lv.take k).filter lvB).length ≤ 1048576 := Nat.le_trans (List.length_filter_le _ _) (by rw [List.length_take]; omega)
      go_wp2_with fail
      refine (isLevel_any x _).mono ?_
      rintro e w1 ⟨rfl, rfl⟩
      obtain ⟨R, hR⟩ : ∃ R, lvB x = R := ⟨_, rfl⟩
      rw [hR]
      have HR : Hid (lvB x = R) := hR
      have S1 : Hid _ := S1
      have B1 : Hid _ := B1
      clear hR hS hb h0
      cases R with
      | true =>
        have HLS : Hid ((lv.take (k + 1)).filter lvB = (lv.take k).filter lvB ++ [x]) := by
          have := HST.out
          rwa [if_pos HR.out] at this
        clear HST
        go_wp2_with (at_builtin; refine wpList_pushI rfl _ _ 24 rfl Try.underlying24 Try.info3' w.heap.size u5 _ rfl S1.out x rfl (by omega) z1 ?_; intro v2 w2 o2 b2)
        have S2 : Hid (OwnI w2 w.heap.size v2 ((lv.take (k + 1)).filter lvB)) := by
          rw [HLS.out]
          exact o2
        have B2 : Hid (Below w.heap.size w w2) := B1.out.trans b2
        go_roundw
        case rel => exact ⟨k + 1, by omega, by go_num, S2, B2⟩
        case measure => simp [intOf]; omega
      | false =>
        have HLS : Hid ((lv.take (k + 1)).filter lvB = (lv.take k).filter lvB) := by
          have := HST.out
          rwa [if_neg (by rw [HR.out]; simp), List.append_nil] at this
        clear HST
        have S2 := S1.out
        rw [← HLS.out] at S2
        have S3 : Hid _ := S2
        clear S2
        go_wp2_with fail
        go_roundw
        case rel => exact ⟨k + 1, by omega, by go_num, S3.out, B1⟩
        case measure => simp [intOf]; omega
    · obtain rfl : k = lv.length := by omega
      go_wp2_with fail
      go_ret
      exact ⟨_, rfl, by have := hS.out; rw [List.take_length] at this; exact this, hb.out⟩

theorem filt_all {lv : List Int} : (lv.filter lvB).length = lv.length ↔ lvsB lv = true := by
  unfold lvsB
  rw [List.length_filter_eq_length_iff, List.all_eq_true]

set_option maxRecDepth 100000 in
set_option maxHeartbeats 1000000 in
theorem toSay_any (s u : Sv) (lv : List Int) (tx : List ByteArray) (w : World) (hx : Hid (RI w s.v lv)) (hy : Hid (RT w u.v tx)) (hl : lv.length ≤ 1048576) (ht : tx.length ≤ 1048576) :
    Calls Try.prog 55 #[.slice s.a s.n s.c, .slice u.a u.n u.c] w fun e w' => e = .returned (.bool (sayB lv tx)) ∧ Below w.heap.size w w' := by
  obtain ⟨ao, cap, e1, h1⟩ := hx.out
  obtain ⟨at_, ct, e2, h2⟩ := hy.out
  unfold Sv.v at e1 e2
  rw [e1, e2]
  clear e1 e2 hx hy
  have X1 : Hid (IntsAt w ao lv) := h1
  have Y1 : Hid (TextsAt w at_ tx) := h2
  clear h1 h2
  unfold sayB
  by_cases c1 : tx.length ≤ 20
  · rw [decide_eq_true c1]
    have d1 : (tx.length : Int) ≤ 20 := by omega
    by_cases c2 : lv.length = tx.length
    · rw [decide_eq_true c2]
      have C2 : Hid (lv.length = tx.length) := c2
      have d2 : ((lv.length : Int) == (tx.length : Int)) = true := by simp; omega
      clear c2
      go_enter Try.func55, Try.ntmps55
      go_wp2_with fail
      refine (keptI_any ao cap lv w X1 hl).mono ?_
      rintro e w1 ⟨v1, rfl, o1, b1⟩
      obtain ⟨ao1, cap1, hf⟩ := o1.form
      subst hf
      have Y2 : Hid (TextsAt w1 at_ tx) := Y1.out.stays b1
      have B1 : Hid (Below w.heap.size w w1) := b1
      clear o1 b1
      by_cases c3 : (lv.filter lvB).length = lv.length
      · have E3 : Hid (lvsB lv = true) := filt_all.1 c3
        have d3 : (((lv.filter lvB).length : Int) == (lv.length : Int)) = true := by simp; omega
        clear c3
        go_wp2_with fail
        refine (fits_any at_ ct tx w1 Y2 ht).mono ?_
        rintro e w2 ⟨rfl, rfl⟩
        go_wp2_with fail
        go_ret
        exact ⟨by rw [E3.out]; rfl, B1.out⟩
      · have E3 : Hid (lvsB lv = false) := by
          cases h : lvsB lv with
          | false => rfl
          | true => exact absurd (filt_all.2 h) c3
        have d3 : (((lv.filter lvB).length : Int) == (lv.length : Int)) = false := by simp; omega
        clear c3
        go_wp2_with fail
        go_ret
        exact ⟨by rw [E3.out]; rfl, B1.out⟩
    · rw [decide_eq_false c2]
      have d2 : ((lv.length : Int) == (tx.length : Int)) = false := by simp; omega
      clear c2
      go_enter Try.func55, Try.ntmps55
      go_wp2_with fail
      go_ret
      exact ⟨rfl, Below.refl _ _⟩
  · rw [decide_eq_false c1]
    have d1 : ¬ (tx.length : Int) ≤ 20 := by omega
    go_enter Try.func55, Try.ntmps55
    go_wp2_with fail
    go_ret
    exact ⟨rfl, Below.refl _ _⟩
end Go.Proofs.Ytpbhcbgohgfkcaa

/- Tokens of which all is zero; what a member has to say, by the specification. Written by gen_mp.py. -/
namespace Go.Proofs.Ytpbhcbgohgfkcaa
open Go.RowKit Pl
set_option linter.unusedVariables false
set_option linter.unusedSimpArgs false

/-- whether all of a token is zero. -/
def ntB (c r q a b : Int) (ws : List Int) : Bool := (c == 0) && ((r == 0) && ((q == 0) && ((a == 0) && ((b == 0) && ((ws.length : Int) == 0)))))

set_option maxRecDepth 100000 in
set_option maxHeartbeats 2000000 in
theorem noToken_any (c r q a b : Int) (s : Sv) (ws : List Int) (w : World) (hn : Hid (s.n = ws.length)) :
    Calls Try.prog 57 #[.agg #[.int .i64 c, .int .i64 r, .int .i64 q, .int .i64 a, .int .i64 b, .slice s.a s.n s.c]] w fun e w' => e = .returned (.bool (ntB c r q a b ws)) ∧ Below w.heap.size w w' := by
  unfold ntB
  rw [← hn.out]
  clear hn
  have HL : Hid (Below w.heap.size w (w.alloc (.cells #[.int .i64 c, .int .i64 r, .int .i64 q, .int .i64 a, .int .i64 b, .slice s.a s.n s.c] 30))) := (Below.refl _ _).alloc (Nat.le_refl _) _
  obtain ⟨R0, k0⟩ : ∃ R, (c == 0) = R := ⟨_, rfl⟩
  rw [k0]
  cases R0 with
  | false =>
    go_enter Try.func57, Try.ntmps57
    go_wp2_with fail
    go_ret
    exact ⟨rfl, HL.out⟩
  | true =>
    obtain ⟨R1, k1⟩ : ∃ R, (r == 0) = R := ⟨_, rfl⟩
    rw [k1]
    cases R1 with
    | false =>
      go_enter Try.func57, Try.ntmps57
      go_wp2_with fail
      go_ret
      exact ⟨rfl, HL.out⟩
    | true =>
      obtain ⟨R2, k2⟩ : ∃ R, (q == 0) = R := ⟨_, rfl⟩
      rw [k2]
      cases R2 with
      | false =>
        go_enter Try.func57, Try.ntmps57
        go_wp2_with fail
        go_ret
        exact ⟨rfl, HL.out⟩
      | true =>
        obtain ⟨R3, k3⟩ : ∃ R, (a == 0) = R := ⟨_, rfl⟩
        rw [k3]
        cases R3 with
        | false =>
          go_enter Try.func57, Try.ntmps57
          go_wp2_with fail
          go_ret
          exact ⟨rfl, HL.out⟩
        | true =>
          obtain ⟨R4, k4⟩ : ∃ R, (b == 0) = R := ⟨_, rfl⟩
          rw [k4]
          cases R4 with
          | false =>
            go_enter Try.func57, Try.ntmps57
            go_wp2_with fail
            go_ret
            exact ⟨rfl, HL.out⟩
          | true =>
            obtain ⟨R5, k5⟩ : ∃ R, ((s.n : Int) == 0) = R := ⟨_, rfl⟩
            rw [k5]
            cases R5 with
            | false =>
              go_enter Try.func57, Try.ntmps57
              go_wp2_with fail
              go_ret
              exact ⟨rfl, HL.out⟩
            | true =>
              go_enter Try.func57, Try.ntmps57
              go_wp2_with fail
              go_ret
              exact ⟨rfl, HL.out⟩

set_option maxRecDepth 100000 in
set_option maxHeartbeats 1000000 in
theorem sameInts_nil (s : Sv) (w : World) : Calls Try.prog 153 #[.slice s.a s.n s.c, .slice none 0 0] w fun e w' => e = .returned (.bool ((s.n : Int) == 0)) ∧ w' = w := by
  obtain ⟨sa, sn, sc⟩ := s
  by_cases h : sn = 0
  · subst h
    go_enter Try.func153, Try.ntmps153
    go_wp2
    refine wp_loop_rounds 1 ?_
    rw [rounds_succ]
    go_wp2
    go_ret
    exact ⟨rfl, rfl⟩
  · have k : ((sn : Int) == 0) = false := by simp; omega
    have K : Hid (((sn : Int) == 0) = false) := k
    have k2 : ((sn : Int) != 0) = true := by simp; omega
    clear h k
    go_enter Try.func153, Try.ntmps153
    go_wp2
    go_ret
    exact ⟨by rw [K.out]; rfl, rfl⟩

set_option maxRecDepth 100000 in
set_option maxHeartbeats 2000000 in
theorem sameZero_any (c r q a b : Int) (s : Sv) (w : World) :
    Calls Try.prog 136 #[.agg #[.int .i64 c, .int .i64 r, .int .i64 q, .int .i64 a, .int .i64 b, .slice s.a s.n s.c], .agg #[.int .i64 0, .int .i64 0, .int .i64 0, .int .i64 0, .int .i64 0, .slice none 0 0]] w fun e w' => e = .returned (.bool ((c == 0) && ((r == 0) && ((q == 0) && ((a == 0) && ((b == 0) && ((s.n : Int) == 0))))))) ∧ Below w.heap.size w w' := by
  have HL : Hid (Below w.heap.size w ((w.alloc (.cells #[.int .i64 c, .int .i64 r, .int .i64 q, .int .i64 a, .int .i64 b, .slice s.a s.n s.c] 30)).alloc (.cells #[.int .i64 0, .int .i64 0, .int .i64 0, .int .i64 0, .int .i64 0, .slice none 0 0] 30))) := ((Below.refl _ _).alloc (Nat.le_refl _) _).alloc (by simp) _
  obtain ⟨R0, k0⟩ : ∃ R, (c == 0) = R := ⟨_, rfl⟩
  rw [k0]
  cases R0 with
  | false =>
    go_enter Try.func136, Try.ntmps136
    go_wp2_with fail
    go_ret
    exact ⟨rfl, HL.out⟩
  | true =>
    obtain ⟨R1, k1⟩ : ∃ R, (r == 0) = R := ⟨_, rfl⟩
    rw [k1]
    cases R1 with
    | false =>
      go_enter Try.func136, Try.ntmps136
      go_wp2_with fail
      go_ret
      exact ⟨rfl, HL.out⟩
    | true =>
      obtain ⟨R2, k2⟩ : ∃ R, (q == 0) = R := ⟨_, rfl⟩
      rw [k2]
      cases R2 with
      | false =>
        go_enter Try.func136, Try.ntmps136
        go_wp2_with fail
        go_ret
        exact ⟨rfl, HL.out⟩
      | true =>
        obtain ⟨R3, k3⟩ : ∃ R, (a == 0) = R := ⟨_, rfl⟩
        rw [k3]
        cases R3 with
        | false =>
          go_enter Try.func136, Try.ntmps136
          go_wp2_with fail
          go_ret
          exact ⟨rfl, HL.out⟩
        | true =>
          obtain ⟨R4, k4⟩ : ∃ R, (b == 0) = R := ⟨_, rfl⟩
          rw [k4]
          cases R4 with
          | false =>
            go_enter Try.func136, Try.ntmps136
            go_wp2_with fail
            go_ret
            exact ⟨rfl, HL.out⟩
          | true =>
            go_enter Try.func136, Try.ntmps136
            go_wp2_with fail
            refine (sameInts_nil s _).mono ?_
            rintro e w1 ⟨rfl, rfl⟩
            go_wp2_with fail
            go_ret
            exact ⟨rfl, HL.out⟩

set_option maxRecDepth 100000 in
set_option maxHeartbeats 1000000 in
theorem blank_any (c r q a b : Int) (s : Sv) (ws : List Int) (w : World) (hn : Hid (s.n = ws.length)) :
    Calls Try.prog 99 #[.agg #[.int .i64 c, .int .i64 r, .int .i64 q, .int .i64 a, .int .i64 b, .slice s.a s.n s.c]] w fun e w' => e = .returned (.bool (ntB c r q a b ws)) ∧ Below w.heap.size w w' := by
  unfold ntB
  rw [← hn.out]
  clear hn
  go_enter Try.func99, Try.ntmps99
  go_wp2_with fail
  refine (sameZero_any c r q a b s _).mono ?_
  rintro e w1 ⟨rfl, b1⟩
  go_wp2_with fail
  go_ret
  exact ⟨rfl, ((Below.refl _ _).alloc (Nat.le_refl _) _).trans (b1.mono (by simp))⟩

/-- the first k of them may be said. -/
def SaySt (lv : List Int) (tx : List ByteArray) (k : Nat) : Prop := (∀ t ∈ tx.take k, t.size ≤ 60) ∧ ∀ l ∈ lv.take k, lvB l = true
theorem say_step {lv : List Int} {tx : List ByteArray} {k : Nat} (h : SaySt lv tx k) (h1 : k < lv.length) (h2 : k < tx.length) (hl : lvB lv[k] = true) (ht : tx[k].size ≤ 60) : SaySt lv tx (k + 1) := by
  refine ⟨fitB_step h.1 h2 ht, fun l hm => ?_⟩
  rw [List.take_succ_eq_append_getElem h1] at hm
  rcases List.mem_append.1 hm with h3 | h3
  · exact h.2 l h3
  · simp at h3; subst h3; exact hl
theorem say_bad1 {lv : List Int} {tx : List ByteArray} {k : Nat} (h1 : k < lv.length) (hl : lvB lv[k] = false) : sayB lv tx = false := by
  have : lvsB lv = false := by
    cases h : lvsB lv with
    | false => rfl
    | true => unfold lvsB at h; have := List.all_eq_true.1 h _ (List.getElem_mem h1); rw [hl] at this; cases this
  unfold sayB; rw [this]; simp
theorem say_bad2 {lv : List Int} {tx : List ByteArray} {k : Nat} (h1 : k < tx.length) (hl : 60 < tx[k].size) : sayB lv tx = false := by
  unfold sayB; rw [fitB_bad h1 hl]; simp
theorem say_end {lv : List Int} {tx : List ByteArray} {k : Nat} (h : SaySt lv tx k) (hk : ¬ (k < tx.length ∧ k < lv.length)) : sayB lv tx = (decide (tx.length ≤ 20) && decide (lv.length = tx.length)) := by
  unfold sayB
  by_cases he : lv.length = tx.length
  · have h1 := fitB_all (k := k) h.1 (by omega)
    have h2 : lvsB lv = true := by
      unfold lvsB
      have := h.2
      rw [List.take_of_length_le (by omega)] at this
      exact List.all_eq_true.2 this
    rw [h1, h2]; simp
  · simp [he]

set_option maxRecDepth 100000 in
set_option maxHeartbeats 2000000 in
theorem tenTexts_any (s u : Sv) (lv : List Int) (tx : List ByteArray) (w : World) (hx : Hid (RI w s.v lv)) (hy : Hid (RT w u.v tx)) (hl : lv.length ≤ 1048576) (ht : tx.length ≤ 1048576) :
    Calls Try.prog 98 #[.slice s.a s.n s.c, .slice u.a u.n u.c] w fun e w' => e = .returned (.bool (sayB lv tx)) ∧ w' = w := by
  obtain ⟨ao, cap, e1, h1⟩ := hx.out
  obtain ⟨at_, ct, e2, h2⟩ := hy.out
  unfold Sv.v at e1 e2
  rw [e1, e2]
  clear e1 e2 hx hy
  have X1 : Hid (IntsAt w ao lv) := h1
  have Y1 : Hid (TextsAt w at_ tx) := h2
  clear h1 h2
  go_enter Try.func98, Try.ntmps98
  go_wp2
  go_loop [5] (fun i => ∃ k : Nat, k ≤ tx.length ∧ i = .int .i64 k ∧ Hid (SaySt lv tx k)) (fun i => tx.length - (intOf i).toNat)
  case atStart => exact ⟨0, Nat.zero_le _, rfl, ⟨fun t h => by simp at h, fun t h => by simp at h⟩⟩
  case round =>
    obtain ⟨k, hk, rfl, hst⟩ := hrel
    by_cases hlt : k < tx.length
    · have i1 : (k : Int) < (tx.length : Int) := by omega
      by_cases hlv : k < lv.length
      · have i2 : (k : Int) < (lv.length : Int) := by omega
        obtain ⟨b, off, rfl, hbb, hc⟩ := Y1.out k hlt
        obtain ⟨b', off', rfl, hbb', hc'⟩ := X1.out k hlv
        obtain ⟨x, hx⟩ : ∃ x, x = tx[k] := ⟨_, rfl⟩
        obtain ⟨l, hll⟩ : ∃ l, l = lv[k] := ⟨_, rfl⟩
        rw [← hx] at hc
        rw [← hll] at hc'
        have HX : Hid (x = tx[k]) := hx
        have HV : Hid (l = lv[k]) := hll
        clear hx hll
        go_wp2_with fail
        refine (in_any l 1 2 w).mono ?_
        rintro e w1 ⟨rfl, rfl⟩
        obtain ⟨R, hR⟩ : ∃ R, decide (1 ≤ l ∧ l ≤ 2) = R := ⟨_, rfl⟩
        rw [hR]
        have HR : Hid (lvB l = R) := hR
        clear hR
        cases R with
        | false =>
          go_wp2_with fail
          go_ret
          exact ⟨by rw [say_bad1 hlv (by rw [← HV.out]; exact HR.out)]; rfl, rfl⟩
        | true =>
          by_cases h60 : 60 < x.size
          · have hd : decide (60 < (x.size : Int)) = true := by simp; omega
            go_wp2_with fail
            go_ret
            exact ⟨by rw [say_bad2 hlt (by rw [← HX.out]; exact h60)]; rfl, rfl⟩
          · have hd : decide (60 < (x.size : Int)) = false := by simp; omega
            go_wp2_with fail
            go_round
            case rel => exact ⟨k + 1, by omega, by go_num, say_step hst.out hlv hlt (by rw [← HV.out]; exact HR.out) (by rw [← HX.out]; omega)⟩
            case measure => simp [intOf]; omega
      · have i2 : ¬ (k : Int) < (lv.length : Int) := by omega
        have HE : Hid (sayB lv tx = (decide (tx.length ≤ 20) && decide (lv.length = tx.length))) := say_end hst.out (by omega)
        have c2 : ((lv.length : Int) == (tx.length : Int)) = false := by simp; omega
        have C2 : Hid (decide (lv.length = tx.length) = false) := (by simp; omega : decide (lv.length = tx.length) = false)
        by_cases c1 : tx.length ≤ 20
        · have d1 : (tx.length : Int) ≤ 20 := by omega
          go_wp2_with fail
          go_ret
          exact ⟨by rw [HE.out, C2.out]; simp, rfl⟩
        · have d1 : ¬ (tx.length : Int) ≤ 20 := by omega
          go_wp2_with fail
          go_ret
          exact ⟨by rw [HE.out, C2.out]; simp, rfl⟩
    · have i1 : ¬ (k : Int) < (tx.length : Int) := by omega
      have HE : Hid (sayB lv tx = (decide (tx.length ≤ 20) && decide (lv.length = tx.length))) := say_end hst.out (by omega)
      by_cases c1 : tx.length ≤ 20
      · have d1 : (tx.length : Int) ≤ 20 := by omega
        have D1 : Hid (decide (tx.length ≤ 20) = true) := (by simp; omega : decide (tx.length ≤ 20) = true)
        by_cases c2 : lv.length = tx.length
        · have k2 : ((lv.length : Int) == (tx.length : Int)) = true := by simp; omega
          have C2 : Hid (decide (lv.length = tx.length) = true) := (by simp; omega : decide (lv.length = tx.length) = true)
          clear c2
          go_wp2_with fail
          go_ret
          exact ⟨by rw [HE.out, C2.out, D1.out]; rfl, rfl⟩
        · have k2 : ((lv.length : Int) == (tx.length : Int)) = false := by simp; omega
          have C2 : Hid (decide (lv.length = tx.length) = false) := (by simp; omega : decide (lv.length = tx.length) = false)
          clear c2
          go_wp2_with fail
          go_ret
          exact ⟨by rw [HE.out, C2.out]; simp, rfl⟩
      · have d1 : ¬ (tx.length : Int) ≤ 20 := by omega
        have D1 : Hid (decide (tx.length ≤ 20) = false) := (by simp; omega : decide (tx.length ≤ 20) = false)
        go_wp2_with fail
        go_ret
        exact ⟨by rw [HE.out, D1.out]; rfl, rfl⟩
end Go.Proofs.Ytpbhcbgohgfkcaa

